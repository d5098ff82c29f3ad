/- The walk of the law FnExactAgreedSpan. -/
import Derived.Test.YtidboapcjchhiaaSlSpan
import Derived.Test.YtidboapcjchhiaaAgs
import Derived.Test.YtidboapcjchhiaaSlB
import Derived.Test.YtidboapcjchhiaaSlI
import Derived.OpenShut
namespace Go.Proofs.Ytidboapcjchhiaa.fnExactAgreedSpan
open Go.ChangeShapes Go.WideShapes Go.ChangeAt Go.RowKit Sl St Jn Sps Ags
set_option maxRecDepth 100000 in
set_option maxHeartbeats 8000000 in
theorem walk {H : Type} {enc : TypeId × Value → H} (W : World) (base : Nat)
    (v0 : Value) (d0 : DataW H) (p0 : List MemPlace) (h0 : DataW.Trod enc Try.prog W 0 (fun _ => true) true 43 v0 d0 p0) (k0 : Value.okWide Try.prog W .any base 43 v0)
    (v1 : Value) (d1 : DataW H) (p1 : List MemPlace) (h1 : DataW.Trod enc Try.prog W 0 (fun _ => true) true 3 v1 d1 p1) (k1 : Value.okWide Try.prog W .any base 3 v1)
    (_hsz : (DataW.weightsEach Try.prog [43, 3] [d0, d1]).all (· ≤ reachBytes) = true) :
    Calls Try.prog 8 #[v0, v1] W fun e w' => e = .returned (.bool true) ∧ Below W.heap.size W w' := by
  obtain ⟨a0, n0, c0, zs0, rfl, hr0⟩ := SlSpan.open_arg h0 k0
  have HR0 := Lib.hid hr0
  have hn0 := hr0.le
  clear hr0
  clear h0 k0
  obtain ⟨x1, rfl, _, _, wf1⟩ := open_int Try.underlying3 k1 h1
  have xb1 := bounds_i64 wf1
  obtain ⟨xl1, xh1⟩ := xb1
  clear wf1
  clear h1 k1
  clear _hsz
  rcases hM : agr zs0 x1 with ⟨⟨y0, y1⟩, bM⟩
  have HM := Lib.hid hM
  clear hM
  have HB := Lib.hid (Below.refl W.heap.size W)
  by_cases hbig0 : 1048576 < n0
  · go_enter Try.func8, Try.ntmps8
    go_wp2_with fail
    refine (SlSpan.sz_big _ _ _ _ _ (by omega) (by omega) (by omega) hn0).mono ?_
    rintro e w0 ⟨rfl, rfl⟩
    go_wp2_with fail
    go_ret
    exact ⟨rfl, HB.out⟩
  go_enter Try.func8, Try.ntmps8
  go_wp2_with fail
  refine (SlSpan.sz_fits _ _ _ _ _ (by omega) (by omega)).mono ?_
  rintro e w0 ⟨rfl, rfl⟩
  go_wp2_with fail
  refine (SlSpan.to_any _ _ _ _ _ (HR0.out.below HB.out) (by omega)).mono ?_
  rintro e w1 ⟨qHT0, mHT0, eHT0, rfl, ho, hb⟩
  replace HB := Lib.hid (below_on HB.out hb)
  have HT0 := Lib.hid ho
  have bHT0 := HT0.out.le
  obtain rfl : n0 = mHT0 := HR0.out.len.symm.trans HT0.out.len
  clear ho hb
  go_wp2_with fail
  refine (Ags.spec_agreed_any _ _ _ zs0 x1 y0 y1 bM HM.out _ HT0.out.rd (by omega)).mono ?_
  rintro e w2 ⟨rfl, hb⟩
  replace HB := Lib.hid (below_on HB.out hb)
  replace HT0 := Lib.hid (HT0.out.below hb)
  clear hb
  clear HT0
  have HW := Lib.hid (Bx.new w2 40 #[.int .i64 y0, .int .i64 y1])
  have lHW := HW.out.lt
  replace HB := Lib.hid (HB.out.alloc HB.out.size (.cells #[.int .i64 y0, .int .i64 y1] 40))
  go_wp2_with fail
  refine (SlSpan.to_any _ _ _ _ _ (HR0.out.below HB.out) (by omega)).mono ?_
  rintro e w3 ⟨qHK0, mHK0, eHK0, rfl, ho, hb⟩
  replace HB := Lib.hid (below_on HB.out hb)
  replace HW := Lib.hid (HW.out.below hb)
  have HK0 := Lib.hid ho
  have bHK0 := HK0.out.le
  obtain rfl : n0 = mHK0 := HR0.out.len.symm.trans HK0.out.len
  clear ho hb
  go_wp2_with fail
  refine (Ags.agreed_any _ _ _ zs0 x1 ⟨xl1, xh1⟩ y0 y1 bM HM.out _ HK0.out.rd (by omega)).mono ?_
  rintro e w4 ⟨rfl, hb⟩
  replace HB := Lib.hid (below_on HB.out hb)
  replace HW := Lib.hid (HW.out.below hb)
  replace HK0 := Lib.hid (HK0.out.below hb)
  clear hb
  have HG := Lib.hid (Bx.new w4 40 #[.int .i64 y0, .int .i64 y1])
  have lHG := HG.out.lt
  replace HB := Lib.hid (HB.out.alloc HB.out.size (.cells #[.int .i64 y0, .int .i64 y1] 40))
  replace HW := Lib.hid (HW.out.alloc (.cells #[.int .i64 y0, .int .i64 y1] 40))
  replace HK0 := Lib.hid (HK0.out.alloc (.cells #[.int .i64 y0, .int .i64 y1] 40))
  obtain ⟨q0, q1, _, _⟩ := HG.out.two
  obtain ⟨r0, r1, _, _⟩ := HW.out.two
  go_wp2_with fail
  refine (SlSpan.same_any y0 y1 _).mono ?_
  rintro e w5 ⟨rfl, hb⟩
  replace HB := Lib.hid (below_on HB.out hb)
  replace HW := Lib.hid (HW.out.below hb)
  replace HK0 := Lib.hid (HK0.out.below hb)
  replace HG := Lib.hid (HG.out.below hb)
  clear hb
  clear q0 q1 r0 r1
  clear HW
  clear HG
  go_wp2_with fail
  refine (SlSpan.to_any _ _ _ _ _ (HR0.out.below HB.out) (by omega)).mono ?_
  rintro e w6 ⟨qHY0, mHY0, eHY0, rfl, ho, hb⟩
  replace HB := Lib.hid (below_on HB.out hb)
  replace HK0 := Lib.hid (HK0.out.below hb)
  have HY0 := Lib.hid ho
  have bHY0 := HY0.out.le
  obtain rfl : n0 = mHY0 := HR0.out.len.symm.trans HY0.out.len
  clear ho hb
  go_wp2_with fail
  refine (SlSpan.eq_any _ _ _ _ _ _ _ HK0.out.rd HY0.out.rd).mono ?_
  rintro e w7 ⟨rfl, hb⟩
  replace HB := Lib.hid (below_on HB.out hb)
  replace HK0 := Lib.hid (HK0.out.below hb)
  replace HY0 := Lib.hid (HY0.out.below hb)
  clear hb
  clear HY0
  go_wp2_with fail
  go_ret
  exact ⟨rfl, HB.out⟩
end Go.Proofs.Ytidboapcjchhiaa.fnExactAgreedSpan
