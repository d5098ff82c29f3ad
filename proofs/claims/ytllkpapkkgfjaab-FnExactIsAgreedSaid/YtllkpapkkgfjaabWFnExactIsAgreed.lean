/- The walk of the law FnExactIsAgreed. -/
import Derived.Test.YtllkpapkkgfjaabGu
import Derived.Test.YtllkpapkkgfjaabSlB
import Derived.OpenShut
namespace Go.Proofs.Ytllkpapkkgfjaab.fnExactIsAgreed
open Go.ChangeShapes Go.WideShapes Go.ChangeAt Go.RowKit Sl St Fnd SlStatus Ki Gu
set_option maxRecDepth 100000 in
set_option maxHeartbeats 4000000 in
theorem walk {H : Type} {enc : TypeId × Value → H} (W : World) (base : Nat)
    (v0 : Value) (d0 : DataW H) (p0 : List MemPlace) (h0 : DataW.Trod enc Try.prog W 0 (fun _ => true) true 51 v0 d0 p0) (k0 : Value.okWide Try.prog W .any base 51 v0)
    (v1 : Value) (d1 : DataW H) (p1 : List MemPlace) (h1 : DataW.Trod enc Try.prog W 0 (fun _ => true) true 3 v1 d1 p1) (k1 : Value.okWide Try.prog W .any base 3 v1)
    (_hsz : (DataW.weightsEach Try.prog [51, 3] [d0, d1]).all (· ≤ reachBytes) = true) :
    Calls Try.prog 10 #[v0, v1] W fun e w' => e = .returned (.bool true) ∧ Below W.heap.size W w' := by
  obtain ⟨a0, n0, c0, zs0, rfl, hr0, hg0⟩ := SlStatus.open_argR h0 k0
  have HR0 := Lib.hid hr0
  have hn0 := hr0.le
  clear hr0
  clear h0 k0
  obtain ⟨x1, rfl, _, _, wf1⟩ := open_int Try.underlying3 k1 h1
  have xb1 := bounds_i64 wf1
  obtain ⟨xl1, xh1⟩ := xb1
  clear wf1
  clear h1 k1
  clear _hsz
  have HB := Lib.hid (Below.refl W.heap.size W)
  by_cases hbig0 : 1048576 < n0
  · go_enter Try.func10, Try.ntmps10
    go_wp2_with fail
    refine (sz_big _ _ _ _ _ (by omega) (by omega) (by omega) hn0).mono ?_
    rintro e w0 ⟨rfl, rfl⟩
    go_wp2_with fail
    go_ret
    exact ⟨rfl, HB.out⟩
  go_enter Try.func10, Try.ntmps10
  go_wp2_with fail
  refine (sz_fits _ _ _ _ _ (by omega) (by omega)).mono ?_
  rintro e w0 ⟨rfl, rfl⟩
  go_wp2_with fail
  refine (SlStatus.to_any _ _ _ _ _ (HR0.out.below HB.out) (by omega)).mono ?_
  rintro e w1 ⟨qHT0, mHT0, eHT0, rfl, ho, hb⟩
  replace HB := Lib.hid (below_on HB.out hb)
  have HT0 := Lib.hid ho
  have bHT0 := HT0.out.le
  obtain rfl : n0 = mHT0 := HR0.out.len.symm.trans HT0.out.len
  have s1 := hb.size
  clear ho hb
  have sW := HB.out.size
  go_wp2_with fail
  refine (spec_agr_any _ _ _ _ _ _ HT0.out.rd).mono ?_
  rintro e w2 ⟨rfl, hb⟩
  replace HB := Lib.hid (below_on HB.out hb)
  replace HT0 := Lib.hid (HT0.out.below hb)
  clear hb
  clear HT0
  go_wp2_with fail
  refine (SlStatus.to_any _ _ _ _ _ (HR0.out.below HB.out) (by omega)).mono ?_
  rintro e w3 ⟨qHX0, mHX0, eHX0, rfl, ho, hb⟩
  replace HB := Lib.hid (below_on HB.out hb)
  have HX0 := Lib.hid ho
  have bHX0 := HX0.out.le
  obtain rfl : n0 = mHX0 := HR0.out.len.symm.trans HX0.out.len
  have s3 := hb.size
  clear ho hb
  go_wp2_with fail
  refine (agr_any _ _ _ _ _ _ HX0.out.rd).mono ?_
  rintro e w4 ⟨rfl, hb⟩
  replace HB := Lib.hid (below_on HB.out hb)
  replace HX0 := Lib.hid (HX0.out.below hb)
  clear hb
  go_wp2_with fail
  refine (SlStatus.to_any _ _ _ _ _ (HR0.out.below HB.out) (by omega)).mono ?_
  rintro e w5 ⟨qHY0, mHY0, eHY0, rfl, ho, hb⟩
  replace HB := Lib.hid (below_on HB.out hb)
  replace HX0 := Lib.hid (HX0.out.below hb)
  have HY0 := Lib.hid ho
  have bHY0 := HY0.out.le
  obtain rfl : n0 = mHY0 := HR0.out.len.symm.trans HY0.out.len
  clear ho hb
  go_wp2_with fail
  refine (SlStatus.eq_any _ _ _ _ _ _ _ HX0.out.rd HY0.out.rd).mono ?_
  rintro e w6 ⟨rfl, hb⟩
  replace HB := Lib.hid (below_on HB.out hb)
  replace HX0 := Lib.hid (HX0.out.below hb)
  replace HY0 := Lib.hid (HY0.out.below hb)
  clear hb
  clear HY0
  go_wp2_with fail
  go_ret
  exact ⟨rfl, HB.out⟩
end Go.Proofs.Ytllkpapkkgfjaab.fnExactIsAgreed
