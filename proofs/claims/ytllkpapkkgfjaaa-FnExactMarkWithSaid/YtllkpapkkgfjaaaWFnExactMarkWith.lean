/- The walk of the law FnExactMarkWith. -/
import Derived.Test.YtllkpapkkgfjaaaSlKey
import Derived.Test.YtllkpapkkgfjaaaKm
import Derived.Test.YtllkpapkkgfjaaaSlB
import Derived.Test.YtllkpapkkgfjaaaSlI
import Derived.OpenShut
namespace Go.Proofs.Ytllkpapkkgfjaaa.fnExactMarkWith
open Go.ChangeShapes Go.WideShapes Go.ChangeAt Go.RowKit Sl St Fnd Kn SlKey Ki Km
set_option maxRecDepth 100000 in
set_option maxHeartbeats 4000000 in
theorem walk {H : Type} {enc : TypeId × Value → H} (W : World) (base : Nat)
    (v0 : Value) (d0 : DataW H) (p0 : List MemPlace) (h0 : DataW.Trod enc Try.prog W 0 (fun _ => true) true 41 v0 d0 p0) (k0 : Value.okWide Try.prog W .any base 41 v0)
    (v1 : Value) (d1 : DataW H) (p1 : List MemPlace) (h1 : DataW.Trod enc Try.prog W 0 (fun _ => true) true 25 v1 d1 p1) (k1 : Value.okWide Try.prog W .any base 25 v1)
    (_hsz : (DataW.weightsEach Try.prog [41, 25] [d0, d1]).all (· ≤ reachBytes) = true) :
    Calls Try.prog 7 #[v0, v1] W fun e w' => e = .returned (.bool true) ∧ Below W.heap.size W w' := by
  obtain ⟨x0_0, x0_1, x0_2, x0_3, x0_4, rfl, b0_0, b0_1, b0_2, b0_3, b0_4⟩ := SlKey.open_val h0 k0
  have HG0_0 := Lib.hid b0_0
  have HG0_1 := Lib.hid b0_1
  have HG0_2 := Lib.hid b0_2
  have HG0_3 := Lib.hid b0_3
  have HG0_4 := Lib.hid b0_4
  clear b0_0 b0_1 b0_2 b0_3 b0_4
  clear h0 k0
  obtain ⟨a1, n1, c1, zs1, rfl, hr1⟩ := SlI.open_arg h1 k1
  have HR1 := Lib.hid hr1
  have hn1 := hr1.le
  clear hr1
  clear h1 k1
  clear _hsz
  have HB := Lib.hid (Below.refl W.heap.size W)
  have HX0 := Lib.hid (Bx.new W 41 #[.int .i64 x0_0, .int .i64 x0_1, .int .i64 x0_2, .int .i64 x0_3, .int .i64 x0_4])
  replace HB := Lib.hid (HB.out.alloc HB.out.size (.cells #[.int .i64 x0_0, .int .i64 x0_1, .int .i64 x0_2, .int .i64 x0_3, .int .i64 x0_4] 41))
  by_cases hbig1 : 1048576 < n1
  · go_enter Try.func7, Try.ntmps7
    go_wp2_with fail
    go_ret
    exact ⟨rfl, HB.out⟩
  go_enter Try.func7, Try.ntmps7
  obtain ⟨cc0, cc1, cc2, cc3, cc4⟩ := SlKey.bxc HX0.out
  go_wp2_with fail
  refine (SlKey.val_any _ _ _ _ _ _).mono ?_
  rintro e w1 ⟨rfl, hb⟩
  replace HB := Lib.hid (below_on HB.out hb)
  replace HX0 := Lib.hid (HX0.out.below hb)
  clear hb
  clear cc0 cc1 cc2 cc3 cc4
  go_wp2_with fail
  refine (SlI.to_any _ _ _ _ _ (HR1.out.below HB.out) (by omega)).mono ?_
  rintro e w2 ⟨qHT1, mHT1, eHT1, rfl, ho, hb⟩
  replace HB := Lib.hid (below_on HB.out hb)
  replace HX0 := Lib.hid (HX0.out.below hb)
  have HT1 := Lib.hid ho
  have bHT1 := HT1.out.le
  obtain rfl : n1 = mHT1 := HR1.out.len.symm.trans HT1.out.len
  clear ho hb
  go_wp2_with fail
  refine (spec_markWith_any _ _ _ _ _ _ _ _ _ _ HT1.out.rd HG0_2.out HG0_4.out (by omega)).mono ?_
  rintro e w3 ⟨rfl, hb⟩
  replace HB := Lib.hid (below_on HB.out hb)
  replace HX0 := Lib.hid (HX0.out.below hb)
  replace HT1 := Lib.hid (HT1.out.below hb)
  clear hb
  clear HT1
  go_wp2_with fail
  refine (SlI.to_any _ _ _ _ _ (HR1.out.below HB.out) (by omega)).mono ?_
  rintro e w4 ⟨qHX1, mHX1, eHX1, rfl, ho, hb⟩
  replace HB := Lib.hid (below_on HB.out hb)
  replace HX0 := Lib.hid (HX0.out.below hb)
  have HX1 := Lib.hid ho
  have bHX1 := HX1.out.le
  obtain rfl : n1 = mHX1 := HR1.out.len.symm.trans HX1.out.len
  clear ho hb
  obtain ⟨cc0, cc1, cc2, cc3, cc4⟩ := SlKey.bxc HX0.out
  go_wp2_with fail
  refine (SlKey.val_any _ _ _ _ _ _).mono ?_
  rintro e w5 ⟨rfl, hb⟩
  replace HB := Lib.hid (below_on HB.out hb)
  replace HX0 := Lib.hid (HX0.out.below hb)
  replace HX1 := Lib.hid (HX1.out.below hb)
  clear hb
  clear cc0 cc1 cc2 cc3 cc4
  go_wp2_with fail
  refine (markWith_any _ _ _ _ _ _ _ _ _ _ HX1.out.rd HG0_2.out (by omega)).mono ?_
  rintro e w6 ⟨rfl, hb⟩
  replace HB := Lib.hid (below_on HB.out hb)
  replace HX0 := Lib.hid (HX0.out.below hb)
  replace HX1 := Lib.hid (HX1.out.below hb)
  clear hb
  go_wp2_with fail
  refine (SlI.to_any _ _ _ _ _ (HR1.out.below HB.out) (by omega)).mono ?_
  rintro e w7 ⟨qHY1, mHY1, eHY1, rfl, ho, hb⟩
  replace HB := Lib.hid (below_on HB.out hb)
  replace HX0 := Lib.hid (HX0.out.below hb)
  replace HX1 := Lib.hid (HX1.out.below hb)
  have HY1 := Lib.hid ho
  have bHY1 := HY1.out.le
  obtain rfl : n1 = mHY1 := HR1.out.len.symm.trans HY1.out.len
  clear ho hb
  go_wp2_with fail
  refine (SlI.eq_any _ _ _ _ _ _ _ HX1.out.rd HY1.out.rd).mono ?_
  rintro e w8 ⟨rfl, hb⟩
  replace HB := Lib.hid (below_on HB.out hb)
  replace HX0 := Lib.hid (HX0.out.below hb)
  replace HX1 := Lib.hid (HX1.out.below hb)
  replace HY1 := Lib.hid (HY1.out.below hb)
  clear hb
  clear HY1
  go_wp2_with fail
  go_ret
  exact ⟨rfl, HB.out⟩
end Go.Proofs.Ytllkpapkkgfjaaa.fnExactMarkWith
