/- The walk of the law FnExactLeafAt. -/
import Derived.Test.YtnkpioaaabnlcaaEd
import Derived.Test.YtnkpioaaabnlcaaDz
import Derived.Test.YtnkpioaaabnlcaaSlI
import Derived.Test.YtnkpioaaabnlcaaDpStrand
import Derived.Test.YtnkpioaaabnlcaaLa
import Derived.OpenShut
import Derived.Deep.RegionHeld3
import Derived.Laws.Strings
namespace Go.Proofs.Ytnkpioaaabnlcaa.fnExactLeafAt
open Go.ChangeShapes Go.WideShapes Go.ChangeAt Go.RowKit Sl St Ed La
theorem drewB {W w : World} {B : Nat} (h : Below B W w) : Below B W w.drew := below_drewN h 1
set_option maxRecDepth 100000 in
set_option maxHeartbeats 8000000 in
theorem walk {H : Type} {enc : TypeId × Value → H} (W : World) (base : Nat)
    (v0 : Value) (d0 : DataW H) (p0 : List MemPlace) (h0 : DataW.Trod enc Try.prog W 0 (fun _ => true) true 25 v0 d0 p0) (k0 : Value.okWide Try.prog W .any base 25 v0)
    (v1 : Value) (d1 : DataW H) (p1 : List MemPlace) (h1 : DataW.Trod enc Try.prog W 0 (fun _ => true) true 26 v1 d1 p1) (k1 : Value.okWide Try.prog W .any base 26 v1)
    (v2 : Value) (d2 : DataW H) (p2 : List MemPlace) (h2 : DataW.Trod enc Try.prog W 0 (fun _ => true) true 3 v2 d2 p2) (k2 : Value.okWide Try.prog W .any base 3 v2)
    (_hsz : (DataW.weightsEach Try.prog [25, 26, 3] [d0, d1, d2]).all (· ≤ reachBytes) = true) :
    Calls Try.prog 3 #[v0, v1, v2] W fun e w' => e = .returned (.bool true) ∧ Below W.heap.size W w' := by
  obtain ⟨l0_0, l0_1, p0_0, n0_0, c0_0, p0_1, n0_1, c0_1, rfl, h0_0, h0_1⟩ := DpStrand.open_val h0 k0
  have HP0_0 := Lib.hid h0_0
  have HP0_1 := Lib.hid h0_1
  have hn0_0 := h0_0.le
  have hn0_1 := h0_1.le
  clear h0_0 h0_1
  clear h0 k0
  obtain ⟨p1, n1, c1, l1, rfl, hr1⟩ := SlI.open_arg h1 k1
  have HP1 : Hid (RdD int (fun _ => True) W p1 n1 l1) := Lib.hid (RdD.ofInts hr1 (fun _ _ _ _ => trivial))
  have hn1 := hr1.le
  clear hr1
  clear h1 k1
  obtain ⟨x2, rfl, _, _, wf2⟩ := open_int Try.underlying3 k2 h2
  have xb2 := bounds_i64 wf2
  have XB2 := Lib.hid xb2
  have XI2 : Hid (Ed.InI x2) := Lib.hid xb2
  clear wf2 xb2
  clear h2 k2
  clear _hsz
  have HB := Lib.hid (Below.refl W.heap.size W)
  have HX0 := Lib.hid (Bx.new W 25 #[.slice p0_0 n0_0 c0_0, .slice p0_1 n0_1 c0_1])
  replace HB := Lib.hid (HB.out.alloc HB.out.size (.cells #[.slice p0_0 n0_0 c0_0, .slice p0_1 n0_1 c0_1] 25))
  have lX0 := HX0.out.lt
  obtain ⟨m0, hm0⟩ : ∃ m : Nat, DpStrand.E.wt (l0_0, l0_1) = m := ⟨_, rfl⟩
  have HM0 := Lib.hid hm0
  clear hm0
  by_cases hbig1 : 1048576 < n1
  · go_enter Try.func3, Try.ntmps3
    go_wp2_with fail
    go_ret
    exact ⟨rfl, HB.out⟩
  have sm1 : n1 ≤ 1048576 := by omega
  clear hbig1
  by_cases hbig0 : 1048576 < m0
  · go_enter Try.func3, Try.ntmps3
    obtain ⟨i0, i1⟩ := DpStrand.bxc HX0.out
    go_wp2_with fail
    refine (DpStrand.sz_big _ _ _ _ _ _ _ _ _ _ _ HM0.out (HP0_0.out.below HB.out) (HP0_1.out.below HB.out) (by omega) (by omega) (by omega)).mono ?_
    rintro e w1 ⟨rfl, hb⟩
    replace HB := Lib.hid (below_on HB.out hb)
    replace HX0 := Lib.hid (HX0.out.below hb)
    clear hb
    clear i0 i1
    go_wp2_with fail
    go_ret
    exact ⟨rfl, HB.out⟩
  go_enter Try.func3, Try.ntmps3
  obtain ⟨i0, i1⟩ := DpStrand.bxc HX0.out
  go_wp2_with fail
  refine (DpStrand.sz_fits _ _ _ _ _ _ _ _ _ _ _ HM0.out (HP0_0.out.below HB.out) (HP0_1.out.below HB.out) (by omega) (by omega)).mono ?_
  rintro e w2 ⟨rfl, hb⟩
  replace HB := Lib.hid (below_on HB.out hb)
  replace HX0 := Lib.hid (HX0.out.below hb)
  clear hb
  clear i0 i1
  have sm0 : m0 ≤ 1048576 := by omega
  clear hbig0
  have sn0_0 : n0_0 ≤ 1048576 := by have h := HM0.out; have k := HP0_0.out.len; simp only [DpStrand.wt_eq] at h; omega
  have sn0_1 : n0_1 ≤ 1048576 := by have h := HM0.out; have k := HP0_1.out.len; simp only [DpStrand.wt_eq] at h; omega
  obtain ⟨i0, i1⟩ := DpStrand.bxc HX0.out
  go_wp2_with fail
  refine (DpStrand.toK_any _ _ _ _ _ _ _ _ _ (HP0_0.out.below HB.out) (HP0_1.out.below HB.out) (by rw [HM0.out]; omega)).mono ?_
  rintro e w3 ⟨qHT0_0, dHT0_0, qHT0_1, dHT0_1, rfl, ho0, ho1, hk0, hk1, hb⟩
  replace HB := Lib.hid (below_on HB.out hb)
  replace HX0 := Lib.hid (HX0.out.below hb)
  have HT0_0 := Lib.hid ho0
  have HT0_1 := Lib.hid ho1
  have HT0k_0 := Lib.hid hk0
  have HT0k_1 := Lib.hid hk1
  clear ho0 ho1
  clear hk0 hk1
  clear hb
  clear i0 i1
  go_wp2_with fail
  refine (SlI.to_any _ _ _ _ _ (HP1.out.below HB.out).ints (by omega)).mono ?_
  rintro e w4 ⟨qHT1, mHT1, dHT1, rfl, ho, hb⟩
  replace HB := Lib.hid (below_on HB.out hb)
  replace HX0 := Lib.hid (HX0.out.below hb)
  replace HT0_0 := Lib.hid (HT0_0.out.below hb)
  replace HT0_1 := Lib.hid (HT0_1.out.below hb)
  have HT1k := Lib.hid (Ed.cap_ow ho)
  have HT1 := Lib.hid (RdD.ofOw ho)
  obtain rfl : n1 = mHT1 := HP1.out.len.symm.trans HT1.out.len
  clear ho
  clear hb
  go_wp2_with fail
  refine (La.spec_leafAt_any _ _ _ _ _ _ _ _ _ _ _ _ _ _ HT0_0.out HT0_1.out HT1.out HT0k_0.out (by rw [HM0.out]; omega)).mono ?_
  rintro e w5 ⟨rfl, hb⟩
  replace HB := Lib.hid (below_on HB.out hb)
  replace HX0 := Lib.hid (HX0.out.below hb)
  replace HT0_0 := Lib.hid (HT0_0.out.below hb)
  replace HT0_1 := Lib.hid (HT0_1.out.below hb)
  replace HT1 := Lib.hid (HT1.out.below hb)
  clear hb
  clear HT0_0
  clear HT0_1
  clear HT1
  obtain ⟨i0, i1⟩ := DpStrand.bxc HX0.out
  go_wp2_with fail
  refine (DpStrand.toK_any _ _ _ _ _ _ _ _ _ (HP0_0.out.below HB.out) (HP0_1.out.below HB.out) (by rw [HM0.out]; omega)).mono ?_
  rintro e w6 ⟨qHU0_0, dHU0_0, qHU0_1, dHU0_1, rfl, ho0, ho1, hk0, hk1, hb⟩
  replace HB := Lib.hid (below_on HB.out hb)
  replace HX0 := Lib.hid (HX0.out.below hb)
  have HU0_0 := Lib.hid ho0
  have HU0_1 := Lib.hid ho1
  have HU0k_0 := Lib.hid hk0
  have HU0k_1 := Lib.hid hk1
  clear ho0 ho1
  clear hk0 hk1
  clear hb
  clear i0 i1
  have HS0 := Lib.hid (Bx.new w6 32 #[.slice qHU0_0 n0_0 dHU0_0, .slice qHU0_1 n0_1 dHU0_1])
  have lHS0 := HS0.out.lt
  replace HB := Lib.hid (HB.out.alloc HB.out.size (.cells #[.slice qHU0_0 n0_0 dHU0_0, .slice qHU0_1 n0_1 dHU0_1] 32))
  replace HX0 := Lib.hid (HX0.out.alloc (.cells #[.slice qHU0_0 n0_0 dHU0_0, .slice qHU0_1 n0_1 dHU0_1] 32))
  replace HU0_0 := Lib.hid (HU0_0.out.alloc (.cells #[.slice qHU0_0 n0_0 dHU0_0, .slice qHU0_1 n0_1 dHU0_1] 32))
  replace HU0_1 := Lib.hid (HU0_1.out.alloc (.cells #[.slice qHU0_0 n0_0 dHU0_0, .slice qHU0_1 n0_1 dHU0_1] 32))
  go_wp2_with fail
  refine (SlI.to_any _ _ _ _ _ (HP1.out.below HB.out).ints (by omega)).mono ?_
  rintro e w7 ⟨qHU1, mHU1, dHU1, rfl, ho, hb⟩
  replace HB := Lib.hid (below_on HB.out hb)
  replace HX0 := Lib.hid (HX0.out.below hb)
  replace HU0_0 := Lib.hid (HU0_0.out.below hb)
  replace HU0_1 := Lib.hid (HU0_1.out.below hb)
  replace HS0 := Lib.hid (HS0.out.below hb)
  have HU1k := Lib.hid (Ed.cap_ow ho)
  have HU1 := Lib.hid (RdD.ofOw ho)
  obtain rfl : n1 = mHU1 := HP1.out.len.symm.trans HU1.out.len
  clear ho
  clear hb
  obtain ⟨k0_0, k0_1⟩ := DpStrand.bxc HS0.out
  go_wp2_with fail
  refine (La.leafAt_any _ _ _ _ _ _ _ _ _ _ _ _ _ _ HU0_0.out HU0_1.out HU1.out HU0k_0.out (by rw [HM0.out]; omega)).mono ?_
  rintro e w8 ⟨rfl, hb⟩
  replace HB := Lib.hid (below_on HB.out hb)
  replace HX0 := Lib.hid (HX0.out.below hb)
  replace HU0_0 := Lib.hid (HU0_0.out.below hb)
  replace HU0_1 := Lib.hid (HU0_1.out.below hb)
  replace HS0 := Lib.hid (HS0.out.below hb)
  replace HU1 := Lib.hid (HU1.out.below hb)
  clear hb
  clear k0_0 k0_1
  obtain ⟨j0_0, j0_1⟩ := DpStrand.bxc HS0.out
  obtain ⟨j1_0, j1_1⟩ := DpStrand.bxc HX0.out
  go_wp2_with fail
  replace HB := Lib.hid (drewB HB.out)
  replace HX0 := Lib.hid (HX0.out.below (drewB (Below.refl _ _)))
  replace HU0_0 := Lib.hid (HU0_0.out.below (drewB (Below.refl _ _)))
  replace HU0_1 := Lib.hid (HU0_1.out.below (drewB (Below.refl _ _)))
  replace HS0 := Lib.hid (HS0.out.below (drewB (Below.refl _ _)))
  replace HU1 := Lib.hid (HU1.out.below (drewB (Below.refl _ _)))
  go_region_held3 (fun w' => (w'.cell? ⟨w6.heap.size, 0, none⟩ = some (.slice qHU0_0 n0_0 dHU0_0) ∧ w'.cell? ⟨w6.heap.size, 1, none⟩ = some (.slice qHU0_1 n0_1 dHU0_1)) ∧ w'.cell? ⟨W.heap.size, 0, none⟩ = some (.slice p0_0 n0_0 c0_0) ∧ w'.cell? ⟨W.heap.size, 1, none⟩ = some (.slice p0_1 n0_1 c0_1)) (first | exact ⟨DpStrand.bxc HS0.out, DpStrand.bxc HX0.out⟩ | go_keep) (first | (go_at_call 8; (with_reducible refine (DpStrand.toK_any _ _ _ _ _ _ _ _ _ (HP0_0.out.below HB.out) (HP0_1.out.below HB.out) (by rw [HM0.out]; omega)).mono ?_); rintro e w9 ⟨qHY0_0, dHY0_0, qHY0_1, dHY0_1, rfl, ho0, ho1, hk0, hk1, hb⟩; replace HB := Lib.hid (below_on HB.out hb); replace HX0 := Lib.hid (HX0.out.below hb); replace HU0_0 := Lib.hid (HU0_0.out.below hb); replace HU0_1 := Lib.hid (HU0_1.out.below hb); replace HS0 := Lib.hid (HS0.out.below hb); replace HU1 := Lib.hid (HU1.out.below hb); have HY0_0 := Lib.hid ho0; have HY0_1 := Lib.hid ho1; have HY0k_0 := Lib.hid hk0; have HY0k_1 := Lib.hid hk1; clear ho0 ho1; clear hk0 hk1; clear hb) | (go_at_call 11; (with_reducible refine (DpStrand.eq_any _ _ _ _ _ _ _ _ _ _ _ _ _ HU0_0.out HY0_0.out HU0_1.out HY0_1.out).mono ?_); rintro e w10 ⟨rfl, hb⟩; replace HB := Lib.hid (below_on HB.out hb); replace HX0 := Lib.hid (HX0.out.below hb); replace HU0_0 := Lib.hid (HU0_0.out.below hb); replace HU0_1 := Lib.hid (HU0_1.out.below hb); replace HS0 := Lib.hid (HS0.out.below hb); replace HU1 := Lib.hid (HU1.out.below hb); replace HY0_0 := Lib.hid (HY0_0.out.below hb); replace HY0_1 := Lib.hid (HY0_1.out.below hb); clear hb))
  clear j0_0 j0_1
  clear j1_0 j1_1
  clear HY0_0
  clear HY0_1
  go_wp2_with fail
  refine (SlI.to_any _ _ _ _ _ (HP1.out.below HB.out).ints (by omega)).mono ?_
  rintro e w11 ⟨qHY1, mHY1, dHY1, rfl, ho, hb⟩
  replace HB := Lib.hid (below_on HB.out hb)
  replace HX0 := Lib.hid (HX0.out.below hb)
  replace HU0_0 := Lib.hid (HU0_0.out.below hb)
  replace HU0_1 := Lib.hid (HU0_1.out.below hb)
  replace HS0 := Lib.hid (HS0.out.below hb)
  replace HU1 := Lib.hid (HU1.out.below hb)
  have HY1k := Lib.hid (Ed.cap_ow ho)
  have HY1 := Lib.hid (RdD.ofOw ho)
  obtain rfl : n1 = mHY1 := HP1.out.len.symm.trans HY1.out.len
  clear ho
  clear hb
  go_wp2_with fail
  refine (SlI.eq_any _ _ _ _ _ _ _ HU1.out.ints HY1.out.ints).mono ?_
  rintro e w12 ⟨rfl, hb⟩
  replace HB := Lib.hid (below_on HB.out hb)
  replace HX0 := Lib.hid (HX0.out.below hb)
  replace HU0_0 := Lib.hid (HU0_0.out.below hb)
  replace HU0_1 := Lib.hid (HU0_1.out.below hb)
  replace HS0 := Lib.hid (HS0.out.below hb)
  replace HU1 := Lib.hid (HU1.out.below hb)
  replace HY1 := Lib.hid (HY1.out.below hb)
  clear hb
  clear HY1
  go_wp2_with fail
  go_ret
  exact ⟨rfl, HB.out⟩
end Go.Proofs.Ytnkpioaaabnlcaa.fnExactLeafAt
