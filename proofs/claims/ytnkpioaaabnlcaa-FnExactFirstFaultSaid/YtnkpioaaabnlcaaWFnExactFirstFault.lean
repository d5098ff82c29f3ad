/- The walk of the law FnExactFirstFault. -/
import Derived.Test.YtnkpioaaabnlcaaEd
import Derived.Test.YtnkpioaaabnlcaaDz
import Derived.Test.YtnkpioaaabnlcaaSlI
import Derived.Test.YtnkpioaaabnlcaaSlKey
import Derived.Test.YtnkpioaaabnlcaaSlAuthority
import Derived.Test.YtnkpioaaabnlcaaDpStrand
import Derived.Test.YtnkpioaaabnlcaaFf
import Derived.OpenShut
import Derived.Deep.RegionHeld3
import Derived.Laws.Strings
namespace Go.Proofs.Ytnkpioaaabnlcaa.fnExactFirstFault
open Go.ChangeShapes Go.WideShapes Go.ChangeAt Go.RowKit Sl St Ed Ff
theorem drewB {W w : World} {B : Nat} (h : Below B W w) : Below B W w.drew := below_drewN h 1
set_option maxRecDepth 100000 in
set_option maxHeartbeats 8000000 in
theorem walk {H : Type} {enc : TypeId × Value → H} (W : World) (base : Nat)
    (v0 : Value) (d0 : DataW H) (p0 : List MemPlace) (h0 : DataW.Trod enc Try.prog W 0 (fun _ => true) true 38 v0 d0 p0) (k0 : Value.okWide Try.prog W .any base 38 v0)
    (v1 : Value) (d1 : DataW H) (p1 : List MemPlace) (h1 : DataW.Trod enc Try.prog W 0 (fun _ => true) true 39 v1 d1 p1) (k1 : Value.okWide Try.prog W .any base 39 v1)
    (v2 : Value) (d2 : DataW H) (p2 : List MemPlace) (h2 : DataW.Trod enc Try.prog W 0 (fun _ => true) true 25 v2 d2 p2) (k2 : Value.okWide Try.prog W .any base 25 v2)
    (v3 : Value) (d3 : DataW H) (p3 : List MemPlace) (h3 : DataW.Trod enc Try.prog W 0 (fun _ => true) true 26 v3 d3 p3) (k3 : Value.okWide Try.prog W .any base 26 v3)
    (_hsz : (DataW.weightsEach Try.prog [38, 39, 25, 26] [d0, d1, d2, d3]).all (· ≤ reachBytes) = true) :
    Calls Try.prog 5 #[v0, v1, v2, v3] W fun e w' => e = .returned (.bool true) ∧ Below W.heap.size W w' := by
  obtain ⟨p0, n0, c0, l0, rfl, hr0, hg0⟩ := SlKey.open_argR h0 k0
  have HP0 : Hid (RdD (flat SlKey.E SlKey.InR) (fun _ => True) W p0 n0 l0) := Lib.hid (RdD.ofS hr0 hg0 (fun _ _ _ _ => trivial))
  have hn0 := hr0.le
  clear hr0 hg0
  clear h0 k0
  obtain ⟨p1, n1, c1, l1, rfl, hr1, hg1⟩ := SlAuthority.open_argR h1 k1
  have HP1 : Hid (RdD (flat SlAuthority.E SlAuthority.InR) (fun _ => True) W p1 n1 l1) := Lib.hid (RdD.ofS hr1 hg1 (fun _ _ _ _ => trivial))
  have hn1 := hr1.le
  clear hr1 hg1
  clear h1 k1
  obtain ⟨l2_0, l2_1, p2_0, n2_0, c2_0, p2_1, n2_1, c2_1, rfl, h2_0, h2_1⟩ := DpStrand.open_val h2 k2
  have HP2_0 := Lib.hid h2_0
  have HP2_1 := Lib.hid h2_1
  have hn2_0 := h2_0.le
  have hn2_1 := h2_1.le
  clear h2_0 h2_1
  clear h2 k2
  obtain ⟨p3, n3, c3, l3, rfl, hr3⟩ := SlI.open_arg h3 k3
  have HP3 : Hid (RdD int (fun _ => True) W p3 n3 l3) := Lib.hid (RdD.ofInts hr3 (fun _ _ _ _ => trivial))
  have hn3 := hr3.le
  clear hr3
  clear h3 k3
  clear _hsz
  have HB := Lib.hid (Below.refl W.heap.size W)
  have HX2 := Lib.hid (Bx.new W 25 #[.slice p2_0 n2_0 c2_0, .slice p2_1 n2_1 c2_1])
  replace HB := Lib.hid (HB.out.alloc HB.out.size (.cells #[.slice p2_0 n2_0 c2_0, .slice p2_1 n2_1 c2_1] 25))
  have lX2 := HX2.out.lt
  obtain ⟨m2, hm2⟩ : ∃ m : Nat, DpStrand.E.wt (l2_0, l2_1) = m := ⟨_, rfl⟩
  have HM2 := Lib.hid hm2
  clear hm2
  by_cases hbig3 : 1048576 < n3
  · go_enter Try.func5, Try.ntmps5
    go_wp2_with fail
    go_ret
    exact ⟨rfl, HB.out⟩
  have sm3 : n3 ≤ 1048576 := by omega
  clear hbig3
  by_cases hbig0 : 1048576 < n0
  · go_enter Try.func5, Try.ntmps5
    go_wp2_with fail
    refine (SlKey.sz_big _ _ _ _ _ (by omega) (by omega) (by omega) hn0).mono ?_
    rintro e w1 ⟨rfl, rfl⟩
    go_wp2_with fail
    go_ret
    exact ⟨rfl, HB.out⟩
  by_cases hbig1 : 1048576 < n0 + n1
  · go_enter Try.func5, Try.ntmps5
    go_wp2_with fail
    refine (SlKey.sz_fits _ _ _ _ _ (by omega) (by omega)).mono ?_
    rintro e w2 ⟨rfl, rfl⟩
    go_wp2_with fail
    refine (SlAuthority.sz_big _ _ _ _ _ (by omega) (by omega) (by omega) hn1).mono ?_
    rintro e w3 ⟨rfl, rfl⟩
    go_wp2_with fail
    go_ret
    exact ⟨rfl, HB.out⟩
  by_cases hbig2 : 1048576 < n0 + n1 + m2
  · go_enter Try.func5, Try.ntmps5
    go_wp2_with fail
    refine (SlKey.sz_fits _ _ _ _ _ (by omega) (by omega)).mono ?_
    rintro e w4 ⟨rfl, rfl⟩
    go_wp2_with fail
    refine (SlAuthority.sz_fits _ _ _ _ _ (by omega) (by omega)).mono ?_
    rintro e w5 ⟨rfl, rfl⟩
    obtain ⟨i0, i1⟩ := DpStrand.bxc HX2.out
    go_wp2_with fail
    refine (DpStrand.sz_big _ _ _ _ _ _ _ _ _ _ _ HM2.out (HP2_0.out.below HB.out) (HP2_1.out.below HB.out) (by omega) (by omega) (by omega)).mono ?_
    rintro e w6 ⟨rfl, hb⟩
    replace HB := Lib.hid (below_on HB.out hb)
    replace HX2 := Lib.hid (HX2.out.below hb)
    clear hb
    clear i0 i1
    go_wp2_with fail
    go_ret
    exact ⟨rfl, HB.out⟩
  go_enter Try.func5, Try.ntmps5
  go_wp2_with fail
  refine (SlKey.sz_fits _ _ _ _ _ (by omega) (by omega)).mono ?_
  rintro e w7 ⟨rfl, rfl⟩
  go_wp2_with fail
  refine (SlAuthority.sz_fits _ _ _ _ _ (by omega) (by omega)).mono ?_
  rintro e w8 ⟨rfl, rfl⟩
  obtain ⟨i0, i1⟩ := DpStrand.bxc HX2.out
  go_wp2_with fail
  refine (DpStrand.sz_fits _ _ _ _ _ _ _ _ _ _ _ HM2.out (HP2_0.out.below HB.out) (HP2_1.out.below HB.out) (by omega) (by omega)).mono ?_
  rintro e w9 ⟨rfl, hb⟩
  replace HB := Lib.hid (below_on HB.out hb)
  replace HX2 := Lib.hid (HX2.out.below hb)
  clear hb
  clear i0 i1
  have sm0 : n0 ≤ 1048576 := by omega
  have sm1 : n1 ≤ 1048576 := by omega
  have sm2 : m2 ≤ 1048576 := by omega
  have smt : n0 + n1 + m2 ≤ 1048576 := by omega
  clear hbig0
  clear hbig1
  clear hbig2
  have sn2_0 : n2_0 ≤ 1048576 := by have h := HM2.out; have k := HP2_0.out.len; simp only [DpStrand.wt_eq] at h; omega
  have sn2_1 : n2_1 ≤ 1048576 := by have h := HM2.out; have k := HP2_1.out.len; simp only [DpStrand.wt_eq] at h; omega
  obtain ⟨j0_0, j0_1⟩ := DpStrand.bxc HX2.out
  go_wp2_with fail
  replace HB := Lib.hid (drewB HB.out)
  replace HX2 := Lib.hid (HX2.out.below (drewB (Below.refl _ _)))
  go_region_held3 (fun w' => w'.cell? ⟨W.heap.size, 0, none⟩ = some (.slice p2_0 n2_0 c2_0) ∧ w'.cell? ⟨W.heap.size, 1, none⟩ = some (.slice p2_1 n2_1 c2_1)) (first | exact DpStrand.bxc HX2.out | go_keep) (first | (go_at_call 17; (with_reducible refine (SlKey.to_any _ _ _ _ _ (HP0.out.below HB.out).rdS (by omega)).mono ?_); rintro e w10 ⟨qHT0, mHT0, dHT0, rfl, ho, hb⟩; replace HB := Lib.hid (below_on HB.out hb); replace HX2 := Lib.hid (HX2.out.below hb); have HT0k := Lib.hid (Ed.cap_owS ho); have HT0 := Lib.hid (RdD.ofOwS ho HP0.out.allP); obtain rfl : n0 = mHT0 := HP0.out.len.symm.trans HT0.out.len; clear ho; clear hb) | (go_at_call 18; (with_reducible refine (SlAuthority.to_any _ _ _ _ _ (HP1.out.below HB.out).rdS (by omega)).mono ?_); rintro e w11 ⟨qHT1, mHT1, dHT1, rfl, ho, hb⟩; replace HB := Lib.hid (below_on HB.out hb); replace HX2 := Lib.hid (HX2.out.below hb); replace HT0 := Lib.hid (HT0.out.below hb); have HT1k := Lib.hid (Ed.cap_owS ho); have HT1 := Lib.hid (RdD.ofOwS ho HP1.out.allP); obtain rfl : n1 = mHT1 := HP1.out.len.symm.trans HT1.out.len; clear ho; clear hb) | (go_at_call 8; (with_reducible refine (DpStrand.toK_any _ _ _ _ _ _ _ _ _ (HP2_0.out.below HB.out) (HP2_1.out.below HB.out) (by rw [HM2.out]; omega)).mono ?_); rintro e w12 ⟨qHT2_0, dHT2_0, qHT2_1, dHT2_1, rfl, ho0, ho1, hk0, hk1, hb⟩; replace HB := Lib.hid (below_on HB.out hb); replace HX2 := Lib.hid (HX2.out.below hb); replace HT0 := Lib.hid (HT0.out.below hb); replace HT1 := Lib.hid (HT1.out.below hb); have HT2_0 := Lib.hid ho0; have HT2_1 := Lib.hid ho1; have HT2k_0 := Lib.hid hk0; have HT2k_1 := Lib.hid hk1; clear ho0 ho1; clear hk0 hk1; clear hb) | (go_at_call 9; (with_reducible refine (SlI.to_any _ _ _ _ _ (HP3.out.below HB.out).ints (by omega)).mono ?_); rintro e w13 ⟨qHT3, mHT3, dHT3, rfl, ho, hb⟩; replace HB := Lib.hid (below_on HB.out hb); replace HX2 := Lib.hid (HX2.out.below hb); replace HT0 := Lib.hid (HT0.out.below hb); replace HT1 := Lib.hid (HT1.out.below hb); replace HT2_0 := Lib.hid (HT2_0.out.below hb); replace HT2_1 := Lib.hid (HT2_1.out.below hb); have HT3k := Lib.hid (Ed.cap_ow ho); have HT3 := Lib.hid (RdD.ofOw ho); obtain rfl : n3 = mHT3 := HP3.out.len.symm.trans HT3.out.len; clear ho; clear hb) | (go_at_call 24; (with_reducible refine (Ff.spec_fault_any _ _ _ _ _ _ _ _ _ _ _ _ _ _ _ _ _ _ _ _ _ HT0.out HT1.out HT2_0.out HT2_1.out HT3.out HT2k_0.out (by rw [HM2.out]; omega)).mono ?_); rintro e w14 ⟨rfl, hb⟩; replace HB := Lib.hid (below_on HB.out hb); replace HX2 := Lib.hid (HX2.out.below hb); replace HT0 := Lib.hid (HT0.out.below hb); replace HT1 := Lib.hid (HT1.out.below hb); replace HT2_0 := Lib.hid (HT2_0.out.below hb); replace HT2_1 := Lib.hid (HT2_1.out.below hb); replace HT3 := Lib.hid (HT3.out.below hb); clear hb))
  clear j0_0 j0_1
  clear HT0
  clear HT1
  clear HT2_0
  clear HT2_1
  clear HT3
  go_wp2_with fail
  refine (SlKey.to_any _ _ _ _ _ (HP0.out.below HB.out).rdS (by omega)).mono ?_
  rintro e w15 ⟨qHU0, mHU0, dHU0, rfl, ho, hb⟩
  replace HB := Lib.hid (below_on HB.out hb)
  replace HX2 := Lib.hid (HX2.out.below hb)
  have HU0k := Lib.hid (Ed.cap_owS ho)
  have HU0 := Lib.hid (RdD.ofOwS ho HP0.out.allP)
  obtain rfl : n0 = mHU0 := HP0.out.len.symm.trans HU0.out.len
  clear ho
  clear hb
  go_wp2_with fail
  refine (SlAuthority.to_any _ _ _ _ _ (HP1.out.below HB.out).rdS (by omega)).mono ?_
  rintro e w16 ⟨qHU1, mHU1, dHU1, rfl, ho, hb⟩
  replace HB := Lib.hid (below_on HB.out hb)
  replace HX2 := Lib.hid (HX2.out.below hb)
  replace HU0 := Lib.hid (HU0.out.below hb)
  have HU1k := Lib.hid (Ed.cap_owS ho)
  have HU1 := Lib.hid (RdD.ofOwS ho HP1.out.allP)
  obtain rfl : n1 = mHU1 := HP1.out.len.symm.trans HU1.out.len
  clear ho
  clear hb
  obtain ⟨i0, i1⟩ := DpStrand.bxc HX2.out
  go_wp2_with fail
  refine (DpStrand.toK_any _ _ _ _ _ _ _ _ _ (HP2_0.out.below HB.out) (HP2_1.out.below HB.out) (by rw [HM2.out]; omega)).mono ?_
  rintro e w17 ⟨qHU2_0, dHU2_0, qHU2_1, dHU2_1, rfl, ho0, ho1, hk0, hk1, hb⟩
  replace HB := Lib.hid (below_on HB.out hb)
  replace HX2 := Lib.hid (HX2.out.below hb)
  replace HU0 := Lib.hid (HU0.out.below hb)
  replace HU1 := Lib.hid (HU1.out.below hb)
  have HU2_0 := Lib.hid ho0
  have HU2_1 := Lib.hid ho1
  have HU2k_0 := Lib.hid hk0
  have HU2k_1 := Lib.hid hk1
  clear ho0 ho1
  clear hk0 hk1
  clear hb
  clear i0 i1
  have HS2 := Lib.hid (Bx.new w17 32 #[.slice qHU2_0 n2_0 dHU2_0, .slice qHU2_1 n2_1 dHU2_1])
  have lHS2 := HS2.out.lt
  replace HB := Lib.hid (HB.out.alloc HB.out.size (.cells #[.slice qHU2_0 n2_0 dHU2_0, .slice qHU2_1 n2_1 dHU2_1] 32))
  replace HX2 := Lib.hid (HX2.out.alloc (.cells #[.slice qHU2_0 n2_0 dHU2_0, .slice qHU2_1 n2_1 dHU2_1] 32))
  replace HU0 := Lib.hid (HU0.out.alloc (.cells #[.slice qHU2_0 n2_0 dHU2_0, .slice qHU2_1 n2_1 dHU2_1] 32))
  replace HU1 := Lib.hid (HU1.out.alloc (.cells #[.slice qHU2_0 n2_0 dHU2_0, .slice qHU2_1 n2_1 dHU2_1] 32))
  replace HU2_0 := Lib.hid (HU2_0.out.alloc (.cells #[.slice qHU2_0 n2_0 dHU2_0, .slice qHU2_1 n2_1 dHU2_1] 32))
  replace HU2_1 := Lib.hid (HU2_1.out.alloc (.cells #[.slice qHU2_0 n2_0 dHU2_0, .slice qHU2_1 n2_1 dHU2_1] 32))
  go_wp2_with fail
  refine (SlI.to_any _ _ _ _ _ (HP3.out.below HB.out).ints (by omega)).mono ?_
  rintro e w18 ⟨qHU3, mHU3, dHU3, rfl, ho, hb⟩
  replace HB := Lib.hid (below_on HB.out hb)
  replace HX2 := Lib.hid (HX2.out.below hb)
  replace HU0 := Lib.hid (HU0.out.below hb)
  replace HU1 := Lib.hid (HU1.out.below hb)
  replace HU2_0 := Lib.hid (HU2_0.out.below hb)
  replace HU2_1 := Lib.hid (HU2_1.out.below hb)
  replace HS2 := Lib.hid (HS2.out.below hb)
  have HU3k := Lib.hid (Ed.cap_ow ho)
  have HU3 := Lib.hid (RdD.ofOw ho)
  obtain rfl : n3 = mHU3 := HP3.out.len.symm.trans HU3.out.len
  clear ho
  clear hb
  obtain ⟨k2_0, k2_1⟩ := DpStrand.bxc HS2.out
  go_wp2_with fail
  refine (Ff.fault_any _ _ _ _ _ _ _ _ _ _ _ _ _ _ _ _ _ _ _ _ _ HU0.out HU1.out HU2_0.out HU2_1.out HU3.out HU2k_0.out (by rw [HM2.out]; omega)).mono ?_
  rintro e w19 ⟨rfl, hb⟩
  replace HB := Lib.hid (below_on HB.out hb)
  replace HX2 := Lib.hid (HX2.out.below hb)
  replace HU0 := Lib.hid (HU0.out.below hb)
  replace HU1 := Lib.hid (HU1.out.below hb)
  replace HU2_0 := Lib.hid (HU2_0.out.below hb)
  replace HU2_1 := Lib.hid (HU2_1.out.below hb)
  replace HS2 := Lib.hid (HS2.out.below hb)
  replace HU3 := Lib.hid (HU3.out.below hb)
  clear hb
  clear k2_0 k2_1
  go_wp2_with fail
  refine (SlKey.to_any _ _ _ _ _ (HP0.out.below HB.out).rdS (by omega)).mono ?_
  rintro e w20 ⟨qHY0, mHY0, dHY0, rfl, ho, hb⟩
  replace HB := Lib.hid (below_on HB.out hb)
  replace HX2 := Lib.hid (HX2.out.below hb)
  replace HU0 := Lib.hid (HU0.out.below hb)
  replace HU1 := Lib.hid (HU1.out.below hb)
  replace HU2_0 := Lib.hid (HU2_0.out.below hb)
  replace HU2_1 := Lib.hid (HU2_1.out.below hb)
  replace HS2 := Lib.hid (HS2.out.below hb)
  replace HU3 := Lib.hid (HU3.out.below hb)
  have HY0k := Lib.hid (Ed.cap_owS ho)
  have HY0 := Lib.hid (RdD.ofOwS ho HP0.out.allP)
  obtain rfl : n0 = mHY0 := HP0.out.len.symm.trans HY0.out.len
  clear ho
  clear hb
  go_wp2_with fail
  refine (SlKey.eq_any _ _ _ _ _ _ _ HU0.out.rdS HY0.out.rdS).mono ?_
  rintro e w21 ⟨rfl, hb⟩
  replace HB := Lib.hid (below_on HB.out hb)
  replace HX2 := Lib.hid (HX2.out.below hb)
  replace HU0 := Lib.hid (HU0.out.below hb)
  replace HU1 := Lib.hid (HU1.out.below hb)
  replace HU2_0 := Lib.hid (HU2_0.out.below hb)
  replace HU2_1 := Lib.hid (HU2_1.out.below hb)
  replace HS2 := Lib.hid (HS2.out.below hb)
  replace HU3 := Lib.hid (HU3.out.below hb)
  replace HY0 := Lib.hid (HY0.out.below hb)
  clear hb
  clear HY0
  go_wp2_with fail
  refine (SlAuthority.to_any _ _ _ _ _ (HP1.out.below HB.out).rdS (by omega)).mono ?_
  rintro e w22 ⟨qHY1, mHY1, dHY1, rfl, ho, hb⟩
  replace HB := Lib.hid (below_on HB.out hb)
  replace HX2 := Lib.hid (HX2.out.below hb)
  replace HU0 := Lib.hid (HU0.out.below hb)
  replace HU1 := Lib.hid (HU1.out.below hb)
  replace HU2_0 := Lib.hid (HU2_0.out.below hb)
  replace HU2_1 := Lib.hid (HU2_1.out.below hb)
  replace HS2 := Lib.hid (HS2.out.below hb)
  replace HU3 := Lib.hid (HU3.out.below hb)
  have HY1k := Lib.hid (Ed.cap_owS ho)
  have HY1 := Lib.hid (RdD.ofOwS ho HP1.out.allP)
  obtain rfl : n1 = mHY1 := HP1.out.len.symm.trans HY1.out.len
  clear ho
  clear hb
  go_wp2_with fail
  refine (SlAuthority.eq_any _ _ _ _ _ _ _ HU1.out.rdS HY1.out.rdS).mono ?_
  rintro e w23 ⟨rfl, hb⟩
  replace HB := Lib.hid (below_on HB.out hb)
  replace HX2 := Lib.hid (HX2.out.below hb)
  replace HU0 := Lib.hid (HU0.out.below hb)
  replace HU1 := Lib.hid (HU1.out.below hb)
  replace HU2_0 := Lib.hid (HU2_0.out.below hb)
  replace HU2_1 := Lib.hid (HU2_1.out.below hb)
  replace HS2 := Lib.hid (HS2.out.below hb)
  replace HU3 := Lib.hid (HU3.out.below hb)
  replace HY1 := Lib.hid (HY1.out.below hb)
  clear hb
  clear HY1
  obtain ⟨j0_0, j0_1⟩ := DpStrand.bxc HS2.out
  obtain ⟨j1_0, j1_1⟩ := DpStrand.bxc HX2.out
  go_wp2_with fail
  replace HB := Lib.hid (drewB HB.out)
  replace HX2 := Lib.hid (HX2.out.below (drewB (Below.refl _ _)))
  replace HU0 := Lib.hid (HU0.out.below (drewB (Below.refl _ _)))
  replace HU1 := Lib.hid (HU1.out.below (drewB (Below.refl _ _)))
  replace HU2_0 := Lib.hid (HU2_0.out.below (drewB (Below.refl _ _)))
  replace HU2_1 := Lib.hid (HU2_1.out.below (drewB (Below.refl _ _)))
  replace HS2 := Lib.hid (HS2.out.below (drewB (Below.refl _ _)))
  replace HU3 := Lib.hid (HU3.out.below (drewB (Below.refl _ _)))
  go_region_held3 (fun w' => (w'.cell? ⟨w17.heap.size, 0, none⟩ = some (.slice qHU2_0 n2_0 dHU2_0) ∧ w'.cell? ⟨w17.heap.size, 1, none⟩ = some (.slice qHU2_1 n2_1 dHU2_1)) ∧ w'.cell? ⟨W.heap.size, 0, none⟩ = some (.slice p2_0 n2_0 c2_0) ∧ w'.cell? ⟨W.heap.size, 1, none⟩ = some (.slice p2_1 n2_1 c2_1)) (first | exact ⟨DpStrand.bxc HS2.out, DpStrand.bxc HX2.out⟩ | go_keep) (first | (go_at_call 8; (with_reducible refine (DpStrand.toK_any _ _ _ _ _ _ _ _ _ (HP2_0.out.below HB.out) (HP2_1.out.below HB.out) (by rw [HM2.out]; omega)).mono ?_); rintro e w24 ⟨qHY2_0, dHY2_0, qHY2_1, dHY2_1, rfl, ho0, ho1, hk0, hk1, hb⟩; replace HB := Lib.hid (below_on HB.out hb); replace HX2 := Lib.hid (HX2.out.below hb); replace HU0 := Lib.hid (HU0.out.below hb); replace HU1 := Lib.hid (HU1.out.below hb); replace HU2_0 := Lib.hid (HU2_0.out.below hb); replace HU2_1 := Lib.hid (HU2_1.out.below hb); replace HS2 := Lib.hid (HS2.out.below hb); replace HU3 := Lib.hid (HU3.out.below hb); have HY2_0 := Lib.hid ho0; have HY2_1 := Lib.hid ho1; have HY2k_0 := Lib.hid hk0; have HY2k_1 := Lib.hid hk1; clear ho0 ho1; clear hk0 hk1; clear hb) | (go_at_call 11; (with_reducible refine (DpStrand.eq_any _ _ _ _ _ _ _ _ _ _ _ _ _ HU2_0.out HY2_0.out HU2_1.out HY2_1.out).mono ?_); rintro e w25 ⟨rfl, hb⟩; replace HB := Lib.hid (below_on HB.out hb); replace HX2 := Lib.hid (HX2.out.below hb); replace HU0 := Lib.hid (HU0.out.below hb); replace HU1 := Lib.hid (HU1.out.below hb); replace HU2_0 := Lib.hid (HU2_0.out.below hb); replace HU2_1 := Lib.hid (HU2_1.out.below hb); replace HS2 := Lib.hid (HS2.out.below hb); replace HU3 := Lib.hid (HU3.out.below hb); replace HY2_0 := Lib.hid (HY2_0.out.below hb); replace HY2_1 := Lib.hid (HY2_1.out.below hb); clear hb))
  clear j0_0 j0_1
  clear j1_0 j1_1
  clear HY2_0
  clear HY2_1
  go_wp2_with fail
  refine (SlI.to_any _ _ _ _ _ (HP3.out.below HB.out).ints (by omega)).mono ?_
  rintro e w26 ⟨qHY3, mHY3, dHY3, rfl, ho, hb⟩
  replace HB := Lib.hid (below_on HB.out hb)
  replace HX2 := Lib.hid (HX2.out.below hb)
  replace HU0 := Lib.hid (HU0.out.below hb)
  replace HU1 := Lib.hid (HU1.out.below hb)
  replace HU2_0 := Lib.hid (HU2_0.out.below hb)
  replace HU2_1 := Lib.hid (HU2_1.out.below hb)
  replace HS2 := Lib.hid (HS2.out.below hb)
  replace HU3 := Lib.hid (HU3.out.below hb)
  have HY3k := Lib.hid (Ed.cap_ow ho)
  have HY3 := Lib.hid (RdD.ofOw ho)
  obtain rfl : n3 = mHY3 := HP3.out.len.symm.trans HY3.out.len
  clear ho
  clear hb
  go_wp2_with fail
  refine (SlI.eq_any _ _ _ _ _ _ _ HU3.out.ints HY3.out.ints).mono ?_
  rintro e w27 ⟨rfl, hb⟩
  replace HB := Lib.hid (below_on HB.out hb)
  replace HX2 := Lib.hid (HX2.out.below hb)
  replace HU0 := Lib.hid (HU0.out.below hb)
  replace HU1 := Lib.hid (HU1.out.below hb)
  replace HU2_0 := Lib.hid (HU2_0.out.below hb)
  replace HU2_1 := Lib.hid (HU2_1.out.below hb)
  replace HS2 := Lib.hid (HS2.out.below hb)
  replace HU3 := Lib.hid (HU3.out.below hb)
  replace HY3 := Lib.hid (HY3.out.below hb)
  clear hb
  clear HY3
  go_wp2_with fail
  go_ret
  exact ⟨rfl, HB.out⟩
end Go.Proofs.Ytnkpioaaabnlcaa.fnExactFirstFault
