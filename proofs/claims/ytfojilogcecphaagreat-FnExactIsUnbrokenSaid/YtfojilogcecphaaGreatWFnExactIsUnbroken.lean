/- The walk of the law FnExactIsUnbroken. -/
import Derived.Test.YtfojilogcecphaaGreatEd
import Derived.Test.YtfojilogcecphaaGreatDz
import Derived.Test.YtfojilogcecphaaGreatSlI
import Derived.Test.YtfojilogcecphaaGreatDpFrame
import Derived.Test.YtfojilogcecphaaGreatDpStrand
import Derived.Test.YtfojilogcecphaaGreatUb
import Derived.OpenShut
import Derived.Deep.RegionHeld3
import Derived.Laws.Strings
namespace Go.Proofs.YtfojilogcecphaaGreat.fnExactIsUnbroken
open Go.ChangeShapes Go.WideShapes Go.ChangeAt Go.RowKit Sl St Ed Ub
theorem drewB {W w : World} {B : Nat} (h : Below B W w) : Below B W w.drew := below_drewN h 1
set_option maxRecDepth 100000 in
set_option maxHeartbeats 8000000 in
theorem walk {H : Type} {enc : TypeId × Value → H} (W : World) (base : Nat)
    (v0 : Value) (d0 : DataW H) (p0 : List MemPlace) (h0 : DataW.Trod enc Tryz.prog W 0 (fun _ => true) true 26 v0 d0 p0) (k0 : Value.okWide Tryz.prog W .any base 26 v0)
    (v1 : Value) (d1 : DataW H) (p1 : List MemPlace) (h1 : DataW.Trod enc Tryz.prog W 0 (fun _ => true) true 30 v1 d1 p1) (k1 : Value.okWide Tryz.prog W .any base 30 v1)
    (v2 : Value) (d2 : DataW H) (p2 : List MemPlace) (h2 : DataW.Trod enc Tryz.prog W 0 (fun _ => true) true 31 v2 d2 p2) (k2 : Value.okWide Tryz.prog W .any base 31 v2)
    (_hsz : (DataW.weightsEach Tryz.prog [26, 30, 31] [d0, d1, d2]).all (· ≤ reachBytes) = true) :
    Calls Tryz.prog 4 #[v0, v1, v2] W fun e w' => e = .returned (.bool true) ∧ Below W.heap.size W w' := by
  obtain ⟨l0_0, l0_1, l0_2, x0_3, x0_4, p0_0, n0_0, c0_0, p0_1, n0_1, c0_1, p0_2, n0_2, c0_2, rfl, h0_0, h0_1, h0_2, b0_3, b0_4⟩ := DpFrame.open_val h0 k0
  have HP0_0 := Lib.hid h0_0
  have HP0_1 := Lib.hid h0_1
  have HP0_2 := Lib.hid h0_2
  have HG0_3 := Lib.hid b0_3
  have HG0_4 := Lib.hid b0_4
  have hn0_0 := h0_0.le
  have hn0_1 := h0_1.le
  have hn0_2 := h0_2.le
  clear h0_0 h0_1 h0_2 b0_3 b0_4
  clear h0 k0
  obtain ⟨l1_0, l1_1, p1_0, n1_0, c1_0, p1_1, n1_1, c1_1, rfl, h1_0, h1_1⟩ := DpStrand.open_val h1 k1
  have HP1_0 := Lib.hid h1_0
  have HP1_1 := Lib.hid h1_1
  have hn1_0 := h1_0.le
  have hn1_1 := h1_1.le
  clear h1_0 h1_1
  clear h1 k1
  obtain ⟨p2, n2, c2, l2, rfl, hr2⟩ := SlI.open_arg h2 k2
  have HP2 : Hid (RdD int (fun _ => True) W p2 n2 l2) := Lib.hid (RdD.ofInts hr2 (fun _ _ _ _ => trivial))
  have hn2 := hr2.le
  clear hr2
  clear h2 k2
  clear _hsz
  have HB := Lib.hid (Below.refl W.heap.size W)
  have HX0 := Lib.hid (Bx.new W 26 #[.slice p0_0 n0_0 c0_0, .slice p0_1 n0_1 c0_1, .slice p0_2 n0_2 c0_2, .int .i64 x0_3, .int .i64 x0_4])
  replace HB := Lib.hid (HB.out.alloc HB.out.size (.cells #[.slice p0_0 n0_0 c0_0, .slice p0_1 n0_1 c0_1, .slice p0_2 n0_2 c0_2, .int .i64 x0_3, .int .i64 x0_4] 26))
  have lX0 := HX0.out.lt
  have hbx1 := Bx.new (W.alloc (.cells #[.slice p0_0 n0_0 c0_0, .slice p0_1 n0_1 c0_1, .slice p0_2 n0_2 c0_2, .int .i64 x0_3, .int .i64 x0_4] 26)) 30 #[.slice p1_0 n1_0 c1_0, .slice p1_1 n1_1 c1_1]
  rw [World.size_alloc] at hbx1
  have HX1 := Lib.hid hbx1
  clear hbx1
  replace HX0 := Lib.hid (HX0.out.alloc (.cells #[.slice p1_0 n1_0 c1_0, .slice p1_1 n1_1 c1_1] 30))
  replace HB := Lib.hid (HB.out.alloc HB.out.size (.cells #[.slice p1_0 n1_0 c1_0, .slice p1_1 n1_1 c1_1] 30))
  have lX1 := HX1.out.lt
  obtain ⟨m0, hm0⟩ : ∃ m : Nat, DpFrame.E.wt (l0_0, l0_1, l0_2, x0_3, x0_4) = m := ⟨_, rfl⟩
  have HM0 := Lib.hid hm0
  clear hm0
  obtain ⟨m1, hm1⟩ : ∃ m : Nat, DpStrand.E.wt (l1_0, l1_1) = m := ⟨_, rfl⟩
  have HM1 := Lib.hid hm1
  clear hm1
  by_cases hbig2 : 1048576 < n2
  · go_enter Tryz.func4, Tryz.ntmps4
    go_wp2_with fail
    go_ret
    exact ⟨rfl, HB.out⟩
  have sm2 : n2 ≤ 1048576 := by omega
  clear hbig2
  by_cases hbig0 : 1048576 < m0
  · go_enter Tryz.func4, Tryz.ntmps4
    obtain ⟨i0, i1, i2, i3, i4⟩ := DpFrame.bxc HX0.out
    go_wp2_with fail
    refine (DpFrame.sz_big _ _ _ _ _ _ _ _ _ _ _ _ _ _ _ _ _ HM0.out (HP0_0.out.below HB.out) (HP0_1.out.below HB.out) (HP0_2.out.below HB.out) (by omega) (by omega) (by omega)).mono ?_
    rintro e w1 ⟨rfl, hb⟩
    replace HB := Lib.hid (below_on HB.out hb)
    replace HX0 := Lib.hid (HX0.out.below hb)
    replace HX1 := Lib.hid (HX1.out.below hb)
    clear hb
    clear i0 i1 i2 i3 i4
    go_wp2_with fail
    go_ret
    exact ⟨rfl, HB.out⟩
  by_cases hbig1 : 1048576 < m0 + m1
  · go_enter Tryz.func4, Tryz.ntmps4
    obtain ⟨i0, i1, i2, i3, i4⟩ := DpFrame.bxc HX0.out
    go_wp2_with fail
    refine (DpFrame.sz_fits _ _ _ _ _ _ _ _ _ _ _ _ _ _ _ _ _ HM0.out (HP0_0.out.below HB.out) (HP0_1.out.below HB.out) (HP0_2.out.below HB.out) (by omega) (by omega)).mono ?_
    rintro e w2 ⟨rfl, hb⟩
    replace HB := Lib.hid (below_on HB.out hb)
    replace HX0 := Lib.hid (HX0.out.below hb)
    replace HX1 := Lib.hid (HX1.out.below hb)
    clear hb
    clear i0 i1 i2 i3 i4
    obtain ⟨i0, i1⟩ := DpStrand.bxc HX1.out
    go_wp2_with fail
    refine (DpStrand.sz_big _ _ _ _ _ _ _ _ _ _ _ HM1.out (HP1_0.out.below HB.out) (HP1_1.out.below HB.out) (by omega) (by omega) (by omega)).mono ?_
    rintro e w3 ⟨rfl, hb⟩
    replace HB := Lib.hid (below_on HB.out hb)
    replace HX0 := Lib.hid (HX0.out.below hb)
    replace HX1 := Lib.hid (HX1.out.below hb)
    clear hb
    clear i0 i1
    go_wp2_with fail
    go_ret
    exact ⟨rfl, HB.out⟩
  go_enter Tryz.func4, Tryz.ntmps4
  obtain ⟨i0, i1, i2, i3, i4⟩ := DpFrame.bxc HX0.out
  go_wp2_with fail
  refine (DpFrame.sz_fits _ _ _ _ _ _ _ _ _ _ _ _ _ _ _ _ _ HM0.out (HP0_0.out.below HB.out) (HP0_1.out.below HB.out) (HP0_2.out.below HB.out) (by omega) (by omega)).mono ?_
  rintro e w4 ⟨rfl, hb⟩
  replace HB := Lib.hid (below_on HB.out hb)
  replace HX0 := Lib.hid (HX0.out.below hb)
  replace HX1 := Lib.hid (HX1.out.below hb)
  clear hb
  clear i0 i1 i2 i3 i4
  obtain ⟨i0, i1⟩ := DpStrand.bxc HX1.out
  go_wp2_with fail
  refine (DpStrand.sz_fits _ _ _ _ _ _ _ _ _ _ _ HM1.out (HP1_0.out.below HB.out) (HP1_1.out.below HB.out) (by omega) (by omega)).mono ?_
  rintro e w5 ⟨rfl, hb⟩
  replace HB := Lib.hid (below_on HB.out hb)
  replace HX0 := Lib.hid (HX0.out.below hb)
  replace HX1 := Lib.hid (HX1.out.below hb)
  clear hb
  clear i0 i1
  have sm0 : m0 ≤ 1048576 := by omega
  have sm1 : m1 ≤ 1048576 := by omega
  have smt : m0 + m1 ≤ 1048576 := by omega
  clear hbig0
  clear hbig1
  have sn0_0 : n0_0 ≤ 1048576 := by have h := HM0.out; have k := HP0_0.out.len; simp only [DpFrame.wt_eq] at h; omega
  have sn0_1 : n0_1 ≤ 1048576 := by have h := HM0.out; have k := HP0_1.out.len; simp only [DpFrame.wt_eq] at h; omega
  have sn0_2 : n0_2 ≤ 1048576 := by have h := HM0.out; have k := HP0_2.out.len; simp only [DpFrame.wt_eq] at h; omega
  have sn1_0 : n1_0 ≤ 1048576 := by have h := HM1.out; have k := HP1_0.out.len; simp only [DpStrand.wt_eq] at h; omega
  have sn1_1 : n1_1 ≤ 1048576 := by have h := HM1.out; have k := HP1_1.out.len; simp only [DpStrand.wt_eq] at h; omega
  obtain ⟨j0_0, j0_1, j0_2, j0_3, j0_4⟩ := DpFrame.bxc HX0.out
  obtain ⟨j1_0, j1_1⟩ := DpStrand.bxc HX1.out
  go_wp2_with fail
  replace HB := Lib.hid (drewB HB.out)
  replace HX0 := Lib.hid (HX0.out.below (drewB (Below.refl _ _)))
  replace HX1 := Lib.hid (HX1.out.below (drewB (Below.refl _ _)))
  go_region_held3 (fun w' => (w'.cell? ⟨W.heap.size, 0, none⟩ = some (.slice p0_0 n0_0 c0_0) ∧ w'.cell? ⟨W.heap.size, 1, none⟩ = some (.slice p0_1 n0_1 c0_1) ∧ w'.cell? ⟨W.heap.size, 2, none⟩ = some (.slice p0_2 n0_2 c0_2) ∧ w'.cell? ⟨W.heap.size, 3, none⟩ = some (.int .i64 x0_3) ∧ w'.cell? ⟨W.heap.size, 4, none⟩ = some (.int .i64 x0_4)) ∧ w'.cell? ⟨W.heap.size + 1, 0, none⟩ = some (.slice p1_0 n1_0 c1_0) ∧ w'.cell? ⟨W.heap.size + 1, 1, none⟩ = some (.slice p1_1 n1_1 c1_1)) (first | exact ⟨DpFrame.bxc HX0.out, DpStrand.bxc HX1.out⟩ | go_keep) (first | (go_at_call 11; (with_reducible refine (DpFrame.toK_any _ _ _ _ _ _ _ _ _ _ _ _ _ _ _ (HP0_0.out.below HB.out) (HP0_1.out.below HB.out) (HP0_2.out.below HB.out) (by rw [HM0.out]; omega)).mono ?_); rintro e w6 ⟨qHT0_0, dHT0_0, qHT0_1, dHT0_1, qHT0_2, dHT0_2, rfl, ho0, ho1, ho2, hk0, hk1, hk2, hb⟩; replace HB := Lib.hid (below_on HB.out hb); replace HX0 := Lib.hid (HX0.out.below hb); replace HX1 := Lib.hid (HX1.out.below hb); have HT0_0 := Lib.hid ho0; have HT0_1 := Lib.hid ho1; have HT0_2 := Lib.hid ho2; have HT0k_0 := Lib.hid hk0; have HT0k_1 := Lib.hid hk1; have HT0k_2 := Lib.hid hk2; clear ho0 ho1 ho2; clear hk0 hk1 hk2; clear hb) | (go_at_call 12; (with_reducible refine (DpStrand.toK_any _ _ _ _ _ _ _ _ _ (HP1_0.out.below HB.out) (HP1_1.out.below HB.out) (by rw [HM1.out]; omega)).mono ?_); rintro e w7 ⟨qHT1_0, dHT1_0, qHT1_1, dHT1_1, rfl, ho0, ho1, hk0, hk1, hb⟩; replace HB := Lib.hid (below_on HB.out hb); replace HX0 := Lib.hid (HX0.out.below hb); replace HX1 := Lib.hid (HX1.out.below hb); replace HT0_0 := Lib.hid (HT0_0.out.below hb); replace HT0_1 := Lib.hid (HT0_1.out.below hb); replace HT0_2 := Lib.hid (HT0_2.out.below hb); have HT1_0 := Lib.hid ho0; have HT1_1 := Lib.hid ho1; have HT1k_0 := Lib.hid hk0; have HT1k_1 := Lib.hid hk1; clear ho0 ho1; clear hk0 hk1; clear hb) | (go_at_call 13; (with_reducible refine (SlI.to_any _ _ _ _ _ (HP2.out.below HB.out).ints (by omega)).mono ?_); rintro e w8 ⟨qHT2, mHT2, dHT2, rfl, ho, hb⟩; replace HB := Lib.hid (below_on HB.out hb); replace HX0 := Lib.hid (HX0.out.below hb); replace HX1 := Lib.hid (HX1.out.below hb); replace HT0_0 := Lib.hid (HT0_0.out.below hb); replace HT0_1 := Lib.hid (HT0_1.out.below hb); replace HT0_2 := Lib.hid (HT0_2.out.below hb); replace HT1_0 := Lib.hid (HT1_0.out.below hb); replace HT1_1 := Lib.hid (HT1_1.out.below hb); have HT2k := Lib.hid (Ed.cap_ow ho); have HT2 := Lib.hid (RdD.ofOw ho); obtain rfl : n2 = mHT2 := HP2.out.len.symm.trans HT2.out.len; clear ho; clear hb) | (go_at_call 18; (with_reducible refine (Ub.spec_unbroken_any _ _ _ _ _ _ _ _ _ _ _ _ _ _ _ _ _ _ _ _ _ _ _ _ _ _ _ HG0_3.out HT0_0.out HT0_1.out HT0_2.out HT1_0.out HT1_1.out HT2.out HT1k_0.out (by rw [HM1.out]; omega)).mono ?_); rintro e w9 ⟨rfl, hb⟩; replace HB := Lib.hid (below_on HB.out hb); replace HX0 := Lib.hid (HX0.out.below hb); replace HX1 := Lib.hid (HX1.out.below hb); replace HT0_0 := Lib.hid (HT0_0.out.below hb); replace HT0_1 := Lib.hid (HT0_1.out.below hb); replace HT0_2 := Lib.hid (HT0_2.out.below hb); replace HT1_0 := Lib.hid (HT1_0.out.below hb); replace HT1_1 := Lib.hid (HT1_1.out.below hb); replace HT2 := Lib.hid (HT2.out.below hb); clear hb))
  clear j0_0 j0_1 j0_2 j0_3 j0_4
  clear j1_0 j1_1
  clear HT0_0
  clear HT0_1
  clear HT0_2
  clear HT1_0
  clear HT1_1
  clear HT2
  obtain ⟨i0, i1, i2, i3, i4⟩ := DpFrame.bxc HX0.out
  go_wp2_with fail
  refine (DpFrame.toK_any _ _ _ _ _ _ _ _ _ _ _ _ _ _ _ (HP0_0.out.below HB.out) (HP0_1.out.below HB.out) (HP0_2.out.below HB.out) (by rw [HM0.out]; omega)).mono ?_
  rintro e w10 ⟨qHU0_0, dHU0_0, qHU0_1, dHU0_1, qHU0_2, dHU0_2, rfl, ho0, ho1, ho2, hk0, hk1, hk2, hb⟩
  replace HB := Lib.hid (below_on HB.out hb)
  replace HX0 := Lib.hid (HX0.out.below hb)
  replace HX1 := Lib.hid (HX1.out.below hb)
  have HU0_0 := Lib.hid ho0
  have HU0_1 := Lib.hid ho1
  have HU0_2 := Lib.hid ho2
  have HU0k_0 := Lib.hid hk0
  have HU0k_1 := Lib.hid hk1
  have HU0k_2 := Lib.hid hk2
  clear ho0 ho1 ho2
  clear hk0 hk1 hk2
  clear hb
  clear i0 i1 i2 i3 i4
  have HS0 := Lib.hid (Bx.new w10 39 #[.slice qHU0_0 n0_0 dHU0_0, .slice qHU0_1 n0_1 dHU0_1, .slice qHU0_2 n0_2 dHU0_2, .int .i64 x0_3, .int .i64 x0_4])
  have lHS0 := HS0.out.lt
  replace HB := Lib.hid (HB.out.alloc HB.out.size (.cells #[.slice qHU0_0 n0_0 dHU0_0, .slice qHU0_1 n0_1 dHU0_1, .slice qHU0_2 n0_2 dHU0_2, .int .i64 x0_3, .int .i64 x0_4] 39))
  replace HX0 := Lib.hid (HX0.out.alloc (.cells #[.slice qHU0_0 n0_0 dHU0_0, .slice qHU0_1 n0_1 dHU0_1, .slice qHU0_2 n0_2 dHU0_2, .int .i64 x0_3, .int .i64 x0_4] 39))
  replace HX1 := Lib.hid (HX1.out.alloc (.cells #[.slice qHU0_0 n0_0 dHU0_0, .slice qHU0_1 n0_1 dHU0_1, .slice qHU0_2 n0_2 dHU0_2, .int .i64 x0_3, .int .i64 x0_4] 39))
  replace HU0_0 := Lib.hid (HU0_0.out.alloc (.cells #[.slice qHU0_0 n0_0 dHU0_0, .slice qHU0_1 n0_1 dHU0_1, .slice qHU0_2 n0_2 dHU0_2, .int .i64 x0_3, .int .i64 x0_4] 39))
  replace HU0_1 := Lib.hid (HU0_1.out.alloc (.cells #[.slice qHU0_0 n0_0 dHU0_0, .slice qHU0_1 n0_1 dHU0_1, .slice qHU0_2 n0_2 dHU0_2, .int .i64 x0_3, .int .i64 x0_4] 39))
  replace HU0_2 := Lib.hid (HU0_2.out.alloc (.cells #[.slice qHU0_0 n0_0 dHU0_0, .slice qHU0_1 n0_1 dHU0_1, .slice qHU0_2 n0_2 dHU0_2, .int .i64 x0_3, .int .i64 x0_4] 39))
  obtain ⟨i0, i1⟩ := DpStrand.bxc HX1.out
  go_wp2_with fail
  refine (DpStrand.toK_any _ _ _ _ _ _ _ _ _ (HP1_0.out.below HB.out) (HP1_1.out.below HB.out) (by rw [HM1.out]; omega)).mono ?_
  rintro e w11 ⟨qHU1_0, dHU1_0, qHU1_1, dHU1_1, rfl, ho0, ho1, hk0, hk1, hb⟩
  replace HB := Lib.hid (below_on HB.out hb)
  replace HX0 := Lib.hid (HX0.out.below hb)
  replace HX1 := Lib.hid (HX1.out.below hb)
  replace HU0_0 := Lib.hid (HU0_0.out.below hb)
  replace HU0_1 := Lib.hid (HU0_1.out.below hb)
  replace HU0_2 := Lib.hid (HU0_2.out.below hb)
  replace HS0 := Lib.hid (HS0.out.below hb)
  have HU1_0 := Lib.hid ho0
  have HU1_1 := Lib.hid ho1
  have HU1k_0 := Lib.hid hk0
  have HU1k_1 := Lib.hid hk1
  clear ho0 ho1
  clear hk0 hk1
  clear hb
  clear i0 i1
  have HS1 := Lib.hid (Bx.new w11 44 #[.slice qHU1_0 n1_0 dHU1_0, .slice qHU1_1 n1_1 dHU1_1])
  have lHS1 := HS1.out.lt
  replace HB := Lib.hid (HB.out.alloc HB.out.size (.cells #[.slice qHU1_0 n1_0 dHU1_0, .slice qHU1_1 n1_1 dHU1_1] 44))
  replace HX0 := Lib.hid (HX0.out.alloc (.cells #[.slice qHU1_0 n1_0 dHU1_0, .slice qHU1_1 n1_1 dHU1_1] 44))
  replace HX1 := Lib.hid (HX1.out.alloc (.cells #[.slice qHU1_0 n1_0 dHU1_0, .slice qHU1_1 n1_1 dHU1_1] 44))
  replace HU0_0 := Lib.hid (HU0_0.out.alloc (.cells #[.slice qHU1_0 n1_0 dHU1_0, .slice qHU1_1 n1_1 dHU1_1] 44))
  replace HU0_1 := Lib.hid (HU0_1.out.alloc (.cells #[.slice qHU1_0 n1_0 dHU1_0, .slice qHU1_1 n1_1 dHU1_1] 44))
  replace HU0_2 := Lib.hid (HU0_2.out.alloc (.cells #[.slice qHU1_0 n1_0 dHU1_0, .slice qHU1_1 n1_1 dHU1_1] 44))
  replace HS0 := Lib.hid (HS0.out.alloc (.cells #[.slice qHU1_0 n1_0 dHU1_0, .slice qHU1_1 n1_1 dHU1_1] 44))
  replace HU1_0 := Lib.hid (HU1_0.out.alloc (.cells #[.slice qHU1_0 n1_0 dHU1_0, .slice qHU1_1 n1_1 dHU1_1] 44))
  replace HU1_1 := Lib.hid (HU1_1.out.alloc (.cells #[.slice qHU1_0 n1_0 dHU1_0, .slice qHU1_1 n1_1 dHU1_1] 44))
  go_wp2_with fail
  refine (SlI.to_any _ _ _ _ _ (HP2.out.below HB.out).ints (by omega)).mono ?_
  rintro e w12 ⟨qHU2, mHU2, dHU2, rfl, ho, hb⟩
  replace HB := Lib.hid (below_on HB.out hb)
  replace HX0 := Lib.hid (HX0.out.below hb)
  replace HX1 := Lib.hid (HX1.out.below hb)
  replace HU0_0 := Lib.hid (HU0_0.out.below hb)
  replace HU0_1 := Lib.hid (HU0_1.out.below hb)
  replace HU0_2 := Lib.hid (HU0_2.out.below hb)
  replace HS0 := Lib.hid (HS0.out.below hb)
  replace HU1_0 := Lib.hid (HU1_0.out.below hb)
  replace HU1_1 := Lib.hid (HU1_1.out.below hb)
  replace HS1 := Lib.hid (HS1.out.below hb)
  have HU2k := Lib.hid (Ed.cap_ow ho)
  have HU2 := Lib.hid (RdD.ofOw ho)
  obtain rfl : n2 = mHU2 := HP2.out.len.symm.trans HU2.out.len
  clear ho
  clear hb
  obtain ⟨k0_0, k0_1, k0_2, k0_3, k0_4⟩ := DpFrame.bxc HS0.out
  obtain ⟨k1_0, k1_1⟩ := DpStrand.bxc HS1.out
  go_wp2_with fail
  refine (Ub.unbroken_any _ _ _ _ _ _ _ _ _ _ _ _ _ _ _ _ _ _ _ _ _ _ _ _ _ _ _ HG0_3.out HU0_0.out HU0_1.out HU0_2.out HU1_0.out HU1_1.out HU2.out HU1k_0.out (by rw [HM1.out]; omega)).mono ?_
  rintro e w13 ⟨rfl, hb⟩
  replace HB := Lib.hid (below_on HB.out hb)
  replace HX0 := Lib.hid (HX0.out.below hb)
  replace HX1 := Lib.hid (HX1.out.below hb)
  replace HU0_0 := Lib.hid (HU0_0.out.below hb)
  replace HU0_1 := Lib.hid (HU0_1.out.below hb)
  replace HU0_2 := Lib.hid (HU0_2.out.below hb)
  replace HS0 := Lib.hid (HS0.out.below hb)
  replace HU1_0 := Lib.hid (HU1_0.out.below hb)
  replace HU1_1 := Lib.hid (HU1_1.out.below hb)
  replace HS1 := Lib.hid (HS1.out.below hb)
  replace HU2 := Lib.hid (HU2.out.below hb)
  clear hb
  clear k0_0 k0_1 k0_2 k0_3 k0_4
  clear k1_0 k1_1
  obtain ⟨j0_0, j0_1, j0_2, j0_3, j0_4⟩ := DpFrame.bxc HS0.out
  obtain ⟨j1_0, j1_1, j1_2, j1_3, j1_4⟩ := DpFrame.bxc HX0.out
  go_wp2_with fail
  replace HB := Lib.hid (drewB HB.out)
  replace HX0 := Lib.hid (HX0.out.below (drewB (Below.refl _ _)))
  replace HX1 := Lib.hid (HX1.out.below (drewB (Below.refl _ _)))
  replace HU0_0 := Lib.hid (HU0_0.out.below (drewB (Below.refl _ _)))
  replace HU0_1 := Lib.hid (HU0_1.out.below (drewB (Below.refl _ _)))
  replace HU0_2 := Lib.hid (HU0_2.out.below (drewB (Below.refl _ _)))
  replace HS0 := Lib.hid (HS0.out.below (drewB (Below.refl _ _)))
  replace HU1_0 := Lib.hid (HU1_0.out.below (drewB (Below.refl _ _)))
  replace HU1_1 := Lib.hid (HU1_1.out.below (drewB (Below.refl _ _)))
  replace HS1 := Lib.hid (HS1.out.below (drewB (Below.refl _ _)))
  replace HU2 := Lib.hid (HU2.out.below (drewB (Below.refl _ _)))
  go_region_held3 (fun w' => (w'.cell? ⟨w10.heap.size, 0, none⟩ = some (.slice qHU0_0 n0_0 dHU0_0) ∧ w'.cell? ⟨w10.heap.size, 1, none⟩ = some (.slice qHU0_1 n0_1 dHU0_1) ∧ w'.cell? ⟨w10.heap.size, 2, none⟩ = some (.slice qHU0_2 n0_2 dHU0_2) ∧ w'.cell? ⟨w10.heap.size, 3, none⟩ = some (.int .i64 x0_3) ∧ w'.cell? ⟨w10.heap.size, 4, none⟩ = some (.int .i64 x0_4)) ∧ w'.cell? ⟨W.heap.size, 0, none⟩ = some (.slice p0_0 n0_0 c0_0) ∧ w'.cell? ⟨W.heap.size, 1, none⟩ = some (.slice p0_1 n0_1 c0_1) ∧ w'.cell? ⟨W.heap.size, 2, none⟩ = some (.slice p0_2 n0_2 c0_2) ∧ w'.cell? ⟨W.heap.size, 3, none⟩ = some (.int .i64 x0_3) ∧ w'.cell? ⟨W.heap.size, 4, none⟩ = some (.int .i64 x0_4)) (first | exact ⟨DpFrame.bxc HS0.out, DpFrame.bxc HX0.out⟩ | go_keep) (first | (go_at_call 11; (with_reducible refine (DpFrame.toK_any _ _ _ _ _ _ _ _ _ _ _ _ _ _ _ (HP0_0.out.below HB.out) (HP0_1.out.below HB.out) (HP0_2.out.below HB.out) (by rw [HM0.out]; omega)).mono ?_); rintro e w14 ⟨qHY0_0, dHY0_0, qHY0_1, dHY0_1, qHY0_2, dHY0_2, rfl, ho0, ho1, ho2, hk0, hk1, hk2, hb⟩; replace HB := Lib.hid (below_on HB.out hb); replace HX0 := Lib.hid (HX0.out.below hb); replace HX1 := Lib.hid (HX1.out.below hb); replace HU0_0 := Lib.hid (HU0_0.out.below hb); replace HU0_1 := Lib.hid (HU0_1.out.below hb); replace HU0_2 := Lib.hid (HU0_2.out.below hb); replace HS0 := Lib.hid (HS0.out.below hb); replace HU1_0 := Lib.hid (HU1_0.out.below hb); replace HU1_1 := Lib.hid (HU1_1.out.below hb); replace HS1 := Lib.hid (HS1.out.below hb); replace HU2 := Lib.hid (HU2.out.below hb); have HY0_0 := Lib.hid ho0; have HY0_1 := Lib.hid ho1; have HY0_2 := Lib.hid ho2; have HY0k_0 := Lib.hid hk0; have HY0k_1 := Lib.hid hk1; have HY0k_2 := Lib.hid hk2; clear ho0 ho1 ho2; clear hk0 hk1 hk2; clear hb) | (go_at_call 15; (with_reducible refine (DpFrame.eq_any _ _ _ _ _ _ _ _ _ _ _ _ _ _ _ _ _ _ _ _ _ HU0_0.out HY0_0.out HU0_1.out HY0_1.out HU0_2.out HY0_2.out).mono ?_); rintro e w15 ⟨rfl, hb⟩; replace HB := Lib.hid (below_on HB.out hb); replace HX0 := Lib.hid (HX0.out.below hb); replace HX1 := Lib.hid (HX1.out.below hb); replace HU0_0 := Lib.hid (HU0_0.out.below hb); replace HU0_1 := Lib.hid (HU0_1.out.below hb); replace HU0_2 := Lib.hid (HU0_2.out.below hb); replace HS0 := Lib.hid (HS0.out.below hb); replace HU1_0 := Lib.hid (HU1_0.out.below hb); replace HU1_1 := Lib.hid (HU1_1.out.below hb); replace HS1 := Lib.hid (HS1.out.below hb); replace HU2 := Lib.hid (HU2.out.below hb); replace HY0_0 := Lib.hid (HY0_0.out.below hb); replace HY0_1 := Lib.hid (HY0_1.out.below hb); replace HY0_2 := Lib.hid (HY0_2.out.below hb); clear hb))
  clear j0_0 j0_1 j0_2 j0_3 j0_4
  clear j1_0 j1_1 j1_2 j1_3 j1_4
  clear HY0_0
  clear HY0_1
  clear HY0_2
  obtain ⟨j0_0, j0_1⟩ := DpStrand.bxc HS1.out
  obtain ⟨j1_0, j1_1⟩ := DpStrand.bxc HX1.out
  go_wp2_with fail
  replace HB := Lib.hid (drewB HB.out)
  replace HX0 := Lib.hid (HX0.out.below (drewB (Below.refl _ _)))
  replace HX1 := Lib.hid (HX1.out.below (drewB (Below.refl _ _)))
  replace HU0_0 := Lib.hid (HU0_0.out.below (drewB (Below.refl _ _)))
  replace HU0_1 := Lib.hid (HU0_1.out.below (drewB (Below.refl _ _)))
  replace HU0_2 := Lib.hid (HU0_2.out.below (drewB (Below.refl _ _)))
  replace HS0 := Lib.hid (HS0.out.below (drewB (Below.refl _ _)))
  replace HU1_0 := Lib.hid (HU1_0.out.below (drewB (Below.refl _ _)))
  replace HU1_1 := Lib.hid (HU1_1.out.below (drewB (Below.refl _ _)))
  replace HS1 := Lib.hid (HS1.out.below (drewB (Below.refl _ _)))
  replace HU2 := Lib.hid (HU2.out.below (drewB (Below.refl _ _)))
  go_region_held3 (fun w' => (w'.cell? ⟨w11.heap.size, 0, none⟩ = some (.slice qHU1_0 n1_0 dHU1_0) ∧ w'.cell? ⟨w11.heap.size, 1, none⟩ = some (.slice qHU1_1 n1_1 dHU1_1)) ∧ w'.cell? ⟨W.heap.size + 1, 0, none⟩ = some (.slice p1_0 n1_0 c1_0) ∧ w'.cell? ⟨W.heap.size + 1, 1, none⟩ = some (.slice p1_1 n1_1 c1_1)) (first | exact ⟨DpStrand.bxc HS1.out, DpStrand.bxc HX1.out⟩ | go_keep) (first | (go_at_call 12; (with_reducible refine (DpStrand.toK_any _ _ _ _ _ _ _ _ _ (HP1_0.out.below HB.out) (HP1_1.out.below HB.out) (by rw [HM1.out]; omega)).mono ?_); rintro e w16 ⟨qHY1_0, dHY1_0, qHY1_1, dHY1_1, rfl, ho0, ho1, hk0, hk1, hb⟩; replace HB := Lib.hid (below_on HB.out hb); replace HX0 := Lib.hid (HX0.out.below hb); replace HX1 := Lib.hid (HX1.out.below hb); replace HU0_0 := Lib.hid (HU0_0.out.below hb); replace HU0_1 := Lib.hid (HU0_1.out.below hb); replace HU0_2 := Lib.hid (HU0_2.out.below hb); replace HS0 := Lib.hid (HS0.out.below hb); replace HU1_0 := Lib.hid (HU1_0.out.below hb); replace HU1_1 := Lib.hid (HU1_1.out.below hb); replace HS1 := Lib.hid (HS1.out.below hb); replace HU2 := Lib.hid (HU2.out.below hb); have HY1_0 := Lib.hid ho0; have HY1_1 := Lib.hid ho1; have HY1k_0 := Lib.hid hk0; have HY1k_1 := Lib.hid hk1; clear ho0 ho1; clear hk0 hk1; clear hb) | (go_at_call 16; (with_reducible refine (DpStrand.eq_any _ _ _ _ _ _ _ _ _ _ _ _ _ HU1_0.out HY1_0.out HU1_1.out HY1_1.out).mono ?_); rintro e w17 ⟨rfl, hb⟩; replace HB := Lib.hid (below_on HB.out hb); replace HX0 := Lib.hid (HX0.out.below hb); replace HX1 := Lib.hid (HX1.out.below hb); replace HU0_0 := Lib.hid (HU0_0.out.below hb); replace HU0_1 := Lib.hid (HU0_1.out.below hb); replace HU0_2 := Lib.hid (HU0_2.out.below hb); replace HS0 := Lib.hid (HS0.out.below hb); replace HU1_0 := Lib.hid (HU1_0.out.below hb); replace HU1_1 := Lib.hid (HU1_1.out.below hb); replace HS1 := Lib.hid (HS1.out.below hb); replace HU2 := Lib.hid (HU2.out.below hb); replace HY1_0 := Lib.hid (HY1_0.out.below hb); replace HY1_1 := Lib.hid (HY1_1.out.below hb); clear hb))
  clear j0_0 j0_1
  clear j1_0 j1_1
  clear HY1_0
  clear HY1_1
  go_wp2_with fail
  refine (SlI.to_any _ _ _ _ _ (HP2.out.below HB.out).ints (by omega)).mono ?_
  rintro e w18 ⟨qHY2, mHY2, dHY2, rfl, ho, hb⟩
  replace HB := Lib.hid (below_on HB.out hb)
  replace HX0 := Lib.hid (HX0.out.below hb)
  replace HX1 := Lib.hid (HX1.out.below hb)
  replace HU0_0 := Lib.hid (HU0_0.out.below hb)
  replace HU0_1 := Lib.hid (HU0_1.out.below hb)
  replace HU0_2 := Lib.hid (HU0_2.out.below hb)
  replace HS0 := Lib.hid (HS0.out.below hb)
  replace HU1_0 := Lib.hid (HU1_0.out.below hb)
  replace HU1_1 := Lib.hid (HU1_1.out.below hb)
  replace HS1 := Lib.hid (HS1.out.below hb)
  replace HU2 := Lib.hid (HU2.out.below hb)
  have HY2k := Lib.hid (Ed.cap_ow ho)
  have HY2 := Lib.hid (RdD.ofOw ho)
  obtain rfl : n2 = mHY2 := HP2.out.len.symm.trans HY2.out.len
  clear ho
  clear hb
  go_wp2_with fail
  refine (SlI.eq_any _ _ _ _ _ _ _ HU2.out.ints HY2.out.ints).mono ?_
  rintro e w19 ⟨rfl, hb⟩
  replace HB := Lib.hid (below_on HB.out hb)
  replace HX0 := Lib.hid (HX0.out.below hb)
  replace HX1 := Lib.hid (HX1.out.below hb)
  replace HU0_0 := Lib.hid (HU0_0.out.below hb)
  replace HU0_1 := Lib.hid (HU0_1.out.below hb)
  replace HU0_2 := Lib.hid (HU0_2.out.below hb)
  replace HS0 := Lib.hid (HS0.out.below hb)
  replace HU1_0 := Lib.hid (HU1_0.out.below hb)
  replace HU1_1 := Lib.hid (HU1_1.out.below hb)
  replace HS1 := Lib.hid (HS1.out.below hb)
  replace HU2 := Lib.hid (HU2.out.below hb)
  replace HY2 := Lib.hid (HY2.out.below hb)
  clear hb
  clear HY2
  go_wp2_with fail
  go_ret
  exact ⟨rfl, HB.out⟩
end Go.Proofs.YtfojilogcecphaaGreat.fnExactIsUnbroken
