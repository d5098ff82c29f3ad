/- The walk of the law FnExactPlanAuthorities. -/
import Derived.Test.YtlipcnaimpplpaaEd
import Derived.Test.YtlipcnaimpplpaaDz
import Derived.Test.YtlipcnaimpplpaaSlI
import Derived.Test.YtlipcnaimpplpaaDpFrame
import Derived.Test.YtlipcnaimpplpaaPa
import Derived.Test.YtlipcnaimpplpaaFr
import Derived.OpenShut
import Derived.Deep.RegionHeld3
import Derived.Laws.Strings
namespace Go.Proofs.Ytlipcnaimpplpaa.fnExactPlanAuthorities
open Go.ChangeShapes Go.WideShapes Go.ChangeAt Go.RowKit Sl St Ed Pa
theorem drewB {W w : World} {B : Nat} (h : Below B W w) : Below B W w.drew := below_drewN h 1
set_option maxRecDepth 100000 in
set_option maxHeartbeats 8000000 in
theorem walk {H : Type} {enc : TypeId × Value → H} (W : World) (base : Nat)
    (v0 : Value) (d0 : DataW H) (p0 : List MemPlace) (h0 : DataW.Trod enc Try.prog W 0 (fun _ => true) true 26 v0 d0 p0) (k0 : Value.okWide Try.prog W .any base 26 v0)
    (_hsz : (DataW.weightsEach Try.prog [26] [d0]).all (· ≤ reachBytes) = true) :
    Calls Try.prog 3 #[v0] W fun e w' => e = .returned (.bool true) ∧ Below W.heap.size W w' := by
  obtain ⟨l0_0, l0_1, l0_2, x0_3, x0_4, p0_0, n0_0, c0_0, p0_1, n0_1, c0_1, p0_2, n0_2, c0_2, rfl, h0_0, h0_1, h0_2, b0_3, b0_4⟩ := DpFrame.open_val h0 k0
  have HP0_0 := Lib.hid h0_0
  have HP0_1 := Lib.hid h0_1
  have HP0_2 := Lib.hid h0_2
  have HG0_3 := Lib.hid b0_3
  have HG0_4 := Lib.hid b0_4
  have hn0_0 := h0_0.le
  have hn0_1 := h0_1.le
  have hn0_2 := h0_2.le
  clear h0_0 h0_1 h0_2 b0_3 b0_4
  clear h0 k0
  clear _hsz
  have HB := Lib.hid (Below.refl W.heap.size W)
  have HX0 := Lib.hid (Bx.new W 26 #[.slice p0_0 n0_0 c0_0, .slice p0_1 n0_1 c0_1, .slice p0_2 n0_2 c0_2, .int .i64 x0_3, .int .i64 x0_4])
  replace HB := Lib.hid (HB.out.alloc HB.out.size (.cells #[.slice p0_0 n0_0 c0_0, .slice p0_1 n0_1 c0_1, .slice p0_2 n0_2 c0_2, .int .i64 x0_3, .int .i64 x0_4] 26))
  have lX0 := HX0.out.lt
  obtain ⟨m0, hm0⟩ : ∃ m : Nat, DpFrame.E.wt (l0_0, l0_1, l0_2, x0_3, x0_4) = m := ⟨_, rfl⟩
  have HM0 := Lib.hid hm0
  clear hm0
  by_cases hbig0 : 1048576 < m0
  · go_enter Try.func3, Try.ntmps3
    obtain ⟨i0, i1, i2, i3, i4⟩ := DpFrame.bxc HX0.out
    go_wp2_with fail
    refine (DpFrame.sz_big _ _ _ _ _ _ _ _ _ _ _ _ _ _ _ _ _ HM0.out (HP0_0.out.below HB.out) (HP0_1.out.below HB.out) (HP0_2.out.below HB.out) (by omega) (by omega) (by omega)).mono ?_
    rintro e w1 ⟨rfl, hb⟩
    replace HB := Lib.hid (below_on HB.out hb)
    replace HX0 := Lib.hid (HX0.out.below hb)
    clear hb
    clear i0 i1 i2 i3 i4
    go_wp2_with fail
    go_ret
    exact ⟨rfl, HB.out⟩
  go_enter Try.func3, Try.ntmps3
  obtain ⟨i0, i1, i2, i3, i4⟩ := DpFrame.bxc HX0.out
  go_wp2_with fail
  refine (DpFrame.sz_fits _ _ _ _ _ _ _ _ _ _ _ _ _ _ _ _ _ HM0.out (HP0_0.out.below HB.out) (HP0_1.out.below HB.out) (HP0_2.out.below HB.out) (by omega) (by omega)).mono ?_
  rintro e w2 ⟨rfl, hb⟩
  replace HB := Lib.hid (below_on HB.out hb)
  replace HX0 := Lib.hid (HX0.out.below hb)
  clear hb
  clear i0 i1 i2 i3 i4
  have sm0 : m0 ≤ 1048576 := by omega
  clear hbig0
  have sn0_0 : n0_0 ≤ 1048576 := by have h := HM0.out; have k := HP0_0.out.len; simp only [DpFrame.wt_eq] at h; omega
  have sn0_1 : n0_1 ≤ 1048576 := by have h := HM0.out; have k := HP0_1.out.len; simp only [DpFrame.wt_eq] at h; omega
  have sn0_2 : n0_2 ≤ 1048576 := by have h := HM0.out; have k := HP0_2.out.len; simp only [DpFrame.wt_eq] at h; omega
  obtain ⟨i0, i1, i2, i3, i4⟩ := DpFrame.bxc HX0.out
  go_wp2_with fail
  refine (DpFrame.to_any _ _ _ _ _ _ _ _ _ _ _ _ _ _ _ (HP0_0.out.below HB.out) (HP0_1.out.below HB.out) (HP0_2.out.below HB.out) (by rw [HM0.out]; omega)).mono ?_
  rintro e w3 ⟨qHT0_0, dHT0_0, qHT0_1, dHT0_1, qHT0_2, dHT0_2, rfl, ho0, ho1, ho2, hb⟩
  replace HB := Lib.hid (below_on HB.out hb)
  replace HX0 := Lib.hid (HX0.out.below hb)
  have HT0_0 := Lib.hid ho0
  have HT0_1 := Lib.hid ho1
  have HT0_2 := Lib.hid ho2
  clear ho0 ho1 ho2
  clear hb
  clear i0 i1 i2 i3 i4
  go_wp2_with fail
  refine (Pa.spec_plan_any _ _ _ _ _ _ _ _ _ _ _ _ _ _ HP0_1.out.allP _ HT0_0.out.rdS HT0_1.out.rdS HT0_2.out.rdS (by omega)).mono ?_
  rintro e w4 ⟨qHW, mHW, eHW, rfl, ho, hb⟩
  replace HB := Lib.hid (below_on HB.out hb)
  replace HX0 := Lib.hid (HX0.out.below hb)
  replace HT0_0 := Lib.hid (HT0_0.out.below hb)
  replace HT0_1 := Lib.hid (HT0_1.out.below hb)
  replace HT0_2 := Lib.hid (HT0_2.out.below hb)
  have HW := Lib.hid ho
  clear ho
  clear hb
  clear HT0_0
  clear HT0_1
  clear HT0_2
  have bL : mHW ≤ 1048576 := by have h1 := HW.out.len; have h2 := pl_len l0_0 l0_2 x0_4 l0_1; have h3 := HP0_1.out.len; omega
  have sX := HX0.out.lt
  obtain ⟨i0, i1, i2, i3, i4⟩ := DpFrame.bxc HX0.out
  go_wp2_with fail
  refine (Fr.toO_any _ _ _ _ _ _ _ _ _ _ _ _ _ _ _ (HP0_0.out.below HB.out) (HP0_1.out.below HB.out) (HP0_2.out.below HB.out) (by omega) (by omega) (by omega)).mono ?_
  rintro e w5 ⟨qHU0_0, dHU0_0, qHU0_1, dHU0_1, qHU0_2, dHU0_2, t1, t2, rfl, ho0, ho1, ho2, ht, hb⟩
  replace HB := Lib.hid (below_on HB.out hb)
  replace HX0 := Lib.hid (HX0.out.below hb)
  replace HW := Lib.hid (HW.out.below hb)
  have HU0_0 := Lib.hid ho0
  have HU0_1 := Lib.hid ho1
  have HU0_2 := Lib.hid ho2
  have HD0_0 := Lib.hid (RdD.ofOwS ho0 HP0_0.out.allP)
  have HD0_1 := Lib.hid (RdD.ofOwS ho1 HP0_1.out.allP)
  have HD0_2 := Lib.hid (RdD.ofOwS ho2 HP0_2.out.allP)
  clear ho0 ho1 ho2
  obtain ⟨t_1, t_2, t_3⟩ := ht
  clear hb
  clear i0 i1 i2 i3 i4
  have HS0 := Lib.hid (Bx.new w5 34 #[.slice qHU0_0 n0_0 dHU0_0, .slice qHU0_1 n0_1 dHU0_1, .slice qHU0_2 n0_2 dHU0_2, .int .i64 x0_3, .int .i64 x0_4])
  have lHS0 := HS0.out.lt
  replace HB := Lib.hid (HB.out.alloc HB.out.size (.cells #[.slice qHU0_0 n0_0 dHU0_0, .slice qHU0_1 n0_1 dHU0_1, .slice qHU0_2 n0_2 dHU0_2, .int .i64 x0_3, .int .i64 x0_4] 34))
  replace HX0 := Lib.hid (HX0.out.alloc (.cells #[.slice qHU0_0 n0_0 dHU0_0, .slice qHU0_1 n0_1 dHU0_1, .slice qHU0_2 n0_2 dHU0_2, .int .i64 x0_3, .int .i64 x0_4] 34))
  replace HW := Lib.hid (HW.out.alloc (.cells #[.slice qHU0_0 n0_0 dHU0_0, .slice qHU0_1 n0_1 dHU0_1, .slice qHU0_2 n0_2 dHU0_2, .int .i64 x0_3, .int .i64 x0_4] 34))
  replace HU0_0 := Lib.hid (HU0_0.out.alloc (.cells #[.slice qHU0_0 n0_0 dHU0_0, .slice qHU0_1 n0_1 dHU0_1, .slice qHU0_2 n0_2 dHU0_2, .int .i64 x0_3, .int .i64 x0_4] 34))
  replace HU0_1 := Lib.hid (HU0_1.out.alloc (.cells #[.slice qHU0_0 n0_0 dHU0_0, .slice qHU0_1 n0_1 dHU0_1, .slice qHU0_2 n0_2 dHU0_2, .int .i64 x0_3, .int .i64 x0_4] 34))
  replace HU0_2 := Lib.hid (HU0_2.out.alloc (.cells #[.slice qHU0_0 n0_0 dHU0_0, .slice qHU0_1 n0_1 dHU0_1, .slice qHU0_2 n0_2 dHU0_2, .int .i64 x0_3, .int .i64 x0_4] 34))
  replace HD0_0 := Lib.hid (HD0_0.out.alloc (.cells #[.slice qHU0_0 n0_0 dHU0_0, .slice qHU0_1 n0_1 dHU0_1, .slice qHU0_2 n0_2 dHU0_2, .int .i64 x0_3, .int .i64 x0_4] 34))
  replace HD0_1 := Lib.hid (HD0_1.out.alloc (.cells #[.slice qHU0_0 n0_0 dHU0_0, .slice qHU0_1 n0_1 dHU0_1, .slice qHU0_2 n0_2 dHU0_2, .int .i64 x0_3, .int .i64 x0_4] 34))
  replace HD0_2 := Lib.hid (HD0_2.out.alloc (.cells #[.slice qHU0_0 n0_0 dHU0_0, .slice qHU0_1 n0_1 dHU0_1, .slice qHU0_2 n0_2 dHU0_2, .int .i64 x0_3, .int .i64 x0_4] 34))
  have sV : (w5.alloc (.cells #[.slice qHU0_0 n0_0 dHU0_0, .slice qHU0_1 n0_1 dHU0_1, .slice qHU0_2 n0_2 dHU0_2, .int .i64 x0_3, .int .i64 x0_4] 34)).heap.size = w5.heap.size + 1 := by rw [World.size_alloc]
  obtain ⟨k0_0, k0_1, k0_2, k0_3, k0_4⟩ := DpFrame.bxc HS0.out
  go_wp2_with fail
  refine (Pa.plan_any _ _ _ _ _ _ _ _ _ _ _ _ _ _ HP0_0.out.allP HP0_1.out.allP HP0_2.out.allP _ HD0_0.out.rdS HD0_1.out.rdS HD0_2.out.rdS (by omega)).mono ?_
  rintro e w6 ⟨qHG, mHG, eHG, rfl, ho, hb⟩
  replace HB := Lib.hid (below_on HB.out hb)
  replace HX0 := Lib.hid (HX0.out.below hb)
  replace HW := Lib.hid (HW.out.below hb)
  replace HU0_0 := Lib.hid (HU0_0.out.below hb)
  replace HU0_1 := Lib.hid (HU0_1.out.below hb)
  replace HU0_2 := Lib.hid (HU0_2.out.below hb)
  replace HD0_0 := Lib.hid (HD0_0.out.below hb)
  replace HD0_1 := Lib.hid (HD0_1.out.below hb)
  replace HD0_2 := Lib.hid (HD0_2.out.below hb)
  replace HS0 := Lib.hid (HS0.out.below hb)
  have HG := Lib.hid ho
  clear ho
  clear hb
  clear k0_0 k0_1 k0_2 k0_3 k0_4
  obtain rfl : mHW = mHG := HW.out.len.symm.trans HG.out.len
  go_wp2_with fail
  refine (SlI.eq_any _ _ _ _ _ _ _ HG.out.rd HW.out.rd).mono ?_
  rintro e w7 ⟨rfl, hb⟩
  replace HB := Lib.hid (below_on HB.out hb)
  replace HX0 := Lib.hid (HX0.out.below hb)
  replace HW := Lib.hid (HW.out.below hb)
  replace HU0_0 := Lib.hid (HU0_0.out.below hb)
  replace HU0_1 := Lib.hid (HU0_1.out.below hb)
  replace HU0_2 := Lib.hid (HU0_2.out.below hb)
  replace HD0_0 := Lib.hid (HD0_0.out.below hb)
  replace HD0_1 := Lib.hid (HD0_1.out.below hb)
  replace HD0_2 := Lib.hid (HD0_2.out.below hb)
  replace HS0 := Lib.hid (HS0.out.below hb)
  replace HG := Lib.hid (HG.out.below hb)
  clear hb
  obtain ⟨j0_0, j0_1, j0_2, j0_3, j0_4⟩ := DpFrame.bxc HS0.out
  obtain ⟨j1_0, j1_1, j1_2, j1_3, j1_4⟩ := DpFrame.bxc HX0.out
  go_wp2_with fail
  replace HB := Lib.hid (drewB HB.out)
  replace HX0 := Lib.hid (HX0.out.below (drewB (Below.refl _ _)))
  replace HW := Lib.hid (HW.out.below (drewB (Below.refl _ _)))
  replace HU0_0 := Lib.hid (HU0_0.out.below (drewB (Below.refl _ _)))
  replace HU0_1 := Lib.hid (HU0_1.out.below (drewB (Below.refl _ _)))
  replace HU0_2 := Lib.hid (HU0_2.out.below (drewB (Below.refl _ _)))
  replace HD0_0 := Lib.hid (HD0_0.out.below (drewB (Below.refl _ _)))
  replace HD0_1 := Lib.hid (HD0_1.out.below (drewB (Below.refl _ _)))
  replace HD0_2 := Lib.hid (HD0_2.out.below (drewB (Below.refl _ _)))
  replace HS0 := Lib.hid (HS0.out.below (drewB (Below.refl _ _)))
  replace HG := Lib.hid (HG.out.below (drewB (Below.refl _ _)))
  go_region_held3 (fun w' => (w'.cell? ⟨w5.heap.size, 0, none⟩ = some (.slice qHU0_0 n0_0 dHU0_0) ∧ w'.cell? ⟨w5.heap.size, 1, none⟩ = some (.slice qHU0_1 n0_1 dHU0_1) ∧ w'.cell? ⟨w5.heap.size, 2, none⟩ = some (.slice qHU0_2 n0_2 dHU0_2) ∧ w'.cell? ⟨w5.heap.size, 3, none⟩ = some (.int .i64 x0_3) ∧ w'.cell? ⟨w5.heap.size, 4, none⟩ = some (.int .i64 x0_4)) ∧ w'.cell? ⟨W.heap.size, 0, none⟩ = some (.slice p0_0 n0_0 c0_0) ∧ w'.cell? ⟨W.heap.size, 1, none⟩ = some (.slice p0_1 n0_1 c0_1) ∧ w'.cell? ⟨W.heap.size, 2, none⟩ = some (.slice p0_2 n0_2 c0_2) ∧ w'.cell? ⟨W.heap.size, 3, none⟩ = some (.int .i64 x0_3) ∧ w'.cell? ⟨W.heap.size, 4, none⟩ = some (.int .i64 x0_4)) (first | exact ⟨DpFrame.bxc HS0.out, DpFrame.bxc HX0.out⟩ | go_keep) (first | (go_at_call 8; (with_reducible refine (DpFrame.to_any _ _ _ _ _ _ _ _ _ _ _ _ _ _ _ (HP0_0.out.below HB.out) (HP0_1.out.below HB.out) (HP0_2.out.below HB.out) (by rw [HM0.out]; omega)).mono ?_); rintro e w8 ⟨qHY0_0, dHY0_0, qHY0_1, dHY0_1, qHY0_2, dHY0_2, rfl, ho0, ho1, ho2, hb⟩; replace HB := Lib.hid (below_on HB.out hb); replace HX0 := Lib.hid (HX0.out.below hb); replace HW := Lib.hid (HW.out.below hb); replace HU0_0 := Lib.hid (HU0_0.out.below hb); replace HU0_1 := Lib.hid (HU0_1.out.below hb); replace HU0_2 := Lib.hid (HU0_2.out.below hb); replace HD0_0 := Lib.hid (HD0_0.out.below hb); replace HD0_1 := Lib.hid (HD0_1.out.below hb); replace HD0_2 := Lib.hid (HD0_2.out.below hb); replace HS0 := Lib.hid (HS0.out.below hb); replace HG := Lib.hid (HG.out.below hb); have HY0_0 := Lib.hid ho0; have HY0_1 := Lib.hid ho1; have HY0_2 := Lib.hid ho2; clear ho0 ho1 ho2; clear hb) | (go_at_call 11; (with_reducible refine (DpFrame.eq_any _ _ _ _ _ _ _ _ _ _ _ _ _ _ _ _ _ _ _ _ _ HD0_0.out HY0_0.out HD0_1.out HY0_1.out HD0_2.out HY0_2.out).mono ?_); rintro e w9 ⟨rfl, hb⟩; replace HB := Lib.hid (below_on HB.out hb); replace HX0 := Lib.hid (HX0.out.below hb); replace HW := Lib.hid (HW.out.below hb); replace HU0_0 := Lib.hid (HU0_0.out.below hb); replace HU0_1 := Lib.hid (HU0_1.out.below hb); replace HU0_2 := Lib.hid (HU0_2.out.below hb); replace HD0_0 := Lib.hid (HD0_0.out.below hb); replace HD0_1 := Lib.hid (HD0_1.out.below hb); replace HD0_2 := Lib.hid (HD0_2.out.below hb); replace HS0 := Lib.hid (HS0.out.below hb); replace HG := Lib.hid (HG.out.below hb); replace HY0_0 := Lib.hid (HY0_0.out.below hb); replace HY0_1 := Lib.hid (HY0_1.out.below hb); replace HY0_2 := Lib.hid (HY0_2.out.below hb); clear hb))
  clear j0_0 j0_1 j0_2 j0_3 j0_4
  clear j1_0 j1_1 j1_2 j1_3 j1_4
  clear HY0_0
  clear HY0_1
  clear HY0_2
  clear HD0_0
  clear HD0_1
  clear HD0_2
  have bHW := HW.out.le
  have bHG := HG.out.le
  obtain ⟨k0_0, k0_1, k0_2, k0_3, k0_4⟩ := DpFrame.bxc HS0.out
  go_wp2_with fail
  refine (Fr.markF_any _ _ _ _ _ _ _ _ _ _ _ _ _ _ _ _ _ _ _ _ _ _ HU0_0.out HU0_1.out HU0_2.out (Nat.le_refl _) (Nat.le_refl _) (by omega) (by omega) (by omega)).mono ?_
  rintro e w10 ⟨rfl, wa, wb, ga, gb, gc⟩
  clear k0_0 k0_1 k0_2 k0_3 k0_4
  have A1 := Lib.hid (HU0_1.out.apart HU0_0.out ga (Or.inr (Nat.le_refl _)))
  have A2 := Lib.hid (HU0_2.out.apart HU0_0.out ga (Or.inr t_2))
  have B2 := Lib.hid (A2.out.apart A1.out gb (Or.inr (Nat.le_refl _)))
  replace HB := Lib.hid (below_rowS HB.out HU0_0.out ga (by omega))
  replace HB := Lib.hid (below_rowS HB.out A1.out gb (by omega))
  replace HB := Lib.hid (below_rowS HB.out B2.out gc (by omega))
  replace HW := Lib.hid (HW.out.kept ga (fun g e => by have := HU0_0.out.far g e; omega))
  replace HW := Lib.hid (HW.out.kept gb (fun g e => by have := A1.out.far g e; omega))
  replace HW := Lib.hid (HW.out.kept gc (fun g e => by have := B2.out.far g e; omega))
  replace HG := Lib.hid (HG.out.kept ga (fun g e => by have := HU0_0.out.far g e; omega))
  replace HG := Lib.hid (HG.out.kept gb (fun g e => by have := A1.out.far g e; omega))
  replace HG := Lib.hid (HG.out.kept gc (fun g e => by have := B2.out.far g e; omega))
  replace HX0 := Lib.hid (HX0.out.grown ga (fun e => by have := HU0_0.out.far _ e.symm; omega))
  replace HX0 := Lib.hid (HX0.out.grown gb (fun e => by have := A1.out.far _ e.symm; omega))
  replace HX0 := Lib.hid (HX0.out.grown gc (fun e => by have := B2.out.far _ e.symm; omega))
  clear ga gb gc A1 A2 B2
  clear HU0_0
  clear HU0_1
  clear HU0_2
  clear HS0
  have kk : ¬ ((1 : Int) + ((n0_0 * 5 : Nat) : Int) + ((n0_1 * 3 : Nat) : Int) + ((n0_2 * 4 : Nat) : Int) < 0) := by omega
  go_wp2_with fail
  refine (SlI.eq_any _ _ _ _ _ _ _ HG.out.rd HW.out.rd).mono ?_
  rintro e w11 ⟨rfl, hb⟩
  replace HB := Lib.hid (below_on HB.out hb)
  replace HX0 := Lib.hid (HX0.out.below hb)
  replace HW := Lib.hid (HW.out.below hb)
  replace HG := Lib.hid (HG.out.below hb)
  clear hb
  clear kk
  go_wp2_with fail
  refine (SlI.mark_any _ _ _ _ _ _ _ _ HG.out (by omega) (by have := HG.out.le; omega)).mono ?_
  rintro e w12 ⟨rfl, ho, hg⟩
  replace HB := Lib.hid (below_row HB.out HG.out hg (by omega))
  replace HW := Lib.hid (HW.out.kept hg (fun g e => by have := HG.out.far g e; omega))
  replace HX0 := Lib.hid (HX0.out.grown hg (fun e => by have := HG.out.far _ e.symm; omega))
  replace HG := Lib.hid ho
  clear ho hg
  go_wp2_with fail
  refine (SlI.held_any _ _ _ _ _ HG.out.rd (by omega) (by omega)).mono ?_
  rintro e w13 ⟨rfl, rfl⟩
  obtain ⟨i0, i1, i2, i3, i4⟩ := DpFrame.bxc HX0.out
  go_wp2_with fail
  refine (DpFrame.to_any _ _ _ _ _ _ _ _ _ _ _ _ _ _ _ (HP0_0.out.below HB.out) (HP0_1.out.below HB.out) (HP0_2.out.below HB.out) (by rw [HM0.out]; omega)).mono ?_
  rintro e w14 ⟨qHZ0_0, dHZ0_0, qHZ0_1, dHZ0_1, qHZ0_2, dHZ0_2, rfl, ho0, ho1, ho2, hb⟩
  replace HB := Lib.hid (below_on HB.out hb)
  replace HX0 := Lib.hid (HX0.out.below hb)
  replace HW := Lib.hid (HW.out.below hb)
  replace HG := Lib.hid (HG.out.below hb)
  have HZ0_0 := Lib.hid ho0
  have HZ0_1 := Lib.hid ho1
  have HZ0_2 := Lib.hid ho2
  clear ho0 ho1 ho2
  clear hb
  clear i0 i1 i2 i3 i4
  go_wp2_with fail
  refine (Pa.plan_any _ _ _ _ _ _ _ _ _ _ _ _ _ _ HP0_0.out.allP HP0_1.out.allP HP0_2.out.allP _ HZ0_0.out.rdS HZ0_1.out.rdS HZ0_2.out.rdS (by omega)).mono ?_
  rintro e w15 ⟨qHH, mHH, eHH, rfl, ho, hb⟩
  replace HB := Lib.hid (below_on HB.out hb)
  replace HX0 := Lib.hid (HX0.out.below hb)
  replace HW := Lib.hid (HW.out.below hb)
  replace HG := Lib.hid (HG.out.below hb)
  replace HZ0_0 := Lib.hid (HZ0_0.out.below hb)
  replace HZ0_1 := Lib.hid (HZ0_1.out.below hb)
  replace HZ0_2 := Lib.hid (HZ0_2.out.below hb)
  have HH := Lib.hid ho
  clear ho
  clear hb
  obtain rfl : mHW = mHH := HW.out.len.symm.trans HH.out.len
  go_wp2_with fail
  refine (SlI.eq_any _ _ _ _ _ _ _ HH.out.rd HW.out.rd).mono ?_
  rintro e w16 ⟨rfl, hb⟩
  replace HB := Lib.hid (below_on HB.out hb)
  replace HX0 := Lib.hid (HX0.out.below hb)
  replace HW := Lib.hid (HW.out.below hb)
  replace HG := Lib.hid (HG.out.below hb)
  replace HZ0_0 := Lib.hid (HZ0_0.out.below hb)
  replace HZ0_1 := Lib.hid (HZ0_1.out.below hb)
  replace HZ0_2 := Lib.hid (HZ0_2.out.below hb)
  replace HH := Lib.hid (HH.out.below hb)
  clear hb
  go_wp2_with fail
  refine (SlI.held_any _ _ _ _ _ HG.out.rd (by omega) (by omega)).mono ?_
  rintro e w17 ⟨rfl, rfl⟩
  go_wp2_with fail
  go_ret
  exact ⟨rfl, HB.out⟩
end Go.Proofs.Ytlipcnaimpplpaa.fnExactPlanAuthorities
