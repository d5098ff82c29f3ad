/- The walk of the law FnExactEqualWorlds. -/
import Derived.Test.YtkmgnicngcandaaGreatEd
import Derived.Test.YtkmgnicngcandaaGreatDz
import Derived.Test.YtkmgnicngcandaaGreatSlI
import Derived.Test.YtkmgnicngcandaaGreatDpWorld
import Derived.Test.YtkmgnicngcandaaGreatEw
import Derived.OpenShut
import Derived.Deep.RegionHeld3
import Derived.Laws.Strings
namespace Go.Proofs.YtkmgnicngcandaaGreat.fnExactEqualWorlds
open Go.ChangeShapes Go.WideShapes Go.ChangeAt Go.RowKit Sl St Ed Ew0
theorem drewB {W w : World} {B : Nat} (h : Below B W w) : Below B W w.drew := below_drewN h 1
set_option maxRecDepth 100000 in
set_option maxHeartbeats 8000000 in
theorem walk {H : Type} {enc : TypeId × Value → H} (W : World) (base : Nat)
    (v0 : Value) (d0 : DataW H) (p0 : List MemPlace) (h0 : DataW.Trod enc Tryz.prog W 0 (fun _ => true) true 31 v0 d0 p0) (k0 : Value.okWide Tryz.prog W .any base 31 v0)
    (v1 : Value) (d1 : DataW H) (p1 : List MemPlace) (h1 : DataW.Trod enc Tryz.prog W 0 (fun _ => true) true 31 v1 d1 p1) (k1 : Value.okWide Tryz.prog W .any base 31 v1)
    (_hsz : (DataW.weightsEach Tryz.prog [31, 31] [d0, d1]).all (· ≤ reachBytes) = true) :
    Calls Tryz.prog 3 #[v0, v1] W fun e w' => e = .returned (.bool true) ∧ Below W.heap.size W w' := by
  obtain ⟨l0_0, l0_1, l0_2, x0_3, x0_4, l0_5, l0_6, l0_7, l0_8, l0_9, x0_10, l0_11, p0_0, n0_0, c0_0, p0_1, n0_1, c0_1, p0_2, n0_2, c0_2, p0_5, n0_5, c0_5, p0_6, n0_6, c0_6, p0_7, n0_7, c0_7, p0_8, n0_8, c0_8, p0_9, n0_9, c0_9, p0_11, n0_11, c0_11, rfl, h0_0, h0_1, h0_2, b0_3, b0_4, h0_5, h0_6, h0_7, h0_8, h0_9, b0_10, h0_11⟩ := DpWorld.open_val h0 k0
  have HP0_0 := Lib.hid h0_0
  have HP0_1 := Lib.hid h0_1
  have HP0_2 := Lib.hid h0_2
  have HG0_3 := Lib.hid b0_3
  have HG0_4 := Lib.hid b0_4
  have HP0_5 := Lib.hid h0_5
  have HP0_6 := Lib.hid h0_6
  have HP0_7 := Lib.hid h0_7
  have HP0_8 := Lib.hid h0_8
  have HP0_9 := Lib.hid h0_9
  have HG0_10 := Lib.hid b0_10
  have HP0_11 := Lib.hid h0_11
  have hn0_0 := h0_0.le
  have hn0_1 := h0_1.le
  have hn0_2 := h0_2.le
  have hn0_5 := h0_5.le
  have hn0_6 := h0_6.le
  have hn0_7 := h0_7.le
  have hn0_8 := h0_8.le
  have hn0_9 := h0_9.le
  have hn0_11 := h0_11.le
  clear h0_0 h0_1 h0_2 b0_3 b0_4 h0_5 h0_6 h0_7 h0_8 h0_9 b0_10 h0_11
  clear h0 k0
  obtain ⟨l1_0, l1_1, l1_2, x1_3, x1_4, l1_5, l1_6, l1_7, l1_8, l1_9, x1_10, l1_11, p1_0, n1_0, c1_0, p1_1, n1_1, c1_1, p1_2, n1_2, c1_2, p1_5, n1_5, c1_5, p1_6, n1_6, c1_6, p1_7, n1_7, c1_7, p1_8, n1_8, c1_8, p1_9, n1_9, c1_9, p1_11, n1_11, c1_11, rfl, h1_0, h1_1, h1_2, b1_3, b1_4, h1_5, h1_6, h1_7, h1_8, h1_9, b1_10, h1_11⟩ := DpWorld.open_val h1 k1
  have HP1_0 := Lib.hid h1_0
  have HP1_1 := Lib.hid h1_1
  have HP1_2 := Lib.hid h1_2
  have HG1_3 := Lib.hid b1_3
  have HG1_4 := Lib.hid b1_4
  have HP1_5 := Lib.hid h1_5
  have HP1_6 := Lib.hid h1_6
  have HP1_7 := Lib.hid h1_7
  have HP1_8 := Lib.hid h1_8
  have HP1_9 := Lib.hid h1_9
  have HG1_10 := Lib.hid b1_10
  have HP1_11 := Lib.hid h1_11
  have hn1_0 := h1_0.le
  have hn1_1 := h1_1.le
  have hn1_2 := h1_2.le
  have hn1_5 := h1_5.le
  have hn1_6 := h1_6.le
  have hn1_7 := h1_7.le
  have hn1_8 := h1_8.le
  have hn1_9 := h1_9.le
  have hn1_11 := h1_11.le
  clear h1_0 h1_1 h1_2 b1_3 b1_4 h1_5 h1_6 h1_7 h1_8 h1_9 b1_10 h1_11
  clear h1 k1
  clear _hsz
  have HB := Lib.hid (Below.refl W.heap.size W)
  have HX0 := Lib.hid (Bx.new W 31 #[.slice p0_0 n0_0 c0_0, .slice p0_1 n0_1 c0_1, .slice p0_2 n0_2 c0_2, .int .i64 x0_3, .int .i64 x0_4, .slice p0_5 n0_5 c0_5, .slice p0_6 n0_6 c0_6, .slice p0_7 n0_7 c0_7, .slice p0_8 n0_8 c0_8, .slice p0_9 n0_9 c0_9, .int .i64 x0_10, .slice p0_11 n0_11 c0_11])
  replace HB := Lib.hid (HB.out.alloc HB.out.size (.cells #[.slice p0_0 n0_0 c0_0, .slice p0_1 n0_1 c0_1, .slice p0_2 n0_2 c0_2, .int .i64 x0_3, .int .i64 x0_4, .slice p0_5 n0_5 c0_5, .slice p0_6 n0_6 c0_6, .slice p0_7 n0_7 c0_7, .slice p0_8 n0_8 c0_8, .slice p0_9 n0_9 c0_9, .int .i64 x0_10, .slice p0_11 n0_11 c0_11] 31))
  have lX0 := HX0.out.lt
  have hbx1 := Bx.new (W.alloc (.cells #[.slice p0_0 n0_0 c0_0, .slice p0_1 n0_1 c0_1, .slice p0_2 n0_2 c0_2, .int .i64 x0_3, .int .i64 x0_4, .slice p0_5 n0_5 c0_5, .slice p0_6 n0_6 c0_6, .slice p0_7 n0_7 c0_7, .slice p0_8 n0_8 c0_8, .slice p0_9 n0_9 c0_9, .int .i64 x0_10, .slice p0_11 n0_11 c0_11] 31)) 31 #[.slice p1_0 n1_0 c1_0, .slice p1_1 n1_1 c1_1, .slice p1_2 n1_2 c1_2, .int .i64 x1_3, .int .i64 x1_4, .slice p1_5 n1_5 c1_5, .slice p1_6 n1_6 c1_6, .slice p1_7 n1_7 c1_7, .slice p1_8 n1_8 c1_8, .slice p1_9 n1_9 c1_9, .int .i64 x1_10, .slice p1_11 n1_11 c1_11]
  rw [World.size_alloc] at hbx1
  have HX1 := Lib.hid hbx1
  clear hbx1
  replace HX0 := Lib.hid (HX0.out.alloc (.cells #[.slice p1_0 n1_0 c1_0, .slice p1_1 n1_1 c1_1, .slice p1_2 n1_2 c1_2, .int .i64 x1_3, .int .i64 x1_4, .slice p1_5 n1_5 c1_5, .slice p1_6 n1_6 c1_6, .slice p1_7 n1_7 c1_7, .slice p1_8 n1_8 c1_8, .slice p1_9 n1_9 c1_9, .int .i64 x1_10, .slice p1_11 n1_11 c1_11] 31))
  replace HB := Lib.hid (HB.out.alloc HB.out.size (.cells #[.slice p1_0 n1_0 c1_0, .slice p1_1 n1_1 c1_1, .slice p1_2 n1_2 c1_2, .int .i64 x1_3, .int .i64 x1_4, .slice p1_5 n1_5 c1_5, .slice p1_6 n1_6 c1_6, .slice p1_7 n1_7 c1_7, .slice p1_8 n1_8 c1_8, .slice p1_9 n1_9 c1_9, .int .i64 x1_10, .slice p1_11 n1_11 c1_11] 31))
  have lX1 := HX1.out.lt
  obtain ⟨m0, hm0⟩ : ∃ m : Nat, DpWorld.E.wt ((l0_0, l0_1, l0_2, x0_3, x0_4), l0_5, l0_6, l0_7, l0_8, l0_9, x0_10, l0_11) = m := ⟨_, rfl⟩
  have HM0 := Lib.hid hm0
  clear hm0
  obtain ⟨m1, hm1⟩ : ∃ m : Nat, DpWorld.E.wt ((l1_0, l1_1, l1_2, x1_3, x1_4), l1_5, l1_6, l1_7, l1_8, l1_9, x1_10, l1_11) = m := ⟨_, rfl⟩
  have HM1 := Lib.hid hm1
  clear hm1
  as_aux_lemma =>
    by_cases hbig0 : 1048576 < m0
    · go_enter Tryz.func3, Tryz.ntmps3
      obtain ⟨i0, i1, i2, i3, i4, i5, i6, i7, i8, i9, i10, i11⟩ := DpWorld.bxc HX0.out
      go_wp2_with fail
      refine (DpWorld.sz_big _ _ _ _ _ _ _ _ _ _ _ _ _ _ _ _ _ _ _ _ _ _ _ _ _ _ _ _ _ _ _ _ _ _ _ _ _ _ _ _ _ _ HM0.out (HP0_0.out.below HB.out) (HP0_1.out.below HB.out) (HP0_2.out.below HB.out) (HP0_5.out.below HB.out) (HP0_6.out.below HB.out) (HP0_7.out.below HB.out) (HP0_8.out.below HB.out) (HP0_9.out.below HB.out) (HP0_11.out.below HB.out) (by omega) (by omega) (by omega)).mono ?_
      rintro e w1 ⟨rfl, hb⟩
      replace HB := Lib.hid (below_on HB.out hb)
      replace HX0 := Lib.hid (HX0.out.below hb)
      replace HX1 := Lib.hid (HX1.out.below hb)
      clear hb
      clear i0 i1 i2 i3 i4 i5 i6 i7 i8 i9 i10 i11
      go_wp2_with fail
      go_ret
      exact ⟨rfl, HB.out⟩
    by_cases hbig1 : 1048576 < m0 + m1
    · go_enter Tryz.func3, Tryz.ntmps3
      obtain ⟨i0, i1, i2, i3, i4, i5, i6, i7, i8, i9, i10, i11⟩ := DpWorld.bxc HX0.out
      go_wp2_with fail
      refine (DpWorld.sz_fits _ _ _ _ _ _ _ _ _ _ _ _ _ _ _ _ _ _ _ _ _ _ _ _ _ _ _ _ _ _ _ _ _ _ _ _ _ _ _ _ _ _ HM0.out (HP0_0.out.below HB.out) (HP0_1.out.below HB.out) (HP0_2.out.below HB.out) (HP0_5.out.below HB.out) (HP0_6.out.below HB.out) (HP0_7.out.below HB.out) (HP0_8.out.below HB.out) (HP0_9.out.below HB.out) (HP0_11.out.below HB.out) (by omega) (by omega)).mono ?_
      rintro e w2 ⟨rfl, hb⟩
      replace HB := Lib.hid (below_on HB.out hb)
      replace HX0 := Lib.hid (HX0.out.below hb)
      replace HX1 := Lib.hid (HX1.out.below hb)
      clear hb
      clear i0 i1 i2 i3 i4 i5 i6 i7 i8 i9 i10 i11
      obtain ⟨i0, i1, i2, i3, i4, i5, i6, i7, i8, i9, i10, i11⟩ := DpWorld.bxc HX1.out
      go_wp2_with fail
      refine (DpWorld.sz_big _ _ _ _ _ _ _ _ _ _ _ _ _ _ _ _ _ _ _ _ _ _ _ _ _ _ _ _ _ _ _ _ _ _ _ _ _ _ _ _ _ _ HM1.out (HP1_0.out.below HB.out) (HP1_1.out.below HB.out) (HP1_2.out.below HB.out) (HP1_5.out.below HB.out) (HP1_6.out.below HB.out) (HP1_7.out.below HB.out) (HP1_8.out.below HB.out) (HP1_9.out.below HB.out) (HP1_11.out.below HB.out) (by omega) (by omega) (by omega)).mono ?_
      rintro e w3 ⟨rfl, hb⟩
      replace HB := Lib.hid (below_on HB.out hb)
      replace HX0 := Lib.hid (HX0.out.below hb)
      replace HX1 := Lib.hid (HX1.out.below hb)
      clear hb
      clear i0 i1 i2 i3 i4 i5 i6 i7 i8 i9 i10 i11
      go_wp2_with fail
      go_ret
      exact ⟨rfl, HB.out⟩
    go_enter Tryz.func3, Tryz.ntmps3
    obtain ⟨i0, i1, i2, i3, i4, i5, i6, i7, i8, i9, i10, i11⟩ := DpWorld.bxc HX0.out
    go_wp2_with fail
    refine (DpWorld.sz_fits _ _ _ _ _ _ _ _ _ _ _ _ _ _ _ _ _ _ _ _ _ _ _ _ _ _ _ _ _ _ _ _ _ _ _ _ _ _ _ _ _ _ HM0.out (HP0_0.out.below HB.out) (HP0_1.out.below HB.out) (HP0_2.out.below HB.out) (HP0_5.out.below HB.out) (HP0_6.out.below HB.out) (HP0_7.out.below HB.out) (HP0_8.out.below HB.out) (HP0_9.out.below HB.out) (HP0_11.out.below HB.out) (by omega) (by omega)).mono ?_
    rintro e w4 ⟨rfl, hb⟩
    replace HB := Lib.hid (below_on HB.out hb)
    replace HX0 := Lib.hid (HX0.out.below hb)
    replace HX1 := Lib.hid (HX1.out.below hb)
    clear hb
    clear i0 i1 i2 i3 i4 i5 i6 i7 i8 i9 i10 i11
    obtain ⟨i0, i1, i2, i3, i4, i5, i6, i7, i8, i9, i10, i11⟩ := DpWorld.bxc HX1.out
    go_wp2_with fail
    refine (DpWorld.sz_fits _ _ _ _ _ _ _ _ _ _ _ _ _ _ _ _ _ _ _ _ _ _ _ _ _ _ _ _ _ _ _ _ _ _ _ _ _ _ _ _ _ _ HM1.out (HP1_0.out.below HB.out) (HP1_1.out.below HB.out) (HP1_2.out.below HB.out) (HP1_5.out.below HB.out) (HP1_6.out.below HB.out) (HP1_7.out.below HB.out) (HP1_8.out.below HB.out) (HP1_9.out.below HB.out) (HP1_11.out.below HB.out) (by omega) (by omega)).mono ?_
    rintro e w5 ⟨rfl, hb⟩
    replace HB := Lib.hid (below_on HB.out hb)
    replace HX0 := Lib.hid (HX0.out.below hb)
    replace HX1 := Lib.hid (HX1.out.below hb)
    clear hb
    clear i0 i1 i2 i3 i4 i5 i6 i7 i8 i9 i10 i11
    have sm0 : m0 ≤ 1048576 := by omega
    have sm1 : m1 ≤ 1048576 := by omega
    have smt : m0 + m1 ≤ 1048576 := by omega
    clear hbig0
    clear hbig1
    have sn0_0 : n0_0 ≤ 1048576 := by have h := HM0.out; have k := HP0_0.out.len; simp only [DpWorld.wt_eq, DpFrame.wt_eq] at h; omega
    have sn0_1 : n0_1 ≤ 1048576 := by have h := HM0.out; have k := HP0_1.out.len; simp only [DpWorld.wt_eq, DpFrame.wt_eq] at h; omega
    have sn0_2 : n0_2 ≤ 1048576 := by have h := HM0.out; have k := HP0_2.out.len; simp only [DpWorld.wt_eq, DpFrame.wt_eq] at h; omega
    have sn0_5 : n0_5 ≤ 1048576 := by have h := HM0.out; have k := HP0_5.out.len; simp only [DpWorld.wt_eq, DpFrame.wt_eq] at h; omega
    have sn0_6 : n0_6 ≤ 1048576 := by have h := HM0.out; have k := HP0_6.out.len; simp only [DpWorld.wt_eq, DpFrame.wt_eq] at h; omega
    have sn0_7 : n0_7 ≤ 1048576 := by have h := HM0.out; have k := HP0_7.out.len; simp only [DpWorld.wt_eq, DpFrame.wt_eq] at h; omega
    have sn0_8 : n0_8 ≤ 1048576 := by have h := HM0.out; have k := HP0_8.out.len; simp only [DpWorld.wt_eq, DpFrame.wt_eq] at h; omega
    have sn0_9 : n0_9 ≤ 1048576 := by have h := HM0.out; have k := HP0_9.out.len; simp only [DpWorld.wt_eq, DpFrame.wt_eq] at h; omega
    have sn0_11 : n0_11 ≤ 1048576 := by have h := HM0.out; have k := HP0_11.out.len; simp only [DpWorld.wt_eq, DpFrame.wt_eq] at h; omega
    have sn1_0 : n1_0 ≤ 1048576 := by have h := HM1.out; have k := HP1_0.out.len; simp only [DpWorld.wt_eq, DpFrame.wt_eq] at h; omega
    have sn1_1 : n1_1 ≤ 1048576 := by have h := HM1.out; have k := HP1_1.out.len; simp only [DpWorld.wt_eq, DpFrame.wt_eq] at h; omega
    have sn1_2 : n1_2 ≤ 1048576 := by have h := HM1.out; have k := HP1_2.out.len; simp only [DpWorld.wt_eq, DpFrame.wt_eq] at h; omega
    have sn1_5 : n1_5 ≤ 1048576 := by have h := HM1.out; have k := HP1_5.out.len; simp only [DpWorld.wt_eq, DpFrame.wt_eq] at h; omega
    have sn1_6 : n1_6 ≤ 1048576 := by have h := HM1.out; have k := HP1_6.out.len; simp only [DpWorld.wt_eq, DpFrame.wt_eq] at h; omega
    have sn1_7 : n1_7 ≤ 1048576 := by have h := HM1.out; have k := HP1_7.out.len; simp only [DpWorld.wt_eq, DpFrame.wt_eq] at h; omega
    have sn1_8 : n1_8 ≤ 1048576 := by have h := HM1.out; have k := HP1_8.out.len; simp only [DpWorld.wt_eq, DpFrame.wt_eq] at h; omega
    have sn1_9 : n1_9 ≤ 1048576 := by have h := HM1.out; have k := HP1_9.out.len; simp only [DpWorld.wt_eq, DpFrame.wt_eq] at h; omega
    have sn1_11 : n1_11 ≤ 1048576 := by have h := HM1.out; have k := HP1_11.out.len; simp only [DpWorld.wt_eq, DpFrame.wt_eq] at h; omega
    as_aux_lemma =>
      obtain ⟨j0_0, j0_1, j0_2, j0_3, j0_4, j0_5, j0_6, j0_7, j0_8, j0_9, j0_10, j0_11⟩ := DpWorld.bxc HX0.out
      obtain ⟨j1_0, j1_1, j1_2, j1_3, j1_4, j1_5, j1_6, j1_7, j1_8, j1_9, j1_10, j1_11⟩ := DpWorld.bxc HX1.out
      go_wp2_with fail
      replace HB := Lib.hid (drewB HB.out)
      replace HX0 := Lib.hid (HX0.out.below (drewB (Below.refl _ _)))
      replace HX1 := Lib.hid (HX1.out.below (drewB (Below.refl _ _)))
      go_region_held3 (fun w' => (w'.cell? ⟨W.heap.size, 0, none⟩ = some (.slice p0_0 n0_0 c0_0) ∧ w'.cell? ⟨W.heap.size, 1, none⟩ = some (.slice p0_1 n0_1 c0_1) ∧ w'.cell? ⟨W.heap.size, 2, none⟩ = some (.slice p0_2 n0_2 c0_2) ∧ w'.cell? ⟨W.heap.size, 3, none⟩ = some (.int .i64 x0_3) ∧ w'.cell? ⟨W.heap.size, 4, none⟩ = some (.int .i64 x0_4) ∧ w'.cell? ⟨W.heap.size, 5, none⟩ = some (.slice p0_5 n0_5 c0_5) ∧ w'.cell? ⟨W.heap.size, 6, none⟩ = some (.slice p0_6 n0_6 c0_6) ∧ w'.cell? ⟨W.heap.size, 7, none⟩ = some (.slice p0_7 n0_7 c0_7) ∧ w'.cell? ⟨W.heap.size, 8, none⟩ = some (.slice p0_8 n0_8 c0_8) ∧ w'.cell? ⟨W.heap.size, 9, none⟩ = some (.slice p0_9 n0_9 c0_9) ∧ w'.cell? ⟨W.heap.size, 10, none⟩ = some (.int .i64 x0_10) ∧ w'.cell? ⟨W.heap.size, 11, none⟩ = some (.slice p0_11 n0_11 c0_11)) ∧ w'.cell? ⟨W.heap.size + 1, 0, none⟩ = some (.slice p1_0 n1_0 c1_0) ∧ w'.cell? ⟨W.heap.size + 1, 1, none⟩ = some (.slice p1_1 n1_1 c1_1) ∧ w'.cell? ⟨W.heap.size + 1, 2, none⟩ = some (.slice p1_2 n1_2 c1_2) ∧ w'.cell? ⟨W.heap.size + 1, 3, none⟩ = some (.int .i64 x1_3) ∧ w'.cell? ⟨W.heap.size + 1, 4, none⟩ = some (.int .i64 x1_4) ∧ w'.cell? ⟨W.heap.size + 1, 5, none⟩ = some (.slice p1_5 n1_5 c1_5) ∧ w'.cell? ⟨W.heap.size + 1, 6, none⟩ = some (.slice p1_6 n1_6 c1_6) ∧ w'.cell? ⟨W.heap.size + 1, 7, none⟩ = some (.slice p1_7 n1_7 c1_7) ∧ w'.cell? ⟨W.heap.size + 1, 8, none⟩ = some (.slice p1_8 n1_8 c1_8) ∧ w'.cell? ⟨W.heap.size + 1, 9, none⟩ = some (.slice p1_9 n1_9 c1_9) ∧ w'.cell? ⟨W.heap.size + 1, 10, none⟩ = some (.int .i64 x1_10) ∧ w'.cell? ⟨W.heap.size + 1, 11, none⟩ = some (.slice p1_11 n1_11 c1_11)) (first | exact ⟨DpWorld.bxc HX0.out, DpWorld.bxc HX1.out⟩ | go_keep) (first | (go_at_call 6; (with_reducible refine (DpWorld.to_any _ _ _ _ _ _ _ _ _ _ _ _ _ _ _ _ _ _ _ _ _ _ _ _ _ _ _ _ _ _ _ _ _ _ _ _ _ _ _ _ (HP0_0.out.below HB.out) (HP0_1.out.below HB.out) (HP0_2.out.below HB.out) (HP0_5.out.below HB.out) (HP0_6.out.below HB.out) (HP0_7.out.below HB.out) (HP0_8.out.below HB.out) (HP0_9.out.below HB.out) (HP0_11.out.below HB.out) (by rw [HM0.out]; omega)).mono ?_); rintro e w6 ⟨qHT0_0, dHT0_0, qHT0_1, dHT0_1, qHT0_2, dHT0_2, qHT0_3, dHT0_3, qHT0_4, dHT0_4, qHT0_5, dHT0_5, qHT0_6, dHT0_6, qHT0_7, dHT0_7, qHT0_8, dHT0_8, rfl, ho0, ho1, ho2, ho3, ho4, ho5, ho6, ho7, ho8, hb⟩; replace HB := Lib.hid (below_on HB.out hb); replace HX0 := Lib.hid (HX0.out.below hb); replace HX1 := Lib.hid (HX1.out.below hb); have HT0_0 := Lib.hid ho0; have HT0_1 := Lib.hid ho1; have HT0_2 := Lib.hid ho2; have HT0_3 := Lib.hid ho3; have HT0_4 := Lib.hid ho4; have HT0_5 := Lib.hid ho5; have HT0_6 := Lib.hid ho6; have HT0_7 := Lib.hid ho7; have HT0_8 := Lib.hid ho8; clear ho0 ho1 ho2 ho3 ho4 ho5 ho6 ho7 ho8; clear hb) | (go_at_call 6; (with_reducible refine (DpWorld.to_any _ _ _ _ _ _ _ _ _ _ _ _ _ _ _ _ _ _ _ _ _ _ _ _ _ _ _ _ _ _ _ _ _ _ _ _ _ _ _ _ (HP1_0.out.below HB.out) (HP1_1.out.below HB.out) (HP1_2.out.below HB.out) (HP1_5.out.below HB.out) (HP1_6.out.below HB.out) (HP1_7.out.below HB.out) (HP1_8.out.below HB.out) (HP1_9.out.below HB.out) (HP1_11.out.below HB.out) (by rw [HM1.out]; omega)).mono ?_); rintro e w7 ⟨qHT1_0, dHT1_0, qHT1_1, dHT1_1, qHT1_2, dHT1_2, qHT1_3, dHT1_3, qHT1_4, dHT1_4, qHT1_5, dHT1_5, qHT1_6, dHT1_6, qHT1_7, dHT1_7, qHT1_8, dHT1_8, rfl, ho0, ho1, ho2, ho3, ho4, ho5, ho6, ho7, ho8, hb⟩; replace HB := Lib.hid (below_on HB.out hb); replace HX0 := Lib.hid (HX0.out.below hb); replace HX1 := Lib.hid (HX1.out.below hb); replace HT0_0 := Lib.hid (HT0_0.out.below hb); replace HT0_1 := Lib.hid (HT0_1.out.below hb); replace HT0_2 := Lib.hid (HT0_2.out.below hb); replace HT0_3 := Lib.hid (HT0_3.out.below hb); replace HT0_4 := Lib.hid (HT0_4.out.below hb); replace HT0_5 := Lib.hid (HT0_5.out.below hb); replace HT0_6 := Lib.hid (HT0_6.out.below hb); replace HT0_7 := Lib.hid (HT0_7.out.below hb); replace HT0_8 := Lib.hid (HT0_8.out.below hb); have HT1_0 := Lib.hid ho0; have HT1_1 := Lib.hid ho1; have HT1_2 := Lib.hid ho2; have HT1_3 := Lib.hid ho3; have HT1_4 := Lib.hid ho4; have HT1_5 := Lib.hid ho5; have HT1_6 := Lib.hid ho6; have HT1_7 := Lib.hid ho7; have HT1_8 := Lib.hid ho8; clear ho0 ho1 ho2 ho3 ho4 ho5 ho6 ho7 ho8; clear hb) | (go_at_call 5; (with_reducible refine (Ew3.spec_equal_any _ _ _ _ _ _ _ _ _ _ _ _ _ _ _ _ _ _ _ _ _ _ _ _ _ _ _ _ _ _ _ _ _ _ _ _ _ _ _ _ _ _ _ _ _ _ _ _ _ _ _ _ _ _ _ _ _ _ _ _ _ _ _ _ _ _ _ _ _ _ _ _ _ _ _ _ _ _ _ HT0_0.out HT1_0.out HT0_1.out HT1_1.out HT0_2.out HT1_2.out HT0_3.out HT1_3.out HT0_4.out HT1_4.out HT0_5.out HT1_5.out HT0_6.out HT1_6.out HT0_7.out HT1_7.out HT0_8.out HT1_8.out).mono ?_); rintro e w8 ⟨rfl, hb⟩; replace HB := Lib.hid (below_on HB.out hb); replace HX0 := Lib.hid (HX0.out.below hb); replace HX1 := Lib.hid (HX1.out.below hb); replace HT0_0 := Lib.hid (HT0_0.out.below hb); replace HT0_1 := Lib.hid (HT0_1.out.below hb); replace HT0_2 := Lib.hid (HT0_2.out.below hb); replace HT0_3 := Lib.hid (HT0_3.out.below hb); replace HT0_4 := Lib.hid (HT0_4.out.below hb); replace HT0_5 := Lib.hid (HT0_5.out.below hb); replace HT0_6 := Lib.hid (HT0_6.out.below hb); replace HT0_7 := Lib.hid (HT0_7.out.below hb); replace HT0_8 := Lib.hid (HT0_8.out.below hb); replace HT1_0 := Lib.hid (HT1_0.out.below hb); replace HT1_1 := Lib.hid (HT1_1.out.below hb); replace HT1_2 := Lib.hid (HT1_2.out.below hb); replace HT1_3 := Lib.hid (HT1_3.out.below hb); replace HT1_4 := Lib.hid (HT1_4.out.below hb); replace HT1_5 := Lib.hid (HT1_5.out.below hb); replace HT1_6 := Lib.hid (HT1_6.out.below hb); replace HT1_7 := Lib.hid (HT1_7.out.below hb); replace HT1_8 := Lib.hid (HT1_8.out.below hb); clear hb))
      clear j0_0 j0_1 j0_2 j0_3 j0_4 j0_5 j0_6 j0_7 j0_8 j0_9 j0_10 j0_11
      clear j1_0 j1_1 j1_2 j1_3 j1_4 j1_5 j1_6 j1_7 j1_8 j1_9 j1_10 j1_11
      clear HT0_0
      clear HT0_1
      clear HT0_2
      clear HT0_3
      clear HT0_4
      clear HT0_5
      clear HT0_6
      clear HT0_7
      clear HT0_8
      clear HT1_0
      clear HT1_1
      clear HT1_2
      clear HT1_3
      clear HT1_4
      clear HT1_5
      clear HT1_6
      clear HT1_7
      clear HT1_8
      as_aux_lemma =>
        obtain ⟨i0, i1, i2, i3, i4, i5, i6, i7, i8, i9, i10, i11⟩ := DpWorld.bxc HX0.out
        go_wp2_with fail
        refine (DpWorld.to_any _ _ _ _ _ _ _ _ _ _ _ _ _ _ _ _ _ _ _ _ _ _ _ _ _ _ _ _ _ _ _ _ _ _ _ _ _ _ _ _ (HP0_0.out.below HB.out) (HP0_1.out.below HB.out) (HP0_2.out.below HB.out) (HP0_5.out.below HB.out) (HP0_6.out.below HB.out) (HP0_7.out.below HB.out) (HP0_8.out.below HB.out) (HP0_9.out.below HB.out) (HP0_11.out.below HB.out) (by rw [HM0.out]; omega)).mono ?_
        rintro e w9 ⟨qHU0_0, dHU0_0, qHU0_1, dHU0_1, qHU0_2, dHU0_2, qHU0_3, dHU0_3, qHU0_4, dHU0_4, qHU0_5, dHU0_5, qHU0_6, dHU0_6, qHU0_7, dHU0_7, qHU0_8, dHU0_8, rfl, ho0, ho1, ho2, ho3, ho4, ho5, ho6, ho7, ho8, hb⟩
        replace HB := Lib.hid (below_on HB.out hb)
        replace HX0 := Lib.hid (HX0.out.below hb)
        replace HX1 := Lib.hid (HX1.out.below hb)
        have HU0_0 := Lib.hid ho0
        have HU0_1 := Lib.hid ho1
        have HU0_2 := Lib.hid ho2
        have HU0_3 := Lib.hid ho3
        have HU0_4 := Lib.hid ho4
        have HU0_5 := Lib.hid ho5
        have HU0_6 := Lib.hid ho6
        have HU0_7 := Lib.hid ho7
        have HU0_8 := Lib.hid ho8
        clear ho0 ho1 ho2 ho3 ho4 ho5 ho6 ho7 ho8
        clear hb
        clear i0 i1 i2 i3 i4 i5 i6 i7 i8 i9 i10 i11
        have HS0 := Lib.hid (Bx.new w9 42 #[.slice qHU0_0 n0_0 dHU0_0, .slice qHU0_1 n0_1 dHU0_1, .slice qHU0_2 n0_2 dHU0_2, .int .i64 x0_3, .int .i64 x0_4, .slice qHU0_3 n0_5 dHU0_3, .slice qHU0_4 n0_6 dHU0_4, .slice qHU0_5 n0_7 dHU0_5, .slice qHU0_6 n0_8 dHU0_6, .slice qHU0_7 n0_9 dHU0_7, .int .i64 x0_10, .slice qHU0_8 n0_11 dHU0_8])
        have lHS0 := HS0.out.lt
        replace HB := Lib.hid (HB.out.alloc HB.out.size (.cells #[.slice qHU0_0 n0_0 dHU0_0, .slice qHU0_1 n0_1 dHU0_1, .slice qHU0_2 n0_2 dHU0_2, .int .i64 x0_3, .int .i64 x0_4, .slice qHU0_3 n0_5 dHU0_3, .slice qHU0_4 n0_6 dHU0_4, .slice qHU0_5 n0_7 dHU0_5, .slice qHU0_6 n0_8 dHU0_6, .slice qHU0_7 n0_9 dHU0_7, .int .i64 x0_10, .slice qHU0_8 n0_11 dHU0_8] 42))
        replace HX0 := Lib.hid (HX0.out.alloc (.cells #[.slice qHU0_0 n0_0 dHU0_0, .slice qHU0_1 n0_1 dHU0_1, .slice qHU0_2 n0_2 dHU0_2, .int .i64 x0_3, .int .i64 x0_4, .slice qHU0_3 n0_5 dHU0_3, .slice qHU0_4 n0_6 dHU0_4, .slice qHU0_5 n0_7 dHU0_5, .slice qHU0_6 n0_8 dHU0_6, .slice qHU0_7 n0_9 dHU0_7, .int .i64 x0_10, .slice qHU0_8 n0_11 dHU0_8] 42))
        replace HX1 := Lib.hid (HX1.out.alloc (.cells #[.slice qHU0_0 n0_0 dHU0_0, .slice qHU0_1 n0_1 dHU0_1, .slice qHU0_2 n0_2 dHU0_2, .int .i64 x0_3, .int .i64 x0_4, .slice qHU0_3 n0_5 dHU0_3, .slice qHU0_4 n0_6 dHU0_4, .slice qHU0_5 n0_7 dHU0_5, .slice qHU0_6 n0_8 dHU0_6, .slice qHU0_7 n0_9 dHU0_7, .int .i64 x0_10, .slice qHU0_8 n0_11 dHU0_8] 42))
        replace HU0_0 := Lib.hid (HU0_0.out.alloc (.cells #[.slice qHU0_0 n0_0 dHU0_0, .slice qHU0_1 n0_1 dHU0_1, .slice qHU0_2 n0_2 dHU0_2, .int .i64 x0_3, .int .i64 x0_4, .slice qHU0_3 n0_5 dHU0_3, .slice qHU0_4 n0_6 dHU0_4, .slice qHU0_5 n0_7 dHU0_5, .slice qHU0_6 n0_8 dHU0_6, .slice qHU0_7 n0_9 dHU0_7, .int .i64 x0_10, .slice qHU0_8 n0_11 dHU0_8] 42))
        replace HU0_1 := Lib.hid (HU0_1.out.alloc (.cells #[.slice qHU0_0 n0_0 dHU0_0, .slice qHU0_1 n0_1 dHU0_1, .slice qHU0_2 n0_2 dHU0_2, .int .i64 x0_3, .int .i64 x0_4, .slice qHU0_3 n0_5 dHU0_3, .slice qHU0_4 n0_6 dHU0_4, .slice qHU0_5 n0_7 dHU0_5, .slice qHU0_6 n0_8 dHU0_6, .slice qHU0_7 n0_9 dHU0_7, .int .i64 x0_10, .slice qHU0_8 n0_11 dHU0_8] 42))
        replace HU0_2 := Lib.hid (HU0_2.out.alloc (.cells #[.slice qHU0_0 n0_0 dHU0_0, .slice qHU0_1 n0_1 dHU0_1, .slice qHU0_2 n0_2 dHU0_2, .int .i64 x0_3, .int .i64 x0_4, .slice qHU0_3 n0_5 dHU0_3, .slice qHU0_4 n0_6 dHU0_4, .slice qHU0_5 n0_7 dHU0_5, .slice qHU0_6 n0_8 dHU0_6, .slice qHU0_7 n0_9 dHU0_7, .int .i64 x0_10, .slice qHU0_8 n0_11 dHU0_8] 42))
        replace HU0_3 := Lib.hid (HU0_3.out.alloc (.cells #[.slice qHU0_0 n0_0 dHU0_0, .slice qHU0_1 n0_1 dHU0_1, .slice qHU0_2 n0_2 dHU0_2, .int .i64 x0_3, .int .i64 x0_4, .slice qHU0_3 n0_5 dHU0_3, .slice qHU0_4 n0_6 dHU0_4, .slice qHU0_5 n0_7 dHU0_5, .slice qHU0_6 n0_8 dHU0_6, .slice qHU0_7 n0_9 dHU0_7, .int .i64 x0_10, .slice qHU0_8 n0_11 dHU0_8] 42))
        replace HU0_4 := Lib.hid (HU0_4.out.alloc (.cells #[.slice qHU0_0 n0_0 dHU0_0, .slice qHU0_1 n0_1 dHU0_1, .slice qHU0_2 n0_2 dHU0_2, .int .i64 x0_3, .int .i64 x0_4, .slice qHU0_3 n0_5 dHU0_3, .slice qHU0_4 n0_6 dHU0_4, .slice qHU0_5 n0_7 dHU0_5, .slice qHU0_6 n0_8 dHU0_6, .slice qHU0_7 n0_9 dHU0_7, .int .i64 x0_10, .slice qHU0_8 n0_11 dHU0_8] 42))
        replace HU0_5 := Lib.hid (HU0_5.out.alloc (.cells #[.slice qHU0_0 n0_0 dHU0_0, .slice qHU0_1 n0_1 dHU0_1, .slice qHU0_2 n0_2 dHU0_2, .int .i64 x0_3, .int .i64 x0_4, .slice qHU0_3 n0_5 dHU0_3, .slice qHU0_4 n0_6 dHU0_4, .slice qHU0_5 n0_7 dHU0_5, .slice qHU0_6 n0_8 dHU0_6, .slice qHU0_7 n0_9 dHU0_7, .int .i64 x0_10, .slice qHU0_8 n0_11 dHU0_8] 42))
        replace HU0_6 := Lib.hid (HU0_6.out.alloc (.cells #[.slice qHU0_0 n0_0 dHU0_0, .slice qHU0_1 n0_1 dHU0_1, .slice qHU0_2 n0_2 dHU0_2, .int .i64 x0_3, .int .i64 x0_4, .slice qHU0_3 n0_5 dHU0_3, .slice qHU0_4 n0_6 dHU0_4, .slice qHU0_5 n0_7 dHU0_5, .slice qHU0_6 n0_8 dHU0_6, .slice qHU0_7 n0_9 dHU0_7, .int .i64 x0_10, .slice qHU0_8 n0_11 dHU0_8] 42))
        replace HU0_7 := Lib.hid (HU0_7.out.alloc (.cells #[.slice qHU0_0 n0_0 dHU0_0, .slice qHU0_1 n0_1 dHU0_1, .slice qHU0_2 n0_2 dHU0_2, .int .i64 x0_3, .int .i64 x0_4, .slice qHU0_3 n0_5 dHU0_3, .slice qHU0_4 n0_6 dHU0_4, .slice qHU0_5 n0_7 dHU0_5, .slice qHU0_6 n0_8 dHU0_6, .slice qHU0_7 n0_9 dHU0_7, .int .i64 x0_10, .slice qHU0_8 n0_11 dHU0_8] 42))
        replace HU0_8 := Lib.hid (HU0_8.out.alloc (.cells #[.slice qHU0_0 n0_0 dHU0_0, .slice qHU0_1 n0_1 dHU0_1, .slice qHU0_2 n0_2 dHU0_2, .int .i64 x0_3, .int .i64 x0_4, .slice qHU0_3 n0_5 dHU0_3, .slice qHU0_4 n0_6 dHU0_4, .slice qHU0_5 n0_7 dHU0_5, .slice qHU0_6 n0_8 dHU0_6, .slice qHU0_7 n0_9 dHU0_7, .int .i64 x0_10, .slice qHU0_8 n0_11 dHU0_8] 42))
        obtain ⟨i0, i1, i2, i3, i4, i5, i6, i7, i8, i9, i10, i11⟩ := DpWorld.bxc HX1.out
        go_wp2_with fail
        refine (DpWorld.to_any _ _ _ _ _ _ _ _ _ _ _ _ _ _ _ _ _ _ _ _ _ _ _ _ _ _ _ _ _ _ _ _ _ _ _ _ _ _ _ _ (HP1_0.out.below HB.out) (HP1_1.out.below HB.out) (HP1_2.out.below HB.out) (HP1_5.out.below HB.out) (HP1_6.out.below HB.out) (HP1_7.out.below HB.out) (HP1_8.out.below HB.out) (HP1_9.out.below HB.out) (HP1_11.out.below HB.out) (by rw [HM1.out]; omega)).mono ?_
        rintro e w10 ⟨qHU1_0, dHU1_0, qHU1_1, dHU1_1, qHU1_2, dHU1_2, qHU1_3, dHU1_3, qHU1_4, dHU1_4, qHU1_5, dHU1_5, qHU1_6, dHU1_6, qHU1_7, dHU1_7, qHU1_8, dHU1_8, rfl, ho0, ho1, ho2, ho3, ho4, ho5, ho6, ho7, ho8, hb⟩
        replace HB := Lib.hid (below_on HB.out hb)
        replace HX0 := Lib.hid (HX0.out.below hb)
        replace HX1 := Lib.hid (HX1.out.below hb)
        replace HU0_0 := Lib.hid (HU0_0.out.below hb)
        replace HU0_1 := Lib.hid (HU0_1.out.below hb)
        replace HU0_2 := Lib.hid (HU0_2.out.below hb)
        replace HU0_3 := Lib.hid (HU0_3.out.below hb)
        replace HU0_4 := Lib.hid (HU0_4.out.below hb)
        replace HU0_5 := Lib.hid (HU0_5.out.below hb)
        replace HU0_6 := Lib.hid (HU0_6.out.below hb)
        replace HU0_7 := Lib.hid (HU0_7.out.below hb)
        replace HU0_8 := Lib.hid (HU0_8.out.below hb)
        replace HS0 := Lib.hid (HS0.out.below hb)
        have HU1_0 := Lib.hid ho0
        have HU1_1 := Lib.hid ho1
        have HU1_2 := Lib.hid ho2
        have HU1_3 := Lib.hid ho3
        have HU1_4 := Lib.hid ho4
        have HU1_5 := Lib.hid ho5
        have HU1_6 := Lib.hid ho6
        have HU1_7 := Lib.hid ho7
        have HU1_8 := Lib.hid ho8
        clear ho0 ho1 ho2 ho3 ho4 ho5 ho6 ho7 ho8
        clear hb
        clear i0 i1 i2 i3 i4 i5 i6 i7 i8 i9 i10 i11
        have HS1 := Lib.hid (Bx.new w10 42 #[.slice qHU1_0 n1_0 dHU1_0, .slice qHU1_1 n1_1 dHU1_1, .slice qHU1_2 n1_2 dHU1_2, .int .i64 x1_3, .int .i64 x1_4, .slice qHU1_3 n1_5 dHU1_3, .slice qHU1_4 n1_6 dHU1_4, .slice qHU1_5 n1_7 dHU1_5, .slice qHU1_6 n1_8 dHU1_6, .slice qHU1_7 n1_9 dHU1_7, .int .i64 x1_10, .slice qHU1_8 n1_11 dHU1_8])
        have lHS1 := HS1.out.lt
        replace HB := Lib.hid (HB.out.alloc HB.out.size (.cells #[.slice qHU1_0 n1_0 dHU1_0, .slice qHU1_1 n1_1 dHU1_1, .slice qHU1_2 n1_2 dHU1_2, .int .i64 x1_3, .int .i64 x1_4, .slice qHU1_3 n1_5 dHU1_3, .slice qHU1_4 n1_6 dHU1_4, .slice qHU1_5 n1_7 dHU1_5, .slice qHU1_6 n1_8 dHU1_6, .slice qHU1_7 n1_9 dHU1_7, .int .i64 x1_10, .slice qHU1_8 n1_11 dHU1_8] 42))
        replace HX0 := Lib.hid (HX0.out.alloc (.cells #[.slice qHU1_0 n1_0 dHU1_0, .slice qHU1_1 n1_1 dHU1_1, .slice qHU1_2 n1_2 dHU1_2, .int .i64 x1_3, .int .i64 x1_4, .slice qHU1_3 n1_5 dHU1_3, .slice qHU1_4 n1_6 dHU1_4, .slice qHU1_5 n1_7 dHU1_5, .slice qHU1_6 n1_8 dHU1_6, .slice qHU1_7 n1_9 dHU1_7, .int .i64 x1_10, .slice qHU1_8 n1_11 dHU1_8] 42))
        replace HX1 := Lib.hid (HX1.out.alloc (.cells #[.slice qHU1_0 n1_0 dHU1_0, .slice qHU1_1 n1_1 dHU1_1, .slice qHU1_2 n1_2 dHU1_2, .int .i64 x1_3, .int .i64 x1_4, .slice qHU1_3 n1_5 dHU1_3, .slice qHU1_4 n1_6 dHU1_4, .slice qHU1_5 n1_7 dHU1_5, .slice qHU1_6 n1_8 dHU1_6, .slice qHU1_7 n1_9 dHU1_7, .int .i64 x1_10, .slice qHU1_8 n1_11 dHU1_8] 42))
        replace HU0_0 := Lib.hid (HU0_0.out.alloc (.cells #[.slice qHU1_0 n1_0 dHU1_0, .slice qHU1_1 n1_1 dHU1_1, .slice qHU1_2 n1_2 dHU1_2, .int .i64 x1_3, .int .i64 x1_4, .slice qHU1_3 n1_5 dHU1_3, .slice qHU1_4 n1_6 dHU1_4, .slice qHU1_5 n1_7 dHU1_5, .slice qHU1_6 n1_8 dHU1_6, .slice qHU1_7 n1_9 dHU1_7, .int .i64 x1_10, .slice qHU1_8 n1_11 dHU1_8] 42))
        replace HU0_1 := Lib.hid (HU0_1.out.alloc (.cells #[.slice qHU1_0 n1_0 dHU1_0, .slice qHU1_1 n1_1 dHU1_1, .slice qHU1_2 n1_2 dHU1_2, .int .i64 x1_3, .int .i64 x1_4, .slice qHU1_3 n1_5 dHU1_3, .slice qHU1_4 n1_6 dHU1_4, .slice qHU1_5 n1_7 dHU1_5, .slice qHU1_6 n1_8 dHU1_6, .slice qHU1_7 n1_9 dHU1_7, .int .i64 x1_10, .slice qHU1_8 n1_11 dHU1_8] 42))
        replace HU0_2 := Lib.hid (HU0_2.out.alloc (.cells #[.slice qHU1_0 n1_0 dHU1_0, .slice qHU1_1 n1_1 dHU1_1, .slice qHU1_2 n1_2 dHU1_2, .int .i64 x1_3, .int .i64 x1_4, .slice qHU1_3 n1_5 dHU1_3, .slice qHU1_4 n1_6 dHU1_4, .slice qHU1_5 n1_7 dHU1_5, .slice qHU1_6 n1_8 dHU1_6, .slice qHU1_7 n1_9 dHU1_7, .int .i64 x1_10, .slice qHU1_8 n1_11 dHU1_8] 42))
        replace HU0_3 := Lib.hid (HU0_3.out.alloc (.cells #[.slice qHU1_0 n1_0 dHU1_0, .slice qHU1_1 n1_1 dHU1_1, .slice qHU1_2 n1_2 dHU1_2, .int .i64 x1_3, .int .i64 x1_4, .slice qHU1_3 n1_5 dHU1_3, .slice qHU1_4 n1_6 dHU1_4, .slice qHU1_5 n1_7 dHU1_5, .slice qHU1_6 n1_8 dHU1_6, .slice qHU1_7 n1_9 dHU1_7, .int .i64 x1_10, .slice qHU1_8 n1_11 dHU1_8] 42))
        replace HU0_4 := Lib.hid (HU0_4.out.alloc (.cells #[.slice qHU1_0 n1_0 dHU1_0, .slice qHU1_1 n1_1 dHU1_1, .slice qHU1_2 n1_2 dHU1_2, .int .i64 x1_3, .int .i64 x1_4, .slice qHU1_3 n1_5 dHU1_3, .slice qHU1_4 n1_6 dHU1_4, .slice qHU1_5 n1_7 dHU1_5, .slice qHU1_6 n1_8 dHU1_6, .slice qHU1_7 n1_9 dHU1_7, .int .i64 x1_10, .slice qHU1_8 n1_11 dHU1_8] 42))
        replace HU0_5 := Lib.hid (HU0_5.out.alloc (.cells #[.slice qHU1_0 n1_0 dHU1_0, .slice qHU1_1 n1_1 dHU1_1, .slice qHU1_2 n1_2 dHU1_2, .int .i64 x1_3, .int .i64 x1_4, .slice qHU1_3 n1_5 dHU1_3, .slice qHU1_4 n1_6 dHU1_4, .slice qHU1_5 n1_7 dHU1_5, .slice qHU1_6 n1_8 dHU1_6, .slice qHU1_7 n1_9 dHU1_7, .int .i64 x1_10, .slice qHU1_8 n1_11 dHU1_8] 42))
        replace HU0_6 := Lib.hid (HU0_6.out.alloc (.cells #[.slice qHU1_0 n1_0 dHU1_0, .slice qHU1_1 n1_1 dHU1_1, .slice qHU1_2 n1_2 dHU1_2, .int .i64 x1_3, .int .i64 x1_4, .slice qHU1_3 n1_5 dHU1_3, .slice qHU1_4 n1_6 dHU1_4, .slice qHU1_5 n1_7 dHU1_5, .slice qHU1_6 n1_8 dHU1_6, .slice qHU1_7 n1_9 dHU1_7, .int .i64 x1_10, .slice qHU1_8 n1_11 dHU1_8] 42))
        replace HU0_7 := Lib.hid (HU0_7.out.alloc (.cells #[.slice qHU1_0 n1_0 dHU1_0, .slice qHU1_1 n1_1 dHU1_1, .slice qHU1_2 n1_2 dHU1_2, .int .i64 x1_3, .int .i64 x1_4, .slice qHU1_3 n1_5 dHU1_3, .slice qHU1_4 n1_6 dHU1_4, .slice qHU1_5 n1_7 dHU1_5, .slice qHU1_6 n1_8 dHU1_6, .slice qHU1_7 n1_9 dHU1_7, .int .i64 x1_10, .slice qHU1_8 n1_11 dHU1_8] 42))
        replace HU0_8 := Lib.hid (HU0_8.out.alloc (.cells #[.slice qHU1_0 n1_0 dHU1_0, .slice qHU1_1 n1_1 dHU1_1, .slice qHU1_2 n1_2 dHU1_2, .int .i64 x1_3, .int .i64 x1_4, .slice qHU1_3 n1_5 dHU1_3, .slice qHU1_4 n1_6 dHU1_4, .slice qHU1_5 n1_7 dHU1_5, .slice qHU1_6 n1_8 dHU1_6, .slice qHU1_7 n1_9 dHU1_7, .int .i64 x1_10, .slice qHU1_8 n1_11 dHU1_8] 42))
        replace HS0 := Lib.hid (HS0.out.alloc (.cells #[.slice qHU1_0 n1_0 dHU1_0, .slice qHU1_1 n1_1 dHU1_1, .slice qHU1_2 n1_2 dHU1_2, .int .i64 x1_3, .int .i64 x1_4, .slice qHU1_3 n1_5 dHU1_3, .slice qHU1_4 n1_6 dHU1_4, .slice qHU1_5 n1_7 dHU1_5, .slice qHU1_6 n1_8 dHU1_6, .slice qHU1_7 n1_9 dHU1_7, .int .i64 x1_10, .slice qHU1_8 n1_11 dHU1_8] 42))
        replace HU1_0 := Lib.hid (HU1_0.out.alloc (.cells #[.slice qHU1_0 n1_0 dHU1_0, .slice qHU1_1 n1_1 dHU1_1, .slice qHU1_2 n1_2 dHU1_2, .int .i64 x1_3, .int .i64 x1_4, .slice qHU1_3 n1_5 dHU1_3, .slice qHU1_4 n1_6 dHU1_4, .slice qHU1_5 n1_7 dHU1_5, .slice qHU1_6 n1_8 dHU1_6, .slice qHU1_7 n1_9 dHU1_7, .int .i64 x1_10, .slice qHU1_8 n1_11 dHU1_8] 42))
        replace HU1_1 := Lib.hid (HU1_1.out.alloc (.cells #[.slice qHU1_0 n1_0 dHU1_0, .slice qHU1_1 n1_1 dHU1_1, .slice qHU1_2 n1_2 dHU1_2, .int .i64 x1_3, .int .i64 x1_4, .slice qHU1_3 n1_5 dHU1_3, .slice qHU1_4 n1_6 dHU1_4, .slice qHU1_5 n1_7 dHU1_5, .slice qHU1_6 n1_8 dHU1_6, .slice qHU1_7 n1_9 dHU1_7, .int .i64 x1_10, .slice qHU1_8 n1_11 dHU1_8] 42))
        replace HU1_2 := Lib.hid (HU1_2.out.alloc (.cells #[.slice qHU1_0 n1_0 dHU1_0, .slice qHU1_1 n1_1 dHU1_1, .slice qHU1_2 n1_2 dHU1_2, .int .i64 x1_3, .int .i64 x1_4, .slice qHU1_3 n1_5 dHU1_3, .slice qHU1_4 n1_6 dHU1_4, .slice qHU1_5 n1_7 dHU1_5, .slice qHU1_6 n1_8 dHU1_6, .slice qHU1_7 n1_9 dHU1_7, .int .i64 x1_10, .slice qHU1_8 n1_11 dHU1_8] 42))
        replace HU1_3 := Lib.hid (HU1_3.out.alloc (.cells #[.slice qHU1_0 n1_0 dHU1_0, .slice qHU1_1 n1_1 dHU1_1, .slice qHU1_2 n1_2 dHU1_2, .int .i64 x1_3, .int .i64 x1_4, .slice qHU1_3 n1_5 dHU1_3, .slice qHU1_4 n1_6 dHU1_4, .slice qHU1_5 n1_7 dHU1_5, .slice qHU1_6 n1_8 dHU1_6, .slice qHU1_7 n1_9 dHU1_7, .int .i64 x1_10, .slice qHU1_8 n1_11 dHU1_8] 42))
        replace HU1_4 := Lib.hid (HU1_4.out.alloc (.cells #[.slice qHU1_0 n1_0 dHU1_0, .slice qHU1_1 n1_1 dHU1_1, .slice qHU1_2 n1_2 dHU1_2, .int .i64 x1_3, .int .i64 x1_4, .slice qHU1_3 n1_5 dHU1_3, .slice qHU1_4 n1_6 dHU1_4, .slice qHU1_5 n1_7 dHU1_5, .slice qHU1_6 n1_8 dHU1_6, .slice qHU1_7 n1_9 dHU1_7, .int .i64 x1_10, .slice qHU1_8 n1_11 dHU1_8] 42))
        replace HU1_5 := Lib.hid (HU1_5.out.alloc (.cells #[.slice qHU1_0 n1_0 dHU1_0, .slice qHU1_1 n1_1 dHU1_1, .slice qHU1_2 n1_2 dHU1_2, .int .i64 x1_3, .int .i64 x1_4, .slice qHU1_3 n1_5 dHU1_3, .slice qHU1_4 n1_6 dHU1_4, .slice qHU1_5 n1_7 dHU1_5, .slice qHU1_6 n1_8 dHU1_6, .slice qHU1_7 n1_9 dHU1_7, .int .i64 x1_10, .slice qHU1_8 n1_11 dHU1_8] 42))
        replace HU1_6 := Lib.hid (HU1_6.out.alloc (.cells #[.slice qHU1_0 n1_0 dHU1_0, .slice qHU1_1 n1_1 dHU1_1, .slice qHU1_2 n1_2 dHU1_2, .int .i64 x1_3, .int .i64 x1_4, .slice qHU1_3 n1_5 dHU1_3, .slice qHU1_4 n1_6 dHU1_4, .slice qHU1_5 n1_7 dHU1_5, .slice qHU1_6 n1_8 dHU1_6, .slice qHU1_7 n1_9 dHU1_7, .int .i64 x1_10, .slice qHU1_8 n1_11 dHU1_8] 42))
        replace HU1_7 := Lib.hid (HU1_7.out.alloc (.cells #[.slice qHU1_0 n1_0 dHU1_0, .slice qHU1_1 n1_1 dHU1_1, .slice qHU1_2 n1_2 dHU1_2, .int .i64 x1_3, .int .i64 x1_4, .slice qHU1_3 n1_5 dHU1_3, .slice qHU1_4 n1_6 dHU1_4, .slice qHU1_5 n1_7 dHU1_5, .slice qHU1_6 n1_8 dHU1_6, .slice qHU1_7 n1_9 dHU1_7, .int .i64 x1_10, .slice qHU1_8 n1_11 dHU1_8] 42))
        replace HU1_8 := Lib.hid (HU1_8.out.alloc (.cells #[.slice qHU1_0 n1_0 dHU1_0, .slice qHU1_1 n1_1 dHU1_1, .slice qHU1_2 n1_2 dHU1_2, .int .i64 x1_3, .int .i64 x1_4, .slice qHU1_3 n1_5 dHU1_3, .slice qHU1_4 n1_6 dHU1_4, .slice qHU1_5 n1_7 dHU1_5, .slice qHU1_6 n1_8 dHU1_6, .slice qHU1_7 n1_9 dHU1_7, .int .i64 x1_10, .slice qHU1_8 n1_11 dHU1_8] 42))
        as_aux_lemma =>
          obtain ⟨k0_0, k0_1, k0_2, k0_3, k0_4, k0_5, k0_6, k0_7, k0_8, k0_9, k0_10, k0_11⟩ := DpWorld.bxc HS0.out
          obtain ⟨k1_0, k1_1, k1_2, k1_3, k1_4, k1_5, k1_6, k1_7, k1_8, k1_9, k1_10, k1_11⟩ := DpWorld.bxc HS1.out
          go_wp2_with fail
          refine (Ew1.equal_any _ _ _ _ _ _ _ _ _ _ _ _ _ _ _ _ _ _ _ _ _ _ _ _ _ _ _ _ _ _ _ _ _ _ _ _ _ _ _ _ _ _ _ _ _ _ _ _ _ _ _ _ _ _ _ _ _ _ _ _ _ _ _ _ _ _ _ _ _ _ _ _ _ _ _ _ _ _ _ HU0_0.out HU1_0.out HU0_1.out HU1_1.out HU0_2.out HU1_2.out HU0_3.out HU1_3.out HU0_4.out HU1_4.out HU0_5.out HU1_5.out HU0_6.out HU1_6.out HU0_7.out HU1_7.out HU0_8.out HU1_8.out).mono ?_
          rintro e w11 ⟨rfl, hb⟩
          replace HB := Lib.hid (below_on HB.out hb)
          replace HX0 := Lib.hid (HX0.out.below hb)
          replace HX1 := Lib.hid (HX1.out.below hb)
          replace HU0_0 := Lib.hid (HU0_0.out.below hb)
          replace HU0_1 := Lib.hid (HU0_1.out.below hb)
          replace HU0_2 := Lib.hid (HU0_2.out.below hb)
          replace HU0_3 := Lib.hid (HU0_3.out.below hb)
          replace HU0_4 := Lib.hid (HU0_4.out.below hb)
          replace HU0_5 := Lib.hid (HU0_5.out.below hb)
          replace HU0_6 := Lib.hid (HU0_6.out.below hb)
          replace HU0_7 := Lib.hid (HU0_7.out.below hb)
          replace HU0_8 := Lib.hid (HU0_8.out.below hb)
          replace HS0 := Lib.hid (HS0.out.below hb)
          replace HU1_0 := Lib.hid (HU1_0.out.below hb)
          replace HU1_1 := Lib.hid (HU1_1.out.below hb)
          replace HU1_2 := Lib.hid (HU1_2.out.below hb)
          replace HU1_3 := Lib.hid (HU1_3.out.below hb)
          replace HU1_4 := Lib.hid (HU1_4.out.below hb)
          replace HU1_5 := Lib.hid (HU1_5.out.below hb)
          replace HU1_6 := Lib.hid (HU1_6.out.below hb)
          replace HU1_7 := Lib.hid (HU1_7.out.below hb)
          replace HU1_8 := Lib.hid (HU1_8.out.below hb)
          replace HS1 := Lib.hid (HS1.out.below hb)
          clear hb
          clear k0_0 k0_1 k0_2 k0_3 k0_4 k0_5 k0_6 k0_7 k0_8 k0_9 k0_10 k0_11
          clear k1_0 k1_1 k1_2 k1_3 k1_4 k1_5 k1_6 k1_7 k1_8 k1_9 k1_10 k1_11
          as_aux_lemma =>
            obtain ⟨j0_0, j0_1, j0_2, j0_3, j0_4, j0_5, j0_6, j0_7, j0_8, j0_9, j0_10, j0_11⟩ := DpWorld.bxc HS0.out
            obtain ⟨j1_0, j1_1, j1_2, j1_3, j1_4, j1_5, j1_6, j1_7, j1_8, j1_9, j1_10, j1_11⟩ := DpWorld.bxc HX0.out
            go_wp2_with fail
            replace HB := Lib.hid (drewB HB.out)
            replace HX0 := Lib.hid (HX0.out.below (drewB (Below.refl _ _)))
            replace HX1 := Lib.hid (HX1.out.below (drewB (Below.refl _ _)))
            replace HU0_0 := Lib.hid (HU0_0.out.below (drewB (Below.refl _ _)))
            replace HU0_1 := Lib.hid (HU0_1.out.below (drewB (Below.refl _ _)))
            replace HU0_2 := Lib.hid (HU0_2.out.below (drewB (Below.refl _ _)))
            replace HU0_3 := Lib.hid (HU0_3.out.below (drewB (Below.refl _ _)))
            replace HU0_4 := Lib.hid (HU0_4.out.below (drewB (Below.refl _ _)))
            replace HU0_5 := Lib.hid (HU0_5.out.below (drewB (Below.refl _ _)))
            replace HU0_6 := Lib.hid (HU0_6.out.below (drewB (Below.refl _ _)))
            replace HU0_7 := Lib.hid (HU0_7.out.below (drewB (Below.refl _ _)))
            replace HU0_8 := Lib.hid (HU0_8.out.below (drewB (Below.refl _ _)))
            replace HS0 := Lib.hid (HS0.out.below (drewB (Below.refl _ _)))
            replace HU1_0 := Lib.hid (HU1_0.out.below (drewB (Below.refl _ _)))
            replace HU1_1 := Lib.hid (HU1_1.out.below (drewB (Below.refl _ _)))
            replace HU1_2 := Lib.hid (HU1_2.out.below (drewB (Below.refl _ _)))
            replace HU1_3 := Lib.hid (HU1_3.out.below (drewB (Below.refl _ _)))
            replace HU1_4 := Lib.hid (HU1_4.out.below (drewB (Below.refl _ _)))
            replace HU1_5 := Lib.hid (HU1_5.out.below (drewB (Below.refl _ _)))
            replace HU1_6 := Lib.hid (HU1_6.out.below (drewB (Below.refl _ _)))
            replace HU1_7 := Lib.hid (HU1_7.out.below (drewB (Below.refl _ _)))
            replace HU1_8 := Lib.hid (HU1_8.out.below (drewB (Below.refl _ _)))
            replace HS1 := Lib.hid (HS1.out.below (drewB (Below.refl _ _)))
            go_region_held3 (fun w' => (w'.cell? ⟨w9.heap.size, 0, none⟩ = some (.slice qHU0_0 n0_0 dHU0_0) ∧ w'.cell? ⟨w9.heap.size, 1, none⟩ = some (.slice qHU0_1 n0_1 dHU0_1) ∧ w'.cell? ⟨w9.heap.size, 2, none⟩ = some (.slice qHU0_2 n0_2 dHU0_2) ∧ w'.cell? ⟨w9.heap.size, 3, none⟩ = some (.int .i64 x0_3) ∧ w'.cell? ⟨w9.heap.size, 4, none⟩ = some (.int .i64 x0_4) ∧ w'.cell? ⟨w9.heap.size, 5, none⟩ = some (.slice qHU0_3 n0_5 dHU0_3) ∧ w'.cell? ⟨w9.heap.size, 6, none⟩ = some (.slice qHU0_4 n0_6 dHU0_4) ∧ w'.cell? ⟨w9.heap.size, 7, none⟩ = some (.slice qHU0_5 n0_7 dHU0_5) ∧ w'.cell? ⟨w9.heap.size, 8, none⟩ = some (.slice qHU0_6 n0_8 dHU0_6) ∧ w'.cell? ⟨w9.heap.size, 9, none⟩ = some (.slice qHU0_7 n0_9 dHU0_7) ∧ w'.cell? ⟨w9.heap.size, 10, none⟩ = some (.int .i64 x0_10) ∧ w'.cell? ⟨w9.heap.size, 11, none⟩ = some (.slice qHU0_8 n0_11 dHU0_8)) ∧ w'.cell? ⟨W.heap.size, 0, none⟩ = some (.slice p0_0 n0_0 c0_0) ∧ w'.cell? ⟨W.heap.size, 1, none⟩ = some (.slice p0_1 n0_1 c0_1) ∧ w'.cell? ⟨W.heap.size, 2, none⟩ = some (.slice p0_2 n0_2 c0_2) ∧ w'.cell? ⟨W.heap.size, 3, none⟩ = some (.int .i64 x0_3) ∧ w'.cell? ⟨W.heap.size, 4, none⟩ = some (.int .i64 x0_4) ∧ w'.cell? ⟨W.heap.size, 5, none⟩ = some (.slice p0_5 n0_5 c0_5) ∧ w'.cell? ⟨W.heap.size, 6, none⟩ = some (.slice p0_6 n0_6 c0_6) ∧ w'.cell? ⟨W.heap.size, 7, none⟩ = some (.slice p0_7 n0_7 c0_7) ∧ w'.cell? ⟨W.heap.size, 8, none⟩ = some (.slice p0_8 n0_8 c0_8) ∧ w'.cell? ⟨W.heap.size, 9, none⟩ = some (.slice p0_9 n0_9 c0_9) ∧ w'.cell? ⟨W.heap.size, 10, none⟩ = some (.int .i64 x0_10) ∧ w'.cell? ⟨W.heap.size, 11, none⟩ = some (.slice p0_11 n0_11 c0_11)) (first | exact ⟨DpWorld.bxc HS0.out, DpWorld.bxc HX0.out⟩ | go_keep) (first | (go_at_call 6; (with_reducible refine (DpWorld.to_any _ _ _ _ _ _ _ _ _ _ _ _ _ _ _ _ _ _ _ _ _ _ _ _ _ _ _ _ _ _ _ _ _ _ _ _ _ _ _ _ (HP0_0.out.below HB.out) (HP0_1.out.below HB.out) (HP0_2.out.below HB.out) (HP0_5.out.below HB.out) (HP0_6.out.below HB.out) (HP0_7.out.below HB.out) (HP0_8.out.below HB.out) (HP0_9.out.below HB.out) (HP0_11.out.below HB.out) (by rw [HM0.out]; omega)).mono ?_); rintro e w12 ⟨qHY0_0, dHY0_0, qHY0_1, dHY0_1, qHY0_2, dHY0_2, qHY0_3, dHY0_3, qHY0_4, dHY0_4, qHY0_5, dHY0_5, qHY0_6, dHY0_6, qHY0_7, dHY0_7, qHY0_8, dHY0_8, rfl, ho0, ho1, ho2, ho3, ho4, ho5, ho6, ho7, ho8, hb⟩; replace HB := Lib.hid (below_on HB.out hb); replace HX0 := Lib.hid (HX0.out.below hb); replace HX1 := Lib.hid (HX1.out.below hb); replace HU0_0 := Lib.hid (HU0_0.out.below hb); replace HU0_1 := Lib.hid (HU0_1.out.below hb); replace HU0_2 := Lib.hid (HU0_2.out.below hb); replace HU0_3 := Lib.hid (HU0_3.out.below hb); replace HU0_4 := Lib.hid (HU0_4.out.below hb); replace HU0_5 := Lib.hid (HU0_5.out.below hb); replace HU0_6 := Lib.hid (HU0_6.out.below hb); replace HU0_7 := Lib.hid (HU0_7.out.below hb); replace HU0_8 := Lib.hid (HU0_8.out.below hb); replace HS0 := Lib.hid (HS0.out.below hb); replace HU1_0 := Lib.hid (HU1_0.out.below hb); replace HU1_1 := Lib.hid (HU1_1.out.below hb); replace HU1_2 := Lib.hid (HU1_2.out.below hb); replace HU1_3 := Lib.hid (HU1_3.out.below hb); replace HU1_4 := Lib.hid (HU1_4.out.below hb); replace HU1_5 := Lib.hid (HU1_5.out.below hb); replace HU1_6 := Lib.hid (HU1_6.out.below hb); replace HU1_7 := Lib.hid (HU1_7.out.below hb); replace HU1_8 := Lib.hid (HU1_8.out.below hb); replace HS1 := Lib.hid (HS1.out.below hb); have HY0_0 := Lib.hid ho0; have HY0_1 := Lib.hid ho1; have HY0_2 := Lib.hid ho2; have HY0_3 := Lib.hid ho3; have HY0_4 := Lib.hid ho4; have HY0_5 := Lib.hid ho5; have HY0_6 := Lib.hid ho6; have HY0_7 := Lib.hid ho7; have HY0_8 := Lib.hid ho8; clear ho0 ho1 ho2 ho3 ho4 ho5 ho6 ho7 ho8; clear hb) | (go_at_call 8; (with_reducible refine (DpWorld.eq_any _ _ _ _ _ _ _ _ _ _ _ _ _ _ _ _ _ _ _ _ _ _ _ _ _ _ _ _ _ _ _ _ _ _ _ _ _ _ _ _ _ _ _ _ _ _ _ _ _ _ _ _ _ _ _ _ _ _ HU0_0.out HY0_0.out HU0_1.out HY0_1.out HU0_2.out HY0_2.out HU0_3.out HY0_3.out HU0_4.out HY0_4.out HU0_5.out HY0_5.out HU0_6.out HY0_6.out HU0_7.out HY0_7.out HU0_8.out HY0_8.out).mono ?_); rintro e w13 ⟨rfl, hb⟩; replace HB := Lib.hid (below_on HB.out hb); replace HX0 := Lib.hid (HX0.out.below hb); replace HX1 := Lib.hid (HX1.out.below hb); replace HU0_0 := Lib.hid (HU0_0.out.below hb); replace HU0_1 := Lib.hid (HU0_1.out.below hb); replace HU0_2 := Lib.hid (HU0_2.out.below hb); replace HU0_3 := Lib.hid (HU0_3.out.below hb); replace HU0_4 := Lib.hid (HU0_4.out.below hb); replace HU0_5 := Lib.hid (HU0_5.out.below hb); replace HU0_6 := Lib.hid (HU0_6.out.below hb); replace HU0_7 := Lib.hid (HU0_7.out.below hb); replace HU0_8 := Lib.hid (HU0_8.out.below hb); replace HS0 := Lib.hid (HS0.out.below hb); replace HU1_0 := Lib.hid (HU1_0.out.below hb); replace HU1_1 := Lib.hid (HU1_1.out.below hb); replace HU1_2 := Lib.hid (HU1_2.out.below hb); replace HU1_3 := Lib.hid (HU1_3.out.below hb); replace HU1_4 := Lib.hid (HU1_4.out.below hb); replace HU1_5 := Lib.hid (HU1_5.out.below hb); replace HU1_6 := Lib.hid (HU1_6.out.below hb); replace HU1_7 := Lib.hid (HU1_7.out.below hb); replace HU1_8 := Lib.hid (HU1_8.out.below hb); replace HS1 := Lib.hid (HS1.out.below hb); replace HY0_0 := Lib.hid (HY0_0.out.below hb); replace HY0_1 := Lib.hid (HY0_1.out.below hb); replace HY0_2 := Lib.hid (HY0_2.out.below hb); replace HY0_3 := Lib.hid (HY0_3.out.below hb); replace HY0_4 := Lib.hid (HY0_4.out.below hb); replace HY0_5 := Lib.hid (HY0_5.out.below hb); replace HY0_6 := Lib.hid (HY0_6.out.below hb); replace HY0_7 := Lib.hid (HY0_7.out.below hb); replace HY0_8 := Lib.hid (HY0_8.out.below hb); clear hb))
            clear j0_0 j0_1 j0_2 j0_3 j0_4 j0_5 j0_6 j0_7 j0_8 j0_9 j0_10 j0_11
            clear j1_0 j1_1 j1_2 j1_3 j1_4 j1_5 j1_6 j1_7 j1_8 j1_9 j1_10 j1_11
            clear HY0_0
            clear HY0_1
            clear HY0_2
            clear HY0_3
            clear HY0_4
            clear HY0_5
            clear HY0_6
            clear HY0_7
            clear HY0_8
            as_aux_lemma =>
              obtain ⟨j0_0, j0_1, j0_2, j0_3, j0_4, j0_5, j0_6, j0_7, j0_8, j0_9, j0_10, j0_11⟩ := DpWorld.bxc HS1.out
              obtain ⟨j1_0, j1_1, j1_2, j1_3, j1_4, j1_5, j1_6, j1_7, j1_8, j1_9, j1_10, j1_11⟩ := DpWorld.bxc HX1.out
              go_wp2_with fail
              replace HB := Lib.hid (drewB HB.out)
              replace HX0 := Lib.hid (HX0.out.below (drewB (Below.refl _ _)))
              replace HX1 := Lib.hid (HX1.out.below (drewB (Below.refl _ _)))
              replace HU0_0 := Lib.hid (HU0_0.out.below (drewB (Below.refl _ _)))
              replace HU0_1 := Lib.hid (HU0_1.out.below (drewB (Below.refl _ _)))
              replace HU0_2 := Lib.hid (HU0_2.out.below (drewB (Below.refl _ _)))
              replace HU0_3 := Lib.hid (HU0_3.out.below (drewB (Below.refl _ _)))
              replace HU0_4 := Lib.hid (HU0_4.out.below (drewB (Below.refl _ _)))
              replace HU0_5 := Lib.hid (HU0_5.out.below (drewB (Below.refl _ _)))
              replace HU0_6 := Lib.hid (HU0_6.out.below (drewB (Below.refl _ _)))
              replace HU0_7 := Lib.hid (HU0_7.out.below (drewB (Below.refl _ _)))
              replace HU0_8 := Lib.hid (HU0_8.out.below (drewB (Below.refl _ _)))
              replace HS0 := Lib.hid (HS0.out.below (drewB (Below.refl _ _)))
              replace HU1_0 := Lib.hid (HU1_0.out.below (drewB (Below.refl _ _)))
              replace HU1_1 := Lib.hid (HU1_1.out.below (drewB (Below.refl _ _)))
              replace HU1_2 := Lib.hid (HU1_2.out.below (drewB (Below.refl _ _)))
              replace HU1_3 := Lib.hid (HU1_3.out.below (drewB (Below.refl _ _)))
              replace HU1_4 := Lib.hid (HU1_4.out.below (drewB (Below.refl _ _)))
              replace HU1_5 := Lib.hid (HU1_5.out.below (drewB (Below.refl _ _)))
              replace HU1_6 := Lib.hid (HU1_6.out.below (drewB (Below.refl _ _)))
              replace HU1_7 := Lib.hid (HU1_7.out.below (drewB (Below.refl _ _)))
              replace HU1_8 := Lib.hid (HU1_8.out.below (drewB (Below.refl _ _)))
              replace HS1 := Lib.hid (HS1.out.below (drewB (Below.refl _ _)))
              go_region_held3 (fun w' => (w'.cell? ⟨w10.heap.size, 0, none⟩ = some (.slice qHU1_0 n1_0 dHU1_0) ∧ w'.cell? ⟨w10.heap.size, 1, none⟩ = some (.slice qHU1_1 n1_1 dHU1_1) ∧ w'.cell? ⟨w10.heap.size, 2, none⟩ = some (.slice qHU1_2 n1_2 dHU1_2) ∧ w'.cell? ⟨w10.heap.size, 3, none⟩ = some (.int .i64 x1_3) ∧ w'.cell? ⟨w10.heap.size, 4, none⟩ = some (.int .i64 x1_4) ∧ w'.cell? ⟨w10.heap.size, 5, none⟩ = some (.slice qHU1_3 n1_5 dHU1_3) ∧ w'.cell? ⟨w10.heap.size, 6, none⟩ = some (.slice qHU1_4 n1_6 dHU1_4) ∧ w'.cell? ⟨w10.heap.size, 7, none⟩ = some (.slice qHU1_5 n1_7 dHU1_5) ∧ w'.cell? ⟨w10.heap.size, 8, none⟩ = some (.slice qHU1_6 n1_8 dHU1_6) ∧ w'.cell? ⟨w10.heap.size, 9, none⟩ = some (.slice qHU1_7 n1_9 dHU1_7) ∧ w'.cell? ⟨w10.heap.size, 10, none⟩ = some (.int .i64 x1_10) ∧ w'.cell? ⟨w10.heap.size, 11, none⟩ = some (.slice qHU1_8 n1_11 dHU1_8)) ∧ w'.cell? ⟨W.heap.size + 1, 0, none⟩ = some (.slice p1_0 n1_0 c1_0) ∧ w'.cell? ⟨W.heap.size + 1, 1, none⟩ = some (.slice p1_1 n1_1 c1_1) ∧ w'.cell? ⟨W.heap.size + 1, 2, none⟩ = some (.slice p1_2 n1_2 c1_2) ∧ w'.cell? ⟨W.heap.size + 1, 3, none⟩ = some (.int .i64 x1_3) ∧ w'.cell? ⟨W.heap.size + 1, 4, none⟩ = some (.int .i64 x1_4) ∧ w'.cell? ⟨W.heap.size + 1, 5, none⟩ = some (.slice p1_5 n1_5 c1_5) ∧ w'.cell? ⟨W.heap.size + 1, 6, none⟩ = some (.slice p1_6 n1_6 c1_6) ∧ w'.cell? ⟨W.heap.size + 1, 7, none⟩ = some (.slice p1_7 n1_7 c1_7) ∧ w'.cell? ⟨W.heap.size + 1, 8, none⟩ = some (.slice p1_8 n1_8 c1_8) ∧ w'.cell? ⟨W.heap.size + 1, 9, none⟩ = some (.slice p1_9 n1_9 c1_9) ∧ w'.cell? ⟨W.heap.size + 1, 10, none⟩ = some (.int .i64 x1_10) ∧ w'.cell? ⟨W.heap.size + 1, 11, none⟩ = some (.slice p1_11 n1_11 c1_11)) (first | exact ⟨DpWorld.bxc HS1.out, DpWorld.bxc HX1.out⟩ | go_keep) (first | (go_at_call 6; (with_reducible refine (DpWorld.to_any _ _ _ _ _ _ _ _ _ _ _ _ _ _ _ _ _ _ _ _ _ _ _ _ _ _ _ _ _ _ _ _ _ _ _ _ _ _ _ _ (HP1_0.out.below HB.out) (HP1_1.out.below HB.out) (HP1_2.out.below HB.out) (HP1_5.out.below HB.out) (HP1_6.out.below HB.out) (HP1_7.out.below HB.out) (HP1_8.out.below HB.out) (HP1_9.out.below HB.out) (HP1_11.out.below HB.out) (by rw [HM1.out]; omega)).mono ?_); rintro e w14 ⟨qHY1_0, dHY1_0, qHY1_1, dHY1_1, qHY1_2, dHY1_2, qHY1_3, dHY1_3, qHY1_4, dHY1_4, qHY1_5, dHY1_5, qHY1_6, dHY1_6, qHY1_7, dHY1_7, qHY1_8, dHY1_8, rfl, ho0, ho1, ho2, ho3, ho4, ho5, ho6, ho7, ho8, hb⟩; replace HB := Lib.hid (below_on HB.out hb); replace HX0 := Lib.hid (HX0.out.below hb); replace HX1 := Lib.hid (HX1.out.below hb); replace HU0_0 := Lib.hid (HU0_0.out.below hb); replace HU0_1 := Lib.hid (HU0_1.out.below hb); replace HU0_2 := Lib.hid (HU0_2.out.below hb); replace HU0_3 := Lib.hid (HU0_3.out.below hb); replace HU0_4 := Lib.hid (HU0_4.out.below hb); replace HU0_5 := Lib.hid (HU0_5.out.below hb); replace HU0_6 := Lib.hid (HU0_6.out.below hb); replace HU0_7 := Lib.hid (HU0_7.out.below hb); replace HU0_8 := Lib.hid (HU0_8.out.below hb); replace HS0 := Lib.hid (HS0.out.below hb); replace HU1_0 := Lib.hid (HU1_0.out.below hb); replace HU1_1 := Lib.hid (HU1_1.out.below hb); replace HU1_2 := Lib.hid (HU1_2.out.below hb); replace HU1_3 := Lib.hid (HU1_3.out.below hb); replace HU1_4 := Lib.hid (HU1_4.out.below hb); replace HU1_5 := Lib.hid (HU1_5.out.below hb); replace HU1_6 := Lib.hid (HU1_6.out.below hb); replace HU1_7 := Lib.hid (HU1_7.out.below hb); replace HU1_8 := Lib.hid (HU1_8.out.below hb); replace HS1 := Lib.hid (HS1.out.below hb); have HY1_0 := Lib.hid ho0; have HY1_1 := Lib.hid ho1; have HY1_2 := Lib.hid ho2; have HY1_3 := Lib.hid ho3; have HY1_4 := Lib.hid ho4; have HY1_5 := Lib.hid ho5; have HY1_6 := Lib.hid ho6; have HY1_7 := Lib.hid ho7; have HY1_8 := Lib.hid ho8; clear ho0 ho1 ho2 ho3 ho4 ho5 ho6 ho7 ho8; clear hb) | (go_at_call 8; (with_reducible refine (DpWorld.eq_any _ _ _ _ _ _ _ _ _ _ _ _ _ _ _ _ _ _ _ _ _ _ _ _ _ _ _ _ _ _ _ _ _ _ _ _ _ _ _ _ _ _ _ _ _ _ _ _ _ _ _ _ _ _ _ _ _ _ HU1_0.out HY1_0.out HU1_1.out HY1_1.out HU1_2.out HY1_2.out HU1_3.out HY1_3.out HU1_4.out HY1_4.out HU1_5.out HY1_5.out HU1_6.out HY1_6.out HU1_7.out HY1_7.out HU1_8.out HY1_8.out).mono ?_); rintro e w15 ⟨rfl, hb⟩; replace HB := Lib.hid (below_on HB.out hb); replace HX0 := Lib.hid (HX0.out.below hb); replace HX1 := Lib.hid (HX1.out.below hb); replace HU0_0 := Lib.hid (HU0_0.out.below hb); replace HU0_1 := Lib.hid (HU0_1.out.below hb); replace HU0_2 := Lib.hid (HU0_2.out.below hb); replace HU0_3 := Lib.hid (HU0_3.out.below hb); replace HU0_4 := Lib.hid (HU0_4.out.below hb); replace HU0_5 := Lib.hid (HU0_5.out.below hb); replace HU0_6 := Lib.hid (HU0_6.out.below hb); replace HU0_7 := Lib.hid (HU0_7.out.below hb); replace HU0_8 := Lib.hid (HU0_8.out.below hb); replace HS0 := Lib.hid (HS0.out.below hb); replace HU1_0 := Lib.hid (HU1_0.out.below hb); replace HU1_1 := Lib.hid (HU1_1.out.below hb); replace HU1_2 := Lib.hid (HU1_2.out.below hb); replace HU1_3 := Lib.hid (HU1_3.out.below hb); replace HU1_4 := Lib.hid (HU1_4.out.below hb); replace HU1_5 := Lib.hid (HU1_5.out.below hb); replace HU1_6 := Lib.hid (HU1_6.out.below hb); replace HU1_7 := Lib.hid (HU1_7.out.below hb); replace HU1_8 := Lib.hid (HU1_8.out.below hb); replace HS1 := Lib.hid (HS1.out.below hb); replace HY1_0 := Lib.hid (HY1_0.out.below hb); replace HY1_1 := Lib.hid (HY1_1.out.below hb); replace HY1_2 := Lib.hid (HY1_2.out.below hb); replace HY1_3 := Lib.hid (HY1_3.out.below hb); replace HY1_4 := Lib.hid (HY1_4.out.below hb); replace HY1_5 := Lib.hid (HY1_5.out.below hb); replace HY1_6 := Lib.hid (HY1_6.out.below hb); replace HY1_7 := Lib.hid (HY1_7.out.below hb); replace HY1_8 := Lib.hid (HY1_8.out.below hb); clear hb))
              clear j0_0 j0_1 j0_2 j0_3 j0_4 j0_5 j0_6 j0_7 j0_8 j0_9 j0_10 j0_11
              clear j1_0 j1_1 j1_2 j1_3 j1_4 j1_5 j1_6 j1_7 j1_8 j1_9 j1_10 j1_11
              clear HY1_0
              clear HY1_1
              clear HY1_2
              clear HY1_3
              clear HY1_4
              clear HY1_5
              clear HY1_6
              clear HY1_7
              clear HY1_8
              as_aux_lemma =>
                go_wp2_with fail
                go_ret
                exact ⟨rfl, HB.out⟩
end Go.Proofs.YtkmgnicngcandaaGreat.fnExactEqualWorlds
