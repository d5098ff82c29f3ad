/- The walk of the law FnExactItemDigest. -/
import Derived.Test.YtjickcnjnebpcaaEd
import Derived.Test.YtjickcnjnebpcaaDz
import Derived.Test.YtjickcnjnebpcaaSlI
import Derived.Test.YtjickcnjnebpcaaDpItem
import Derived.Test.YtjickcnjnebpcaaId1
import Derived.Test.YtjickcnjnebpcaaId2
import Derived.OpenShut
import Derived.Deep.RegionHeld3
import Derived.Laws.Strings
namespace Go.Proofs.Ytjickcnjnebpcaa.fnExactItemDigest
open Go.ChangeShapes Go.WideShapes Go.ChangeAt Go.RowKit Sl St Ed Id1
theorem drewB {W w : World} {B : Nat} (h : Below B W w) : Below B W w.drew := below_drewN h 1
set_option maxRecDepth 100000 in
set_option maxHeartbeats 8000000 in
theorem walk {H : Type} {enc : TypeId × Value → H} (W : World) (base : Nat)
    (v0 : Value) (d0 : DataW H) (p0 : List MemPlace) (h0 : DataW.Trod enc Try.prog W 0 (fun _ => true) true 3 v0 d0 p0) (k0 : Value.okWide Try.prog W .any base 3 v0)
    (v1 : Value) (d1 : DataW H) (p1 : List MemPlace) (h1 : DataW.Trod enc Try.prog W 0 (fun _ => true) true 33 v1 d1 p1) (k1 : Value.okWide Try.prog W .any base 33 v1)
    (_hsz : (DataW.weightsEach Try.prog [3, 33] [d0, d1]).all (· ≤ reachBytes) = true) :
    Calls Try.prog 6 #[v0, v1] W fun e w' => e = .returned (.bool true) ∧ Below W.heap.size W w' := by
  obtain ⟨x0, rfl, _, _, wf0⟩ := open_int Try.underlying3 k0 h0
  have xb0 := bounds_i64 wf0
  have XB0 := Lib.hid xb0
  have XI0 : Hid (Ed.InI x0) := Lib.hid xb0
  clear wf0 xb0
  clear h0 k0
  obtain ⟨x1_0, x1_1, x1_2, l1_3, l1_4, x1_5, x1_6, x1_7, x1_8, x1_9, x1_10, x1_11, x1_12, x1_13, l1_14, l1_15, p1_3, n1_3, c1_3, p1_4, n1_4, c1_4, p1_14, n1_14, c1_14, p1_15, n1_15, c1_15, rfl, b1_0, b1_1, b1_2, h1_3, h1_4, b1_5, h1_14, h1_15⟩ := DpItem.open_val h1 k1
  have HG1_0 := Lib.hid b1_0
  have HG1_1 := Lib.hid b1_1
  have HG1_2 := Lib.hid b1_2
  have HP1_3 := Lib.hid h1_3
  have HP1_4 := Lib.hid h1_4
  have HG1_5 := Lib.hid b1_5
  have HP1_14 := Lib.hid h1_14
  have HP1_15 := Lib.hid h1_15
  have hn1_3 := h1_3.le
  have hn1_4 := h1_4.le
  have hn1_14 := h1_14.le
  have hn1_15 := h1_15.le
  clear b1_0 b1_1 b1_2 h1_3 h1_4 b1_5 h1_14 h1_15
  clear h1 k1
  clear _hsz
  have HB := Lib.hid (Below.refl W.heap.size W)
  have HX1 := Lib.hid (Bx.new W 33 #[.int .i64 x1_0, .int .i64 x1_1, .int .i64 x1_2, .slice p1_3 n1_3 c1_3, .slice p1_4 n1_4 c1_4, .int .i64 x1_5, .int .i64 x1_6, .int .i64 x1_7, .int .i64 x1_8, .int .i64 x1_9, .int .i64 x1_10, .int .i64 x1_11, .int .i64 x1_12, .int .i64 x1_13, .slice p1_14 n1_14 c1_14, .slice p1_15 n1_15 c1_15])
  replace HB := Lib.hid (HB.out.alloc HB.out.size (.cells #[.int .i64 x1_0, .int .i64 x1_1, .int .i64 x1_2, .slice p1_3 n1_3 c1_3, .slice p1_4 n1_4 c1_4, .int .i64 x1_5, .int .i64 x1_6, .int .i64 x1_7, .int .i64 x1_8, .int .i64 x1_9, .int .i64 x1_10, .int .i64 x1_11, .int .i64 x1_12, .int .i64 x1_13, .slice p1_14 n1_14 c1_14, .slice p1_15 n1_15 c1_15] 33))
  have lX1 := HX1.out.lt
  obtain ⟨m1, hm1⟩ : ∃ m : Nat, DpItem.E.wt (x1_0, x1_1, (x1_2, l1_3, l1_4), (x1_5, x1_6, x1_7, x1_8, x1_9, x1_10, x1_11, x1_12, x1_13), (l1_14, l1_15)) = m := ⟨_, rfl⟩
  have HM1 := Lib.hid hm1
  clear hm1
  as_aux_lemma =>
    by_cases hbig1 : 1048576 < m1
    · go_enter Try.func6, Try.ntmps6
      obtain ⟨i0, i1, i2, i3, i4, i5, i6, i7, i8, i9, i10, i11, i12, i13, i14, i15⟩ := DpItem.bxc HX1.out
      go_wp2_with fail
      refine (DpItem.sz_big _ _ _ _ _ _ _ _ _ _ _ _ _ _ _ _ _ _ _ _ _ _ _ _ _ _ _ _ _ _ _ HM1.out (HP1_3.out.below HB.out) (HP1_4.out.below HB.out) (HP1_14.out.below HB.out) (HP1_15.out.below HB.out) (by omega) (by omega) (by omega)).mono ?_
      rintro e w1 ⟨rfl, hb⟩
      replace HB := Lib.hid (below_on HB.out hb)
      replace HX1 := Lib.hid (HX1.out.below hb)
      clear hb
      clear i0 i1 i2 i3 i4 i5 i6 i7 i8 i9 i10 i11 i12 i13 i14 i15
      go_wp2_with fail
      go_ret
      exact ⟨rfl, HB.out⟩
    go_enter Try.func6, Try.ntmps6
    obtain ⟨i0, i1, i2, i3, i4, i5, i6, i7, i8, i9, i10, i11, i12, i13, i14, i15⟩ := DpItem.bxc HX1.out
    go_wp2_with fail
    refine (DpItem.sz_fits _ _ _ _ _ _ _ _ _ _ _ _ _ _ _ _ _ _ _ _ _ _ _ _ _ _ _ _ _ _ _ HM1.out (HP1_3.out.below HB.out) (HP1_4.out.below HB.out) (HP1_14.out.below HB.out) (HP1_15.out.below HB.out) (by omega) (by omega)).mono ?_
    rintro e w2 ⟨rfl, hb⟩
    replace HB := Lib.hid (below_on HB.out hb)
    replace HX1 := Lib.hid (HX1.out.below hb)
    clear hb
    clear i0 i1 i2 i3 i4 i5 i6 i7 i8 i9 i10 i11 i12 i13 i14 i15
    have sm1 : m1 ≤ 1048576 := by omega
    clear hbig1
    have sn1_3 : n1_3 ≤ 1048576 := by have h := HM1.out; have k := HP1_3.out.len; simp only [DpItem.wt_eq, DpDocument.wt_eq, DpStrand.wt_eq] at h; omega
    have sn1_4 : n1_4 ≤ 1048576 := by have h := HM1.out; have k := HP1_4.out.len; simp only [DpItem.wt_eq, DpDocument.wt_eq, DpStrand.wt_eq] at h; omega
    have sn1_14 : n1_14 ≤ 1048576 := by have h := HM1.out; have k := HP1_14.out.len; simp only [DpItem.wt_eq, DpDocument.wt_eq, DpStrand.wt_eq] at h; omega
    have sn1_15 : n1_15 ≤ 1048576 := by have h := HM1.out; have k := HP1_15.out.len; simp only [DpItem.wt_eq, DpDocument.wt_eq, DpStrand.wt_eq] at h; omega
    as_aux_lemma =>
      obtain ⟨i0, i1, i2, i3, i4, i5, i6, i7, i8, i9, i10, i11, i12, i13, i14, i15⟩ := DpItem.bxc HX1.out
      go_wp2_with fail
      refine (DpItem.to_any _ _ _ _ _ _ _ _ _ _ _ _ _ _ _ _ _ _ _ _ _ _ _ _ _ _ _ _ _ (HP1_3.out.below HB.out) (HP1_4.out.below HB.out) (HP1_14.out.below HB.out) (HP1_15.out.below HB.out) (by rw [HM1.out]; omega)).mono ?_
      rintro e w3 ⟨qHT1_0, dHT1_0, qHT1_1, dHT1_1, qHT1_2, dHT1_2, qHT1_3, dHT1_3, rfl, ho0, ho1, ho2, ho3, hb⟩
      replace HB := Lib.hid (below_on HB.out hb)
      replace HX1 := Lib.hid (HX1.out.below hb)
      have HT1_0 := Lib.hid ho0
      have HT1_1 := Lib.hid ho1
      have HT1_2 := Lib.hid ho2
      have HT1_3 := Lib.hid ho3
      clear ho0 ho1 ho2 ho3
      clear hb
      clear i0 i1 i2 i3 i4 i5 i6 i7 i8 i9 i10 i11 i12 i13 i14 i15
      go_wp2_with fail
      refine (Id2.spec_item_any _ _ _ _ _ _ _ _ _ _ _ _ _ _ _ _ _ _ _ _ _ _ _ _ _ _ _ _ _ _ XI0.out HG1_0.out HG1_1.out HT1_0.out HT1_1.out HT1_2.out HT1_3.out (by have h := HM1.out; rw [DpItem.wt_eq, DpStrand.wt_eq] at h; have k := HP1_14.out.len; omega) (by have h := HM1.out; rw [DpItem.wt_eq, DpStrand.wt_eq] at h; have k := HP1_15.out.len; omega)).mono ?_
      rintro e w4 ⟨rfl, hb⟩
      replace HB := Lib.hid (below_on HB.out hb)
      replace HX1 := Lib.hid (HX1.out.below hb)
      replace HT1_0 := Lib.hid (HT1_0.out.below hb)
      replace HT1_1 := Lib.hid (HT1_1.out.below hb)
      replace HT1_2 := Lib.hid (HT1_2.out.below hb)
      replace HT1_3 := Lib.hid (HT1_3.out.below hb)
      clear hb
      clear HT1_0
      clear HT1_1
      clear HT1_2
      clear HT1_3
      as_aux_lemma =>
        obtain ⟨i0, i1, i2, i3, i4, i5, i6, i7, i8, i9, i10, i11, i12, i13, i14, i15⟩ := DpItem.bxc HX1.out
        go_wp2_with fail
        refine (DpItem.to_any _ _ _ _ _ _ _ _ _ _ _ _ _ _ _ _ _ _ _ _ _ _ _ _ _ _ _ _ _ (HP1_3.out.below HB.out) (HP1_4.out.below HB.out) (HP1_14.out.below HB.out) (HP1_15.out.below HB.out) (by rw [HM1.out]; omega)).mono ?_
        rintro e w5 ⟨qHU1_0, dHU1_0, qHU1_1, dHU1_1, qHU1_2, dHU1_2, qHU1_3, dHU1_3, rfl, ho0, ho1, ho2, ho3, hb⟩
        replace HB := Lib.hid (below_on HB.out hb)
        replace HX1 := Lib.hid (HX1.out.below hb)
        have HU1_0 := Lib.hid ho0
        have HU1_1 := Lib.hid ho1
        have HU1_2 := Lib.hid ho2
        have HU1_3 := Lib.hid ho3
        clear ho0 ho1 ho2 ho3
        clear hb
        clear i0 i1 i2 i3 i4 i5 i6 i7 i8 i9 i10 i11 i12 i13 i14 i15
        have HS1 := Lib.hid (Bx.new w5 43 #[.int .i64 x1_0, .int .i64 x1_1, .int .i64 x1_2, .slice qHU1_0 n1_3 dHU1_0, .slice qHU1_1 n1_4 dHU1_1, .int .i64 x1_5, .int .i64 x1_6, .int .i64 x1_7, .int .i64 x1_8, .int .i64 x1_9, .int .i64 x1_10, .int .i64 x1_11, .int .i64 x1_12, .int .i64 x1_13, .slice qHU1_2 n1_14 dHU1_2, .slice qHU1_3 n1_15 dHU1_3])
        have lHS1 := HS1.out.lt
        replace HB := Lib.hid (HB.out.alloc HB.out.size (.cells #[.int .i64 x1_0, .int .i64 x1_1, .int .i64 x1_2, .slice qHU1_0 n1_3 dHU1_0, .slice qHU1_1 n1_4 dHU1_1, .int .i64 x1_5, .int .i64 x1_6, .int .i64 x1_7, .int .i64 x1_8, .int .i64 x1_9, .int .i64 x1_10, .int .i64 x1_11, .int .i64 x1_12, .int .i64 x1_13, .slice qHU1_2 n1_14 dHU1_2, .slice qHU1_3 n1_15 dHU1_3] 43))
        replace HX1 := Lib.hid (HX1.out.alloc (.cells #[.int .i64 x1_0, .int .i64 x1_1, .int .i64 x1_2, .slice qHU1_0 n1_3 dHU1_0, .slice qHU1_1 n1_4 dHU1_1, .int .i64 x1_5, .int .i64 x1_6, .int .i64 x1_7, .int .i64 x1_8, .int .i64 x1_9, .int .i64 x1_10, .int .i64 x1_11, .int .i64 x1_12, .int .i64 x1_13, .slice qHU1_2 n1_14 dHU1_2, .slice qHU1_3 n1_15 dHU1_3] 43))
        replace HU1_0 := Lib.hid (HU1_0.out.alloc (.cells #[.int .i64 x1_0, .int .i64 x1_1, .int .i64 x1_2, .slice qHU1_0 n1_3 dHU1_0, .slice qHU1_1 n1_4 dHU1_1, .int .i64 x1_5, .int .i64 x1_6, .int .i64 x1_7, .int .i64 x1_8, .int .i64 x1_9, .int .i64 x1_10, .int .i64 x1_11, .int .i64 x1_12, .int .i64 x1_13, .slice qHU1_2 n1_14 dHU1_2, .slice qHU1_3 n1_15 dHU1_3] 43))
        replace HU1_1 := Lib.hid (HU1_1.out.alloc (.cells #[.int .i64 x1_0, .int .i64 x1_1, .int .i64 x1_2, .slice qHU1_0 n1_3 dHU1_0, .slice qHU1_1 n1_4 dHU1_1, .int .i64 x1_5, .int .i64 x1_6, .int .i64 x1_7, .int .i64 x1_8, .int .i64 x1_9, .int .i64 x1_10, .int .i64 x1_11, .int .i64 x1_12, .int .i64 x1_13, .slice qHU1_2 n1_14 dHU1_2, .slice qHU1_3 n1_15 dHU1_3] 43))
        replace HU1_2 := Lib.hid (HU1_2.out.alloc (.cells #[.int .i64 x1_0, .int .i64 x1_1, .int .i64 x1_2, .slice qHU1_0 n1_3 dHU1_0, .slice qHU1_1 n1_4 dHU1_1, .int .i64 x1_5, .int .i64 x1_6, .int .i64 x1_7, .int .i64 x1_8, .int .i64 x1_9, .int .i64 x1_10, .int .i64 x1_11, .int .i64 x1_12, .int .i64 x1_13, .slice qHU1_2 n1_14 dHU1_2, .slice qHU1_3 n1_15 dHU1_3] 43))
        replace HU1_3 := Lib.hid (HU1_3.out.alloc (.cells #[.int .i64 x1_0, .int .i64 x1_1, .int .i64 x1_2, .slice qHU1_0 n1_3 dHU1_0, .slice qHU1_1 n1_4 dHU1_1, .int .i64 x1_5, .int .i64 x1_6, .int .i64 x1_7, .int .i64 x1_8, .int .i64 x1_9, .int .i64 x1_10, .int .i64 x1_11, .int .i64 x1_12, .int .i64 x1_13, .slice qHU1_2 n1_14 dHU1_2, .slice qHU1_3 n1_15 dHU1_3] 43))
        as_aux_lemma =>
          obtain ⟨k1_0, k1_1, k1_2, k1_3, k1_4, k1_5, k1_6, k1_7, k1_8, k1_9, k1_10, k1_11, k1_12, k1_13, k1_14, k1_15⟩ := DpItem.bxc HS1.out
          go_wp2_with fail
          refine (Id1.item_any _ _ _ _ _ _ _ _ _ _ _ _ _ _ _ _ _ _ _ _ _ _ _ _ _ _ _ _ _ _ XI0.out HG1_0.out HG1_1.out HU1_0.out HU1_1.out HU1_2.out HU1_3.out (by have h := HM1.out; rw [DpItem.wt_eq, DpStrand.wt_eq] at h; have k := HP1_14.out.len; omega) (by have h := HM1.out; rw [DpItem.wt_eq, DpStrand.wt_eq] at h; have k := HP1_15.out.len; omega)).mono ?_
          rintro e w6 ⟨rfl, hb⟩
          replace HB := Lib.hid (below_on HB.out hb)
          replace HX1 := Lib.hid (HX1.out.below hb)
          replace HU1_0 := Lib.hid (HU1_0.out.below hb)
          replace HU1_1 := Lib.hid (HU1_1.out.below hb)
          replace HU1_2 := Lib.hid (HU1_2.out.below hb)
          replace HU1_3 := Lib.hid (HU1_3.out.below hb)
          replace HS1 := Lib.hid (HS1.out.below hb)
          clear hb
          clear k1_0 k1_1 k1_2 k1_3 k1_4 k1_5 k1_6 k1_7 k1_8 k1_9 k1_10 k1_11 k1_12 k1_13 k1_14 k1_15
          as_aux_lemma =>
            obtain ⟨j0_0, j0_1, j0_2, j0_3, j0_4, j0_5, j0_6, j0_7, j0_8, j0_9, j0_10, j0_11, j0_12, j0_13, j0_14, j0_15⟩ := DpItem.bxc HS1.out
            obtain ⟨j1_0, j1_1, j1_2, j1_3, j1_4, j1_5, j1_6, j1_7, j1_8, j1_9, j1_10, j1_11, j1_12, j1_13, j1_14, j1_15⟩ := DpItem.bxc HX1.out
            go_wp2_with fail
            replace HB := Lib.hid (drewB HB.out)
            replace HX1 := Lib.hid (HX1.out.below (drewB (Below.refl _ _)))
            replace HU1_0 := Lib.hid (HU1_0.out.below (drewB (Below.refl _ _)))
            replace HU1_1 := Lib.hid (HU1_1.out.below (drewB (Below.refl _ _)))
            replace HU1_2 := Lib.hid (HU1_2.out.below (drewB (Below.refl _ _)))
            replace HU1_3 := Lib.hid (HU1_3.out.below (drewB (Below.refl _ _)))
            replace HS1 := Lib.hid (HS1.out.below (drewB (Below.refl _ _)))
            go_region_held3 (fun w' => (w'.cell? ⟨w5.heap.size, 0, none⟩ = some (.int .i64 x1_0) ∧ w'.cell? ⟨w5.heap.size, 1, none⟩ = some (.int .i64 x1_1) ∧ w'.cell? ⟨w5.heap.size, 2, none⟩ = some (.int .i64 x1_2) ∧ w'.cell? ⟨w5.heap.size, 3, none⟩ = some (.slice qHU1_0 n1_3 dHU1_0) ∧ w'.cell? ⟨w5.heap.size, 4, none⟩ = some (.slice qHU1_1 n1_4 dHU1_1) ∧ w'.cell? ⟨w5.heap.size, 5, none⟩ = some (.int .i64 x1_5) ∧ w'.cell? ⟨w5.heap.size, 6, none⟩ = some (.int .i64 x1_6) ∧ w'.cell? ⟨w5.heap.size, 7, none⟩ = some (.int .i64 x1_7) ∧ w'.cell? ⟨w5.heap.size, 8, none⟩ = some (.int .i64 x1_8) ∧ w'.cell? ⟨w5.heap.size, 9, none⟩ = some (.int .i64 x1_9) ∧ w'.cell? ⟨w5.heap.size, 10, none⟩ = some (.int .i64 x1_10) ∧ w'.cell? ⟨w5.heap.size, 11, none⟩ = some (.int .i64 x1_11) ∧ w'.cell? ⟨w5.heap.size, 12, none⟩ = some (.int .i64 x1_12) ∧ w'.cell? ⟨w5.heap.size, 13, none⟩ = some (.int .i64 x1_13) ∧ w'.cell? ⟨w5.heap.size, 14, none⟩ = some (.slice qHU1_2 n1_14 dHU1_2) ∧ w'.cell? ⟨w5.heap.size, 15, none⟩ = some (.slice qHU1_3 n1_15 dHU1_3)) ∧ w'.cell? ⟨W.heap.size, 0, none⟩ = some (.int .i64 x1_0) ∧ w'.cell? ⟨W.heap.size, 1, none⟩ = some (.int .i64 x1_1) ∧ w'.cell? ⟨W.heap.size, 2, none⟩ = some (.int .i64 x1_2) ∧ w'.cell? ⟨W.heap.size, 3, none⟩ = some (.slice p1_3 n1_3 c1_3) ∧ w'.cell? ⟨W.heap.size, 4, none⟩ = some (.slice p1_4 n1_4 c1_4) ∧ w'.cell? ⟨W.heap.size, 5, none⟩ = some (.int .i64 x1_5) ∧ w'.cell? ⟨W.heap.size, 6, none⟩ = some (.int .i64 x1_6) ∧ w'.cell? ⟨W.heap.size, 7, none⟩ = some (.int .i64 x1_7) ∧ w'.cell? ⟨W.heap.size, 8, none⟩ = some (.int .i64 x1_8) ∧ w'.cell? ⟨W.heap.size, 9, none⟩ = some (.int .i64 x1_9) ∧ w'.cell? ⟨W.heap.size, 10, none⟩ = some (.int .i64 x1_10) ∧ w'.cell? ⟨W.heap.size, 11, none⟩ = some (.int .i64 x1_11) ∧ w'.cell? ⟨W.heap.size, 12, none⟩ = some (.int .i64 x1_12) ∧ w'.cell? ⟨W.heap.size, 13, none⟩ = some (.int .i64 x1_13) ∧ w'.cell? ⟨W.heap.size, 14, none⟩ = some (.slice p1_14 n1_14 c1_14) ∧ w'.cell? ⟨W.heap.size, 15, none⟩ = some (.slice p1_15 n1_15 c1_15)) (first | exact ⟨DpItem.bxc HS1.out, DpItem.bxc HX1.out⟩ | go_keep) (first | (go_at_call 10; (with_reducible refine (DpItem.to_any _ _ _ _ _ _ _ _ _ _ _ _ _ _ _ _ _ _ _ _ _ _ _ _ _ _ _ _ _ (HP1_3.out.below HB.out) (HP1_4.out.below HB.out) (HP1_14.out.below HB.out) (HP1_15.out.below HB.out) (by rw [HM1.out]; omega)).mono ?_); rintro e w7 ⟨qHY1_0, dHY1_0, qHY1_1, dHY1_1, qHY1_2, dHY1_2, qHY1_3, dHY1_3, rfl, ho0, ho1, ho2, ho3, hb⟩; replace HB := Lib.hid (below_on HB.out hb); replace HX1 := Lib.hid (HX1.out.below hb); replace HU1_0 := Lib.hid (HU1_0.out.below hb); replace HU1_1 := Lib.hid (HU1_1.out.below hb); replace HU1_2 := Lib.hid (HU1_2.out.below hb); replace HU1_3 := Lib.hid (HU1_3.out.below hb); replace HS1 := Lib.hid (HS1.out.below hb); have HY1_0 := Lib.hid ho0; have HY1_1 := Lib.hid ho1; have HY1_2 := Lib.hid ho2; have HY1_3 := Lib.hid ho3; clear ho0 ho1 ho2 ho3; clear hb) | (go_at_call 12; (with_reducible refine (DpItem.eq_any _ _ _ _ _ _ _ _ _ _ _ _ _ _ _ _ _ _ _ _ _ _ _ _ _ _ _ _ _ _ _ _ _ _ _ _ _ HU1_0.out HY1_0.out HU1_1.out HY1_1.out HU1_2.out HY1_2.out HU1_3.out HY1_3.out).mono ?_); rintro e w8 ⟨rfl, hb⟩; replace HB := Lib.hid (below_on HB.out hb); replace HX1 := Lib.hid (HX1.out.below hb); replace HU1_0 := Lib.hid (HU1_0.out.below hb); replace HU1_1 := Lib.hid (HU1_1.out.below hb); replace HU1_2 := Lib.hid (HU1_2.out.below hb); replace HU1_3 := Lib.hid (HU1_3.out.below hb); replace HS1 := Lib.hid (HS1.out.below hb); replace HY1_0 := Lib.hid (HY1_0.out.below hb); replace HY1_1 := Lib.hid (HY1_1.out.below hb); replace HY1_2 := Lib.hid (HY1_2.out.below hb); replace HY1_3 := Lib.hid (HY1_3.out.below hb); clear hb))
            clear j0_0 j0_1 j0_2 j0_3 j0_4 j0_5 j0_6 j0_7 j0_8 j0_9 j0_10 j0_11 j0_12 j0_13 j0_14 j0_15
            clear j1_0 j1_1 j1_2 j1_3 j1_4 j1_5 j1_6 j1_7 j1_8 j1_9 j1_10 j1_11 j1_12 j1_13 j1_14 j1_15
            clear HY1_0
            clear HY1_1
            clear HY1_2
            clear HY1_3
            as_aux_lemma =>
              go_wp2_with fail
              go_ret
              exact ⟨rfl, HB.out⟩
end Go.Proofs.Ytjickcnjnebpcaa.fnExactItemDigest
