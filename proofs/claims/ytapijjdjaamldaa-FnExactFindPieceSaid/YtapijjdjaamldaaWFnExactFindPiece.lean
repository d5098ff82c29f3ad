/- The walk of the law FnExactFindPiece. -/
import Derived.Test.YtapijjdjaamldaaEd
import Derived.Test.YtapijjdjaamldaaDz
import Derived.Test.YtapijjdjaamldaaSlI
import Derived.Test.YtapijjdjaamldaaDpStrand
import Derived.Test.YtapijjdjaamldaaDpPiece
import Derived.Test.YtapijjdjaamldaaFi
import Derived.OpenShut
import Derived.Deep.RegionHeld3
import Derived.Laws.Strings
namespace Go.Proofs.Ytapijjdjaamldaa.fnExactFindPiece
open Go.ChangeShapes Go.WideShapes Go.ChangeAt Go.RowKit Sl St Ed Fi
theorem drewB {W w : World} {B : Nat} (h : Below B W w) : Below B W w.drew := below_drewN h 1
set_option maxRecDepth 100000 in
set_option maxHeartbeats 8000000 in
theorem walk {H : Type} {enc : TypeId × Value → H} (W : World) (base : Nat)
    (v0 : Value) (d0 : DataW H) (p0 : List MemPlace) (h0 : DataW.Trod enc Try.prog W 0 (fun _ => true) true 47 v0 d0 p0) (k0 : Value.okWide Try.prog W .any base 47 v0)
    (v1 : Value) (d1 : DataW H) (p1 : List MemPlace) (h1 : DataW.Trod enc Try.prog W 0 (fun _ => true) true 24 v1 d1 p1) (k1 : Value.okWide Try.prog W .any base 24 v1)
    (_hsz : (DataW.weightsEach Try.prog [47, 24] [d0, d1]).all (· ≤ reachBytes) = true) :
    Calls Try.prog 5 #[v0, v1] W fun e w' => e = .returned (.bool true) ∧ Below W.heap.size W w' := by
  obtain ⟨l0_0, l0_1, p0_0, n0_0, c0_0, p0_1, n0_1, c0_1, rfl, h0_0, h0_1⟩ := DpStrand.open_val h0 k0
  have HP0_0 := Lib.hid h0_0
  have HP0_1 := Lib.hid h0_1
  have hn0_0 := h0_0.le
  have hn0_1 := h0_1.le
  clear h0_0 h0_1
  clear h0 k0
  obtain ⟨x1_0, l1_1, x1_2, p1_1, n1_1, c1_1, rfl, b1_0, h1_1, b1_2⟩ := DpPiece.open_val h1 k1
  have HG1_0 := Lib.hid b1_0
  have HP1_1 := Lib.hid h1_1
  have HG1_2 := Lib.hid b1_2
  have hn1_1 := h1_1.le
  clear b1_0 h1_1 b1_2
  clear h1 k1
  clear _hsz
  have HB := Lib.hid (Below.refl W.heap.size W)
  have HX0 := Lib.hid (Bx.new W 47 #[.slice p0_0 n0_0 c0_0, .slice p0_1 n0_1 c0_1])
  replace HB := Lib.hid (HB.out.alloc HB.out.size (.cells #[.slice p0_0 n0_0 c0_0, .slice p0_1 n0_1 c0_1] 47))
  have lX0 := HX0.out.lt
  have hbx1 := Bx.new (W.alloc (.cells #[.slice p0_0 n0_0 c0_0, .slice p0_1 n0_1 c0_1] 47)) 24 #[.int .i64 x1_0, .slice p1_1 n1_1 c1_1, .int .i64 x1_2]
  rw [World.size_alloc] at hbx1
  have HX1 := Lib.hid hbx1
  clear hbx1
  replace HX0 := Lib.hid (HX0.out.alloc (.cells #[.int .i64 x1_0, .slice p1_1 n1_1 c1_1, .int .i64 x1_2] 24))
  replace HB := Lib.hid (HB.out.alloc HB.out.size (.cells #[.int .i64 x1_0, .slice p1_1 n1_1 c1_1, .int .i64 x1_2] 24))
  have lX1 := HX1.out.lt
  obtain ⟨m0, hm0⟩ : ∃ m : Nat, DpStrand.E.wt (l0_0, l0_1) = m := ⟨_, rfl⟩
  have HM0 := Lib.hid hm0
  clear hm0
  obtain ⟨m1, hm1⟩ : ∃ m : Nat, DpPiece.E.wt (x1_0, l1_1, x1_2) = m := ⟨_, rfl⟩
  have HM1 := Lib.hid hm1
  clear hm1
  by_cases hbig0 : 1048576 < m0
  · go_enter Try.func5, Try.ntmps5
    obtain ⟨i0, i1⟩ := DpStrand.bxc HX0.out
    go_wp2_with fail
    refine (DpStrand.sz_big _ _ _ _ _ _ _ _ _ _ _ HM0.out (HP0_0.out.below HB.out) (HP0_1.out.below HB.out) (by omega) (by omega) (by omega)).mono ?_
    rintro e w1 ⟨rfl, hb⟩
    replace HB := Lib.hid (below_on HB.out hb)
    replace HX0 := Lib.hid (HX0.out.below hb)
    replace HX1 := Lib.hid (HX1.out.below hb)
    clear hb
    clear i0 i1
    go_wp2_with fail
    go_ret
    exact ⟨rfl, HB.out⟩
  by_cases hbig1 : 1048576 < m0 + m1
  · go_enter Try.func5, Try.ntmps5
    obtain ⟨i0, i1⟩ := DpStrand.bxc HX0.out
    go_wp2_with fail
    refine (DpStrand.sz_fits _ _ _ _ _ _ _ _ _ _ _ HM0.out (HP0_0.out.below HB.out) (HP0_1.out.below HB.out) (by omega) (by omega)).mono ?_
    rintro e w2 ⟨rfl, hb⟩
    replace HB := Lib.hid (below_on HB.out hb)
    replace HX0 := Lib.hid (HX0.out.below hb)
    replace HX1 := Lib.hid (HX1.out.below hb)
    clear hb
    clear i0 i1
    obtain ⟨i0, i1, i2⟩ := DpPiece.bxc HX1.out
    go_wp2_with fail
    refine (DpPiece.sz_big _ _ _ _ _ _ _ _ _ HM1.out (HP1_1.out.below HB.out) (by omega) (by omega) (by omega)).mono ?_
    rintro e w3 ⟨rfl, hb⟩
    replace HB := Lib.hid (below_on HB.out hb)
    replace HX0 := Lib.hid (HX0.out.below hb)
    replace HX1 := Lib.hid (HX1.out.below hb)
    clear hb
    clear i0 i1 i2
    go_wp2_with fail
    go_ret
    exact ⟨rfl, HB.out⟩
  go_enter Try.func5, Try.ntmps5
  obtain ⟨i0, i1⟩ := DpStrand.bxc HX0.out
  go_wp2_with fail
  refine (DpStrand.sz_fits _ _ _ _ _ _ _ _ _ _ _ HM0.out (HP0_0.out.below HB.out) (HP0_1.out.below HB.out) (by omega) (by omega)).mono ?_
  rintro e w4 ⟨rfl, hb⟩
  replace HB := Lib.hid (below_on HB.out hb)
  replace HX0 := Lib.hid (HX0.out.below hb)
  replace HX1 := Lib.hid (HX1.out.below hb)
  clear hb
  clear i0 i1
  obtain ⟨i0, i1, i2⟩ := DpPiece.bxc HX1.out
  go_wp2_with fail
  refine (DpPiece.sz_fits _ _ _ _ _ _ _ _ _ HM1.out (HP1_1.out.below HB.out) (by omega) (by omega)).mono ?_
  rintro e w5 ⟨rfl, hb⟩
  replace HB := Lib.hid (below_on HB.out hb)
  replace HX0 := Lib.hid (HX0.out.below hb)
  replace HX1 := Lib.hid (HX1.out.below hb)
  clear hb
  clear i0 i1 i2
  have sm0 : m0 ≤ 1048576 := by omega
  have sm1 : m1 ≤ 1048576 := by omega
  have smt : m0 + m1 ≤ 1048576 := by omega
  clear hbig0
  clear hbig1
  have sn0_0 : n0_0 ≤ 1048576 := by have h := HM0.out; have k := HP0_0.out.len; simp only [DpStrand.wt_eq] at h; omega
  have sn0_1 : n0_1 ≤ 1048576 := by have h := HM0.out; have k := HP0_1.out.len; simp only [DpStrand.wt_eq] at h; omega
  have sn1_1 : n1_1 ≤ 1048576 := by have h := HM1.out; have k := HP1_1.out.len; simp only [DpPiece.wt_eq] at h; omega
  obtain ⟨j0_0, j0_1⟩ := DpStrand.bxc HX0.out
  obtain ⟨j1_0, j1_1, j1_2⟩ := DpPiece.bxc HX1.out
  go_wp2_with fail
  replace HB := Lib.hid (drewB HB.out)
  replace HX0 := Lib.hid (HX0.out.below (drewB (Below.refl _ _)))
  replace HX1 := Lib.hid (HX1.out.below (drewB (Below.refl _ _)))
  go_region_held3 (fun w' => (w'.cell? ⟨W.heap.size, 0, none⟩ = some (.slice p0_0 n0_0 c0_0) ∧ w'.cell? ⟨W.heap.size, 1, none⟩ = some (.slice p0_1 n0_1 c0_1)) ∧ w'.cell? ⟨W.heap.size + 1, 0, none⟩ = some (.int .i64 x1_0) ∧ w'.cell? ⟨W.heap.size + 1, 1, none⟩ = some (.slice p1_1 n1_1 c1_1) ∧ w'.cell? ⟨W.heap.size + 1, 2, none⟩ = some (.int .i64 x1_2)) (first | exact ⟨DpStrand.bxc HX0.out, DpPiece.bxc HX1.out⟩ | go_keep) (first | (go_at_call 27; (with_reducible refine (DpStrand.to_any _ _ _ _ _ _ _ _ _ (HP0_0.out.below HB.out) (HP0_1.out.below HB.out) (by rw [HM0.out]; omega)).mono ?_); rintro e w6 ⟨qHT0_0, dHT0_0, qHT0_1, dHT0_1, rfl, ho0, ho1, hb⟩; replace HB := Lib.hid (below_on HB.out hb); replace HX0 := Lib.hid (HX0.out.below hb); replace HX1 := Lib.hid (HX1.out.below hb); have HT0_0 := Lib.hid ho0; have HT0_1 := Lib.hid ho1; clear ho0 ho1; clear hb) | (go_at_call 17; (with_reducible refine (DpPiece.to_any _ _ _ _ _ _ _ (HP1_1.out.below HB.out) (by rw [HM1.out]; omega)).mono ?_); rintro e w7 ⟨qHT1_0, dHT1_0, rfl, ho0, hb⟩; replace HB := Lib.hid (below_on HB.out hb); replace HX0 := Lib.hid (HX0.out.below hb); replace HX1 := Lib.hid (HX1.out.below hb); replace HT0_0 := Lib.hid (HT0_0.out.below hb); replace HT0_1 := Lib.hid (HT0_1.out.below hb); have HT1_0 := Lib.hid ho0; clear ho0; clear hb) | (go_at_call 26; (with_reducible refine (Fi.spec_find_any _ _ _ _ _ _ _ x1_0 _ _ _ _ x1_2 _ HT0_0.out HT1_0.out).mono ?_); rintro e w8 ⟨rfl, hb⟩; replace HB := Lib.hid (below_on HB.out hb); replace HX0 := Lib.hid (HX0.out.below hb); replace HX1 := Lib.hid (HX1.out.below hb); replace HT0_0 := Lib.hid (HT0_0.out.below hb); replace HT0_1 := Lib.hid (HT0_1.out.below hb); replace HT1_0 := Lib.hid (HT1_0.out.below hb); clear hb))
  clear j0_0 j0_1
  clear j1_0 j1_1 j1_2
  clear HT0_0
  clear HT0_1
  clear HT1_0
  obtain ⟨i0, i1⟩ := DpStrand.bxc HX0.out
  go_wp2_with fail
  refine (DpStrand.to_any _ _ _ _ _ _ _ _ _ (HP0_0.out.below HB.out) (HP0_1.out.below HB.out) (by rw [HM0.out]; omega)).mono ?_
  rintro e w9 ⟨qHU0_0, dHU0_0, qHU0_1, dHU0_1, rfl, ho0, ho1, hb⟩
  replace HB := Lib.hid (below_on HB.out hb)
  replace HX0 := Lib.hid (HX0.out.below hb)
  replace HX1 := Lib.hid (HX1.out.below hb)
  have HU0_0 := Lib.hid ho0
  have HU0_1 := Lib.hid ho1
  clear ho0 ho1
  clear hb
  clear i0 i1
  have HS0 := Lib.hid (Bx.new w9 53 #[.slice qHU0_0 n0_0 dHU0_0, .slice qHU0_1 n0_1 dHU0_1])
  have lHS0 := HS0.out.lt
  replace HB := Lib.hid (HB.out.alloc HB.out.size (.cells #[.slice qHU0_0 n0_0 dHU0_0, .slice qHU0_1 n0_1 dHU0_1] 53))
  replace HX0 := Lib.hid (HX0.out.alloc (.cells #[.slice qHU0_0 n0_0 dHU0_0, .slice qHU0_1 n0_1 dHU0_1] 53))
  replace HX1 := Lib.hid (HX1.out.alloc (.cells #[.slice qHU0_0 n0_0 dHU0_0, .slice qHU0_1 n0_1 dHU0_1] 53))
  replace HU0_0 := Lib.hid (HU0_0.out.alloc (.cells #[.slice qHU0_0 n0_0 dHU0_0, .slice qHU0_1 n0_1 dHU0_1] 53))
  replace HU0_1 := Lib.hid (HU0_1.out.alloc (.cells #[.slice qHU0_0 n0_0 dHU0_0, .slice qHU0_1 n0_1 dHU0_1] 53))
  obtain ⟨i0, i1, i2⟩ := DpPiece.bxc HX1.out
  go_wp2_with fail
  refine (DpPiece.to_any _ _ _ _ _ _ _ (HP1_1.out.below HB.out) (by rw [HM1.out]; omega)).mono ?_
  rintro e w10 ⟨qHU1_0, dHU1_0, rfl, ho0, hb⟩
  replace HB := Lib.hid (below_on HB.out hb)
  replace HX0 := Lib.hid (HX0.out.below hb)
  replace HX1 := Lib.hid (HX1.out.below hb)
  replace HU0_0 := Lib.hid (HU0_0.out.below hb)
  replace HU0_1 := Lib.hid (HU0_1.out.below hb)
  replace HS0 := Lib.hid (HS0.out.below hb)
  have HU1_0 := Lib.hid ho0
  clear ho0
  clear hb
  clear i0 i1 i2
  have HS1 := Lib.hid (Bx.new w10 27 #[.int .i64 x1_0, .slice qHU1_0 n1_1 dHU1_0, .int .i64 x1_2])
  have lHS1 := HS1.out.lt
  replace HB := Lib.hid (HB.out.alloc HB.out.size (.cells #[.int .i64 x1_0, .slice qHU1_0 n1_1 dHU1_0, .int .i64 x1_2] 27))
  replace HX0 := Lib.hid (HX0.out.alloc (.cells #[.int .i64 x1_0, .slice qHU1_0 n1_1 dHU1_0, .int .i64 x1_2] 27))
  replace HX1 := Lib.hid (HX1.out.alloc (.cells #[.int .i64 x1_0, .slice qHU1_0 n1_1 dHU1_0, .int .i64 x1_2] 27))
  replace HU0_0 := Lib.hid (HU0_0.out.alloc (.cells #[.int .i64 x1_0, .slice qHU1_0 n1_1 dHU1_0, .int .i64 x1_2] 27))
  replace HU0_1 := Lib.hid (HU0_1.out.alloc (.cells #[.int .i64 x1_0, .slice qHU1_0 n1_1 dHU1_0, .int .i64 x1_2] 27))
  replace HS0 := Lib.hid (HS0.out.alloc (.cells #[.int .i64 x1_0, .slice qHU1_0 n1_1 dHU1_0, .int .i64 x1_2] 27))
  replace HU1_0 := Lib.hid (HU1_0.out.alloc (.cells #[.int .i64 x1_0, .slice qHU1_0 n1_1 dHU1_0, .int .i64 x1_2] 27))
  obtain ⟨k0_0, k0_1⟩ := DpStrand.bxc HS0.out
  obtain ⟨k1_0, k1_1, k1_2⟩ := DpPiece.bxc HS1.out
  go_wp2_with fail
  refine (Fi.find_any _ _ _ _ _ _ _ x1_0 _ _ _ _ x1_2 _ HU0_0.out HU1_0.out).mono ?_
  rintro e w11 ⟨rfl, hb⟩
  replace HB := Lib.hid (below_on HB.out hb)
  replace HX0 := Lib.hid (HX0.out.below hb)
  replace HX1 := Lib.hid (HX1.out.below hb)
  replace HU0_0 := Lib.hid (HU0_0.out.below hb)
  replace HU0_1 := Lib.hid (HU0_1.out.below hb)
  replace HS0 := Lib.hid (HS0.out.below hb)
  replace HU1_0 := Lib.hid (HU1_0.out.below hb)
  replace HS1 := Lib.hid (HS1.out.below hb)
  clear hb
  clear k0_0 k0_1
  clear k1_0 k1_1 k1_2
  obtain ⟨j0_0, j0_1⟩ := DpStrand.bxc HS0.out
  obtain ⟨j1_0, j1_1⟩ := DpStrand.bxc HX0.out
  go_wp2_with fail
  replace HB := Lib.hid (drewB HB.out)
  replace HX0 := Lib.hid (HX0.out.below (drewB (Below.refl _ _)))
  replace HX1 := Lib.hid (HX1.out.below (drewB (Below.refl _ _)))
  replace HU0_0 := Lib.hid (HU0_0.out.below (drewB (Below.refl _ _)))
  replace HU0_1 := Lib.hid (HU0_1.out.below (drewB (Below.refl _ _)))
  replace HS0 := Lib.hid (HS0.out.below (drewB (Below.refl _ _)))
  replace HU1_0 := Lib.hid (HU1_0.out.below (drewB (Below.refl _ _)))
  replace HS1 := Lib.hid (HS1.out.below (drewB (Below.refl _ _)))
  go_region_held3 (fun w' => (w'.cell? ⟨w9.heap.size, 0, none⟩ = some (.slice qHU0_0 n0_0 dHU0_0) ∧ w'.cell? ⟨w9.heap.size, 1, none⟩ = some (.slice qHU0_1 n0_1 dHU0_1)) ∧ w'.cell? ⟨W.heap.size, 0, none⟩ = some (.slice p0_0 n0_0 c0_0) ∧ w'.cell? ⟨W.heap.size, 1, none⟩ = some (.slice p0_1 n0_1 c0_1)) (first | exact ⟨DpStrand.bxc HS0.out, DpStrand.bxc HX0.out⟩ | go_keep) (first | (go_at_call 27; (with_reducible refine (DpStrand.to_any _ _ _ _ _ _ _ _ _ (HP0_0.out.below HB.out) (HP0_1.out.below HB.out) (by rw [HM0.out]; omega)).mono ?_); rintro e w12 ⟨qHY0_0, dHY0_0, qHY0_1, dHY0_1, rfl, ho0, ho1, hb⟩; replace HB := Lib.hid (below_on HB.out hb); replace HX0 := Lib.hid (HX0.out.below hb); replace HX1 := Lib.hid (HX1.out.below hb); replace HU0_0 := Lib.hid (HU0_0.out.below hb); replace HU0_1 := Lib.hid (HU0_1.out.below hb); replace HS0 := Lib.hid (HS0.out.below hb); replace HU1_0 := Lib.hid (HU1_0.out.below hb); replace HS1 := Lib.hid (HS1.out.below hb); have HY0_0 := Lib.hid ho0; have HY0_1 := Lib.hid ho1; clear ho0 ho1; clear hb) | (go_at_call 29; (with_reducible refine (DpStrand.eq_any _ _ _ _ _ _ _ _ _ _ _ _ _ HU0_0.out HY0_0.out HU0_1.out HY0_1.out).mono ?_); rintro e w13 ⟨rfl, hb⟩; replace HB := Lib.hid (below_on HB.out hb); replace HX0 := Lib.hid (HX0.out.below hb); replace HX1 := Lib.hid (HX1.out.below hb); replace HU0_0 := Lib.hid (HU0_0.out.below hb); replace HU0_1 := Lib.hid (HU0_1.out.below hb); replace HS0 := Lib.hid (HS0.out.below hb); replace HU1_0 := Lib.hid (HU1_0.out.below hb); replace HS1 := Lib.hid (HS1.out.below hb); replace HY0_0 := Lib.hid (HY0_0.out.below hb); replace HY0_1 := Lib.hid (HY0_1.out.below hb); clear hb))
  clear j0_0 j0_1
  clear j1_0 j1_1
  clear HY0_0
  clear HY0_1
  obtain ⟨j0_0, j0_1, j0_2⟩ := DpPiece.bxc HS1.out
  obtain ⟨j1_0, j1_1, j1_2⟩ := DpPiece.bxc HX1.out
  go_wp2_with fail
  replace HB := Lib.hid (drewB HB.out)
  replace HX0 := Lib.hid (HX0.out.below (drewB (Below.refl _ _)))
  replace HX1 := Lib.hid (HX1.out.below (drewB (Below.refl _ _)))
  replace HU0_0 := Lib.hid (HU0_0.out.below (drewB (Below.refl _ _)))
  replace HU0_1 := Lib.hid (HU0_1.out.below (drewB (Below.refl _ _)))
  replace HS0 := Lib.hid (HS0.out.below (drewB (Below.refl _ _)))
  replace HU1_0 := Lib.hid (HU1_0.out.below (drewB (Below.refl _ _)))
  replace HS1 := Lib.hid (HS1.out.below (drewB (Below.refl _ _)))
  go_region_held3 (fun w' => (w'.cell? ⟨w10.heap.size, 0, none⟩ = some (.int .i64 x1_0) ∧ w'.cell? ⟨w10.heap.size, 1, none⟩ = some (.slice qHU1_0 n1_1 dHU1_0) ∧ w'.cell? ⟨w10.heap.size, 2, none⟩ = some (.int .i64 x1_2)) ∧ w'.cell? ⟨W.heap.size + 1, 0, none⟩ = some (.int .i64 x1_0) ∧ w'.cell? ⟨W.heap.size + 1, 1, none⟩ = some (.slice p1_1 n1_1 c1_1) ∧ w'.cell? ⟨W.heap.size + 1, 2, none⟩ = some (.int .i64 x1_2)) (first | exact ⟨DpPiece.bxc HS1.out, DpPiece.bxc HX1.out⟩ | go_keep) (first | (go_at_call 17; (with_reducible refine (DpPiece.to_any _ _ _ _ _ _ _ (HP1_1.out.below HB.out) (by rw [HM1.out]; omega)).mono ?_); rintro e w14 ⟨qHY1_0, dHY1_0, rfl, ho0, hb⟩; replace HB := Lib.hid (below_on HB.out hb); replace HX0 := Lib.hid (HX0.out.below hb); replace HX1 := Lib.hid (HX1.out.below hb); replace HU0_0 := Lib.hid (HU0_0.out.below hb); replace HU0_1 := Lib.hid (HU0_1.out.below hb); replace HS0 := Lib.hid (HS0.out.below hb); replace HU1_0 := Lib.hid (HU1_0.out.below hb); replace HS1 := Lib.hid (HS1.out.below hb); have HY1_0 := Lib.hid ho0; clear ho0; clear hb) | (go_at_call 19; (with_reducible refine (DpPiece.eq_any _ _ _ _ _ _ _ _ _ HU1_0.out HY1_0.out).mono ?_); rintro e w15 ⟨rfl, hb⟩; replace HB := Lib.hid (below_on HB.out hb); replace HX0 := Lib.hid (HX0.out.below hb); replace HX1 := Lib.hid (HX1.out.below hb); replace HU0_0 := Lib.hid (HU0_0.out.below hb); replace HU0_1 := Lib.hid (HU0_1.out.below hb); replace HS0 := Lib.hid (HS0.out.below hb); replace HU1_0 := Lib.hid (HU1_0.out.below hb); replace HS1 := Lib.hid (HS1.out.below hb); replace HY1_0 := Lib.hid (HY1_0.out.below hb); clear hb))
  clear j0_0 j0_1 j0_2
  clear j1_0 j1_1 j1_2
  clear HY1_0
  go_wp2_with fail
  go_ret
  exact ⟨rfl, HB.out⟩
end Go.Proofs.Ytapijjdjaamldaa.fnExactFindPiece
