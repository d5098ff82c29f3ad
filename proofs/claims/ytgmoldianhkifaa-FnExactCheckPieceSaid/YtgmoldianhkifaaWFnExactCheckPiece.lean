/- The walk of the law FnExactCheckPiece. -/
import Derived.Test.YtgmoldianhkifaaEd
import Derived.Test.YtgmoldianhkifaaDz
import Derived.Test.YtgmoldianhkifaaSlI
import Derived.Test.YtgmoldianhkifaaSlAll
import Derived.Test.YtgmoldianhkifaaDpPiece
import Derived.Test.YtgmoldianhkifaaPk
import Derived.OpenShut
import Derived.Deep.RegionHeld3
import Derived.Laws.Strings
namespace Go.Proofs.Ytgmoldianhkifaa.fnExactCheckPiece
open Go.ChangeShapes Go.WideShapes Go.ChangeAt Go.RowKit Sl St Ed Pk
theorem drewB {W w : World} {B : Nat} (h : Below B W w) : Below B W w.drew := below_drewN h 1
set_option maxRecDepth 100000 in
set_option maxHeartbeats 8000000 in
theorem walk {H : Type} {enc : TypeId × Value → H} (W : World) (base : Nat)
    (v0 : Value) (d0 : DataW H) (p0 : List MemPlace) (h0 : DataW.Trod enc Try.prog W 0 (fun _ => true) true 22 v0 d0 p0) (k0 : Value.okWide Try.prog W .any base 22 v0)
    (v1 : Value) (d1 : DataW H) (p1 : List MemPlace) (h1 : DataW.Trod enc Try.prog W 0 (fun _ => true) true 25 v1 d1 p1) (k1 : Value.okWide Try.prog W .any base 25 v1)
    (_hsz : (DataW.weightsEach Try.prog [22, 25] [d0, d1]).all (· ≤ reachBytes) = true) :
    Calls Try.prog 3 #[v0, v1] W fun e w' => e = .returned (.bool true) ∧ Below W.heap.size W w' := by
  obtain ⟨p0, n0, c0, l0, rfl, hr0, hg0⟩ := SlKey.open_argR h0 k0
  have HP0 : Hid (RdD (flat SlKey.E SlKey.InR) (fun _ => True) W p0 n0 l0) := Lib.hid (RdD.ofS hr0 hg0 (fun _ _ _ _ => trivial))
  have hn0 := hr0.le
  clear hr0 hg0
  clear h0 k0
  obtain ⟨x1_0, l1_1, x1_2, p1_1, n1_1, c1_1, rfl, b1_0, h1_1, b1_2⟩ := DpPiece.open_val h1 k1
  have HG1_0 := Lib.hid b1_0
  have HP1_1 := Lib.hid h1_1
  have HG1_2 := Lib.hid b1_2
  have hn1_1 := h1_1.le
  clear b1_0 h1_1 b1_2
  clear h1 k1
  clear _hsz
  have HB := Lib.hid (Below.refl W.heap.size W)
  have HX1 := Lib.hid (Bx.new W 25 #[.int .i64 x1_0, .slice p1_1 n1_1 c1_1, .int .i64 x1_2])
  replace HB := Lib.hid (HB.out.alloc HB.out.size (.cells #[.int .i64 x1_0, .slice p1_1 n1_1 c1_1, .int .i64 x1_2] 25))
  have lX1 := HX1.out.lt
  obtain ⟨m1, hm1⟩ : ∃ m : Nat, DpPiece.E.wt (x1_0, l1_1, x1_2) = m := ⟨_, rfl⟩
  have HM1 := Lib.hid hm1
  clear hm1
  by_cases hbig0 : 1048576 < n0
  · go_enter Try.func3, Try.ntmps3
    go_wp2_with fail
    refine (SlKey.sz_big _ _ _ _ _ (by omega) (by omega) (by omega) hn0).mono ?_
    rintro e w1 ⟨rfl, rfl⟩
    go_wp2_with fail
    go_ret
    exact ⟨rfl, HB.out⟩
  by_cases hbig1 : 1048576 < n0 + m1
  · go_enter Try.func3, Try.ntmps3
    go_wp2_with fail
    refine (SlKey.sz_fits _ _ _ _ _ (by omega) (by omega)).mono ?_
    rintro e w2 ⟨rfl, rfl⟩
    obtain ⟨i0, i1, i2⟩ := DpPiece.bxc HX1.out
    go_wp2_with fail
    refine (DpPiece.sz_big _ _ _ _ _ _ _ _ _ HM1.out (HP1_1.out.below HB.out) (by omega) (by omega) (by omega)).mono ?_
    rintro e w3 ⟨rfl, hb⟩
    replace HB := Lib.hid (below_on HB.out hb)
    replace HX1 := Lib.hid (HX1.out.below hb)
    clear hb
    clear i0 i1 i2
    go_wp2_with fail
    go_ret
    exact ⟨rfl, HB.out⟩
  go_enter Try.func3, Try.ntmps3
  go_wp2_with fail
  refine (SlKey.sz_fits _ _ _ _ _ (by omega) (by omega)).mono ?_
  rintro e w4 ⟨rfl, rfl⟩
  obtain ⟨i0, i1, i2⟩ := DpPiece.bxc HX1.out
  go_wp2_with fail
  refine (DpPiece.sz_fits _ _ _ _ _ _ _ _ _ HM1.out (HP1_1.out.below HB.out) (by omega) (by omega)).mono ?_
  rintro e w5 ⟨rfl, hb⟩
  replace HB := Lib.hid (below_on HB.out hb)
  replace HX1 := Lib.hid (HX1.out.below hb)
  clear hb
  clear i0 i1 i2
  have sm0 : n0 ≤ 1048576 := by omega
  have sm1 : m1 ≤ 1048576 := by omega
  have smt : n0 + m1 ≤ 1048576 := by omega
  clear hbig0
  clear hbig1
  have sn1_1 : n1_1 ≤ 1048576 := by have h := HM1.out; have k := HP1_1.out.len; simp only [DpPiece.wt_eq] at h; omega
  obtain ⟨j0_0, j0_1, j0_2⟩ := DpPiece.bxc HX1.out
  go_wp2_with fail
  replace HB := Lib.hid (drewB HB.out)
  replace HX1 := Lib.hid (HX1.out.below (drewB (Below.refl _ _)))
  go_region_held3 (fun w' => w'.cell? ⟨W.heap.size, 0, none⟩ = some (.int .i64 x1_0) ∧ w'.cell? ⟨W.heap.size, 1, none⟩ = some (.slice p1_1 n1_1 c1_1) ∧ w'.cell? ⟨W.heap.size, 2, none⟩ = some (.int .i64 x1_2)) (first | exact DpPiece.bxc HX1.out | go_keep) (first | (go_at_call 14; (with_reducible refine (SlKey.to_any _ _ _ _ _ (HP0.out.below HB.out).rdS (by omega)).mono ?_); rintro e w6 ⟨qHT0, mHT0, dHT0, rfl, ho, hb⟩; replace HB := Lib.hid (below_on HB.out hb); replace HX1 := Lib.hid (HX1.out.below hb); have HT0 := Lib.hid (RdD.ofOwS ho HP0.out.allP); obtain rfl : n0 = mHT0 := HP0.out.len.symm.trans HT0.out.len; clear ho; clear hb) | (go_at_call 15; (with_reducible refine (DpPiece.to_any _ _ _ _ _ _ _ (HP1_1.out.below HB.out) (by rw [HM1.out]; omega)).mono ?_); rintro e w7 ⟨qHT1_0, dHT1_0, rfl, ho0, hb⟩; replace HB := Lib.hid (below_on HB.out hb); replace HX1 := Lib.hid (HX1.out.below hb); replace HT0 := Lib.hid (HT0.out.below hb); have HT1_0 := Lib.hid ho0; clear ho0; clear hb) | (go_at_call 13; (with_reducible refine (Pk.spec_check_any _ _ _ _ x1_0 _ _ _ x1_2 l1_1 (by omega) _ HT0.out HT1_0.out.ints).mono ?_); rintro e w8 ⟨rfl, hb⟩; replace HB := Lib.hid (below_on HB.out hb); replace HX1 := Lib.hid (HX1.out.below hb); replace HT0 := Lib.hid (HT0.out.below hb); replace HT1_0 := Lib.hid (HT1_0.out.below hb); clear hb))
  clear j0_0 j0_1 j0_2
  clear HT0
  clear HT1_0
  go_wp2_with fail
  refine (SlKey.to_any _ _ _ _ _ (HP0.out.below HB.out).rdS (by omega)).mono ?_
  rintro e w9 ⟨qHU0, mHU0, dHU0, rfl, ho, hb⟩
  replace HB := Lib.hid (below_on HB.out hb)
  replace HX1 := Lib.hid (HX1.out.below hb)
  have HU0 := Lib.hid (RdD.ofOwS ho HP0.out.allP)
  obtain rfl : n0 = mHU0 := HP0.out.len.symm.trans HU0.out.len
  clear ho
  clear hb
  obtain ⟨i0, i1, i2⟩ := DpPiece.bxc HX1.out
  go_wp2_with fail
  refine (DpPiece.to_any _ _ _ _ _ _ _ (HP1_1.out.below HB.out) (by rw [HM1.out]; omega)).mono ?_
  rintro e w10 ⟨qHU1_0, dHU1_0, rfl, ho0, hb⟩
  replace HB := Lib.hid (below_on HB.out hb)
  replace HX1 := Lib.hid (HX1.out.below hb)
  replace HU0 := Lib.hid (HU0.out.below hb)
  have HU1_0 := Lib.hid ho0
  clear ho0
  clear hb
  clear i0 i1 i2
  have HS1 := Lib.hid (Bx.new w10 31 #[.int .i64 x1_0, .slice qHU1_0 n1_1 dHU1_0, .int .i64 x1_2])
  have lHS1 := HS1.out.lt
  replace HB := Lib.hid (HB.out.alloc HB.out.size (.cells #[.int .i64 x1_0, .slice qHU1_0 n1_1 dHU1_0, .int .i64 x1_2] 31))
  replace HX1 := Lib.hid (HX1.out.alloc (.cells #[.int .i64 x1_0, .slice qHU1_0 n1_1 dHU1_0, .int .i64 x1_2] 31))
  replace HU0 := Lib.hid (HU0.out.alloc (.cells #[.int .i64 x1_0, .slice qHU1_0 n1_1 dHU1_0, .int .i64 x1_2] 31))
  replace HU1_0 := Lib.hid (HU1_0.out.alloc (.cells #[.int .i64 x1_0, .slice qHU1_0 n1_1 dHU1_0, .int .i64 x1_2] 31))
  obtain ⟨k1_0, k1_1, k1_2⟩ := DpPiece.bxc HS1.out
  go_wp2_with fail
  refine (Pk.check_any _ _ _ _ x1_0 _ _ _ x1_2 l1_1 HG1_0.out HG1_2.out (by omega) _ HU0.out HU1_0.out.ints).mono ?_
  rintro e w11 ⟨rfl, hb⟩
  replace HB := Lib.hid (below_on HB.out hb)
  replace HX1 := Lib.hid (HX1.out.below hb)
  replace HU0 := Lib.hid (HU0.out.below hb)
  replace HU1_0 := Lib.hid (HU1_0.out.below hb)
  replace HS1 := Lib.hid (HS1.out.below hb)
  clear hb
  clear k1_0 k1_1 k1_2
  go_wp2_with fail
  refine (SlKey.to_any _ _ _ _ _ (HP0.out.below HB.out).rdS (by omega)).mono ?_
  rintro e w12 ⟨qHY0, mHY0, dHY0, rfl, ho, hb⟩
  replace HB := Lib.hid (below_on HB.out hb)
  replace HX1 := Lib.hid (HX1.out.below hb)
  replace HU0 := Lib.hid (HU0.out.below hb)
  replace HU1_0 := Lib.hid (HU1_0.out.below hb)
  replace HS1 := Lib.hid (HS1.out.below hb)
  have HY0 := Lib.hid (RdD.ofOwS ho HP0.out.allP)
  obtain rfl : n0 = mHY0 := HP0.out.len.symm.trans HY0.out.len
  clear ho
  clear hb
  go_wp2_with fail
  refine (SlKey.eq_any _ _ _ _ _ _ _ HU0.out.rdS HY0.out.rdS).mono ?_
  rintro e w13 ⟨rfl, hb⟩
  replace HB := Lib.hid (below_on HB.out hb)
  replace HX1 := Lib.hid (HX1.out.below hb)
  replace HU0 := Lib.hid (HU0.out.below hb)
  replace HU1_0 := Lib.hid (HU1_0.out.below hb)
  replace HS1 := Lib.hid (HS1.out.below hb)
  replace HY0 := Lib.hid (HY0.out.below hb)
  clear hb
  clear HY0
  obtain ⟨j0_0, j0_1, j0_2⟩ := DpPiece.bxc HS1.out
  obtain ⟨j1_0, j1_1, j1_2⟩ := DpPiece.bxc HX1.out
  go_wp2_with fail
  replace HB := Lib.hid (drewB HB.out)
  replace HX1 := Lib.hid (HX1.out.below (drewB (Below.refl _ _)))
  replace HU0 := Lib.hid (HU0.out.below (drewB (Below.refl _ _)))
  replace HU1_0 := Lib.hid (HU1_0.out.below (drewB (Below.refl _ _)))
  replace HS1 := Lib.hid (HS1.out.below (drewB (Below.refl _ _)))
  go_region_held3 (fun w' => (w'.cell? ⟨w10.heap.size, 0, none⟩ = some (.int .i64 x1_0) ∧ w'.cell? ⟨w10.heap.size, 1, none⟩ = some (.slice qHU1_0 n1_1 dHU1_0) ∧ w'.cell? ⟨w10.heap.size, 2, none⟩ = some (.int .i64 x1_2)) ∧ w'.cell? ⟨W.heap.size, 0, none⟩ = some (.int .i64 x1_0) ∧ w'.cell? ⟨W.heap.size, 1, none⟩ = some (.slice p1_1 n1_1 c1_1) ∧ w'.cell? ⟨W.heap.size, 2, none⟩ = some (.int .i64 x1_2)) (first | exact ⟨DpPiece.bxc HS1.out, DpPiece.bxc HX1.out⟩ | go_keep) (first | (go_at_call 15; (with_reducible refine (DpPiece.to_any _ _ _ _ _ _ _ (HP1_1.out.below HB.out) (by rw [HM1.out]; omega)).mono ?_); rintro e w14 ⟨qHY1_0, dHY1_0, rfl, ho0, hb⟩; replace HB := Lib.hid (below_on HB.out hb); replace HX1 := Lib.hid (HX1.out.below hb); replace HU0 := Lib.hid (HU0.out.below hb); replace HU1_0 := Lib.hid (HU1_0.out.below hb); replace HS1 := Lib.hid (HS1.out.below hb); have HY1_0 := Lib.hid ho0; clear ho0; clear hb) | (go_at_call 18; (with_reducible refine (DpPiece.eq_any _ _ _ _ _ _ _ _ _ HU1_0.out HY1_0.out).mono ?_); rintro e w15 ⟨rfl, hb⟩; replace HB := Lib.hid (below_on HB.out hb); replace HX1 := Lib.hid (HX1.out.below hb); replace HU0 := Lib.hid (HU0.out.below hb); replace HU1_0 := Lib.hid (HU1_0.out.below hb); replace HS1 := Lib.hid (HS1.out.below hb); replace HY1_0 := Lib.hid (HY1_0.out.below hb); clear hb))
  clear j0_0 j0_1 j0_2
  clear j1_0 j1_1 j1_2
  clear HY1_0
  go_wp2_with fail
  go_ret
  exact ⟨rfl, HB.out⟩
end Go.Proofs.Ytgmoldianhkifaa.fnExactCheckPiece
