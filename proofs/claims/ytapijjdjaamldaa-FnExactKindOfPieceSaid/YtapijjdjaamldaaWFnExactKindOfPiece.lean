/- The walk of the law FnExactKindOfPiece. -/
import Derived.Test.YtapijjdjaamldaaEd
import Derived.Test.YtapijjdjaamldaaDz
import Derived.Test.YtapijjdjaamldaaSlI
import Derived.Test.YtapijjdjaamldaaDpPiece
import Derived.Test.YtapijjdjaamldaaKp
import Derived.Test.YtapijjdjaamldaaKq
import Derived.OpenShut
import Derived.Deep.RegionHeld3
import Derived.Laws.Strings
namespace Go.Proofs.Ytapijjdjaamldaa.fnExactKindOfPiece
open Go.ChangeShapes Go.WideShapes Go.ChangeAt Go.RowKit Sl St Ed Kp Kq
theorem drewB {W w : World} {B : Nat} (h : Below B W w) : Below B W w.drew := below_drewN h 1
set_option maxRecDepth 100000 in
set_option maxHeartbeats 8000000 in
theorem walk {H : Type} {enc : TypeId × Value → H} (W : World) (base : Nat)
    (v0 : Value) (d0 : DataW H) (p0 : List MemPlace) (h0 : DataW.Trod enc Try.prog W 0 (fun _ => true) true 24 v0 d0 p0) (k0 : Value.okWide Try.prog W .any base 24 v0)
    (_hsz : (DataW.weightsEach Try.prog [24] [d0]).all (· ≤ reachBytes) = true) :
    Calls Try.prog 3 #[v0] W fun e w' => e = .returned (.bool true) ∧ Below W.heap.size W w' := by
  obtain ⟨x0_0, l0_1, x0_2, p0_1, n0_1, c0_1, rfl, b0_0, h0_1, b0_2⟩ := DpPiece.open_val h0 k0
  have HG0_0 := Lib.hid b0_0
  have HP0_1 := Lib.hid h0_1
  have HG0_2 := Lib.hid b0_2
  have hn0_1 := h0_1.le
  clear b0_0 h0_1 b0_2
  clear h0 k0
  clear _hsz
  have HB := Lib.hid (Below.refl W.heap.size W)
  have HX0 := Lib.hid (Bx.new W 24 #[.int .i64 x0_0, .slice p0_1 n0_1 c0_1, .int .i64 x0_2])
  replace HB := Lib.hid (HB.out.alloc HB.out.size (.cells #[.int .i64 x0_0, .slice p0_1 n0_1 c0_1, .int .i64 x0_2] 24))
  have lX0 := HX0.out.lt
  obtain ⟨m0, hm0⟩ : ∃ m : Nat, DpPiece.E.wt (x0_0, l0_1, x0_2) = m := ⟨_, rfl⟩
  have HM0 := Lib.hid hm0
  clear hm0
  by_cases hbig0 : 1048576 < m0
  · go_enter Try.func3, Try.ntmps3
    obtain ⟨i0, i1, i2⟩ := DpPiece.bxc HX0.out
    go_wp2_with fail
    refine (DpPiece.sz_big _ _ _ _ _ _ _ _ _ HM0.out (HP0_1.out.below HB.out) (by omega) (by omega) (by omega)).mono ?_
    rintro e w1 ⟨rfl, hb⟩
    replace HB := Lib.hid (below_on HB.out hb)
    replace HX0 := Lib.hid (HX0.out.below hb)
    clear hb
    clear i0 i1 i2
    go_wp2_with fail
    go_ret
    exact ⟨rfl, HB.out⟩
  go_enter Try.func3, Try.ntmps3
  obtain ⟨i0, i1, i2⟩ := DpPiece.bxc HX0.out
  go_wp2_with fail
  refine (DpPiece.sz_fits _ _ _ _ _ _ _ _ _ HM0.out (HP0_1.out.below HB.out) (by omega) (by omega)).mono ?_
  rintro e w2 ⟨rfl, hb⟩
  replace HB := Lib.hid (below_on HB.out hb)
  replace HX0 := Lib.hid (HX0.out.below hb)
  clear hb
  clear i0 i1 i2
  have sm0 : m0 ≤ 1048576 := by omega
  clear hbig0
  have sn0_1 : n0_1 ≤ 1048576 := by have h := HM0.out; have k := HP0_1.out.len; simp only [DpPiece.wt_eq] at h; omega
  obtain ⟨i0, i1, i2⟩ := DpPiece.bxc HX0.out
  go_wp2_with fail
  refine (DpPiece.to_any _ _ _ _ _ _ _ (HP0_1.out.below HB.out) (by rw [HM0.out]; omega)).mono ?_
  rintro e w3 ⟨qHT0_0, dHT0_0, rfl, ho0, hb⟩
  replace HB := Lib.hid (below_on HB.out hb)
  replace HX0 := Lib.hid (HX0.out.below hb)
  have HT0_0 := Lib.hid ho0
  clear ho0
  clear hb
  clear i0 i1 i2
  go_wp2_with fail
  refine (Kq.spec_kind_any x0_0 _ _ _ x0_2 _ _ HT0_0.out.ints).mono ?_
  rintro e w4 ⟨rfl, hb⟩
  replace HB := Lib.hid (below_on HB.out hb)
  replace HX0 := Lib.hid (HX0.out.below hb)
  replace HT0_0 := Lib.hid (HT0_0.out.below hb)
  clear hb
  clear HT0_0
  obtain ⟨i0, i1, i2⟩ := DpPiece.bxc HX0.out
  go_wp2_with fail
  refine (DpPiece.to_any _ _ _ _ _ _ _ (HP0_1.out.below HB.out) (by rw [HM0.out]; omega)).mono ?_
  rintro e w5 ⟨qHU0_0, dHU0_0, rfl, ho0, hb⟩
  replace HB := Lib.hid (below_on HB.out hb)
  replace HX0 := Lib.hid (HX0.out.below hb)
  have HU0_0 := Lib.hid ho0
  clear ho0
  clear hb
  clear i0 i1 i2
  have HS0 := Lib.hid (Bx.new w5 27 #[.int .i64 x0_0, .slice qHU0_0 n0_1 dHU0_0, .int .i64 x0_2])
  have lHS0 := HS0.out.lt
  replace HB := Lib.hid (HB.out.alloc HB.out.size (.cells #[.int .i64 x0_0, .slice qHU0_0 n0_1 dHU0_0, .int .i64 x0_2] 27))
  replace HX0 := Lib.hid (HX0.out.alloc (.cells #[.int .i64 x0_0, .slice qHU0_0 n0_1 dHU0_0, .int .i64 x0_2] 27))
  replace HU0_0 := Lib.hid (HU0_0.out.alloc (.cells #[.int .i64 x0_0, .slice qHU0_0 n0_1 dHU0_0, .int .i64 x0_2] 27))
  obtain ⟨k0_0, k0_1, k0_2⟩ := DpPiece.bxc HS0.out
  go_wp2_with fail
  refine (Kp.kind_any x0_0 _ _ _ x0_2 _ _ HU0_0.out.ints).mono ?_
  rintro e w6 ⟨rfl, hb⟩
  replace HB := Lib.hid (below_on HB.out hb)
  replace HX0 := Lib.hid (HX0.out.below hb)
  replace HU0_0 := Lib.hid (HU0_0.out.below hb)
  replace HS0 := Lib.hid (HS0.out.below hb)
  clear hb
  clear k0_0 k0_1 k0_2
  obtain ⟨j0_0, j0_1, j0_2⟩ := DpPiece.bxc HS0.out
  obtain ⟨j1_0, j1_1, j1_2⟩ := DpPiece.bxc HX0.out
  go_wp2_with fail
  replace HB := Lib.hid (drewB HB.out)
  replace HX0 := Lib.hid (HX0.out.below (drewB (Below.refl _ _)))
  replace HU0_0 := Lib.hid (HU0_0.out.below (drewB (Below.refl _ _)))
  replace HS0 := Lib.hid (HS0.out.below (drewB (Below.refl _ _)))
  go_region_held3 (fun w' => (w'.cell? ⟨w5.heap.size, 0, none⟩ = some (.int .i64 x0_0) ∧ w'.cell? ⟨w5.heap.size, 1, none⟩ = some (.slice qHU0_0 n0_1 dHU0_0) ∧ w'.cell? ⟨w5.heap.size, 2, none⟩ = some (.int .i64 x0_2)) ∧ w'.cell? ⟨W.heap.size, 0, none⟩ = some (.int .i64 x0_0) ∧ w'.cell? ⟨W.heap.size, 1, none⟩ = some (.slice p0_1 n0_1 c0_1) ∧ w'.cell? ⟨W.heap.size, 2, none⟩ = some (.int .i64 x0_2)) (first | exact ⟨DpPiece.bxc HS0.out, DpPiece.bxc HX0.out⟩ | go_keep) (first | (go_at_call 17; (with_reducible refine (DpPiece.to_any _ _ _ _ _ _ _ (HP0_1.out.below HB.out) (by rw [HM0.out]; omega)).mono ?_); rintro e w7 ⟨qHY0_0, dHY0_0, rfl, ho0, hb⟩; replace HB := Lib.hid (below_on HB.out hb); replace HX0 := Lib.hid (HX0.out.below hb); replace HU0_0 := Lib.hid (HU0_0.out.below hb); replace HS0 := Lib.hid (HS0.out.below hb); have HY0_0 := Lib.hid ho0; clear ho0; clear hb) | (go_at_call 19; (with_reducible refine (DpPiece.eq_any _ _ _ _ _ _ _ _ _ HU0_0.out HY0_0.out).mono ?_); rintro e w8 ⟨rfl, hb⟩; replace HB := Lib.hid (below_on HB.out hb); replace HX0 := Lib.hid (HX0.out.below hb); replace HU0_0 := Lib.hid (HU0_0.out.below hb); replace HS0 := Lib.hid (HS0.out.below hb); replace HY0_0 := Lib.hid (HY0_0.out.below hb); clear hb))
  clear j0_0 j0_1 j0_2
  clear j1_0 j1_1 j1_2
  clear HY0_0
  go_wp2_with fail
  go_ret
  exact ⟨rfl, HB.out⟩
end Go.Proofs.Ytapijjdjaamldaa.fnExactKindOfPiece
