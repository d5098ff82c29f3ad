/- The walk of the law FnExactEqualArchives. -/
import Derived.Test.YtkmgnicngcandaaEd
import Derived.Test.YtkmgnicngcandaaDz
import Derived.Test.YtkmgnicngcandaaSlI
import Derived.Test.YtkmgnicngcandaaDpArchive
import Derived.Test.YtkmgnicngcandaaEa3
import Derived.Test.YtkmgnicngcandaaEa2
import Derived.OpenShut
import Derived.Deep.RegionHeld3
import Derived.Laws.Strings
namespace Go.Proofs.Ytkmgnicngcandaa.fnExactEqualArchives
open Go.ChangeShapes Go.WideShapes Go.ChangeAt Go.RowKit Sl St Ed Ea3 Ea2
theorem drewB {W w : World} {B : Nat} (h : Below B W w) : Below B W w.drew := below_drewN h 1
set_option maxRecDepth 100000 in
set_option maxHeartbeats 8000000 in
theorem walk {H : Type} {enc : TypeId × Value → H} (W : World) (base : Nat)
    (v0 : Value) (d0 : DataW H) (p0 : List MemPlace) (h0 : DataW.Trod enc Try.prog W 0 (fun _ => true) true 49 v0 d0 p0) (k0 : Value.okWide Try.prog W .any base 49 v0)
    (v1 : Value) (d1 : DataW H) (p1 : List MemPlace) (h1 : DataW.Trod enc Try.prog W 0 (fun _ => true) true 49 v1 d1 p1) (k1 : Value.okWide Try.prog W .any base 49 v1)
    (_hsz : (DataW.weightsEach Try.prog [49, 49] [d0, d1]).all (· ≤ reachBytes) = true) :
    Calls Try.prog 5 #[v0, v1] W fun e w' => e = .returned (.bool true) ∧ Below W.heap.size W w' := by
  obtain ⟨x0_0, l0_1, p0_1, n0_1, c0_1, rfl, b0_0, h0_1⟩ := DpArchive.open_val h0 k0
  have HG0_0 := Lib.hid b0_0
  have HP0_1 := Lib.hid h0_1
  have hn0_1 := h0_1.le
  clear b0_0 h0_1
  clear h0 k0
  obtain ⟨x1_0, l1_1, p1_1, n1_1, c1_1, rfl, b1_0, h1_1⟩ := DpArchive.open_val h1 k1
  have HG1_0 := Lib.hid b1_0
  have HP1_1 := Lib.hid h1_1
  have hn1_1 := h1_1.le
  clear b1_0 h1_1
  clear h1 k1
  clear _hsz
  have HB := Lib.hid (Below.refl W.heap.size W)
  have HX0 := Lib.hid (Bx.new W 49 #[.int .i64 x0_0, .slice p0_1 n0_1 c0_1])
  replace HB := Lib.hid (HB.out.alloc HB.out.size (.cells #[.int .i64 x0_0, .slice p0_1 n0_1 c0_1] 49))
  have lX0 := HX0.out.lt
  have hbx1 := Bx.new (W.alloc (.cells #[.int .i64 x0_0, .slice p0_1 n0_1 c0_1] 49)) 49 #[.int .i64 x1_0, .slice p1_1 n1_1 c1_1]
  rw [World.size_alloc] at hbx1
  have HX1 := Lib.hid hbx1
  clear hbx1
  replace HX0 := Lib.hid (HX0.out.alloc (.cells #[.int .i64 x1_0, .slice p1_1 n1_1 c1_1] 49))
  replace HB := Lib.hid (HB.out.alloc HB.out.size (.cells #[.int .i64 x1_0, .slice p1_1 n1_1 c1_1] 49))
  have lX1 := HX1.out.lt
  obtain ⟨m0, hm0⟩ : ∃ m : Nat, DpArchive.E.wt (x0_0, l0_1) = m := ⟨_, rfl⟩
  have HM0 := Lib.hid hm0
  clear hm0
  obtain ⟨m1, hm1⟩ : ∃ m : Nat, DpArchive.E.wt (x1_0, l1_1) = m := ⟨_, rfl⟩
  have HM1 := Lib.hid hm1
  clear hm1
  by_cases hbig0 : 1048576 < m0
  · go_enter Try.func5, Try.ntmps5
    obtain ⟨i0, i1⟩ := DpArchive.bxc HX0.out
    go_wp2_with fail
    refine (DpArchive.sz_big _ _ _ _ _ _ _ _ HM0.out (HP0_1.out.below HB.out) (by omega) (by omega) (by omega)).mono ?_
    rintro e w1 ⟨rfl, hb⟩
    replace HB := Lib.hid (below_on HB.out hb)
    replace HX0 := Lib.hid (HX0.out.below hb)
    replace HX1 := Lib.hid (HX1.out.below hb)
    clear hb
    clear i0 i1
    go_wp2_with fail
    go_ret
    exact ⟨rfl, HB.out⟩
  by_cases hbig1 : 1048576 < m0 + m1
  · go_enter Try.func5, Try.ntmps5
    obtain ⟨i0, i1⟩ := DpArchive.bxc HX0.out
    go_wp2_with fail
    refine (DpArchive.sz_fits _ _ _ _ _ _ _ _ HM0.out (HP0_1.out.below HB.out) (by omega) (by omega)).mono ?_
    rintro e w2 ⟨rfl, hb⟩
    replace HB := Lib.hid (below_on HB.out hb)
    replace HX0 := Lib.hid (HX0.out.below hb)
    replace HX1 := Lib.hid (HX1.out.below hb)
    clear hb
    clear i0 i1
    obtain ⟨i0, i1⟩ := DpArchive.bxc HX1.out
    go_wp2_with fail
    refine (DpArchive.sz_big _ _ _ _ _ _ _ _ HM1.out (HP1_1.out.below HB.out) (by omega) (by omega) (by omega)).mono ?_
    rintro e w3 ⟨rfl, hb⟩
    replace HB := Lib.hid (below_on HB.out hb)
    replace HX0 := Lib.hid (HX0.out.below hb)
    replace HX1 := Lib.hid (HX1.out.below hb)
    clear hb
    clear i0 i1
    go_wp2_with fail
    go_ret
    exact ⟨rfl, HB.out⟩
  go_enter Try.func5, Try.ntmps5
  obtain ⟨i0, i1⟩ := DpArchive.bxc HX0.out
  go_wp2_with fail
  refine (DpArchive.sz_fits _ _ _ _ _ _ _ _ HM0.out (HP0_1.out.below HB.out) (by omega) (by omega)).mono ?_
  rintro e w4 ⟨rfl, hb⟩
  replace HB := Lib.hid (below_on HB.out hb)
  replace HX0 := Lib.hid (HX0.out.below hb)
  replace HX1 := Lib.hid (HX1.out.below hb)
  clear hb
  clear i0 i1
  obtain ⟨i0, i1⟩ := DpArchive.bxc HX1.out
  go_wp2_with fail
  refine (DpArchive.sz_fits _ _ _ _ _ _ _ _ HM1.out (HP1_1.out.below HB.out) (by omega) (by omega)).mono ?_
  rintro e w5 ⟨rfl, hb⟩
  replace HB := Lib.hid (below_on HB.out hb)
  replace HX0 := Lib.hid (HX0.out.below hb)
  replace HX1 := Lib.hid (HX1.out.below hb)
  clear hb
  clear i0 i1
  have sm0 : m0 ≤ 1048576 := by omega
  have sm1 : m1 ≤ 1048576 := by omega
  have smt : m0 + m1 ≤ 1048576 := by omega
  clear hbig0
  clear hbig1
  have sn0_1 : n0_1 ≤ 1048576 := by have h := HM0.out; have k := HP0_1.out.len; simp only [DpArchive.wt_eq] at h; omega
  have sn1_1 : n1_1 ≤ 1048576 := by have h := HM1.out; have k := HP1_1.out.len; simp only [DpArchive.wt_eq] at h; omega
  obtain ⟨j0_0, j0_1⟩ := DpArchive.bxc HX0.out
  obtain ⟨j1_0, j1_1⟩ := DpArchive.bxc HX1.out
  go_wp2_with fail
  replace HB := Lib.hid (drewB HB.out)
  replace HX0 := Lib.hid (HX0.out.below (drewB (Below.refl _ _)))
  replace HX1 := Lib.hid (HX1.out.below (drewB (Below.refl _ _)))
  go_region_held3 (fun w' => (w'.cell? ⟨W.heap.size, 0, none⟩ = some (.int .i64 x0_0) ∧ w'.cell? ⟨W.heap.size, 1, none⟩ = some (.slice p0_1 n0_1 c0_1)) ∧ w'.cell? ⟨W.heap.size + 1, 0, none⟩ = some (.int .i64 x1_0) ∧ w'.cell? ⟨W.heap.size + 1, 1, none⟩ = some (.slice p1_1 n1_1 c1_1)) (first | exact ⟨DpArchive.bxc HX0.out, DpArchive.bxc HX1.out⟩ | go_keep) (first | (go_at_call 14; (with_reducible refine (DpArchive.to_any _ _ _ _ _ _ (HP0_1.out.below HB.out) (by rw [HM0.out]; omega)).mono ?_); rintro e w6 ⟨qHT0_0, dHT0_0, rfl, ho0, hb⟩; replace HB := Lib.hid (below_on HB.out hb); replace HX0 := Lib.hid (HX0.out.below hb); replace HX1 := Lib.hid (HX1.out.below hb); have HT0_0 := Lib.hid ho0; clear ho0; clear hb) | (go_at_call 14; (with_reducible refine (DpArchive.to_any _ _ _ _ _ _ (HP1_1.out.below HB.out) (by rw [HM1.out]; omega)).mono ?_); rintro e w7 ⟨qHT1_0, dHT1_0, rfl, ho0, hb⟩; replace HB := Lib.hid (below_on HB.out hb); replace HX0 := Lib.hid (HX0.out.below hb); replace HX1 := Lib.hid (HX1.out.below hb); replace HT0_0 := Lib.hid (HT0_0.out.below hb); have HT1_0 := Lib.hid ho0; clear ho0; clear hb) | (go_at_call 17; (with_reducible refine (Ea2.spec_equal_any _ _ _ _ _ _ _ _ _ _ _ HT0_0.out HT1_0.out).mono ?_); rintro e w8 ⟨rfl, hb⟩; replace HB := Lib.hid (below_on HB.out hb); replace HX0 := Lib.hid (HX0.out.below hb); replace HX1 := Lib.hid (HX1.out.below hb); replace HT0_0 := Lib.hid (HT0_0.out.below hb); replace HT1_0 := Lib.hid (HT1_0.out.below hb); clear hb))
  clear j0_0 j0_1
  clear j1_0 j1_1
  clear HT0_0
  clear HT1_0
  obtain ⟨i0, i1⟩ := DpArchive.bxc HX0.out
  go_wp2_with fail
  refine (DpArchive.to_any _ _ _ _ _ _ (HP0_1.out.below HB.out) (by rw [HM0.out]; omega)).mono ?_
  rintro e w9 ⟨qHU0_0, dHU0_0, rfl, ho0, hb⟩
  replace HB := Lib.hid (below_on HB.out hb)
  replace HX0 := Lib.hid (HX0.out.below hb)
  replace HX1 := Lib.hid (HX1.out.below hb)
  have HU0_0 := Lib.hid ho0
  clear ho0
  clear hb
  clear i0 i1
  have HS0 := Lib.hid (Bx.new w9 54 #[.int .i64 x0_0, .slice qHU0_0 n0_1 dHU0_0])
  have lHS0 := HS0.out.lt
  replace HB := Lib.hid (HB.out.alloc HB.out.size (.cells #[.int .i64 x0_0, .slice qHU0_0 n0_1 dHU0_0] 54))
  replace HX0 := Lib.hid (HX0.out.alloc (.cells #[.int .i64 x0_0, .slice qHU0_0 n0_1 dHU0_0] 54))
  replace HX1 := Lib.hid (HX1.out.alloc (.cells #[.int .i64 x0_0, .slice qHU0_0 n0_1 dHU0_0] 54))
  replace HU0_0 := Lib.hid (HU0_0.out.alloc (.cells #[.int .i64 x0_0, .slice qHU0_0 n0_1 dHU0_0] 54))
  obtain ⟨i0, i1⟩ := DpArchive.bxc HX1.out
  go_wp2_with fail
  refine (DpArchive.to_any _ _ _ _ _ _ (HP1_1.out.below HB.out) (by rw [HM1.out]; omega)).mono ?_
  rintro e w10 ⟨qHU1_0, dHU1_0, rfl, ho0, hb⟩
  replace HB := Lib.hid (below_on HB.out hb)
  replace HX0 := Lib.hid (HX0.out.below hb)
  replace HX1 := Lib.hid (HX1.out.below hb)
  replace HU0_0 := Lib.hid (HU0_0.out.below hb)
  replace HS0 := Lib.hid (HS0.out.below hb)
  have HU1_0 := Lib.hid ho0
  clear ho0
  clear hb
  clear i0 i1
  have HS1 := Lib.hid (Bx.new w10 54 #[.int .i64 x1_0, .slice qHU1_0 n1_1 dHU1_0])
  have lHS1 := HS1.out.lt
  replace HB := Lib.hid (HB.out.alloc HB.out.size (.cells #[.int .i64 x1_0, .slice qHU1_0 n1_1 dHU1_0] 54))
  replace HX0 := Lib.hid (HX0.out.alloc (.cells #[.int .i64 x1_0, .slice qHU1_0 n1_1 dHU1_0] 54))
  replace HX1 := Lib.hid (HX1.out.alloc (.cells #[.int .i64 x1_0, .slice qHU1_0 n1_1 dHU1_0] 54))
  replace HU0_0 := Lib.hid (HU0_0.out.alloc (.cells #[.int .i64 x1_0, .slice qHU1_0 n1_1 dHU1_0] 54))
  replace HS0 := Lib.hid (HS0.out.alloc (.cells #[.int .i64 x1_0, .slice qHU1_0 n1_1 dHU1_0] 54))
  replace HU1_0 := Lib.hid (HU1_0.out.alloc (.cells #[.int .i64 x1_0, .slice qHU1_0 n1_1 dHU1_0] 54))
  obtain ⟨k0_0, k0_1⟩ := DpArchive.bxc HS0.out
  obtain ⟨k1_0, k1_1⟩ := DpArchive.bxc HS1.out
  go_wp2_with fail
  refine (Ea3.equal_any _ _ _ _ _ _ _ _ _ _ _ HU0_0.out HU1_0.out).mono ?_
  rintro e w11 ⟨rfl, hb⟩
  replace HB := Lib.hid (below_on HB.out hb)
  replace HX0 := Lib.hid (HX0.out.below hb)
  replace HX1 := Lib.hid (HX1.out.below hb)
  replace HU0_0 := Lib.hid (HU0_0.out.below hb)
  replace HS0 := Lib.hid (HS0.out.below hb)
  replace HU1_0 := Lib.hid (HU1_0.out.below hb)
  replace HS1 := Lib.hid (HS1.out.below hb)
  clear hb
  clear k0_0 k0_1
  clear k1_0 k1_1
  obtain ⟨j0_0, j0_1⟩ := DpArchive.bxc HS0.out
  obtain ⟨j1_0, j1_1⟩ := DpArchive.bxc HX0.out
  go_wp2_with fail
  replace HB := Lib.hid (drewB HB.out)
  replace HX0 := Lib.hid (HX0.out.below (drewB (Below.refl _ _)))
  replace HX1 := Lib.hid (HX1.out.below (drewB (Below.refl _ _)))
  replace HU0_0 := Lib.hid (HU0_0.out.below (drewB (Below.refl _ _)))
  replace HS0 := Lib.hid (HS0.out.below (drewB (Below.refl _ _)))
  replace HU1_0 := Lib.hid (HU1_0.out.below (drewB (Below.refl _ _)))
  replace HS1 := Lib.hid (HS1.out.below (drewB (Below.refl _ _)))
  go_region_held3 (fun w' => (w'.cell? ⟨w9.heap.size, 0, none⟩ = some (.int .i64 x0_0) ∧ w'.cell? ⟨w9.heap.size, 1, none⟩ = some (.slice qHU0_0 n0_1 dHU0_0)) ∧ w'.cell? ⟨W.heap.size, 0, none⟩ = some (.int .i64 x0_0) ∧ w'.cell? ⟨W.heap.size, 1, none⟩ = some (.slice p0_1 n0_1 c0_1)) (first | exact ⟨DpArchive.bxc HS0.out, DpArchive.bxc HX0.out⟩ | go_keep) (first | (go_at_call 14; (with_reducible refine (DpArchive.to_any _ _ _ _ _ _ (HP0_1.out.below HB.out) (by rw [HM0.out]; omega)).mono ?_); rintro e w12 ⟨qHY0_0, dHY0_0, rfl, ho0, hb⟩; replace HB := Lib.hid (below_on HB.out hb); replace HX0 := Lib.hid (HX0.out.below hb); replace HX1 := Lib.hid (HX1.out.below hb); replace HU0_0 := Lib.hid (HU0_0.out.below hb); replace HS0 := Lib.hid (HS0.out.below hb); replace HU1_0 := Lib.hid (HU1_0.out.below hb); replace HS1 := Lib.hid (HS1.out.below hb); have HY0_0 := Lib.hid ho0; clear ho0; clear hb) | (go_at_call 16; (with_reducible refine (DpArchive.eq_any _ _ _ _ _ _ _ _ HU0_0.out HY0_0.out).mono ?_); rintro e w13 ⟨rfl, hb⟩; replace HB := Lib.hid (below_on HB.out hb); replace HX0 := Lib.hid (HX0.out.below hb); replace HX1 := Lib.hid (HX1.out.below hb); replace HU0_0 := Lib.hid (HU0_0.out.below hb); replace HS0 := Lib.hid (HS0.out.below hb); replace HU1_0 := Lib.hid (HU1_0.out.below hb); replace HS1 := Lib.hid (HS1.out.below hb); replace HY0_0 := Lib.hid (HY0_0.out.below hb); clear hb))
  clear j0_0 j0_1
  clear j1_0 j1_1
  clear HY0_0
  obtain ⟨j0_0, j0_1⟩ := DpArchive.bxc HS1.out
  obtain ⟨j1_0, j1_1⟩ := DpArchive.bxc HX1.out
  go_wp2_with fail
  replace HB := Lib.hid (drewB HB.out)
  replace HX0 := Lib.hid (HX0.out.below (drewB (Below.refl _ _)))
  replace HX1 := Lib.hid (HX1.out.below (drewB (Below.refl _ _)))
  replace HU0_0 := Lib.hid (HU0_0.out.below (drewB (Below.refl _ _)))
  replace HS0 := Lib.hid (HS0.out.below (drewB (Below.refl _ _)))
  replace HU1_0 := Lib.hid (HU1_0.out.below (drewB (Below.refl _ _)))
  replace HS1 := Lib.hid (HS1.out.below (drewB (Below.refl _ _)))
  go_region_held3 (fun w' => (w'.cell? ⟨w10.heap.size, 0, none⟩ = some (.int .i64 x1_0) ∧ w'.cell? ⟨w10.heap.size, 1, none⟩ = some (.slice qHU1_0 n1_1 dHU1_0)) ∧ w'.cell? ⟨W.heap.size + 1, 0, none⟩ = some (.int .i64 x1_0) ∧ w'.cell? ⟨W.heap.size + 1, 1, none⟩ = some (.slice p1_1 n1_1 c1_1)) (first | exact ⟨DpArchive.bxc HS1.out, DpArchive.bxc HX1.out⟩ | go_keep) (first | (go_at_call 14; (with_reducible refine (DpArchive.to_any _ _ _ _ _ _ (HP1_1.out.below HB.out) (by rw [HM1.out]; omega)).mono ?_); rintro e w14 ⟨qHY1_0, dHY1_0, rfl, ho0, hb⟩; replace HB := Lib.hid (below_on HB.out hb); replace HX0 := Lib.hid (HX0.out.below hb); replace HX1 := Lib.hid (HX1.out.below hb); replace HU0_0 := Lib.hid (HU0_0.out.below hb); replace HS0 := Lib.hid (HS0.out.below hb); replace HU1_0 := Lib.hid (HU1_0.out.below hb); replace HS1 := Lib.hid (HS1.out.below hb); have HY1_0 := Lib.hid ho0; clear ho0; clear hb) | (go_at_call 16; (with_reducible refine (DpArchive.eq_any _ _ _ _ _ _ _ _ HU1_0.out HY1_0.out).mono ?_); rintro e w15 ⟨rfl, hb⟩; replace HB := Lib.hid (below_on HB.out hb); replace HX0 := Lib.hid (HX0.out.below hb); replace HX1 := Lib.hid (HX1.out.below hb); replace HU0_0 := Lib.hid (HU0_0.out.below hb); replace HS0 := Lib.hid (HS0.out.below hb); replace HU1_0 := Lib.hid (HU1_0.out.below hb); replace HS1 := Lib.hid (HS1.out.below hb); replace HY1_0 := Lib.hid (HY1_0.out.below hb); clear hb))
  clear j0_0 j0_1
  clear j1_0 j1_1
  clear HY1_0
  go_wp2_with fail
  go_ret
  exact ⟨rfl, HB.out⟩
end Go.Proofs.Ytkmgnicngcandaa.fnExactEqualArchives
