/- The walk of the law FnExactRenewalDigest. -/
import Derived.Test.YtihnegohhkplbaaEd
import Derived.Test.YtihnegohhkplbaaDz
import Derived.Test.YtihnegohhkplbaaSlI
import Derived.Test.YtihnegohhkplbaaDpRenewal
import Derived.Test.YtihnegohhkplbaaRx
import Derived.OpenShut
import Derived.Deep.RegionHeld3
import Derived.Laws.Strings
namespace Go.Proofs.Ytihnegohhkplbaa.fnExactRenewalDigest
open Go.ChangeShapes Go.WideShapes Go.ChangeAt Go.RowKit Sl St Ed Rw Rx
theorem drewB {W w : World} {B : Nat} (h : Below B W w) : Below B W w.drew := below_drewN h 1
set_option maxRecDepth 100000 in
set_option maxHeartbeats 8000000 in
theorem walk {H : Type} {enc : TypeId × Value → H} (W : World) (base : Nat)
    (v0 : Value) (d0 : DataW H) (p0 : List MemPlace) (h0 : DataW.Trod enc Try.prog W 0 (fun _ => true) true 3 v0 d0 p0) (k0 : Value.okWide Try.prog W .any base 3 v0)
    (v1 : Value) (d1 : DataW H) (p1 : List MemPlace) (h1 : DataW.Trod enc Try.prog W 0 (fun _ => true) true 38 v1 d1 p1) (k1 : Value.okWide Try.prog W .any base 38 v1)
    (_hsz : (DataW.weightsEach Try.prog [3, 38] [d0, d1]).all (· ≤ reachBytes) = true) :
    Calls Try.prog 13 #[v0, v1] W fun e w' => e = .returned (.bool true) ∧ Below W.heap.size W w' := by
  obtain ⟨x0, rfl, _, _, wf0⟩ := open_int Try.underlying3 k0 h0
  have xb0 := bounds_i64 wf0
  have XB0 := Lib.hid xb0
  clear wf0 xb0
  clear h0 k0
  obtain ⟨x1_0, x1_1, x1_2, l1_3, l1_4, p1_3, n1_3, c1_3, p1_4, n1_4, c1_4, rfl, b1_0, b1_1, b1_2, h1_3, h1_4⟩ := DpRenewal.open_val h1 k1
  have HG1_0 := Lib.hid b1_0
  have HG1_1 := Lib.hid b1_1
  have HG1_2 := Lib.hid b1_2
  have HP1_3 := Lib.hid h1_3
  have HP1_4 := Lib.hid h1_4
  have hn1_3 := h1_3.le
  have hn1_4 := h1_4.le
  clear b1_0 b1_1 b1_2 h1_3 h1_4
  clear h1 k1
  clear _hsz
  have HB := Lib.hid (Below.refl W.heap.size W)
  have HX1 := Lib.hid (Bx.new W 38 #[.int .i64 x1_0, .int .i64 x1_1, .int .i64 x1_2, .slice p1_3 n1_3 c1_3, .slice p1_4 n1_4 c1_4])
  replace HB := Lib.hid (HB.out.alloc HB.out.size (.cells #[.int .i64 x1_0, .int .i64 x1_1, .int .i64 x1_2, .slice p1_3 n1_3 c1_3, .slice p1_4 n1_4 c1_4] 38))
  have lX1 := HX1.out.lt
  obtain ⟨m1, hm1⟩ : ∃ m : Nat, DpRenewal.E.wt (x1_0, x1_1, x1_2, l1_3, l1_4) = m := ⟨_, rfl⟩
  have HM1 := Lib.hid hm1
  clear hm1
  by_cases hbig1 : 1048576 < m1
  · go_enter Try.func13, Try.ntmps13
    obtain ⟨i0, i1, i2, i3, i4⟩ := DpRenewal.bxc HX1.out
    go_wp2_with fail
    refine (DpRenewal.sz_big _ _ _ _ _ _ _ _ _ _ _ _ _ _ HM1.out (HP1_3.out.below HB.out) (HP1_4.out.below HB.out) (by omega) (by omega) (by omega)).mono ?_
    rintro e w1 ⟨rfl, hb⟩
    replace HB := Lib.hid (below_on HB.out hb)
    replace HX1 := Lib.hid (HX1.out.below hb)
    clear hb
    clear i0 i1 i2 i3 i4
    go_wp2_with fail
    go_ret
    exact ⟨rfl, HB.out⟩
  go_enter Try.func13, Try.ntmps13
  obtain ⟨i0, i1, i2, i3, i4⟩ := DpRenewal.bxc HX1.out
  go_wp2_with fail
  refine (DpRenewal.sz_fits _ _ _ _ _ _ _ _ _ _ _ _ _ _ HM1.out (HP1_3.out.below HB.out) (HP1_4.out.below HB.out) (by omega) (by omega)).mono ?_
  rintro e w2 ⟨rfl, hb⟩
  replace HB := Lib.hid (below_on HB.out hb)
  replace HX1 := Lib.hid (HX1.out.below hb)
  clear hb
  clear i0 i1 i2 i3 i4
  have sm1 : m1 ≤ 1048576 := by omega
  clear hbig1
  have sn1_3 : n1_3 ≤ 1048576 := by have h := HM1.out; have k := HP1_3.out.len; simp only [DpRenewal.wt_eq] at h; omega
  have sn1_4 : n1_4 ≤ 1048576 := by have h := HM1.out; have k := HP1_4.out.len; simp only [DpRenewal.wt_eq] at h; omega
  obtain ⟨i0, i1, i2, i3, i4⟩ := DpRenewal.bxc HX1.out
  go_wp2_with fail
  refine (DpRenewal.to_any _ _ _ _ _ _ _ _ _ _ _ _ (HP1_3.out.below HB.out) (HP1_4.out.below HB.out) (by rw [HM1.out]; omega)).mono ?_
  rintro e w3 ⟨qHT1_0, dHT1_0, qHT1_1, dHT1_1, rfl, ho0, ho1, hb⟩
  replace HB := Lib.hid (below_on HB.out hb)
  replace HX1 := Lib.hid (HX1.out.below hb)
  have HT1_0 := Lib.hid ho0
  have HT1_1 := Lib.hid ho1
  clear ho0 ho1
  clear hb
  clear i0 i1 i2 i3 i4
  go_wp2_with fail
  refine (Rx.spec_digest_any x0 XB0.out _ _ _ _ _ _ _ _ _ _ _ _ HG1_0.out HG1_1.out HG1_2.out HT1_0.out HT1_1.out sn1_3 sn1_4).mono ?_
  rintro e w4 ⟨rfl, hb⟩
  replace HB := Lib.hid (below_on HB.out hb)
  replace HX1 := Lib.hid (HX1.out.below hb)
  replace HT1_0 := Lib.hid (HT1_0.out.below hb)
  replace HT1_1 := Lib.hid (HT1_1.out.below hb)
  clear hb
  clear HT1_0
  clear HT1_1
  obtain ⟨i0, i1, i2, i3, i4⟩ := DpRenewal.bxc HX1.out
  go_wp2_with fail
  refine (DpRenewal.to_any _ _ _ _ _ _ _ _ _ _ _ _ (HP1_3.out.below HB.out) (HP1_4.out.below HB.out) (by rw [HM1.out]; omega)).mono ?_
  rintro e w5 ⟨qHU1_0, dHU1_0, qHU1_1, dHU1_1, rfl, ho0, ho1, hb⟩
  replace HB := Lib.hid (below_on HB.out hb)
  replace HX1 := Lib.hid (HX1.out.below hb)
  have HU1_0 := Lib.hid ho0
  have HU1_1 := Lib.hid ho1
  clear ho0 ho1
  clear hb
  clear i0 i1 i2 i3 i4
  have HS1 := Lib.hid (Bx.new w5 44 #[.int .i64 x1_0, .int .i64 x1_1, .int .i64 x1_2, .slice qHU1_0 n1_3 dHU1_0, .slice qHU1_1 n1_4 dHU1_1])
  have lHS1 := HS1.out.lt
  replace HB := Lib.hid (HB.out.alloc HB.out.size (.cells #[.int .i64 x1_0, .int .i64 x1_1, .int .i64 x1_2, .slice qHU1_0 n1_3 dHU1_0, .slice qHU1_1 n1_4 dHU1_1] 44))
  replace HX1 := Lib.hid (HX1.out.alloc (.cells #[.int .i64 x1_0, .int .i64 x1_1, .int .i64 x1_2, .slice qHU1_0 n1_3 dHU1_0, .slice qHU1_1 n1_4 dHU1_1] 44))
  replace HU1_0 := Lib.hid (HU1_0.out.alloc (.cells #[.int .i64 x1_0, .int .i64 x1_1, .int .i64 x1_2, .slice qHU1_0 n1_3 dHU1_0, .slice qHU1_1 n1_4 dHU1_1] 44))
  replace HU1_1 := Lib.hid (HU1_1.out.alloc (.cells #[.int .i64 x1_0, .int .i64 x1_1, .int .i64 x1_2, .slice qHU1_0 n1_3 dHU1_0, .slice qHU1_1 n1_4 dHU1_1] 44))
  obtain ⟨k1_0, k1_1, k1_2, k1_3, k1_4⟩ := DpRenewal.bxc HS1.out
  go_wp2_with fail
  refine (Rw.digest_any x0 _ _ _ _ _ _ _ _ _ _ _ _ HG1_0.out HG1_1.out HG1_2.out HU1_0.out HU1_1.out sn1_3 sn1_4).mono ?_
  rintro e w6 ⟨rfl, hb⟩
  replace HB := Lib.hid (below_on HB.out hb)
  replace HX1 := Lib.hid (HX1.out.below hb)
  replace HU1_0 := Lib.hid (HU1_0.out.below hb)
  replace HU1_1 := Lib.hid (HU1_1.out.below hb)
  replace HS1 := Lib.hid (HS1.out.below hb)
  clear hb
  clear k1_0 k1_1 k1_2 k1_3 k1_4
  obtain ⟨j0_0, j0_1, j0_2, j0_3, j0_4⟩ := DpRenewal.bxc HS1.out
  obtain ⟨j1_0, j1_1, j1_2, j1_3, j1_4⟩ := DpRenewal.bxc HX1.out
  go_wp2_with fail
  replace HB := Lib.hid (drewB HB.out)
  replace HX1 := Lib.hid (HX1.out.below (drewB (Below.refl _ _)))
  replace HU1_0 := Lib.hid (HU1_0.out.below (drewB (Below.refl _ _)))
  replace HU1_1 := Lib.hid (HU1_1.out.below (drewB (Below.refl _ _)))
  replace HS1 := Lib.hid (HS1.out.below (drewB (Below.refl _ _)))
  go_region_held3 (fun w' => (w'.cell? ⟨w5.heap.size, 0, none⟩ = some (.int .i64 x1_0) ∧ w'.cell? ⟨w5.heap.size, 1, none⟩ = some (.int .i64 x1_1) ∧ w'.cell? ⟨w5.heap.size, 2, none⟩ = some (.int .i64 x1_2) ∧ w'.cell? ⟨w5.heap.size, 3, none⟩ = some (.slice qHU1_0 n1_3 dHU1_0) ∧ w'.cell? ⟨w5.heap.size, 4, none⟩ = some (.slice qHU1_1 n1_4 dHU1_1)) ∧ w'.cell? ⟨W.heap.size, 0, none⟩ = some (.int .i64 x1_0) ∧ w'.cell? ⟨W.heap.size, 1, none⟩ = some (.int .i64 x1_1) ∧ w'.cell? ⟨W.heap.size, 2, none⟩ = some (.int .i64 x1_2) ∧ w'.cell? ⟨W.heap.size, 3, none⟩ = some (.slice p1_3 n1_3 c1_3) ∧ w'.cell? ⟨W.heap.size, 4, none⟩ = some (.slice p1_4 n1_4 c1_4)) (first | exact ⟨DpRenewal.bxc HS1.out, DpRenewal.bxc HX1.out⟩ | go_keep) (first | (go_at_call 30; (with_reducible refine (DpRenewal.to_any _ _ _ _ _ _ _ _ _ _ _ _ (HP1_3.out.below HB.out) (HP1_4.out.below HB.out) (by rw [HM1.out]; omega)).mono ?_); rintro e w7 ⟨qHY1_0, dHY1_0, qHY1_1, dHY1_1, rfl, ho0, ho1, hb⟩; replace HB := Lib.hid (below_on HB.out hb); replace HX1 := Lib.hid (HX1.out.below hb); replace HU1_0 := Lib.hid (HU1_0.out.below hb); replace HU1_1 := Lib.hid (HU1_1.out.below hb); replace HS1 := Lib.hid (HS1.out.below hb); have HY1_0 := Lib.hid ho0; have HY1_1 := Lib.hid ho1; clear ho0 ho1; clear hb) | (go_at_call 32; (with_reducible refine (DpRenewal.eq_any _ _ _ _ _ _ _ _ _ _ _ _ _ _ _ _ HU1_0.out HY1_0.out HU1_1.out HY1_1.out).mono ?_); rintro e w8 ⟨rfl, hb⟩; replace HB := Lib.hid (below_on HB.out hb); replace HX1 := Lib.hid (HX1.out.below hb); replace HU1_0 := Lib.hid (HU1_0.out.below hb); replace HU1_1 := Lib.hid (HU1_1.out.below hb); replace HS1 := Lib.hid (HS1.out.below hb); replace HY1_0 := Lib.hid (HY1_0.out.below hb); replace HY1_1 := Lib.hid (HY1_1.out.below hb); clear hb))
  clear j0_0 j0_1 j0_2 j0_3 j0_4
  clear j1_0 j1_1 j1_2 j1_3 j1_4
  clear HY1_0
  clear HY1_1
  go_wp2_with fail
  go_ret
  exact ⟨rfl, HB.out⟩
end Go.Proofs.Ytihnegohhkplbaa.fnExactRenewalDigest
