/- The walk of the law FnExactItemsDue. -/
import Derived.Test.YtpjckbdljbpliaaGreatEd
import Derived.Test.YtpjckbdljbpliaaGreatDz
import Derived.Test.YtpjckbdljbpliaaGreatSlI
import Derived.Test.YtpjckbdljbpliaaGreatDpFrame
import Derived.Test.YtpjckbdljbpliaaGreatDpArchive
import Derived.Test.YtpjckbdljbpliaaGreatIdu
import Derived.Test.YtpjckbdljbpliaaGreatEk
import Derived.Test.YtpjckbdljbpliaaGreatDfA
import Derived.Test.YtpjckbdljbpliaaGreatDgA
import Derived.Test.YtpjckbdljbpliaaGreatMsA
import Derived.OpenShut
import Derived.Deep.RegionHeld3
import Derived.Laws.Strings
namespace Go.Proofs.YtpjckbdljbpliaaGreat.fnExactItemsDue
open Go.ChangeShapes Go.WideShapes Go.ChangeAt Go.RowKit Sl St Ed Idu
theorem drewB {W w : World} {B : Nat} (h : Below B W w) : Below B W w.drew := below_drewN h 1
set_option maxRecDepth 100000 in
set_option maxHeartbeats 8000000 in
theorem walk {H : Type} {enc : TypeId × Value → H} (W : World) (base : Nat)
    (v0 : Value) (d0 : DataW H) (p0 : List MemPlace) (h0 : DataW.Trod enc Tryz.prog W 0 (fun _ => true) true 26 v0 d0 p0) (k0 : Value.okWide Tryz.prog W .any base 26 v0)
    (v1 : Value) (d1 : DataW H) (p1 : List MemPlace) (h1 : DataW.Trod enc Tryz.prog W 0 (fun _ => true) true 29 v1 d1 p1) (k1 : Value.okWide Tryz.prog W .any base 29 v1)
    (v2 : Value) (d2 : DataW H) (p2 : List MemPlace) (h2 : DataW.Trod enc Tryz.prog W 0 (fun _ => true) true 3 v2 d2 p2) (k2 : Value.okWide Tryz.prog W .any base 3 v2)
    (_hsz : (DataW.weightsEach Tryz.prog [26, 29, 3] [d0, d1, d2]).all (· ≤ reachBytes) = true) :
    Calls Tryz.prog 3 #[v0, v1, v2] W fun e w' => e = .returned (.bool true) ∧ Below W.heap.size W w' := by
  obtain ⟨l0_0, l0_1, l0_2, x0_3, x0_4, p0_0, n0_0, c0_0, p0_1, n0_1, c0_1, p0_2, n0_2, c0_2, rfl, h0_0, h0_1, h0_2, b0_3, b0_4⟩ := DpFrame.open_val h0 k0
  have HP0_0 := Lib.hid h0_0
  have HP0_1 := Lib.hid h0_1
  have HP0_2 := Lib.hid h0_2
  have HG0_3 := Lib.hid b0_3
  have HG0_4 := Lib.hid b0_4
  have hn0_0 := h0_0.le
  have hn0_1 := h0_1.le
  have hn0_2 := h0_2.le
  clear h0_0 h0_1 h0_2 b0_3 b0_4
  clear h0 k0
  obtain ⟨x1_0, l1_1, p1_1, n1_1, c1_1, rfl, b1_0, h1_1⟩ := DpArchive.open_val h1 k1
  have HG1_0 := Lib.hid b1_0
  have HP1_1 := Lib.hid h1_1
  have hn1_1 := h1_1.le
  clear b1_0 h1_1
  clear h1 k1
  obtain ⟨x2, rfl, _, _, wf2⟩ := open_int Tryz.underlying3 k2 h2
  have xb2 := bounds_i64 wf2
  have XB2 := Lib.hid xb2
  have XI2 : Hid (Ed.InI x2) := Lib.hid xb2
  clear wf2 xb2
  clear h2 k2
  clear _hsz
  have HB := Lib.hid (Below.refl W.heap.size W)
  have HX0 := Lib.hid (Bx.new W 26 #[.slice p0_0 n0_0 c0_0, .slice p0_1 n0_1 c0_1, .slice p0_2 n0_2 c0_2, .int .i64 x0_3, .int .i64 x0_4])
  replace HB := Lib.hid (HB.out.alloc HB.out.size (.cells #[.slice p0_0 n0_0 c0_0, .slice p0_1 n0_1 c0_1, .slice p0_2 n0_2 c0_2, .int .i64 x0_3, .int .i64 x0_4] 26))
  have lX0 := HX0.out.lt
  have hbx1 := Bx.new (W.alloc (.cells #[.slice p0_0 n0_0 c0_0, .slice p0_1 n0_1 c0_1, .slice p0_2 n0_2 c0_2, .int .i64 x0_3, .int .i64 x0_4] 26)) 29 #[.int .i64 x1_0, .slice p1_1 n1_1 c1_1]
  rw [World.size_alloc] at hbx1
  have HX1 := Lib.hid hbx1
  clear hbx1
  replace HX0 := Lib.hid (HX0.out.alloc (.cells #[.int .i64 x1_0, .slice p1_1 n1_1 c1_1] 29))
  replace HB := Lib.hid (HB.out.alloc HB.out.size (.cells #[.int .i64 x1_0, .slice p1_1 n1_1 c1_1] 29))
  have lX1 := HX1.out.lt
  obtain ⟨m0, hm0⟩ : ∃ m : Nat, DpFrame.E.wt (l0_0, l0_1, l0_2, x0_3, x0_4) = m := ⟨_, rfl⟩
  have HM0 := Lib.hid hm0
  clear hm0
  obtain ⟨m1, hm1⟩ : ∃ m : Nat, DpArchive.E.wt (x1_0, l1_1) = m := ⟨_, rfl⟩
  have HM1 := Lib.hid hm1
  clear hm1
  by_cases hbig0 : 1048576 < m0
  · go_enter Tryz.func3, Tryz.ntmps3
    obtain ⟨i0, i1, i2, i3, i4⟩ := DpFrame.bxc HX0.out
    go_wp2_with fail
    refine (DpFrame.sz_big _ _ _ _ _ _ _ _ _ _ _ _ _ _ _ _ _ HM0.out (HP0_0.out.below HB.out) (HP0_1.out.below HB.out) (HP0_2.out.below HB.out) (by omega) (by omega) (by omega)).mono ?_
    rintro e w1 ⟨rfl, hb⟩
    replace HB := Lib.hid (below_on HB.out hb)
    replace HX0 := Lib.hid (HX0.out.below hb)
    replace HX1 := Lib.hid (HX1.out.below hb)
    clear hb
    clear i0 i1 i2 i3 i4
    go_wp2_with fail
    go_ret
    exact ⟨rfl, HB.out⟩
  by_cases hbig1 : 1048576 < m0 + m1
  · go_enter Tryz.func3, Tryz.ntmps3
    obtain ⟨i0, i1, i2, i3, i4⟩ := DpFrame.bxc HX0.out
    go_wp2_with fail
    refine (DpFrame.sz_fits _ _ _ _ _ _ _ _ _ _ _ _ _ _ _ _ _ HM0.out (HP0_0.out.below HB.out) (HP0_1.out.below HB.out) (HP0_2.out.below HB.out) (by omega) (by omega)).mono ?_
    rintro e w2 ⟨rfl, hb⟩
    replace HB := Lib.hid (below_on HB.out hb)
    replace HX0 := Lib.hid (HX0.out.below hb)
    replace HX1 := Lib.hid (HX1.out.below hb)
    clear hb
    clear i0 i1 i2 i3 i4
    obtain ⟨i0, i1⟩ := DpArchive.bxc HX1.out
    go_wp2_with fail
    refine (DpArchive.sz_big _ _ _ _ _ _ _ _ HM1.out (HP1_1.out.below HB.out) (by omega) (by omega) (by omega)).mono ?_
    rintro e w3 ⟨rfl, hb⟩
    replace HB := Lib.hid (below_on HB.out hb)
    replace HX0 := Lib.hid (HX0.out.below hb)
    replace HX1 := Lib.hid (HX1.out.below hb)
    clear hb
    clear i0 i1
    go_wp2_with fail
    go_ret
    exact ⟨rfl, HB.out⟩
  go_enter Tryz.func3, Tryz.ntmps3
  obtain ⟨i0, i1, i2, i3, i4⟩ := DpFrame.bxc HX0.out
  go_wp2_with fail
  refine (DpFrame.sz_fits _ _ _ _ _ _ _ _ _ _ _ _ _ _ _ _ _ HM0.out (HP0_0.out.below HB.out) (HP0_1.out.below HB.out) (HP0_2.out.below HB.out) (by omega) (by omega)).mono ?_
  rintro e w4 ⟨rfl, hb⟩
  replace HB := Lib.hid (below_on HB.out hb)
  replace HX0 := Lib.hid (HX0.out.below hb)
  replace HX1 := Lib.hid (HX1.out.below hb)
  clear hb
  clear i0 i1 i2 i3 i4
  obtain ⟨i0, i1⟩ := DpArchive.bxc HX1.out
  go_wp2_with fail
  refine (DpArchive.sz_fits _ _ _ _ _ _ _ _ HM1.out (HP1_1.out.below HB.out) (by omega) (by omega)).mono ?_
  rintro e w5 ⟨rfl, hb⟩
  replace HB := Lib.hid (below_on HB.out hb)
  replace HX0 := Lib.hid (HX0.out.below hb)
  replace HX1 := Lib.hid (HX1.out.below hb)
  clear hb
  clear i0 i1
  have sm0 : m0 ≤ 1048576 := by omega
  have sm1 : m1 ≤ 1048576 := by omega
  have smt : m0 + m1 ≤ 1048576 := by omega
  clear hbig0
  clear hbig1
  have sn0_0 : n0_0 ≤ 1048576 := by have h := HM0.out; have k := HP0_0.out.len; simp only [DpFrame.wt_eq] at h; omega
  have sn0_1 : n0_1 ≤ 1048576 := by have h := HM0.out; have k := HP0_1.out.len; simp only [DpFrame.wt_eq] at h; omega
  have sn0_2 : n0_2 ≤ 1048576 := by have h := HM0.out; have k := HP0_2.out.len; simp only [DpFrame.wt_eq] at h; omega
  have sn1_1 : n1_1 ≤ 1048576 := by have h := HM1.out; have k := HP1_1.out.len; simp only [DpArchive.wt_eq] at h; omega
  have sW := HB.out.size
  have lY0 := HX0.out.lt
  have lY1 := HX1.out.lt
  obtain ⟨j0_0, j0_1, j0_2, j0_3, j0_4⟩ := DpFrame.bxc HX0.out
  obtain ⟨j1_0, j1_1⟩ := DpArchive.bxc HX1.out
  go_wp2_with fail
  replace HB := Lib.hid (drewB HB.out)
  replace HX0 := Lib.hid (HX0.out.below (drewB (Below.refl _ _)))
  replace HX1 := Lib.hid (HX1.out.below (drewB (Below.refl _ _)))
  go_region_held3 (fun w' => (w'.cell? ⟨W.heap.size, 0, none⟩ = some (.slice p0_0 n0_0 c0_0) ∧ w'.cell? ⟨W.heap.size, 1, none⟩ = some (.slice p0_1 n0_1 c0_1) ∧ w'.cell? ⟨W.heap.size, 2, none⟩ = some (.slice p0_2 n0_2 c0_2) ∧ w'.cell? ⟨W.heap.size, 3, none⟩ = some (.int .i64 x0_3) ∧ w'.cell? ⟨W.heap.size, 4, none⟩ = some (.int .i64 x0_4)) ∧ w'.cell? ⟨W.heap.size + 1, 0, none⟩ = some (.int .i64 x1_0) ∧ w'.cell? ⟨W.heap.size + 1, 1, none⟩ = some (.slice p1_1 n1_1 c1_1)) (first | exact ⟨DpFrame.bxc HX0.out, DpArchive.bxc HX1.out⟩ | go_keep) (first | (go_at_call 8; (with_reducible refine (DpFrame.to_any _ _ _ _ _ _ _ _ _ _ _ _ _ _ _ (HP0_0.out.below HB.out) (HP0_1.out.below HB.out) (HP0_2.out.below HB.out) (by rw [HM0.out]; omega)).mono ?_); rintro e w6 ⟨qHT0_0, dHT0_0, qHT0_1, dHT0_1, qHT0_2, dHT0_2, rfl, ho0, ho1, ho2, hb⟩; replace HB := Lib.hid (below_on HB.out hb); replace HX0 := Lib.hid (HX0.out.below hb); replace HX1 := Lib.hid (HX1.out.below hb); have HT0_0 := Lib.hid ho0; have HT0_1 := Lib.hid ho1; have HT0_2 := Lib.hid ho2; clear ho0 ho1 ho2; clear hb) | (go_at_call 9; (with_reducible refine (DpArchive.to_any _ _ _ _ _ _ (HP1_1.out.below HB.out) (by rw [HM1.out]; omega)).mono ?_); rintro e w7 ⟨qHT1_0, dHT1_0, rfl, ho0, hb⟩; replace HB := Lib.hid (below_on HB.out hb); replace HX0 := Lib.hid (HX0.out.below hb); replace HX1 := Lib.hid (HX1.out.below hb); replace HT0_0 := Lib.hid (HT0_0.out.below hb); replace HT0_1 := Lib.hid (HT0_1.out.below hb); replace HT0_2 := Lib.hid (HT0_2.out.below hb); have HT1_0 := Lib.hid ho0; clear ho0; clear hb) | (go_at_call 7; (with_reducible refine (Idu.spec_due_any _ _ _ _ _ _ _ _ _ _ _ _ x0_3 x0_4 x1_0 _ _ _ _ x2 _ HT0_0.out HT0_1.out HT0_2.out HT1_0.out (by have h := HM1.out; rw [DpArchive.wt_eq] at h; have k := HP1_1.out.len; omega)).mono ?_); rintro e w8 ⟨qHW, mHW, dHW, rfl, ho, hb⟩; replace HB := Lib.hid (below_on HB.out hb); replace HX0 := Lib.hid (HX0.out.below hb); replace HX1 := Lib.hid (HX1.out.below hb); replace HT0_0 := Lib.hid (HT0_0.out.below hb); replace HT0_1 := Lib.hid (HT0_1.out.below hb); replace HT0_2 := Lib.hid (HT0_2.out.below hb); replace HT1_0 := Lib.hid (HT1_0.out.below hb); have HW := Lib.hid ho; clear ho; have szHW := hb.size; clear hb))
  clear j0_0 j0_1 j0_2 j0_3 j0_4
  clear j1_0 j1_1
  clear HT0_0
  clear HT0_1
  clear HT0_2
  clear HT1_0
  have sB := HB.out.size
  have lZ0 := HX0.out.lt
  have lZ1 := HX1.out.lt
  have bm : mHW ≤ 1048576 := by have h1 := HW.out.len; have h2 := Idu.due_len l0_0 l0_1 l0_2 x0_4 x2 l1_1; have h3 := HP1_1.out.len; have h4 := HM1.out; rw [DpArchive.wt_eq] at h4; omega
  obtain ⟨i0, i1, i2, i3, i4⟩ := DpFrame.bxc HX0.out
  go_wp2_with fail
  refine (DfFrame.toF_any _ _ _ _ _ _ _ _ _ _ _ _ _ _ _ (HP0_0.out.below HB.out) (HP0_1.out.below HB.out) (HP0_2.out.below HB.out) (by rw [HM0.out]; omega)).mono ?_
  rintro e w9 ⟨qHU0_0, dHU0_0, qHU0_1, dHU0_1, qHU0_2, dHU0_2, rfl, ho0, ho1, ho2, hk0, hk1, hk2, hb⟩
  replace HB := Lib.hid (below_on HB.out hb)
  replace HX0 := Lib.hid (HX0.out.below hb)
  replace HX1 := Lib.hid (HX1.out.below hb)
  replace HW := Lib.hid (HW.out.below hb)
  have HU0_0 := Lib.hid ho0.rd
  have HU0_1 := Lib.hid ho1.rd
  have HU0_2 := Lib.hid ho2.rd
  have HV0_0 := Lib.hid ho0.rr
  have HV0_1 := Lib.hid ho1.rr
  have HV0_2 := Lib.hid ho2.rr
  clear ho0 hk0 ho1 hk1 ho2 hk2
  have sz9 := hb.size
  clear hb
  clear i0 i1 i2 i3 i4
  have HS0 := Lib.hid (Bx.new w9 38 #[.slice qHU0_0 n0_0 dHU0_0, .slice qHU0_1 n0_1 dHU0_1, .slice qHU0_2 n0_2 dHU0_2, .int .i64 x0_3, .int .i64 x0_4])
  have lHS0 := HS0.out.lt
  replace HB := Lib.hid (HB.out.alloc HB.out.size (.cells #[.slice qHU0_0 n0_0 dHU0_0, .slice qHU0_1 n0_1 dHU0_1, .slice qHU0_2 n0_2 dHU0_2, .int .i64 x0_3, .int .i64 x0_4] 38))
  replace HX0 := Lib.hid (HX0.out.alloc (.cells #[.slice qHU0_0 n0_0 dHU0_0, .slice qHU0_1 n0_1 dHU0_1, .slice qHU0_2 n0_2 dHU0_2, .int .i64 x0_3, .int .i64 x0_4] 38))
  replace HX1 := Lib.hid (HX1.out.alloc (.cells #[.slice qHU0_0 n0_0 dHU0_0, .slice qHU0_1 n0_1 dHU0_1, .slice qHU0_2 n0_2 dHU0_2, .int .i64 x0_3, .int .i64 x0_4] 38))
  replace HW := Lib.hid (HW.out.alloc (.cells #[.slice qHU0_0 n0_0 dHU0_0, .slice qHU0_1 n0_1 dHU0_1, .slice qHU0_2 n0_2 dHU0_2, .int .i64 x0_3, .int .i64 x0_4] 38))
  replace HU0_0 := Lib.hid (HU0_0.out.alloc (.cells #[.slice qHU0_0 n0_0 dHU0_0, .slice qHU0_1 n0_1 dHU0_1, .slice qHU0_2 n0_2 dHU0_2, .int .i64 x0_3, .int .i64 x0_4] 38))
  replace HU0_1 := Lib.hid (HU0_1.out.alloc (.cells #[.slice qHU0_0 n0_0 dHU0_0, .slice qHU0_1 n0_1 dHU0_1, .slice qHU0_2 n0_2 dHU0_2, .int .i64 x0_3, .int .i64 x0_4] 38))
  replace HU0_2 := Lib.hid (HU0_2.out.alloc (.cells #[.slice qHU0_0 n0_0 dHU0_0, .slice qHU0_1 n0_1 dHU0_1, .slice qHU0_2 n0_2 dHU0_2, .int .i64 x0_3, .int .i64 x0_4] 38))
  replace HV0_0 := Lib.hid (HV0_0.out.alloc (.cells #[.slice qHU0_0 n0_0 dHU0_0, .slice qHU0_1 n0_1 dHU0_1, .slice qHU0_2 n0_2 dHU0_2, .int .i64 x0_3, .int .i64 x0_4] 38))
  replace HV0_1 := Lib.hid (HV0_1.out.alloc (.cells #[.slice qHU0_0 n0_0 dHU0_0, .slice qHU0_1 n0_1 dHU0_1, .slice qHU0_2 n0_2 dHU0_2, .int .i64 x0_3, .int .i64 x0_4] 38))
  replace HV0_2 := Lib.hid (HV0_2.out.alloc (.cells #[.slice qHU0_0 n0_0 dHU0_0, .slice qHU0_1 n0_1 dHU0_1, .slice qHU0_2 n0_2 dHU0_2, .int .i64 x0_3, .int .i64 x0_4] 38))
  obtain ⟨i0, i1⟩ := DpArchive.bxc HX1.out
  go_wp2_with fail
  refine (DfArchive.toF_any _ _ _ _ _ _ (HP1_1.out.below HB.out) (by rw [HM1.out]; omega)).mono ?_
  rintro e w10 ⟨qHU1_0, dHU1_0, rfl, ho0, hk0, hb⟩
  replace HB := Lib.hid (below_on HB.out hb)
  replace HX0 := Lib.hid (HX0.out.below hb)
  replace HX1 := Lib.hid (HX1.out.below hb)
  replace HW := Lib.hid (HW.out.below hb)
  replace HU0_0 := Lib.hid (HU0_0.out.below hb)
  replace HU0_1 := Lib.hid (HU0_1.out.below hb)
  replace HU0_2 := Lib.hid (HU0_2.out.below hb)
  replace HV0_0 := Lib.hid (HV0_0.out.below hb)
  replace HV0_1 := Lib.hid (HV0_1.out.below hb)
  replace HV0_2 := Lib.hid (HV0_2.out.below hb)
  replace HS0 := Lib.hid (HS0.out.below hb)
  have HU1_0 := Lib.hid ho0.rd
  have HV1_0 := Lib.hid ho0.rr
  clear ho0 hk0
  have sz10 := hb.size
  rw [World.size_alloc] at sz10
  clear hb
  clear i0 i1
  rw [World.size_alloc] at HV1_0
  have HS1 := Lib.hid (Bx.new w10 42 #[.int .i64 x1_0, .slice qHU1_0 n1_1 dHU1_0])
  have lHS1 := HS1.out.lt
  replace HB := Lib.hid (HB.out.alloc HB.out.size (.cells #[.int .i64 x1_0, .slice qHU1_0 n1_1 dHU1_0] 42))
  replace HX0 := Lib.hid (HX0.out.alloc (.cells #[.int .i64 x1_0, .slice qHU1_0 n1_1 dHU1_0] 42))
  replace HX1 := Lib.hid (HX1.out.alloc (.cells #[.int .i64 x1_0, .slice qHU1_0 n1_1 dHU1_0] 42))
  replace HW := Lib.hid (HW.out.alloc (.cells #[.int .i64 x1_0, .slice qHU1_0 n1_1 dHU1_0] 42))
  replace HU0_0 := Lib.hid (HU0_0.out.alloc (.cells #[.int .i64 x1_0, .slice qHU1_0 n1_1 dHU1_0] 42))
  replace HU0_1 := Lib.hid (HU0_1.out.alloc (.cells #[.int .i64 x1_0, .slice qHU1_0 n1_1 dHU1_0] 42))
  replace HU0_2 := Lib.hid (HU0_2.out.alloc (.cells #[.int .i64 x1_0, .slice qHU1_0 n1_1 dHU1_0] 42))
  replace HV0_0 := Lib.hid (HV0_0.out.alloc (.cells #[.int .i64 x1_0, .slice qHU1_0 n1_1 dHU1_0] 42))
  replace HV0_1 := Lib.hid (HV0_1.out.alloc (.cells #[.int .i64 x1_0, .slice qHU1_0 n1_1 dHU1_0] 42))
  replace HV0_2 := Lib.hid (HV0_2.out.alloc (.cells #[.int .i64 x1_0, .slice qHU1_0 n1_1 dHU1_0] 42))
  replace HS0 := Lib.hid (HS0.out.alloc (.cells #[.int .i64 x1_0, .slice qHU1_0 n1_1 dHU1_0] 42))
  replace HU1_0 := Lib.hid (HU1_0.out.alloc (.cells #[.int .i64 x1_0, .slice qHU1_0 n1_1 dHU1_0] 42))
  replace HV1_0 := Lib.hid (HV1_0.out.alloc (.cells #[.int .i64 x1_0, .slice qHU1_0 n1_1 dHU1_0] 42))
  obtain ⟨k0_0, k0_1, k0_2, k0_3, k0_4⟩ := DpFrame.bxc HS0.out
  obtain ⟨k1_0, k1_1⟩ := DpArchive.bxc HS1.out
  go_wp2_with fail
  refine (Idu.due_any _ _ _ _ _ _ _ _ _ _ _ _ x0_3 x0_4 x1_0 _ _ _ _ x2 _ HU0_0.out HU0_1.out HU0_2.out HU1_0.out (by have h := HM1.out; rw [DpArchive.wt_eq] at h; have k := HP1_1.out.len; omega)).mono ?_
  rintro e w11 ⟨qHG, mHG, dHG, rfl, ho, hb⟩
  replace HB := Lib.hid (below_on HB.out hb)
  replace HX0 := Lib.hid (HX0.out.below hb)
  replace HX1 := Lib.hid (HX1.out.below hb)
  replace HW := Lib.hid (HW.out.below hb)
  replace HU0_0 := Lib.hid (HU0_0.out.below hb)
  replace HU0_1 := Lib.hid (HU0_1.out.below hb)
  replace HU0_2 := Lib.hid (HU0_2.out.below hb)
  replace HV0_0 := Lib.hid (HV0_0.out.below hb)
  replace HV0_1 := Lib.hid (HV0_1.out.below hb)
  replace HV0_2 := Lib.hid (HV0_2.out.below hb)
  replace HS0 := Lib.hid (HS0.out.below hb)
  replace HU1_0 := Lib.hid (HU1_0.out.below hb)
  replace HV1_0 := Lib.hid (HV1_0.out.below hb)
  replace HS1 := Lib.hid (HS1.out.below hb)
  have HG := Lib.hid ho
  clear ho
  have sz11 := hb.size
  rw [World.size_alloc] at sz11
  clear hb
  clear k0_0 k0_1 k0_2 k0_3 k0_4
  clear k1_0 k1_1
  obtain rfl : mHW = mHG := HW.out.len.symm.trans HG.out.len
  go_wp2_with fail
  refine (SlI.eq_any _ _ _ _ _ _ _ HG.out.rd HW.out.rd).mono ?_
  rintro e w12 ⟨rfl, hb⟩
  replace HB := Lib.hid (below_on HB.out hb)
  replace HX0 := Lib.hid (HX0.out.below hb)
  replace HX1 := Lib.hid (HX1.out.below hb)
  replace HW := Lib.hid (HW.out.below hb)
  replace HU0_0 := Lib.hid (HU0_0.out.below hb)
  replace HU0_1 := Lib.hid (HU0_1.out.below hb)
  replace HU0_2 := Lib.hid (HU0_2.out.below hb)
  replace HV0_0 := Lib.hid (HV0_0.out.below hb)
  replace HV0_1 := Lib.hid (HV0_1.out.below hb)
  replace HV0_2 := Lib.hid (HV0_2.out.below hb)
  replace HS0 := Lib.hid (HS0.out.below hb)
  replace HU1_0 := Lib.hid (HU1_0.out.below hb)
  replace HV1_0 := Lib.hid (HV1_0.out.below hb)
  replace HS1 := Lib.hid (HS1.out.below hb)
  replace HG := Lib.hid (HG.out.below hb)
  have sz12 := hb.size
  clear hb
  obtain ⟨j0_0, j0_1, j0_2, j0_3, j0_4⟩ := DpFrame.bxc HS0.out
  obtain ⟨j1_0, j1_1, j1_2, j1_3, j1_4⟩ := DpFrame.bxc HX0.out
  go_wp2_with fail
  replace HB := Lib.hid (drewB HB.out)
  replace HX0 := Lib.hid (HX0.out.below (drewB (Below.refl _ _)))
  replace HX1 := Lib.hid (HX1.out.below (drewB (Below.refl _ _)))
  replace HW := Lib.hid (HW.out.below (drewB (Below.refl _ _)))
  replace HU0_0 := Lib.hid (HU0_0.out.below (drewB (Below.refl _ _)))
  replace HU0_1 := Lib.hid (HU0_1.out.below (drewB (Below.refl _ _)))
  replace HU0_2 := Lib.hid (HU0_2.out.below (drewB (Below.refl _ _)))
  replace HV0_0 := Lib.hid (HV0_0.out.below (drewB (Below.refl _ _)))
  replace HV0_1 := Lib.hid (HV0_1.out.below (drewB (Below.refl _ _)))
  replace HV0_2 := Lib.hid (HV0_2.out.below (drewB (Below.refl _ _)))
  replace HS0 := Lib.hid (HS0.out.below (drewB (Below.refl _ _)))
  replace HU1_0 := Lib.hid (HU1_0.out.below (drewB (Below.refl _ _)))
  replace HV1_0 := Lib.hid (HV1_0.out.below (drewB (Below.refl _ _)))
  replace HS1 := Lib.hid (HS1.out.below (drewB (Below.refl _ _)))
  replace HG := Lib.hid (HG.out.below (drewB (Below.refl _ _)))
  go_region_held3 (fun w' => (w'.cell? ⟨w9.heap.size, 0, none⟩ = some (.slice qHU0_0 n0_0 dHU0_0) ∧ w'.cell? ⟨w9.heap.size, 1, none⟩ = some (.slice qHU0_1 n0_1 dHU0_1) ∧ w'.cell? ⟨w9.heap.size, 2, none⟩ = some (.slice qHU0_2 n0_2 dHU0_2) ∧ w'.cell? ⟨w9.heap.size, 3, none⟩ = some (.int .i64 x0_3) ∧ w'.cell? ⟨w9.heap.size, 4, none⟩ = some (.int .i64 x0_4)) ∧ w'.cell? ⟨W.heap.size, 0, none⟩ = some (.slice p0_0 n0_0 c0_0) ∧ w'.cell? ⟨W.heap.size, 1, none⟩ = some (.slice p0_1 n0_1 c0_1) ∧ w'.cell? ⟨W.heap.size, 2, none⟩ = some (.slice p0_2 n0_2 c0_2) ∧ w'.cell? ⟨W.heap.size, 3, none⟩ = some (.int .i64 x0_3) ∧ w'.cell? ⟨W.heap.size, 4, none⟩ = some (.int .i64 x0_4)) (first | exact ⟨DpFrame.bxc HS0.out, DpFrame.bxc HX0.out⟩ | go_keep) (first | (go_at_call 8; (with_reducible refine (DpFrame.to_any _ _ _ _ _ _ _ _ _ _ _ _ _ _ _ (HP0_0.out.below HB.out) (HP0_1.out.below HB.out) (HP0_2.out.below HB.out) (by rw [HM0.out]; omega)).mono ?_); rintro e w13 ⟨qHY0_0, dHY0_0, qHY0_1, dHY0_1, qHY0_2, dHY0_2, rfl, ho0, ho1, ho2, hb⟩; replace HB := Lib.hid (below_on HB.out hb); replace HX0 := Lib.hid (HX0.out.below hb); replace HX1 := Lib.hid (HX1.out.below hb); replace HW := Lib.hid (HW.out.below hb); replace HU0_0 := Lib.hid (HU0_0.out.below hb); replace HU0_1 := Lib.hid (HU0_1.out.below hb); replace HU0_2 := Lib.hid (HU0_2.out.below hb); replace HV0_0 := Lib.hid (HV0_0.out.below hb); replace HV0_1 := Lib.hid (HV0_1.out.below hb); replace HV0_2 := Lib.hid (HV0_2.out.below hb); replace HS0 := Lib.hid (HS0.out.below hb); replace HU1_0 := Lib.hid (HU1_0.out.below hb); replace HV1_0 := Lib.hid (HV1_0.out.below hb); replace HS1 := Lib.hid (HS1.out.below hb); replace HG := Lib.hid (HG.out.below hb); have HY0_0 := Lib.hid ho0; have HY0_1 := Lib.hid ho1; have HY0_2 := Lib.hid ho2; clear ho0 ho1 ho2; clear hb) | (go_at_call 12; (with_reducible refine (DpFrame.eq_any _ _ _ _ _ _ _ _ _ _ _ _ _ _ _ _ _ _ _ _ _ HU0_0.out HY0_0.out HU0_1.out HY0_1.out HU0_2.out HY0_2.out).mono ?_); rintro e w14 ⟨rfl, hb⟩; replace HB := Lib.hid (below_on HB.out hb); replace HX0 := Lib.hid (HX0.out.below hb); replace HX1 := Lib.hid (HX1.out.below hb); replace HW := Lib.hid (HW.out.below hb); replace HU0_0 := Lib.hid (HU0_0.out.below hb); replace HU0_1 := Lib.hid (HU0_1.out.below hb); replace HU0_2 := Lib.hid (HU0_2.out.below hb); replace HV0_0 := Lib.hid (HV0_0.out.below hb); replace HV0_1 := Lib.hid (HV0_1.out.below hb); replace HV0_2 := Lib.hid (HV0_2.out.below hb); replace HS0 := Lib.hid (HS0.out.below hb); replace HU1_0 := Lib.hid (HU1_0.out.below hb); replace HV1_0 := Lib.hid (HV1_0.out.below hb); replace HS1 := Lib.hid (HS1.out.below hb); replace HG := Lib.hid (HG.out.below hb); replace HY0_0 := Lib.hid (HY0_0.out.below hb); replace HY0_1 := Lib.hid (HY0_1.out.below hb); replace HY0_2 := Lib.hid (HY0_2.out.below hb); clear hb))
  clear j0_0 j0_1 j0_2 j0_3 j0_4
  clear j1_0 j1_1 j1_2 j1_3 j1_4
  clear HY0_0
  clear HY0_1
  clear HY0_2
  obtain ⟨j0_0, j0_1⟩ := DpArchive.bxc HS1.out
  obtain ⟨j1_0, j1_1⟩ := DpArchive.bxc HX1.out
  go_wp2_with fail
  replace HB := Lib.hid (drewB HB.out)
  replace HX0 := Lib.hid (HX0.out.below (drewB (Below.refl _ _)))
  replace HX1 := Lib.hid (HX1.out.below (drewB (Below.refl _ _)))
  replace HW := Lib.hid (HW.out.below (drewB (Below.refl _ _)))
  replace HU0_0 := Lib.hid (HU0_0.out.below (drewB (Below.refl _ _)))
  replace HU0_1 := Lib.hid (HU0_1.out.below (drewB (Below.refl _ _)))
  replace HU0_2 := Lib.hid (HU0_2.out.below (drewB (Below.refl _ _)))
  replace HV0_0 := Lib.hid (HV0_0.out.below (drewB (Below.refl _ _)))
  replace HV0_1 := Lib.hid (HV0_1.out.below (drewB (Below.refl _ _)))
  replace HV0_2 := Lib.hid (HV0_2.out.below (drewB (Below.refl _ _)))
  replace HS0 := Lib.hid (HS0.out.below (drewB (Below.refl _ _)))
  replace HU1_0 := Lib.hid (HU1_0.out.below (drewB (Below.refl _ _)))
  replace HV1_0 := Lib.hid (HV1_0.out.below (drewB (Below.refl _ _)))
  replace HS1 := Lib.hid (HS1.out.below (drewB (Below.refl _ _)))
  replace HG := Lib.hid (HG.out.below (drewB (Below.refl _ _)))
  go_region_held3 (fun w' => (w'.cell? ⟨w10.heap.size, 0, none⟩ = some (.int .i64 x1_0) ∧ w'.cell? ⟨w10.heap.size, 1, none⟩ = some (.slice qHU1_0 n1_1 dHU1_0)) ∧ w'.cell? ⟨W.heap.size + 1, 0, none⟩ = some (.int .i64 x1_0) ∧ w'.cell? ⟨W.heap.size + 1, 1, none⟩ = some (.slice p1_1 n1_1 c1_1)) (first | exact ⟨DpArchive.bxc HS1.out, DpArchive.bxc HX1.out⟩ | go_keep) (first | (go_at_call 9; (with_reducible refine (DpArchive.to_any _ _ _ _ _ _ (HP1_1.out.below HB.out) (by rw [HM1.out]; omega)).mono ?_); rintro e w15 ⟨qHY1_0, dHY1_0, rfl, ho0, hb⟩; replace HB := Lib.hid (below_on HB.out hb); replace HX0 := Lib.hid (HX0.out.below hb); replace HX1 := Lib.hid (HX1.out.below hb); replace HW := Lib.hid (HW.out.below hb); replace HU0_0 := Lib.hid (HU0_0.out.below hb); replace HU0_1 := Lib.hid (HU0_1.out.below hb); replace HU0_2 := Lib.hid (HU0_2.out.below hb); replace HV0_0 := Lib.hid (HV0_0.out.below hb); replace HV0_1 := Lib.hid (HV0_1.out.below hb); replace HV0_2 := Lib.hid (HV0_2.out.below hb); replace HS0 := Lib.hid (HS0.out.below hb); replace HU1_0 := Lib.hid (HU1_0.out.below hb); replace HV1_0 := Lib.hid (HV1_0.out.below hb); replace HS1 := Lib.hid (HS1.out.below hb); replace HG := Lib.hid (HG.out.below hb); have HY1_0 := Lib.hid ho0; clear ho0; clear hb) | (go_at_call 13; (with_reducible refine (DpArchive.eq_any _ _ _ _ _ _ _ _ HU1_0.out HY1_0.out).mono ?_); rintro e w16 ⟨rfl, hb⟩; replace HB := Lib.hid (below_on HB.out hb); replace HX0 := Lib.hid (HX0.out.below hb); replace HX1 := Lib.hid (HX1.out.below hb); replace HW := Lib.hid (HW.out.below hb); replace HU0_0 := Lib.hid (HU0_0.out.below hb); replace HU0_1 := Lib.hid (HU0_1.out.below hb); replace HU0_2 := Lib.hid (HU0_2.out.below hb); replace HV0_0 := Lib.hid (HV0_0.out.below hb); replace HV0_1 := Lib.hid (HV0_1.out.below hb); replace HV0_2 := Lib.hid (HV0_2.out.below hb); replace HS0 := Lib.hid (HS0.out.below hb); replace HU1_0 := Lib.hid (HU1_0.out.below hb); replace HV1_0 := Lib.hid (HV1_0.out.below hb); replace HS1 := Lib.hid (HS1.out.below hb); replace HG := Lib.hid (HG.out.below hb); replace HY1_0 := Lib.hid (HY1_0.out.below hb); clear hb))
  clear j0_0 j0_1
  clear j1_0 j1_1
  clear HY1_0
  clear HU0_0
  clear HU0_1
  clear HU0_2
  clear HU1_0
  have sG := HG.out.2.2.1
  have HNW0 : Hid ((l0_0.map MdKey.M.nw).sum + (l0_1.map MdAuthority.M.nw).sum + (l0_2.map MdMethod.M.nw).sum ≤ 16777216) := Lib.hid (by have h0_0 := Ek.nw_wts MdKey.M (by show 5 ≤ 16; omega) l0_0; have h0_1 := Ek.nw_wts MdAuthority.M (by show 3 ≤ 16; omega) l0_1; have h0_2 := Ek.nw_wts MdMethod.M (by show 4 ≤ 16; omega) l0_2; have h := HM0.out; simp only [DpFrame.wt_eq] at h; omega)
  obtain ⟨k0_0, k0_1, k0_2, k0_3, k0_4⟩ := DpFrame.bxc HS0.out
  go_wp2_with fail
  refine (MdFrame.mark_any (w8.heap.size) (w9.heap.size) _ _ _ _ _ _ _ _ _ _ _ _ _ _ 1 _ (by omega) HV0_0.out HV0_1.out HV0_2.out (by omega) (by have h := HNW0.out; omega)).mono ?_
  rintro e w17 ⟨kk0, rfl, hk0, hkb, hm⟩
  have HKC0 : Hid (kk0 ≤ 1 + 16777216 * 1) := Lib.hid (by have h := HNW0.out; omega)
  replace HB := Lib.hid (hm.on HB.out (by omega) (by omega))
  clear k0_0 k0_1 k0_2 k0_3 k0_4
  replace HX0 := Lib.hid (hm.bx HX0.out (Or.inr (by omega)))
  replace HX1 := Lib.hid (hm.bx HX1.out (Or.inr (by omega)))
  replace HW := Lib.hid (hm.ow HW.out (Or.inr (by omega)))
  replace HS0 := Lib.hid (hm.bx HS0.out (Or.inl (by omega)))
  replace HV1_0 := Lib.hid (HV1_0.out.away hm (Or.inl (by omega)))
  replace HS1 := Lib.hid (hm.bx HS1.out (Or.inl (by omega)))
  replace HG := Lib.hid (hm.ow HG.out (Or.inl (by omega)))
  have sz17 := hm.size
  clear hm hkb
  clear HV0_0
  clear HV0_1
  clear HV0_2
  have HNW1 : Hid ((l1_1.map MdItem.M.nw).sum ≤ 16777216) := Lib.hid (by have h1_1 := Ek.nw_wts MdItem.M (by show 16 ≤ 16; omega) l1_1; have h := HM1.out; simp only [DpArchive.wt_eq] at h; omega)
  obtain ⟨k1_0, k1_1⟩ := DpArchive.bxc HS1.out
  go_wp2_with fail
  refine (MdArchive.mark_any (w9.heap.size + 1) (w10.heap.size) _ _ _ _ _ kk0 _ (by omega) HV1_0.out (by omega) (by have h := HNW1.out; have hq := HKC0.out; omega)).mono ?_
  rintro e w18 ⟨kk1, rfl, hk1, hkb, hm⟩
  have HKC1 : Hid (kk1 ≤ 1 + 16777216 * 2) := Lib.hid (by have h := HNW1.out; have hq := HKC0.out; omega)
  replace HB := Lib.hid (hm.on HB.out (by omega) (by omega))
  clear k1_0 k1_1
  replace HX0 := Lib.hid (hm.bx HX0.out (Or.inr (by omega)))
  replace HX1 := Lib.hid (hm.bx HX1.out (Or.inr (by omega)))
  replace HW := Lib.hid (hm.ow HW.out (Or.inr (by omega)))
  replace HS0 := Lib.hid (hm.bx HS0.out (Or.inr (by omega)))
  replace HS1 := Lib.hid (hm.bx HS1.out (Or.inl (by omega)))
  replace HG := Lib.hid (hm.ow HG.out (Or.inl (by omega)))
  have sz18 := hm.size
  clear hm hkb
  clear HV1_0
  have hkd : decide (kk1 < 0) = false := decide_eq_false (by omega)
  go_wp2_with fail
  refine (SlI.eq_any _ _ _ _ _ _ _ HG.out.rd HW.out.rd).mono ?_
  rintro e w19 ⟨rfl, hb⟩
  replace HB := Lib.hid (below_on HB.out hb)
  replace HX0 := Lib.hid (HX0.out.below hb)
  replace HX1 := Lib.hid (HX1.out.below hb)
  replace HW := Lib.hid (HW.out.below hb)
  replace HS0 := Lib.hid (HS0.out.below hb)
  replace HS1 := Lib.hid (HS1.out.below hb)
  replace HG := Lib.hid (HG.out.below hb)
  have sz19 := hb.size
  clear hb
  clear HS0
  clear HS1
  go_wp2_with fail
  refine (SlI.mark_any _ _ _ _ _ _ _ _ HG.out (by omega) (by have := HG.out.le; omega)).mono ?_
  rintro e w20 ⟨rfl, ho, hg⟩
  replace HB := Lib.hid (below_row HB.out HG.out hg (by omega))
  replace HX0 := Lib.hid (HX0.out.grown hg (fun e => by have := HG.out.far _ e.symm; have := HX0.out.lt; omega))
  replace HX1 := Lib.hid (HX1.out.grown hg (fun e => by have := HG.out.far _ e.symm; have := HX1.out.lt; omega))
  replace HW := Lib.hid (HW.out.kept hg (fun g e => by have := HG.out.far g e; omega))
  replace HG := Lib.hid ho
  clear ho hg
  go_wp2_with fail
  refine (SlI.held_any _ _ _ _ _ HG.out.rd (by omega) (by omega)).mono ?_
  rintro e w21 ⟨rfl, rfl⟩
  obtain ⟨j0_0, j0_1, j0_2, j0_3, j0_4⟩ := DpFrame.bxc HX0.out
  obtain ⟨j1_0, j1_1⟩ := DpArchive.bxc HX1.out
  go_wp2_with fail
  replace HB := Lib.hid (drewB HB.out)
  replace HX0 := Lib.hid (HX0.out.below (drewB (Below.refl _ _)))
  replace HX1 := Lib.hid (HX1.out.below (drewB (Below.refl _ _)))
  replace HW := Lib.hid (HW.out.below (drewB (Below.refl _ _)))
  replace HG := Lib.hid (HG.out.below (drewB (Below.refl _ _)))
  go_region_held3 (fun w' => (w'.cell? ⟨W.heap.size, 0, none⟩ = some (.slice p0_0 n0_0 c0_0) ∧ w'.cell? ⟨W.heap.size, 1, none⟩ = some (.slice p0_1 n0_1 c0_1) ∧ w'.cell? ⟨W.heap.size, 2, none⟩ = some (.slice p0_2 n0_2 c0_2) ∧ w'.cell? ⟨W.heap.size, 3, none⟩ = some (.int .i64 x0_3) ∧ w'.cell? ⟨W.heap.size, 4, none⟩ = some (.int .i64 x0_4)) ∧ w'.cell? ⟨W.heap.size + 1, 0, none⟩ = some (.int .i64 x1_0) ∧ w'.cell? ⟨W.heap.size + 1, 1, none⟩ = some (.slice p1_1 n1_1 c1_1)) (first | exact ⟨DpFrame.bxc HX0.out, DpArchive.bxc HX1.out⟩ | go_keep) (first | (go_at_call 8; (with_reducible refine (DpFrame.to_any _ _ _ _ _ _ _ _ _ _ _ _ _ _ _ (HP0_0.out.below HB.out) (HP0_1.out.below HB.out) (HP0_2.out.below HB.out) (by rw [HM0.out]; omega)).mono ?_); rintro e w22 ⟨qHZ0_0, dHZ0_0, qHZ0_1, dHZ0_1, qHZ0_2, dHZ0_2, rfl, ho0, ho1, ho2, hb⟩; replace HB := Lib.hid (below_on HB.out hb); replace HX0 := Lib.hid (HX0.out.below hb); replace HX1 := Lib.hid (HX1.out.below hb); replace HW := Lib.hid (HW.out.below hb); replace HG := Lib.hid (HG.out.below hb); have HZ0_0 := Lib.hid ho0; have HZ0_1 := Lib.hid ho1; have HZ0_2 := Lib.hid ho2; clear ho0 ho1 ho2; clear hb) | (go_at_call 9; (with_reducible refine (DpArchive.to_any _ _ _ _ _ _ (HP1_1.out.below HB.out) (by rw [HM1.out]; omega)).mono ?_); rintro e w23 ⟨qHZ1_0, dHZ1_0, rfl, ho0, hb⟩; replace HB := Lib.hid (below_on HB.out hb); replace HX0 := Lib.hid (HX0.out.below hb); replace HX1 := Lib.hid (HX1.out.below hb); replace HW := Lib.hid (HW.out.below hb); replace HG := Lib.hid (HG.out.below hb); replace HZ0_0 := Lib.hid (HZ0_0.out.below hb); replace HZ0_1 := Lib.hid (HZ0_1.out.below hb); replace HZ0_2 := Lib.hid (HZ0_2.out.below hb); have HZ1_0 := Lib.hid ho0; clear ho0; clear hb) | (go_at_call 10; (with_reducible refine (Idu.due_any _ _ _ _ _ _ _ _ _ _ _ _ x0_3 x0_4 x1_0 _ _ _ _ x2 _ HZ0_0.out HZ0_1.out HZ0_2.out HZ1_0.out (by have h := HM1.out; rw [DpArchive.wt_eq] at h; have k := HP1_1.out.len; omega)).mono ?_); rintro e w24 ⟨qHH, mHH, dHH, rfl, ho, hb⟩; replace HB := Lib.hid (below_on HB.out hb); replace HX0 := Lib.hid (HX0.out.below hb); replace HX1 := Lib.hid (HX1.out.below hb); replace HW := Lib.hid (HW.out.below hb); replace HG := Lib.hid (HG.out.below hb); replace HZ0_0 := Lib.hid (HZ0_0.out.below hb); replace HZ0_1 := Lib.hid (HZ0_1.out.below hb); replace HZ0_2 := Lib.hid (HZ0_2.out.below hb); replace HZ1_0 := Lib.hid (HZ1_0.out.below hb); have HH := Lib.hid ho; clear ho; clear hb))
  clear j0_0 j0_1 j0_2 j0_3 j0_4
  clear j1_0 j1_1
  clear HZ0_0
  clear HZ0_1
  clear HZ0_2
  clear HZ1_0
  obtain rfl : mHW = mHH := HW.out.len.symm.trans HH.out.len
  go_wp2_with fail
  refine (SlI.eq_any _ _ _ _ _ _ _ HH.out.rd HW.out.rd).mono ?_
  rintro e w25 ⟨rfl, hb⟩
  replace HB := Lib.hid (below_on HB.out hb)
  replace HX0 := Lib.hid (HX0.out.below hb)
  replace HX1 := Lib.hid (HX1.out.below hb)
  replace HW := Lib.hid (HW.out.below hb)
  replace HG := Lib.hid (HG.out.below hb)
  replace HH := Lib.hid (HH.out.below hb)
  have sz25 := hb.size
  clear hb
  go_wp2_with fail
  refine (SlI.held_any _ _ _ _ _ HG.out.rd (by omega) (by omega)).mono ?_
  rintro e w26 ⟨rfl, rfl⟩
  go_wp2_with fail
  go_ret
  exact ⟨rfl, HB.out⟩
end Go.Proofs.YtpjckbdljbpliaaGreat.fnExactItemsDue
