/- The walk of the law FnExactFalseAuthorities. -/
import Derived.Test.YtpjckbdljbpliaaGreatEd
import Derived.Test.YtpjckbdljbpliaaGreatDz
import Derived.Test.YtpjckbdljbpliaaGreatSlI
import Derived.Test.YtpjckbdljbpliaaGreatDpWorld
import Derived.Test.YtpjckbdljbpliaaGreatFal
import Derived.Test.YtpjckbdljbpliaaGreatEk
import Derived.Test.YtpjckbdljbpliaaGreatDfWorld
import Derived.Test.YtpjckbdljbpliaaGreatMdWorld
import Derived.OpenShut
import Derived.Deep.RegionHeld3
import Derived.Laws.Strings
namespace Go.Proofs.YtpjckbdljbpliaaGreat.fnExactFalseAuthorities
open Go.ChangeShapes Go.WideShapes Go.ChangeAt Go.RowKit Sl St Ed Fal
theorem drewB {W w : World} {B : Nat} (h : Below B W w) : Below B W w.drew := below_drewN h 1
set_option maxRecDepth 100000 in
set_option maxHeartbeats 8000000 in
theorem walk {H : Type} {enc : TypeId × Value → H} (W : World) (base : Nat)
    (v0 : Value) (d0 : DataW H) (p0 : List MemPlace) (h0 : DataW.Trod enc Tryz.prog W 0 (fun _ => true) true 54 v0 d0 p0) (k0 : Value.okWide Tryz.prog W .any base 54 v0)
    (_hsz : (DataW.weightsEach Tryz.prog [54] [d0]).all (· ≤ reachBytes) = true) :
    Calls Tryz.prog 4 #[v0] W fun e w' => e = .returned (.bool true) ∧ Below W.heap.size W w' := by
  obtain ⟨l0_0, l0_1, l0_2, x0_3, x0_4, l0_5, l0_6, l0_7, l0_8, l0_9, x0_10, l0_11, p0_0, n0_0, c0_0, p0_1, n0_1, c0_1, p0_2, n0_2, c0_2, p0_5, n0_5, c0_5, p0_6, n0_6, c0_6, p0_7, n0_7, c0_7, p0_8, n0_8, c0_8, p0_9, n0_9, c0_9, p0_11, n0_11, c0_11, rfl, h0_0, h0_1, h0_2, b0_3, b0_4, h0_5, h0_6, h0_7, h0_8, h0_9, b0_10, h0_11⟩ := DpWorld.open_val h0 k0
  have HP0_0 := Lib.hid h0_0
  have HP0_1 := Lib.hid h0_1
  have HP0_2 := Lib.hid h0_2
  have HG0_3 := Lib.hid b0_3
  have HG0_4 := Lib.hid b0_4
  have HP0_5 := Lib.hid h0_5
  have HP0_6 := Lib.hid h0_6
  have HP0_7 := Lib.hid h0_7
  have HP0_8 := Lib.hid h0_8
  have HP0_9 := Lib.hid h0_9
  have HG0_10 := Lib.hid b0_10
  have HP0_11 := Lib.hid h0_11
  have hn0_0 := h0_0.le
  have hn0_1 := h0_1.le
  have hn0_2 := h0_2.le
  have hn0_5 := h0_5.le
  have hn0_6 := h0_6.le
  have hn0_7 := h0_7.le
  have hn0_8 := h0_8.le
  have hn0_9 := h0_9.le
  have hn0_11 := h0_11.le
  clear h0_0 h0_1 h0_2 b0_3 b0_4 h0_5 h0_6 h0_7 h0_8 h0_9 b0_10 h0_11
  clear h0 k0
  clear _hsz
  have HB := Lib.hid (Below.refl W.heap.size W)
  have HX0 := Lib.hid (Bx.new W 54 #[.slice p0_0 n0_0 c0_0, .slice p0_1 n0_1 c0_1, .slice p0_2 n0_2 c0_2, .int .i64 x0_3, .int .i64 x0_4, .slice p0_5 n0_5 c0_5, .slice p0_6 n0_6 c0_6, .slice p0_7 n0_7 c0_7, .slice p0_8 n0_8 c0_8, .slice p0_9 n0_9 c0_9, .int .i64 x0_10, .slice p0_11 n0_11 c0_11])
  replace HB := Lib.hid (HB.out.alloc HB.out.size (.cells #[.slice p0_0 n0_0 c0_0, .slice p0_1 n0_1 c0_1, .slice p0_2 n0_2 c0_2, .int .i64 x0_3, .int .i64 x0_4, .slice p0_5 n0_5 c0_5, .slice p0_6 n0_6 c0_6, .slice p0_7 n0_7 c0_7, .slice p0_8 n0_8 c0_8, .slice p0_9 n0_9 c0_9, .int .i64 x0_10, .slice p0_11 n0_11 c0_11] 54))
  have lX0 := HX0.out.lt
  obtain ⟨m0, hm0⟩ : ∃ m : Nat, DpWorld.E.wt ((l0_0, l0_1, l0_2, x0_3, x0_4), l0_5, l0_6, l0_7, l0_8, l0_9, x0_10, l0_11) = m := ⟨_, rfl⟩
  have HM0 := Lib.hid hm0
  clear hm0
  by_cases hbig0 : 1048576 < m0
  · go_enter Tryz.func4, Tryz.ntmps4
    obtain ⟨i0, i1, i2, i3, i4, i5, i6, i7, i8, i9, i10, i11⟩ := DpWorld.bxc HX0.out
    go_wp2_with fail
    refine (DpWorld.sz_big _ _ _ _ _ _ _ _ _ _ _ _ _ _ _ _ _ _ _ _ _ _ _ _ _ _ _ _ _ _ _ _ _ _ _ _ _ _ _ _ _ _ HM0.out (HP0_0.out.below HB.out) (HP0_1.out.below HB.out) (HP0_2.out.below HB.out) (HP0_5.out.below HB.out) (HP0_6.out.below HB.out) (HP0_7.out.below HB.out) (HP0_8.out.below HB.out) (HP0_9.out.below HB.out) (HP0_11.out.below HB.out) (by omega) (by omega) (by omega)).mono ?_
    rintro e w1 ⟨rfl, hb⟩
    replace HB := Lib.hid (below_on HB.out hb)
    replace HX0 := Lib.hid (HX0.out.below hb)
    clear hb
    clear i0 i1 i2 i3 i4 i5 i6 i7 i8 i9 i10 i11
    go_wp2_with fail
    go_ret
    exact ⟨rfl, HB.out⟩
  go_enter Tryz.func4, Tryz.ntmps4
  obtain ⟨i0, i1, i2, i3, i4, i5, i6, i7, i8, i9, i10, i11⟩ := DpWorld.bxc HX0.out
  go_wp2_with fail
  refine (DpWorld.sz_fits _ _ _ _ _ _ _ _ _ _ _ _ _ _ _ _ _ _ _ _ _ _ _ _ _ _ _ _ _ _ _ _ _ _ _ _ _ _ _ _ _ _ HM0.out (HP0_0.out.below HB.out) (HP0_1.out.below HB.out) (HP0_2.out.below HB.out) (HP0_5.out.below HB.out) (HP0_6.out.below HB.out) (HP0_7.out.below HB.out) (HP0_8.out.below HB.out) (HP0_9.out.below HB.out) (HP0_11.out.below HB.out) (by omega) (by omega)).mono ?_
  rintro e w2 ⟨rfl, hb⟩
  replace HB := Lib.hid (below_on HB.out hb)
  replace HX0 := Lib.hid (HX0.out.below hb)
  clear hb
  clear i0 i1 i2 i3 i4 i5 i6 i7 i8 i9 i10 i11
  have sm0 : m0 ≤ 1048576 := by omega
  clear hbig0
  have sn0_0 : n0_0 ≤ 1048576 := by have h := HM0.out; have k := HP0_0.out.len; simp only [DpWorld.wt_eq, DpFrame.wt_eq] at h; omega
  have sn0_1 : n0_1 ≤ 1048576 := by have h := HM0.out; have k := HP0_1.out.len; simp only [DpWorld.wt_eq, DpFrame.wt_eq] at h; omega
  have sn0_2 : n0_2 ≤ 1048576 := by have h := HM0.out; have k := HP0_2.out.len; simp only [DpWorld.wt_eq, DpFrame.wt_eq] at h; omega
  have sn0_5 : n0_5 ≤ 1048576 := by have h := HM0.out; have k := HP0_5.out.len; simp only [DpWorld.wt_eq, DpFrame.wt_eq] at h; omega
  have sn0_6 : n0_6 ≤ 1048576 := by have h := HM0.out; have k := HP0_6.out.len; simp only [DpWorld.wt_eq, DpFrame.wt_eq] at h; omega
  have sn0_7 : n0_7 ≤ 1048576 := by have h := HM0.out; have k := HP0_7.out.len; simp only [DpWorld.wt_eq, DpFrame.wt_eq] at h; omega
  have sn0_8 : n0_8 ≤ 1048576 := by have h := HM0.out; have k := HP0_8.out.len; simp only [DpWorld.wt_eq, DpFrame.wt_eq] at h; omega
  have sn0_9 : n0_9 ≤ 1048576 := by have h := HM0.out; have k := HP0_9.out.len; simp only [DpWorld.wt_eq, DpFrame.wt_eq] at h; omega
  have sn0_11 : n0_11 ≤ 1048576 := by have h := HM0.out; have k := HP0_11.out.len; simp only [DpWorld.wt_eq, DpFrame.wt_eq] at h; omega
  have sW := HB.out.size
  have lY0 := HX0.out.lt
  obtain ⟨i0, i1, i2, i3, i4, i5, i6, i7, i8, i9, i10, i11⟩ := DpWorld.bxc HX0.out
  go_wp2_with fail
  refine (DpWorld.to_any _ _ _ _ _ _ _ _ _ _ _ _ _ _ _ _ _ _ _ _ _ _ _ _ _ _ _ _ _ _ _ _ _ _ _ _ _ _ _ _ (HP0_0.out.below HB.out) (HP0_1.out.below HB.out) (HP0_2.out.below HB.out) (HP0_5.out.below HB.out) (HP0_6.out.below HB.out) (HP0_7.out.below HB.out) (HP0_8.out.below HB.out) (HP0_9.out.below HB.out) (HP0_11.out.below HB.out) (by rw [HM0.out]; omega)).mono ?_
  rintro e w3 ⟨qHT0_0, dHT0_0, qHT0_1, dHT0_1, qHT0_2, dHT0_2, qHT0_3, dHT0_3, qHT0_4, dHT0_4, qHT0_5, dHT0_5, qHT0_6, dHT0_6, qHT0_7, dHT0_7, qHT0_8, dHT0_8, rfl, ho0, ho1, ho2, ho3, ho4, ho5, ho6, ho7, ho8, hb⟩
  replace HB := Lib.hid (below_on HB.out hb)
  replace HX0 := Lib.hid (HX0.out.below hb)
  have HT0_0 := Lib.hid ho0
  have HT0_1 := Lib.hid ho1
  have HT0_2 := Lib.hid ho2
  have HT0_3 := Lib.hid ho3
  have HT0_4 := Lib.hid ho4
  have HT0_5 := Lib.hid ho5
  have HT0_6 := Lib.hid ho6
  have HT0_7 := Lib.hid ho7
  have HT0_8 := Lib.hid ho8
  clear ho0 ho1 ho2 ho3 ho4 ho5 ho6 ho7 ho8
  have sz3 := hb.size
  clear hb
  clear i0 i1 i2 i3 i4 i5 i6 i7 i8 i9 i10 i11
  go_wp2_with fail
  refine (Fal.spec_fals_any _ _ _ _ _ _ _ _ _ _ _ _ x0_3 x0_4 _ _ _ _ _ _ _ _ _ _ _ _ _ _ _ _ x0_10 _ _ _ _ HT0_0.out HT0_1.out HT0_2.out HT0_7.out sn0_1).mono ?_
  rintro e w4 ⟨qHW, mHW, dHW, rfl, ho, hb⟩
  replace HB := Lib.hid (below_on HB.out hb)
  replace HX0 := Lib.hid (HX0.out.below hb)
  replace HT0_0 := Lib.hid (HT0_0.out.below hb)
  replace HT0_1 := Lib.hid (HT0_1.out.below hb)
  replace HT0_2 := Lib.hid (HT0_2.out.below hb)
  replace HT0_3 := Lib.hid (HT0_3.out.below hb)
  replace HT0_4 := Lib.hid (HT0_4.out.below hb)
  replace HT0_5 := Lib.hid (HT0_5.out.below hb)
  replace HT0_6 := Lib.hid (HT0_6.out.below hb)
  replace HT0_7 := Lib.hid (HT0_7.out.below hb)
  replace HT0_8 := Lib.hid (HT0_8.out.below hb)
  have HW := Lib.hid ho
  clear ho
  have sz4 := hb.size
  clear hb
  clear HT0_0
  clear HT0_1
  clear HT0_2
  clear HT0_3
  clear HT0_4
  clear HT0_5
  clear HT0_6
  clear HT0_7
  clear HT0_8
  have sB := HB.out.size
  have lZ0 := HX0.out.lt
  have bm : mHW ≤ 1048576 := by have h1 := HW.out.len; have h2 := Fal.fals_len l0_0 l0_2 x0_4 l0_9 l0_1; have h3 := HP0_1.out.len; omega
  obtain ⟨i0, i1, i2, i3, i4, i5, i6, i7, i8, i9, i10, i11⟩ := DpWorld.bxc HX0.out
  go_wp2_with fail
  refine (DfWorld.toF_any _ _ _ _ _ _ _ _ _ _ _ _ _ _ _ _ _ _ _ _ _ _ _ _ _ _ _ _ _ _ _ _ _ _ _ _ _ _ _ _ (HP0_0.out.below HB.out) (HP0_1.out.below HB.out) (HP0_2.out.below HB.out) (HP0_5.out.below HB.out) (HP0_6.out.below HB.out) (HP0_7.out.below HB.out) (HP0_8.out.below HB.out) (HP0_9.out.below HB.out) (HP0_11.out.below HB.out) (by rw [HM0.out]; omega)).mono ?_
  rintro e w5 ⟨qHU0_0, dHU0_0, qHU0_1, dHU0_1, qHU0_2, dHU0_2, qHU0_3, dHU0_3, qHU0_4, dHU0_4, qHU0_5, dHU0_5, qHU0_6, dHU0_6, qHU0_7, dHU0_7, qHU0_8, dHU0_8, rfl, ho0, ho1, ho2, ho3, ho4, ho5, ho6, ho7, ho8, hk0, hk1, hk2, hk3, hk4, hk5, hk6, hk7, hk8, hb⟩
  replace HB := Lib.hid (below_on HB.out hb)
  replace HX0 := Lib.hid (HX0.out.below hb)
  replace HW := Lib.hid (HW.out.below hb)
  have HU0_0 := Lib.hid ho0.rd
  have HU0_1 := Lib.hid ho1.rd
  have HU0_2 := Lib.hid ho2.rd
  have HU0_3 := Lib.hid ho3.rd
  have HU0_4 := Lib.hid ho4.rd
  have HU0_5 := Lib.hid ho5.rd
  have HU0_6 := Lib.hid ho6.rd
  have HU0_7 := Lib.hid ho7.rd
  have HU0_8 := Lib.hid ho8.rd
  have HV0_0 := Lib.hid ho0.rr
  have HV0_1 := Lib.hid ho1.rr
  have HV0_2 := Lib.hid ho2.rr
  have HV0_3 := Lib.hid ho3.rr
  have HV0_4 := Lib.hid ho4.rr
  have HV0_5 := Lib.hid ho5.rr
  have HV0_6 := Lib.hid ho6.rr
  have HV0_7 := Lib.hid ho7.rr
  have HV0_8 := Lib.hid ho8.rr
  clear ho0 hk0 ho1 hk1 ho2 hk2 ho3 hk3 ho4 hk4 ho5 hk5 ho6 hk6 ho7 hk7 ho8 hk8
  have sz5 := hb.size
  clear hb
  clear i0 i1 i2 i3 i4 i5 i6 i7 i8 i9 i10 i11
  have HS0 := Lib.hid (Bx.new w5 60 #[.slice qHU0_0 n0_0 dHU0_0, .slice qHU0_1 n0_1 dHU0_1, .slice qHU0_2 n0_2 dHU0_2, .int .i64 x0_3, .int .i64 x0_4, .slice qHU0_3 n0_5 dHU0_3, .slice qHU0_4 n0_6 dHU0_4, .slice qHU0_5 n0_7 dHU0_5, .slice qHU0_6 n0_8 dHU0_6, .slice qHU0_7 n0_9 dHU0_7, .int .i64 x0_10, .slice qHU0_8 n0_11 dHU0_8])
  have lHS0 := HS0.out.lt
  replace HB := Lib.hid (HB.out.alloc HB.out.size (.cells #[.slice qHU0_0 n0_0 dHU0_0, .slice qHU0_1 n0_1 dHU0_1, .slice qHU0_2 n0_2 dHU0_2, .int .i64 x0_3, .int .i64 x0_4, .slice qHU0_3 n0_5 dHU0_3, .slice qHU0_4 n0_6 dHU0_4, .slice qHU0_5 n0_7 dHU0_5, .slice qHU0_6 n0_8 dHU0_6, .slice qHU0_7 n0_9 dHU0_7, .int .i64 x0_10, .slice qHU0_8 n0_11 dHU0_8] 60))
  replace HX0 := Lib.hid (HX0.out.alloc (.cells #[.slice qHU0_0 n0_0 dHU0_0, .slice qHU0_1 n0_1 dHU0_1, .slice qHU0_2 n0_2 dHU0_2, .int .i64 x0_3, .int .i64 x0_4, .slice qHU0_3 n0_5 dHU0_3, .slice qHU0_4 n0_6 dHU0_4, .slice qHU0_5 n0_7 dHU0_5, .slice qHU0_6 n0_8 dHU0_6, .slice qHU0_7 n0_9 dHU0_7, .int .i64 x0_10, .slice qHU0_8 n0_11 dHU0_8] 60))
  replace HW := Lib.hid (HW.out.alloc (.cells #[.slice qHU0_0 n0_0 dHU0_0, .slice qHU0_1 n0_1 dHU0_1, .slice qHU0_2 n0_2 dHU0_2, .int .i64 x0_3, .int .i64 x0_4, .slice qHU0_3 n0_5 dHU0_3, .slice qHU0_4 n0_6 dHU0_4, .slice qHU0_5 n0_7 dHU0_5, .slice qHU0_6 n0_8 dHU0_6, .slice qHU0_7 n0_9 dHU0_7, .int .i64 x0_10, .slice qHU0_8 n0_11 dHU0_8] 60))
  replace HU0_0 := Lib.hid (HU0_0.out.alloc (.cells #[.slice qHU0_0 n0_0 dHU0_0, .slice qHU0_1 n0_1 dHU0_1, .slice qHU0_2 n0_2 dHU0_2, .int .i64 x0_3, .int .i64 x0_4, .slice qHU0_3 n0_5 dHU0_3, .slice qHU0_4 n0_6 dHU0_4, .slice qHU0_5 n0_7 dHU0_5, .slice qHU0_6 n0_8 dHU0_6, .slice qHU0_7 n0_9 dHU0_7, .int .i64 x0_10, .slice qHU0_8 n0_11 dHU0_8] 60))
  replace HU0_1 := Lib.hid (HU0_1.out.alloc (.cells #[.slice qHU0_0 n0_0 dHU0_0, .slice qHU0_1 n0_1 dHU0_1, .slice qHU0_2 n0_2 dHU0_2, .int .i64 x0_3, .int .i64 x0_4, .slice qHU0_3 n0_5 dHU0_3, .slice qHU0_4 n0_6 dHU0_4, .slice qHU0_5 n0_7 dHU0_5, .slice qHU0_6 n0_8 dHU0_6, .slice qHU0_7 n0_9 dHU0_7, .int .i64 x0_10, .slice qHU0_8 n0_11 dHU0_8] 60))
  replace HU0_2 := Lib.hid (HU0_2.out.alloc (.cells #[.slice qHU0_0 n0_0 dHU0_0, .slice qHU0_1 n0_1 dHU0_1, .slice qHU0_2 n0_2 dHU0_2, .int .i64 x0_3, .int .i64 x0_4, .slice qHU0_3 n0_5 dHU0_3, .slice qHU0_4 n0_6 dHU0_4, .slice qHU0_5 n0_7 dHU0_5, .slice qHU0_6 n0_8 dHU0_6, .slice qHU0_7 n0_9 dHU0_7, .int .i64 x0_10, .slice qHU0_8 n0_11 dHU0_8] 60))
  replace HU0_3 := Lib.hid (HU0_3.out.alloc (.cells #[.slice qHU0_0 n0_0 dHU0_0, .slice qHU0_1 n0_1 dHU0_1, .slice qHU0_2 n0_2 dHU0_2, .int .i64 x0_3, .int .i64 x0_4, .slice qHU0_3 n0_5 dHU0_3, .slice qHU0_4 n0_6 dHU0_4, .slice qHU0_5 n0_7 dHU0_5, .slice qHU0_6 n0_8 dHU0_6, .slice qHU0_7 n0_9 dHU0_7, .int .i64 x0_10, .slice qHU0_8 n0_11 dHU0_8] 60))
  replace HU0_4 := Lib.hid (HU0_4.out.alloc (.cells #[.slice qHU0_0 n0_0 dHU0_0, .slice qHU0_1 n0_1 dHU0_1, .slice qHU0_2 n0_2 dHU0_2, .int .i64 x0_3, .int .i64 x0_4, .slice qHU0_3 n0_5 dHU0_3, .slice qHU0_4 n0_6 dHU0_4, .slice qHU0_5 n0_7 dHU0_5, .slice qHU0_6 n0_8 dHU0_6, .slice qHU0_7 n0_9 dHU0_7, .int .i64 x0_10, .slice qHU0_8 n0_11 dHU0_8] 60))
  replace HU0_5 := Lib.hid (HU0_5.out.alloc (.cells #[.slice qHU0_0 n0_0 dHU0_0, .slice qHU0_1 n0_1 dHU0_1, .slice qHU0_2 n0_2 dHU0_2, .int .i64 x0_3, .int .i64 x0_4, .slice qHU0_3 n0_5 dHU0_3, .slice qHU0_4 n0_6 dHU0_4, .slice qHU0_5 n0_7 dHU0_5, .slice qHU0_6 n0_8 dHU0_6, .slice qHU0_7 n0_9 dHU0_7, .int .i64 x0_10, .slice qHU0_8 n0_11 dHU0_8] 60))
  replace HU0_6 := Lib.hid (HU0_6.out.alloc (.cells #[.slice qHU0_0 n0_0 dHU0_0, .slice qHU0_1 n0_1 dHU0_1, .slice qHU0_2 n0_2 dHU0_2, .int .i64 x0_3, .int .i64 x0_4, .slice qHU0_3 n0_5 dHU0_3, .slice qHU0_4 n0_6 dHU0_4, .slice qHU0_5 n0_7 dHU0_5, .slice qHU0_6 n0_8 dHU0_6, .slice qHU0_7 n0_9 dHU0_7, .int .i64 x0_10, .slice qHU0_8 n0_11 dHU0_8] 60))
  replace HU0_7 := Lib.hid (HU0_7.out.alloc (.cells #[.slice qHU0_0 n0_0 dHU0_0, .slice qHU0_1 n0_1 dHU0_1, .slice qHU0_2 n0_2 dHU0_2, .int .i64 x0_3, .int .i64 x0_4, .slice qHU0_3 n0_5 dHU0_3, .slice qHU0_4 n0_6 dHU0_4, .slice qHU0_5 n0_7 dHU0_5, .slice qHU0_6 n0_8 dHU0_6, .slice qHU0_7 n0_9 dHU0_7, .int .i64 x0_10, .slice qHU0_8 n0_11 dHU0_8] 60))
  replace HU0_8 := Lib.hid (HU0_8.out.alloc (.cells #[.slice qHU0_0 n0_0 dHU0_0, .slice qHU0_1 n0_1 dHU0_1, .slice qHU0_2 n0_2 dHU0_2, .int .i64 x0_3, .int .i64 x0_4, .slice qHU0_3 n0_5 dHU0_3, .slice qHU0_4 n0_6 dHU0_4, .slice qHU0_5 n0_7 dHU0_5, .slice qHU0_6 n0_8 dHU0_6, .slice qHU0_7 n0_9 dHU0_7, .int .i64 x0_10, .slice qHU0_8 n0_11 dHU0_8] 60))
  replace HV0_0 := Lib.hid (HV0_0.out.alloc (.cells #[.slice qHU0_0 n0_0 dHU0_0, .slice qHU0_1 n0_1 dHU0_1, .slice qHU0_2 n0_2 dHU0_2, .int .i64 x0_3, .int .i64 x0_4, .slice qHU0_3 n0_5 dHU0_3, .slice qHU0_4 n0_6 dHU0_4, .slice qHU0_5 n0_7 dHU0_5, .slice qHU0_6 n0_8 dHU0_6, .slice qHU0_7 n0_9 dHU0_7, .int .i64 x0_10, .slice qHU0_8 n0_11 dHU0_8] 60))
  replace HV0_1 := Lib.hid (HV0_1.out.alloc (.cells #[.slice qHU0_0 n0_0 dHU0_0, .slice qHU0_1 n0_1 dHU0_1, .slice qHU0_2 n0_2 dHU0_2, .int .i64 x0_3, .int .i64 x0_4, .slice qHU0_3 n0_5 dHU0_3, .slice qHU0_4 n0_6 dHU0_4, .slice qHU0_5 n0_7 dHU0_5, .slice qHU0_6 n0_8 dHU0_6, .slice qHU0_7 n0_9 dHU0_7, .int .i64 x0_10, .slice qHU0_8 n0_11 dHU0_8] 60))
  replace HV0_2 := Lib.hid (HV0_2.out.alloc (.cells #[.slice qHU0_0 n0_0 dHU0_0, .slice qHU0_1 n0_1 dHU0_1, .slice qHU0_2 n0_2 dHU0_2, .int .i64 x0_3, .int .i64 x0_4, .slice qHU0_3 n0_5 dHU0_3, .slice qHU0_4 n0_6 dHU0_4, .slice qHU0_5 n0_7 dHU0_5, .slice qHU0_6 n0_8 dHU0_6, .slice qHU0_7 n0_9 dHU0_7, .int .i64 x0_10, .slice qHU0_8 n0_11 dHU0_8] 60))
  replace HV0_3 := Lib.hid (HV0_3.out.alloc (.cells #[.slice qHU0_0 n0_0 dHU0_0, .slice qHU0_1 n0_1 dHU0_1, .slice qHU0_2 n0_2 dHU0_2, .int .i64 x0_3, .int .i64 x0_4, .slice qHU0_3 n0_5 dHU0_3, .slice qHU0_4 n0_6 dHU0_4, .slice qHU0_5 n0_7 dHU0_5, .slice qHU0_6 n0_8 dHU0_6, .slice qHU0_7 n0_9 dHU0_7, .int .i64 x0_10, .slice qHU0_8 n0_11 dHU0_8] 60))
  replace HV0_4 := Lib.hid (HV0_4.out.alloc (.cells #[.slice qHU0_0 n0_0 dHU0_0, .slice qHU0_1 n0_1 dHU0_1, .slice qHU0_2 n0_2 dHU0_2, .int .i64 x0_3, .int .i64 x0_4, .slice qHU0_3 n0_5 dHU0_3, .slice qHU0_4 n0_6 dHU0_4, .slice qHU0_5 n0_7 dHU0_5, .slice qHU0_6 n0_8 dHU0_6, .slice qHU0_7 n0_9 dHU0_7, .int .i64 x0_10, .slice qHU0_8 n0_11 dHU0_8] 60))
  replace HV0_5 := Lib.hid (HV0_5.out.alloc (.cells #[.slice qHU0_0 n0_0 dHU0_0, .slice qHU0_1 n0_1 dHU0_1, .slice qHU0_2 n0_2 dHU0_2, .int .i64 x0_3, .int .i64 x0_4, .slice qHU0_3 n0_5 dHU0_3, .slice qHU0_4 n0_6 dHU0_4, .slice qHU0_5 n0_7 dHU0_5, .slice qHU0_6 n0_8 dHU0_6, .slice qHU0_7 n0_9 dHU0_7, .int .i64 x0_10, .slice qHU0_8 n0_11 dHU0_8] 60))
  replace HV0_6 := Lib.hid (HV0_6.out.alloc (.cells #[.slice qHU0_0 n0_0 dHU0_0, .slice qHU0_1 n0_1 dHU0_1, .slice qHU0_2 n0_2 dHU0_2, .int .i64 x0_3, .int .i64 x0_4, .slice qHU0_3 n0_5 dHU0_3, .slice qHU0_4 n0_6 dHU0_4, .slice qHU0_5 n0_7 dHU0_5, .slice qHU0_6 n0_8 dHU0_6, .slice qHU0_7 n0_9 dHU0_7, .int .i64 x0_10, .slice qHU0_8 n0_11 dHU0_8] 60))
  replace HV0_7 := Lib.hid (HV0_7.out.alloc (.cells #[.slice qHU0_0 n0_0 dHU0_0, .slice qHU0_1 n0_1 dHU0_1, .slice qHU0_2 n0_2 dHU0_2, .int .i64 x0_3, .int .i64 x0_4, .slice qHU0_3 n0_5 dHU0_3, .slice qHU0_4 n0_6 dHU0_4, .slice qHU0_5 n0_7 dHU0_5, .slice qHU0_6 n0_8 dHU0_6, .slice qHU0_7 n0_9 dHU0_7, .int .i64 x0_10, .slice qHU0_8 n0_11 dHU0_8] 60))
  replace HV0_8 := Lib.hid (HV0_8.out.alloc (.cells #[.slice qHU0_0 n0_0 dHU0_0, .slice qHU0_1 n0_1 dHU0_1, .slice qHU0_2 n0_2 dHU0_2, .int .i64 x0_3, .int .i64 x0_4, .slice qHU0_3 n0_5 dHU0_3, .slice qHU0_4 n0_6 dHU0_4, .slice qHU0_5 n0_7 dHU0_5, .slice qHU0_6 n0_8 dHU0_6, .slice qHU0_7 n0_9 dHU0_7, .int .i64 x0_10, .slice qHU0_8 n0_11 dHU0_8] 60))
  obtain ⟨k0_0, k0_1, k0_2, k0_3, k0_4, k0_5, k0_6, k0_7, k0_8, k0_9, k0_10, k0_11⟩ := DpWorld.bxc HS0.out
  go_wp2_with fail
  refine (Fal.fals_any _ _ _ _ _ _ _ _ _ _ _ _ x0_3 x0_4 _ _ _ _ _ _ _ _ _ _ _ _ _ _ _ _ x0_10 _ _ _ _ HU0_0.out HU0_1.out HU0_2.out HU0_7.out sn0_1).mono ?_
  rintro e w6 ⟨qHG, mHG, dHG, rfl, ho, hb⟩
  replace HB := Lib.hid (below_on HB.out hb)
  replace HX0 := Lib.hid (HX0.out.below hb)
  replace HW := Lib.hid (HW.out.below hb)
  replace HU0_0 := Lib.hid (HU0_0.out.below hb)
  replace HU0_1 := Lib.hid (HU0_1.out.below hb)
  replace HU0_2 := Lib.hid (HU0_2.out.below hb)
  replace HU0_3 := Lib.hid (HU0_3.out.below hb)
  replace HU0_4 := Lib.hid (HU0_4.out.below hb)
  replace HU0_5 := Lib.hid (HU0_5.out.below hb)
  replace HU0_6 := Lib.hid (HU0_6.out.below hb)
  replace HU0_7 := Lib.hid (HU0_7.out.below hb)
  replace HU0_8 := Lib.hid (HU0_8.out.below hb)
  replace HV0_0 := Lib.hid (HV0_0.out.below hb)
  replace HV0_1 := Lib.hid (HV0_1.out.below hb)
  replace HV0_2 := Lib.hid (HV0_2.out.below hb)
  replace HV0_3 := Lib.hid (HV0_3.out.below hb)
  replace HV0_4 := Lib.hid (HV0_4.out.below hb)
  replace HV0_5 := Lib.hid (HV0_5.out.below hb)
  replace HV0_6 := Lib.hid (HV0_6.out.below hb)
  replace HV0_7 := Lib.hid (HV0_7.out.below hb)
  replace HV0_8 := Lib.hid (HV0_8.out.below hb)
  replace HS0 := Lib.hid (HS0.out.below hb)
  have HG := Lib.hid ho
  clear ho
  have sz6 := hb.size
  rw [World.size_alloc] at sz6
  clear hb
  clear k0_0 k0_1 k0_2 k0_3 k0_4 k0_5 k0_6 k0_7 k0_8 k0_9 k0_10 k0_11
  obtain rfl : mHW = mHG := HW.out.len.symm.trans HG.out.len
  go_wp2_with fail
  refine (SlI.eq_any _ _ _ _ _ _ _ HG.out.rd HW.out.rd).mono ?_
  rintro e w7 ⟨rfl, hb⟩
  replace HB := Lib.hid (below_on HB.out hb)
  replace HX0 := Lib.hid (HX0.out.below hb)
  replace HW := Lib.hid (HW.out.below hb)
  replace HU0_0 := Lib.hid (HU0_0.out.below hb)
  replace HU0_1 := Lib.hid (HU0_1.out.below hb)
  replace HU0_2 := Lib.hid (HU0_2.out.below hb)
  replace HU0_3 := Lib.hid (HU0_3.out.below hb)
  replace HU0_4 := Lib.hid (HU0_4.out.below hb)
  replace HU0_5 := Lib.hid (HU0_5.out.below hb)
  replace HU0_6 := Lib.hid (HU0_6.out.below hb)
  replace HU0_7 := Lib.hid (HU0_7.out.below hb)
  replace HU0_8 := Lib.hid (HU0_8.out.below hb)
  replace HV0_0 := Lib.hid (HV0_0.out.below hb)
  replace HV0_1 := Lib.hid (HV0_1.out.below hb)
  replace HV0_2 := Lib.hid (HV0_2.out.below hb)
  replace HV0_3 := Lib.hid (HV0_3.out.below hb)
  replace HV0_4 := Lib.hid (HV0_4.out.below hb)
  replace HV0_5 := Lib.hid (HV0_5.out.below hb)
  replace HV0_6 := Lib.hid (HV0_6.out.below hb)
  replace HV0_7 := Lib.hid (HV0_7.out.below hb)
  replace HV0_8 := Lib.hid (HV0_8.out.below hb)
  replace HS0 := Lib.hid (HS0.out.below hb)
  replace HG := Lib.hid (HG.out.below hb)
  have sz7 := hb.size
  clear hb
  obtain ⟨j0_0, j0_1, j0_2, j0_3, j0_4, j0_5, j0_6, j0_7, j0_8, j0_9, j0_10, j0_11⟩ := DpWorld.bxc HS0.out
  obtain ⟨j1_0, j1_1, j1_2, j1_3, j1_4, j1_5, j1_6, j1_7, j1_8, j1_9, j1_10, j1_11⟩ := DpWorld.bxc HX0.out
  go_wp2_with fail
  replace HB := Lib.hid (drewB HB.out)
  replace HX0 := Lib.hid (HX0.out.below (drewB (Below.refl _ _)))
  replace HW := Lib.hid (HW.out.below (drewB (Below.refl _ _)))
  replace HU0_0 := Lib.hid (HU0_0.out.below (drewB (Below.refl _ _)))
  replace HU0_1 := Lib.hid (HU0_1.out.below (drewB (Below.refl _ _)))
  replace HU0_2 := Lib.hid (HU0_2.out.below (drewB (Below.refl _ _)))
  replace HU0_3 := Lib.hid (HU0_3.out.below (drewB (Below.refl _ _)))
  replace HU0_4 := Lib.hid (HU0_4.out.below (drewB (Below.refl _ _)))
  replace HU0_5 := Lib.hid (HU0_5.out.below (drewB (Below.refl _ _)))
  replace HU0_6 := Lib.hid (HU0_6.out.below (drewB (Below.refl _ _)))
  replace HU0_7 := Lib.hid (HU0_7.out.below (drewB (Below.refl _ _)))
  replace HU0_8 := Lib.hid (HU0_8.out.below (drewB (Below.refl _ _)))
  replace HV0_0 := Lib.hid (HV0_0.out.below (drewB (Below.refl _ _)))
  replace HV0_1 := Lib.hid (HV0_1.out.below (drewB (Below.refl _ _)))
  replace HV0_2 := Lib.hid (HV0_2.out.below (drewB (Below.refl _ _)))
  replace HV0_3 := Lib.hid (HV0_3.out.below (drewB (Below.refl _ _)))
  replace HV0_4 := Lib.hid (HV0_4.out.below (drewB (Below.refl _ _)))
  replace HV0_5 := Lib.hid (HV0_5.out.below (drewB (Below.refl _ _)))
  replace HV0_6 := Lib.hid (HV0_6.out.below (drewB (Below.refl _ _)))
  replace HV0_7 := Lib.hid (HV0_7.out.below (drewB (Below.refl _ _)))
  replace HV0_8 := Lib.hid (HV0_8.out.below (drewB (Below.refl _ _)))
  replace HS0 := Lib.hid (HS0.out.below (drewB (Below.refl _ _)))
  replace HG := Lib.hid (HG.out.below (drewB (Below.refl _ _)))
  go_region_held3 (fun w' => (w'.cell? ⟨w5.heap.size, 0, none⟩ = some (.slice qHU0_0 n0_0 dHU0_0) ∧ w'.cell? ⟨w5.heap.size, 1, none⟩ = some (.slice qHU0_1 n0_1 dHU0_1) ∧ w'.cell? ⟨w5.heap.size, 2, none⟩ = some (.slice qHU0_2 n0_2 dHU0_2) ∧ w'.cell? ⟨w5.heap.size, 3, none⟩ = some (.int .i64 x0_3) ∧ w'.cell? ⟨w5.heap.size, 4, none⟩ = some (.int .i64 x0_4) ∧ w'.cell? ⟨w5.heap.size, 5, none⟩ = some (.slice qHU0_3 n0_5 dHU0_3) ∧ w'.cell? ⟨w5.heap.size, 6, none⟩ = some (.slice qHU0_4 n0_6 dHU0_4) ∧ w'.cell? ⟨w5.heap.size, 7, none⟩ = some (.slice qHU0_5 n0_7 dHU0_5) ∧ w'.cell? ⟨w5.heap.size, 8, none⟩ = some (.slice qHU0_6 n0_8 dHU0_6) ∧ w'.cell? ⟨w5.heap.size, 9, none⟩ = some (.slice qHU0_7 n0_9 dHU0_7) ∧ w'.cell? ⟨w5.heap.size, 10, none⟩ = some (.int .i64 x0_10) ∧ w'.cell? ⟨w5.heap.size, 11, none⟩ = some (.slice qHU0_8 n0_11 dHU0_8)) ∧ w'.cell? ⟨W.heap.size, 0, none⟩ = some (.slice p0_0 n0_0 c0_0) ∧ w'.cell? ⟨W.heap.size, 1, none⟩ = some (.slice p0_1 n0_1 c0_1) ∧ w'.cell? ⟨W.heap.size, 2, none⟩ = some (.slice p0_2 n0_2 c0_2) ∧ w'.cell? ⟨W.heap.size, 3, none⟩ = some (.int .i64 x0_3) ∧ w'.cell? ⟨W.heap.size, 4, none⟩ = some (.int .i64 x0_4) ∧ w'.cell? ⟨W.heap.size, 5, none⟩ = some (.slice p0_5 n0_5 c0_5) ∧ w'.cell? ⟨W.heap.size, 6, none⟩ = some (.slice p0_6 n0_6 c0_6) ∧ w'.cell? ⟨W.heap.size, 7, none⟩ = some (.slice p0_7 n0_7 c0_7) ∧ w'.cell? ⟨W.heap.size, 8, none⟩ = some (.slice p0_8 n0_8 c0_8) ∧ w'.cell? ⟨W.heap.size, 9, none⟩ = some (.slice p0_9 n0_9 c0_9) ∧ w'.cell? ⟨W.heap.size, 10, none⟩ = some (.int .i64 x0_10) ∧ w'.cell? ⟨W.heap.size, 11, none⟩ = some (.slice p0_11 n0_11 c0_11)) (first | exact ⟨DpWorld.bxc HS0.out, DpWorld.bxc HX0.out⟩ | go_keep) (first | (go_at_call 20; (with_reducible refine (DpWorld.to_any _ _ _ _ _ _ _ _ _ _ _ _ _ _ _ _ _ _ _ _ _ _ _ _ _ _ _ _ _ _ _ _ _ _ _ _ _ _ _ _ (HP0_0.out.below HB.out) (HP0_1.out.below HB.out) (HP0_2.out.below HB.out) (HP0_5.out.below HB.out) (HP0_6.out.below HB.out) (HP0_7.out.below HB.out) (HP0_8.out.below HB.out) (HP0_9.out.below HB.out) (HP0_11.out.below HB.out) (by rw [HM0.out]; omega)).mono ?_); rintro e w8 ⟨qHY0_0, dHY0_0, qHY0_1, dHY0_1, qHY0_2, dHY0_2, qHY0_3, dHY0_3, qHY0_4, dHY0_4, qHY0_5, dHY0_5, qHY0_6, dHY0_6, qHY0_7, dHY0_7, qHY0_8, dHY0_8, rfl, ho0, ho1, ho2, ho3, ho4, ho5, ho6, ho7, ho8, hb⟩; replace HB := Lib.hid (below_on HB.out hb); replace HX0 := Lib.hid (HX0.out.below hb); replace HW := Lib.hid (HW.out.below hb); replace HU0_0 := Lib.hid (HU0_0.out.below hb); replace HU0_1 := Lib.hid (HU0_1.out.below hb); replace HU0_2 := Lib.hid (HU0_2.out.below hb); replace HU0_3 := Lib.hid (HU0_3.out.below hb); replace HU0_4 := Lib.hid (HU0_4.out.below hb); replace HU0_5 := Lib.hid (HU0_5.out.below hb); replace HU0_6 := Lib.hid (HU0_6.out.below hb); replace HU0_7 := Lib.hid (HU0_7.out.below hb); replace HU0_8 := Lib.hid (HU0_8.out.below hb); replace HV0_0 := Lib.hid (HV0_0.out.below hb); replace HV0_1 := Lib.hid (HV0_1.out.below hb); replace HV0_2 := Lib.hid (HV0_2.out.below hb); replace HV0_3 := Lib.hid (HV0_3.out.below hb); replace HV0_4 := Lib.hid (HV0_4.out.below hb); replace HV0_5 := Lib.hid (HV0_5.out.below hb); replace HV0_6 := Lib.hid (HV0_6.out.below hb); replace HV0_7 := Lib.hid (HV0_7.out.below hb); replace HV0_8 := Lib.hid (HV0_8.out.below hb); replace HS0 := Lib.hid (HS0.out.below hb); replace HG := Lib.hid (HG.out.below hb); have HY0_0 := Lib.hid ho0; have HY0_1 := Lib.hid ho1; have HY0_2 := Lib.hid ho2; have HY0_3 := Lib.hid ho3; have HY0_4 := Lib.hid ho4; have HY0_5 := Lib.hid ho5; have HY0_6 := Lib.hid ho6; have HY0_7 := Lib.hid ho7; have HY0_8 := Lib.hid ho8; clear ho0 ho1 ho2 ho3 ho4 ho5 ho6 ho7 ho8; clear hb) | (go_at_call 22; (with_reducible refine (DpWorld.eq_any _ _ _ _ _ _ _ _ _ _ _ _ _ _ _ _ _ _ _ _ _ _ _ _ _ _ _ _ _ _ _ _ _ _ _ _ _ _ _ _ _ _ _ _ _ _ _ _ _ _ _ _ _ _ _ _ _ _ HU0_0.out HY0_0.out HU0_1.out HY0_1.out HU0_2.out HY0_2.out HU0_3.out HY0_3.out HU0_4.out HY0_4.out HU0_5.out HY0_5.out HU0_6.out HY0_6.out HU0_7.out HY0_7.out HU0_8.out HY0_8.out).mono ?_); rintro e w9 ⟨rfl, hb⟩; replace HB := Lib.hid (below_on HB.out hb); replace HX0 := Lib.hid (HX0.out.below hb); replace HW := Lib.hid (HW.out.below hb); replace HU0_0 := Lib.hid (HU0_0.out.below hb); replace HU0_1 := Lib.hid (HU0_1.out.below hb); replace HU0_2 := Lib.hid (HU0_2.out.below hb); replace HU0_3 := Lib.hid (HU0_3.out.below hb); replace HU0_4 := Lib.hid (HU0_4.out.below hb); replace HU0_5 := Lib.hid (HU0_5.out.below hb); replace HU0_6 := Lib.hid (HU0_6.out.below hb); replace HU0_7 := Lib.hid (HU0_7.out.below hb); replace HU0_8 := Lib.hid (HU0_8.out.below hb); replace HV0_0 := Lib.hid (HV0_0.out.below hb); replace HV0_1 := Lib.hid (HV0_1.out.below hb); replace HV0_2 := Lib.hid (HV0_2.out.below hb); replace HV0_3 := Lib.hid (HV0_3.out.below hb); replace HV0_4 := Lib.hid (HV0_4.out.below hb); replace HV0_5 := Lib.hid (HV0_5.out.below hb); replace HV0_6 := Lib.hid (HV0_6.out.below hb); replace HV0_7 := Lib.hid (HV0_7.out.below hb); replace HV0_8 := Lib.hid (HV0_8.out.below hb); replace HS0 := Lib.hid (HS0.out.below hb); replace HG := Lib.hid (HG.out.below hb); replace HY0_0 := Lib.hid (HY0_0.out.below hb); replace HY0_1 := Lib.hid (HY0_1.out.below hb); replace HY0_2 := Lib.hid (HY0_2.out.below hb); replace HY0_3 := Lib.hid (HY0_3.out.below hb); replace HY0_4 := Lib.hid (HY0_4.out.below hb); replace HY0_5 := Lib.hid (HY0_5.out.below hb); replace HY0_6 := Lib.hid (HY0_6.out.below hb); replace HY0_7 := Lib.hid (HY0_7.out.below hb); replace HY0_8 := Lib.hid (HY0_8.out.below hb); clear hb))
  clear j0_0 j0_1 j0_2 j0_3 j0_4 j0_5 j0_6 j0_7 j0_8 j0_9 j0_10 j0_11
  clear j1_0 j1_1 j1_2 j1_3 j1_4 j1_5 j1_6 j1_7 j1_8 j1_9 j1_10 j1_11
  clear HY0_0
  clear HY0_1
  clear HY0_2
  clear HY0_3
  clear HY0_4
  clear HY0_5
  clear HY0_6
  clear HY0_7
  clear HY0_8
  clear HU0_0
  clear HU0_1
  clear HU0_2
  clear HU0_3
  clear HU0_4
  clear HU0_5
  clear HU0_6
  clear HU0_7
  clear HU0_8
  have sG := HG.out.2.2.1
  have HNW0 : Hid ((l0_0.map MdKey.M.nw).sum + (l0_1.map MdAuthority.M.nw).sum + (l0_2.map MdMethod.M.nw).sum + (l0_5.map MdCert.M.nw).sum + (l0_6.map Ek.mInt.nw).sum + (l0_7.map MdArchive.M.nw).sum + (l0_8.map Ek.mInt.nw).sum + (l0_9.map Ek.mInt.nw).sum + (l0_11.map Ek.mInt.nw).sum ≤ 16777216) := Lib.hid (by have h0_0 := Ek.nw_wts MdKey.M (by show 5 ≤ 16; omega) l0_0; have h0_1 := Ek.nw_wts MdAuthority.M (by show 3 ≤ 16; omega) l0_1; have h0_2 := Ek.nw_wts MdMethod.M (by show 4 ≤ 16; omega) l0_2; have h0_5 := Ek.nw_wts MdCert.M (by show 7 ≤ 16; omega) l0_5; have h0_6 := Ek.nw_wts Ek.mInt (by show 1 ≤ 16; omega) l0_6; have h0_7 := Ek.nw_wts MdArchive.M (by show 2 ≤ 16; omega) l0_7; have h0_8 := Ek.nw_wts Ek.mInt (by show 1 ≤ 16; omega) l0_8; have h0_9 := Ek.nw_wts Ek.mInt (by show 1 ≤ 16; omega) l0_9; have h0_11 := Ek.nw_wts Ek.mInt (by show 1 ≤ 16; omega) l0_11; have h := HM0.out; simp only [DpWorld.wt_eq, DpFrame.wt_eq] at h; omega)
  obtain ⟨k0_0, k0_1, k0_2, k0_3, k0_4, k0_5, k0_6, k0_7, k0_8, k0_9, k0_10, k0_11⟩ := DpWorld.bxc HS0.out
  go_wp2_with fail
  refine (MdWorld.mark_any (w4.heap.size) (w5.heap.size) _ _ _ _ _ _ _ _ _ _ _ _ _ _ _ _ _ _ _ _ _ _ _ _ _ _ _ _ _ _ _ _ _ _ _ _ _ _ _ 1 _ (by omega) HV0_0.out HV0_1.out HV0_2.out HV0_3.out HV0_4.out HV0_5.out HV0_6.out HV0_7.out HV0_8.out (by omega) (by have h := HNW0.out; omega)).mono ?_
  rintro e w10 ⟨kk0, rfl, hk0, hkb, hm⟩
  have HKC0 : Hid (kk0 ≤ 1 + 16777216 * 1) := Lib.hid (by have h := HNW0.out; omega)
  replace HB := Lib.hid (hm.on HB.out (by omega) (by omega))
  clear k0_0 k0_1 k0_2 k0_3 k0_4 k0_5 k0_6 k0_7 k0_8 k0_9 k0_10 k0_11
  replace HX0 := Lib.hid (hm.bx HX0.out (Or.inr (by omega)))
  replace HW := Lib.hid (hm.ow HW.out (Or.inr (by omega)))
  replace HS0 := Lib.hid (hm.bx HS0.out (Or.inl (by omega)))
  replace HG := Lib.hid (hm.ow HG.out (Or.inl (by omega)))
  have sz10 := hm.size
  clear hm hkb
  clear HV0_0
  clear HV0_1
  clear HV0_2
  clear HV0_3
  clear HV0_4
  clear HV0_5
  clear HV0_6
  clear HV0_7
  clear HV0_8
  have hkd : decide (kk0 < 0) = false := decide_eq_false (by omega)
  go_wp2_with fail
  refine (SlI.eq_any _ _ _ _ _ _ _ HG.out.rd HW.out.rd).mono ?_
  rintro e w11 ⟨rfl, hb⟩
  replace HB := Lib.hid (below_on HB.out hb)
  replace HX0 := Lib.hid (HX0.out.below hb)
  replace HW := Lib.hid (HW.out.below hb)
  replace HS0 := Lib.hid (HS0.out.below hb)
  replace HG := Lib.hid (HG.out.below hb)
  have sz11 := hb.size
  clear hb
  clear HS0
  go_wp2_with fail
  refine (SlI.mark_any _ _ _ _ _ _ _ _ HG.out (by omega) (by have := HG.out.le; omega)).mono ?_
  rintro e w12 ⟨rfl, ho, hg⟩
  replace HB := Lib.hid (below_row HB.out HG.out hg (by omega))
  replace HX0 := Lib.hid (HX0.out.grown hg (fun e => by have := HG.out.far _ e.symm; have := HX0.out.lt; omega))
  replace HW := Lib.hid (HW.out.kept hg (fun g e => by have := HG.out.far g e; omega))
  replace HG := Lib.hid ho
  clear ho hg
  go_wp2_with fail
  refine (SlI.held_any _ _ _ _ _ HG.out.rd (by omega) (by omega)).mono ?_
  rintro e w13 ⟨rfl, rfl⟩
  obtain ⟨i0, i1, i2, i3, i4, i5, i6, i7, i8, i9, i10, i11⟩ := DpWorld.bxc HX0.out
  go_wp2_with fail
  refine (DpWorld.to_any _ _ _ _ _ _ _ _ _ _ _ _ _ _ _ _ _ _ _ _ _ _ _ _ _ _ _ _ _ _ _ _ _ _ _ _ _ _ _ _ (HP0_0.out.below HB.out) (HP0_1.out.below HB.out) (HP0_2.out.below HB.out) (HP0_5.out.below HB.out) (HP0_6.out.below HB.out) (HP0_7.out.below HB.out) (HP0_8.out.below HB.out) (HP0_9.out.below HB.out) (HP0_11.out.below HB.out) (by rw [HM0.out]; omega)).mono ?_
  rintro e w14 ⟨qHZ0_0, dHZ0_0, qHZ0_1, dHZ0_1, qHZ0_2, dHZ0_2, qHZ0_3, dHZ0_3, qHZ0_4, dHZ0_4, qHZ0_5, dHZ0_5, qHZ0_6, dHZ0_6, qHZ0_7, dHZ0_7, qHZ0_8, dHZ0_8, rfl, ho0, ho1, ho2, ho3, ho4, ho5, ho6, ho7, ho8, hb⟩
  replace HB := Lib.hid (below_on HB.out hb)
  replace HX0 := Lib.hid (HX0.out.below hb)
  replace HW := Lib.hid (HW.out.below hb)
  replace HG := Lib.hid (HG.out.below hb)
  have HZ0_0 := Lib.hid ho0
  have HZ0_1 := Lib.hid ho1
  have HZ0_2 := Lib.hid ho2
  have HZ0_3 := Lib.hid ho3
  have HZ0_4 := Lib.hid ho4
  have HZ0_5 := Lib.hid ho5
  have HZ0_6 := Lib.hid ho6
  have HZ0_7 := Lib.hid ho7
  have HZ0_8 := Lib.hid ho8
  clear ho0 ho1 ho2 ho3 ho4 ho5 ho6 ho7 ho8
  have sz14 := hb.size
  clear hb
  clear i0 i1 i2 i3 i4 i5 i6 i7 i8 i9 i10 i11
  go_wp2_with fail
  refine (Fal.fals_any _ _ _ _ _ _ _ _ _ _ _ _ x0_3 x0_4 _ _ _ _ _ _ _ _ _ _ _ _ _ _ _ _ x0_10 _ _ _ _ HZ0_0.out HZ0_1.out HZ0_2.out HZ0_7.out sn0_1).mono ?_
  rintro e w15 ⟨qHH, mHH, dHH, rfl, ho, hb⟩
  replace HB := Lib.hid (below_on HB.out hb)
  replace HX0 := Lib.hid (HX0.out.below hb)
  replace HW := Lib.hid (HW.out.below hb)
  replace HG := Lib.hid (HG.out.below hb)
  replace HZ0_0 := Lib.hid (HZ0_0.out.below hb)
  replace HZ0_1 := Lib.hid (HZ0_1.out.below hb)
  replace HZ0_2 := Lib.hid (HZ0_2.out.below hb)
  replace HZ0_3 := Lib.hid (HZ0_3.out.below hb)
  replace HZ0_4 := Lib.hid (HZ0_4.out.below hb)
  replace HZ0_5 := Lib.hid (HZ0_5.out.below hb)
  replace HZ0_6 := Lib.hid (HZ0_6.out.below hb)
  replace HZ0_7 := Lib.hid (HZ0_7.out.below hb)
  replace HZ0_8 := Lib.hid (HZ0_8.out.below hb)
  have HH := Lib.hid ho
  clear ho
  have sz15 := hb.size
  clear hb
  clear HZ0_0
  clear HZ0_1
  clear HZ0_2
  clear HZ0_3
  clear HZ0_4
  clear HZ0_5
  clear HZ0_6
  clear HZ0_7
  clear HZ0_8
  obtain rfl : mHW = mHH := HW.out.len.symm.trans HH.out.len
  go_wp2_with fail
  refine (SlI.eq_any _ _ _ _ _ _ _ HH.out.rd HW.out.rd).mono ?_
  rintro e w16 ⟨rfl, hb⟩
  replace HB := Lib.hid (below_on HB.out hb)
  replace HX0 := Lib.hid (HX0.out.below hb)
  replace HW := Lib.hid (HW.out.below hb)
  replace HG := Lib.hid (HG.out.below hb)
  replace HH := Lib.hid (HH.out.below hb)
  have sz16 := hb.size
  clear hb
  go_wp2_with fail
  refine (SlI.held_any _ _ _ _ _ HG.out.rd (by omega) (by omega)).mono ?_
  rintro e w17 ⟨rfl, rfl⟩
  go_wp2_with fail
  go_ret
  exact ⟨rfl, HB.out⟩
end Go.Proofs.YtpjckbdljbpliaaGreat.fnExactFalseAuthorities
