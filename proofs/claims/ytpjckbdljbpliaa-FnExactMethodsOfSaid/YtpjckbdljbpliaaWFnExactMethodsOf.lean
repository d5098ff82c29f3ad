/- The walk of the law FnExactMethodsOf. -/
import Derived.Test.YtpjckbdljbpliaaEd
import Derived.Test.YtpjckbdljbpliaaDz
import Derived.Test.YtpjckbdljbpliaaSlI
import Derived.Test.YtpjckbdljbpliaaDpItem
import Derived.Test.YtpjckbdljbpliaaMto
import Derived.Test.YtpjckbdljbpliaaMts
import Derived.Test.YtpjckbdljbpliaaEk
import Derived.Test.YtpjckbdljbpliaaDfItem
import Derived.Test.YtpjckbdljbpliaaMdItem
import Derived.OpenShut
import Derived.Deep.RegionHeld3
import Derived.Laws.Strings
namespace Go.Proofs.Ytpjckbdljbpliaa.fnExactMethodsOf
open Go.ChangeShapes Go.WideShapes Go.ChangeAt Go.RowKit Sl St Ed Mtm Mto
theorem drewB {W w : World} {B : Nat} (h : Below B W w) : Below B W w.drew := below_drewN h 1
set_option maxRecDepth 100000 in
set_option maxHeartbeats 8000000 in
theorem walk {H : Type} {enc : TypeId × Value → H} (W : World) (base : Nat)
    (v0 : Value) (d0 : DataW H) (p0 : List MemPlace) (h0 : DataW.Trod enc Try.prog W 0 (fun _ => true) true 52 v0 d0 p0) (k0 : Value.okWide Try.prog W .any base 52 v0)
    (_hsz : (DataW.weightsEach Try.prog [52] [d0]).all (· ≤ reachBytes) = true) :
    Calls Try.prog 5 #[v0] W fun e w' => e = .returned (.bool true) ∧ Below W.heap.size W w' := by
  obtain ⟨x0_0, x0_1, x0_2, l0_3, l0_4, x0_5, x0_6, x0_7, x0_8, x0_9, x0_10, x0_11, x0_12, x0_13, l0_14, l0_15, p0_3, n0_3, c0_3, p0_4, n0_4, c0_4, p0_14, n0_14, c0_14, p0_15, n0_15, c0_15, rfl, b0_0, b0_1, b0_2, h0_3, h0_4, b0_5, h0_14, h0_15⟩ := DpItem.open_val h0 k0
  have HG0_0 := Lib.hid b0_0
  have HG0_1 := Lib.hid b0_1
  have HG0_2 := Lib.hid b0_2
  have HP0_3 := Lib.hid h0_3
  have HP0_4 := Lib.hid h0_4
  have HG0_5 := Lib.hid b0_5
  have HP0_14 := Lib.hid h0_14
  have HP0_15 := Lib.hid h0_15
  have hn0_3 := h0_3.le
  have hn0_4 := h0_4.le
  have hn0_14 := h0_14.le
  have hn0_15 := h0_15.le
  clear b0_0 b0_1 b0_2 h0_3 h0_4 b0_5 h0_14 h0_15
  clear h0 k0
  clear _hsz
  have HB := Lib.hid (Below.refl W.heap.size W)
  have HX0 := Lib.hid (Bx.new W 52 #[.int .i64 x0_0, .int .i64 x0_1, .int .i64 x0_2, .slice p0_3 n0_3 c0_3, .slice p0_4 n0_4 c0_4, .int .i64 x0_5, .int .i64 x0_6, .int .i64 x0_7, .int .i64 x0_8, .int .i64 x0_9, .int .i64 x0_10, .int .i64 x0_11, .int .i64 x0_12, .int .i64 x0_13, .slice p0_14 n0_14 c0_14, .slice p0_15 n0_15 c0_15])
  replace HB := Lib.hid (HB.out.alloc HB.out.size (.cells #[.int .i64 x0_0, .int .i64 x0_1, .int .i64 x0_2, .slice p0_3 n0_3 c0_3, .slice p0_4 n0_4 c0_4, .int .i64 x0_5, .int .i64 x0_6, .int .i64 x0_7, .int .i64 x0_8, .int .i64 x0_9, .int .i64 x0_10, .int .i64 x0_11, .int .i64 x0_12, .int .i64 x0_13, .slice p0_14 n0_14 c0_14, .slice p0_15 n0_15 c0_15] 52))
  have lX0 := HX0.out.lt
  obtain ⟨m0, hm0⟩ : ∃ m : Nat, DpItem.E.wt (x0_0, x0_1, (x0_2, l0_3, l0_4), (x0_5, x0_6, x0_7, x0_8, x0_9, x0_10, x0_11, x0_12, x0_13), (l0_14, l0_15)) = m := ⟨_, rfl⟩
  have HM0 := Lib.hid hm0
  clear hm0
  as_aux_lemma =>
    by_cases hbig0 : 1048576 < m0
    · go_enter Try.func5, Try.ntmps5
      obtain ⟨i0, i1, i2, i3, i4, i5, i6, i7, i8, i9, i10, i11, i12, i13, i14, i15⟩ := DpItem.bxc HX0.out
      go_wp2_with fail
      refine (DpItem.sz_big _ _ _ _ _ _ _ _ _ _ _ _ _ _ _ _ _ _ _ _ _ _ _ _ _ _ _ _ _ _ _ HM0.out (HP0_3.out.below HB.out) (HP0_4.out.below HB.out) (HP0_14.out.below HB.out) (HP0_15.out.below HB.out) (by omega) (by omega) (by omega)).mono ?_
      rintro e w1 ⟨rfl, hb⟩
      replace HB := Lib.hid (below_on HB.out hb)
      replace HX0 := Lib.hid (HX0.out.below hb)
      clear hb
      clear i0 i1 i2 i3 i4 i5 i6 i7 i8 i9 i10 i11 i12 i13 i14 i15
      go_wp2_with fail
      go_ret
      exact ⟨rfl, HB.out⟩
    go_enter Try.func5, Try.ntmps5
    obtain ⟨i0, i1, i2, i3, i4, i5, i6, i7, i8, i9, i10, i11, i12, i13, i14, i15⟩ := DpItem.bxc HX0.out
    go_wp2_with fail
    refine (DpItem.sz_fits _ _ _ _ _ _ _ _ _ _ _ _ _ _ _ _ _ _ _ _ _ _ _ _ _ _ _ _ _ _ _ HM0.out (HP0_3.out.below HB.out) (HP0_4.out.below HB.out) (HP0_14.out.below HB.out) (HP0_15.out.below HB.out) (by omega) (by omega)).mono ?_
    rintro e w2 ⟨rfl, hb⟩
    replace HB := Lib.hid (below_on HB.out hb)
    replace HX0 := Lib.hid (HX0.out.below hb)
    clear hb
    clear i0 i1 i2 i3 i4 i5 i6 i7 i8 i9 i10 i11 i12 i13 i14 i15
    have sm0 : m0 ≤ 1048576 := by omega
    clear hbig0
    have sn0_3 : n0_3 ≤ 1048576 := by have h := HM0.out; have k := HP0_3.out.len; simp only [DpItem.wt_eq, DpDocument.wt_eq, DpStrand.wt_eq] at h; omega
    have sn0_4 : n0_4 ≤ 1048576 := by have h := HM0.out; have k := HP0_4.out.len; simp only [DpItem.wt_eq, DpDocument.wt_eq, DpStrand.wt_eq] at h; omega
    have sn0_14 : n0_14 ≤ 1048576 := by have h := HM0.out; have k := HP0_14.out.len; simp only [DpItem.wt_eq, DpDocument.wt_eq, DpStrand.wt_eq] at h; omega
    have sn0_15 : n0_15 ≤ 1048576 := by have h := HM0.out; have k := HP0_15.out.len; simp only [DpItem.wt_eq, DpDocument.wt_eq, DpStrand.wt_eq] at h; omega
    as_aux_lemma =>
      have sW := HB.out.size
      have lY0 := HX0.out.lt
      obtain ⟨i0, i1, i2, i3, i4, i5, i6, i7, i8, i9, i10, i11, i12, i13, i14, i15⟩ := DpItem.bxc HX0.out
      go_wp2_with fail
      refine (DpItem.to_any _ _ _ _ _ _ _ _ _ _ _ _ _ _ _ _ _ _ _ _ _ _ _ _ _ _ _ _ _ (HP0_3.out.below HB.out) (HP0_4.out.below HB.out) (HP0_14.out.below HB.out) (HP0_15.out.below HB.out) (by rw [HM0.out]; omega)).mono ?_
      rintro e w3 ⟨qHT0_0, dHT0_0, qHT0_1, dHT0_1, qHT0_2, dHT0_2, qHT0_3, dHT0_3, rfl, ho0, ho1, ho2, ho3, hb⟩
      replace HB := Lib.hid (below_on HB.out hb)
      replace HX0 := Lib.hid (HX0.out.below hb)
      have HT0_0 := Lib.hid ho0
      have HT0_1 := Lib.hid ho1
      have HT0_2 := Lib.hid ho2
      have HT0_3 := Lib.hid ho3
      clear ho0 ho1 ho2 ho3
      have sz3 := hb.size
      clear hb
      clear i0 i1 i2 i3 i4 i5 i6 i7 i8 i9 i10 i11 i12 i13 i14 i15
      go_wp2_with fail
      refine (Mts.spec_meths_any x0_0 x0_1 x0_2 _ _ _ _ _ _ x0_5 x0_6 x0_7 x0_8 x0_9 x0_10 x0_11 x0_12 x0_13 _ _ _ _ _ _ _ _ HT0_3.out (by have h := HG0_5.out; unfold SlSignature.InR at h; exact h.2.2.1) sn0_15).mono ?_
      rintro e w4 ⟨qHW, mHW, dHW, rfl, ho, hb⟩
      replace HB := Lib.hid (below_on HB.out hb)
      replace HX0 := Lib.hid (HX0.out.below hb)
      replace HT0_0 := Lib.hid (HT0_0.out.below hb)
      replace HT0_1 := Lib.hid (HT0_1.out.below hb)
      replace HT0_2 := Lib.hid (HT0_2.out.below hb)
      replace HT0_3 := Lib.hid (HT0_3.out.below hb)
      have HW := Lib.hid ho
      clear ho
      have sz4 := hb.size
      clear hb
      clear HT0_0
      clear HT0_1
      clear HT0_2
      clear HT0_3
      as_aux_lemma =>
        have sB := HB.out.size
        have lZ0 := HX0.out.lt
        have bm : mHW ≤ 1048577 := by have h1 := HW.out.len; have h2 := srt_len (mths x0_7 l0_15); have h3 := mths_len x0_7 l0_15; have h4 := HP0_15.out.len; omega
        obtain ⟨i0, i1, i2, i3, i4, i5, i6, i7, i8, i9, i10, i11, i12, i13, i14, i15⟩ := DpItem.bxc HX0.out
        go_wp2_with fail
        refine (DfItem.toF_any _ _ _ _ _ _ _ _ _ _ _ _ _ _ _ _ _ _ _ _ _ _ _ _ _ _ _ _ _ (HP0_3.out.below HB.out) (HP0_4.out.below HB.out) (HP0_14.out.below HB.out) (HP0_15.out.below HB.out) (by rw [HM0.out]; omega)).mono ?_
        rintro e w5 ⟨qHU0_0, dHU0_0, qHU0_1, dHU0_1, qHU0_2, dHU0_2, qHU0_3, dHU0_3, rfl, ho0, ho1, ho2, ho3, hk0, hk1, hk2, hk3, hb⟩
        replace HB := Lib.hid (below_on HB.out hb)
        replace HX0 := Lib.hid (HX0.out.below hb)
        replace HW := Lib.hid (HW.out.below hb)
        have HU0_0 := Lib.hid ho0.rd
        have HU0_1 := Lib.hid ho1.rd
        have HU0_2 := Lib.hid ho2.rd
        have HU0_3 := Lib.hid ho3.rd
        have HV0_0 := Lib.hid ho0.rr
        have HV0_1 := Lib.hid ho1.rr
        have HV0_2 := Lib.hid ho2.rr
        have HV0_3 := Lib.hid ho3.rr
        clear ho0 hk0 ho1 hk1 ho2 hk2 ho3 hk3
        have sz5 := hb.size
        clear hb
        clear i0 i1 i2 i3 i4 i5 i6 i7 i8 i9 i10 i11 i12 i13 i14 i15
        have HS0 := Lib.hid (Bx.new w5 61 #[.int .i64 x0_0, .int .i64 x0_1, .int .i64 x0_2, .slice qHU0_0 n0_3 dHU0_0, .slice qHU0_1 n0_4 dHU0_1, .int .i64 x0_5, .int .i64 x0_6, .int .i64 x0_7, .int .i64 x0_8, .int .i64 x0_9, .int .i64 x0_10, .int .i64 x0_11, .int .i64 x0_12, .int .i64 x0_13, .slice qHU0_2 n0_14 dHU0_2, .slice qHU0_3 n0_15 dHU0_3])
        have lHS0 := HS0.out.lt
        replace HB := Lib.hid (HB.out.alloc HB.out.size (.cells #[.int .i64 x0_0, .int .i64 x0_1, .int .i64 x0_2, .slice qHU0_0 n0_3 dHU0_0, .slice qHU0_1 n0_4 dHU0_1, .int .i64 x0_5, .int .i64 x0_6, .int .i64 x0_7, .int .i64 x0_8, .int .i64 x0_9, .int .i64 x0_10, .int .i64 x0_11, .int .i64 x0_12, .int .i64 x0_13, .slice qHU0_2 n0_14 dHU0_2, .slice qHU0_3 n0_15 dHU0_3] 61))
        replace HX0 := Lib.hid (HX0.out.alloc (.cells #[.int .i64 x0_0, .int .i64 x0_1, .int .i64 x0_2, .slice qHU0_0 n0_3 dHU0_0, .slice qHU0_1 n0_4 dHU0_1, .int .i64 x0_5, .int .i64 x0_6, .int .i64 x0_7, .int .i64 x0_8, .int .i64 x0_9, .int .i64 x0_10, .int .i64 x0_11, .int .i64 x0_12, .int .i64 x0_13, .slice qHU0_2 n0_14 dHU0_2, .slice qHU0_3 n0_15 dHU0_3] 61))
        replace HW := Lib.hid (HW.out.alloc (.cells #[.int .i64 x0_0, .int .i64 x0_1, .int .i64 x0_2, .slice qHU0_0 n0_3 dHU0_0, .slice qHU0_1 n0_4 dHU0_1, .int .i64 x0_5, .int .i64 x0_6, .int .i64 x0_7, .int .i64 x0_8, .int .i64 x0_9, .int .i64 x0_10, .int .i64 x0_11, .int .i64 x0_12, .int .i64 x0_13, .slice qHU0_2 n0_14 dHU0_2, .slice qHU0_3 n0_15 dHU0_3] 61))
        replace HU0_0 := Lib.hid (HU0_0.out.alloc (.cells #[.int .i64 x0_0, .int .i64 x0_1, .int .i64 x0_2, .slice qHU0_0 n0_3 dHU0_0, .slice qHU0_1 n0_4 dHU0_1, .int .i64 x0_5, .int .i64 x0_6, .int .i64 x0_7, .int .i64 x0_8, .int .i64 x0_9, .int .i64 x0_10, .int .i64 x0_11, .int .i64 x0_12, .int .i64 x0_13, .slice qHU0_2 n0_14 dHU0_2, .slice qHU0_3 n0_15 dHU0_3] 61))
        replace HU0_1 := Lib.hid (HU0_1.out.alloc (.cells #[.int .i64 x0_0, .int .i64 x0_1, .int .i64 x0_2, .slice qHU0_0 n0_3 dHU0_0, .slice qHU0_1 n0_4 dHU0_1, .int .i64 x0_5, .int .i64 x0_6, .int .i64 x0_7, .int .i64 x0_8, .int .i64 x0_9, .int .i64 x0_10, .int .i64 x0_11, .int .i64 x0_12, .int .i64 x0_13, .slice qHU0_2 n0_14 dHU0_2, .slice qHU0_3 n0_15 dHU0_3] 61))
        replace HU0_2 := Lib.hid (HU0_2.out.alloc (.cells #[.int .i64 x0_0, .int .i64 x0_1, .int .i64 x0_2, .slice qHU0_0 n0_3 dHU0_0, .slice qHU0_1 n0_4 dHU0_1, .int .i64 x0_5, .int .i64 x0_6, .int .i64 x0_7, .int .i64 x0_8, .int .i64 x0_9, .int .i64 x0_10, .int .i64 x0_11, .int .i64 x0_12, .int .i64 x0_13, .slice qHU0_2 n0_14 dHU0_2, .slice qHU0_3 n0_15 dHU0_3] 61))
        replace HU0_3 := Lib.hid (HU0_3.out.alloc (.cells #[.int .i64 x0_0, .int .i64 x0_1, .int .i64 x0_2, .slice qHU0_0 n0_3 dHU0_0, .slice qHU0_1 n0_4 dHU0_1, .int .i64 x0_5, .int .i64 x0_6, .int .i64 x0_7, .int .i64 x0_8, .int .i64 x0_9, .int .i64 x0_10, .int .i64 x0_11, .int .i64 x0_12, .int .i64 x0_13, .slice qHU0_2 n0_14 dHU0_2, .slice qHU0_3 n0_15 dHU0_3] 61))
        replace HV0_0 := Lib.hid (HV0_0.out.alloc (.cells #[.int .i64 x0_0, .int .i64 x0_1, .int .i64 x0_2, .slice qHU0_0 n0_3 dHU0_0, .slice qHU0_1 n0_4 dHU0_1, .int .i64 x0_5, .int .i64 x0_6, .int .i64 x0_7, .int .i64 x0_8, .int .i64 x0_9, .int .i64 x0_10, .int .i64 x0_11, .int .i64 x0_12, .int .i64 x0_13, .slice qHU0_2 n0_14 dHU0_2, .slice qHU0_3 n0_15 dHU0_3] 61))
        replace HV0_1 := Lib.hid (HV0_1.out.alloc (.cells #[.int .i64 x0_0, .int .i64 x0_1, .int .i64 x0_2, .slice qHU0_0 n0_3 dHU0_0, .slice qHU0_1 n0_4 dHU0_1, .int .i64 x0_5, .int .i64 x0_6, .int .i64 x0_7, .int .i64 x0_8, .int .i64 x0_9, .int .i64 x0_10, .int .i64 x0_11, .int .i64 x0_12, .int .i64 x0_13, .slice qHU0_2 n0_14 dHU0_2, .slice qHU0_3 n0_15 dHU0_3] 61))
        replace HV0_2 := Lib.hid (HV0_2.out.alloc (.cells #[.int .i64 x0_0, .int .i64 x0_1, .int .i64 x0_2, .slice qHU0_0 n0_3 dHU0_0, .slice qHU0_1 n0_4 dHU0_1, .int .i64 x0_5, .int .i64 x0_6, .int .i64 x0_7, .int .i64 x0_8, .int .i64 x0_9, .int .i64 x0_10, .int .i64 x0_11, .int .i64 x0_12, .int .i64 x0_13, .slice qHU0_2 n0_14 dHU0_2, .slice qHU0_3 n0_15 dHU0_3] 61))
        replace HV0_3 := Lib.hid (HV0_3.out.alloc (.cells #[.int .i64 x0_0, .int .i64 x0_1, .int .i64 x0_2, .slice qHU0_0 n0_3 dHU0_0, .slice qHU0_1 n0_4 dHU0_1, .int .i64 x0_5, .int .i64 x0_6, .int .i64 x0_7, .int .i64 x0_8, .int .i64 x0_9, .int .i64 x0_10, .int .i64 x0_11, .int .i64 x0_12, .int .i64 x0_13, .slice qHU0_2 n0_14 dHU0_2, .slice qHU0_3 n0_15 dHU0_3] 61))
        as_aux_lemma =>
          obtain ⟨k0_0, k0_1, k0_2, k0_3, k0_4, k0_5, k0_6, k0_7, k0_8, k0_9, k0_10, k0_11, k0_12, k0_13, k0_14, k0_15⟩ := DpItem.bxc HS0.out
          go_wp2_with fail
          refine (Mto.meths_any x0_0 x0_1 x0_2 _ _ _ _ _ _ x0_5 x0_6 x0_7 x0_8 x0_9 x0_10 x0_11 x0_12 x0_13 _ _ _ _ _ _ _ _ HU0_3.out (by have h := HG0_5.out; unfold SlSignature.InR at h; exact h.2.2.1) sn0_15).mono ?_
          rintro e w6 ⟨qHG, mHG, dHG, rfl, ho, hb⟩
          replace HB := Lib.hid (below_on HB.out hb)
          replace HX0 := Lib.hid (HX0.out.below hb)
          replace HW := Lib.hid (HW.out.below hb)
          replace HU0_0 := Lib.hid (HU0_0.out.below hb)
          replace HU0_1 := Lib.hid (HU0_1.out.below hb)
          replace HU0_2 := Lib.hid (HU0_2.out.below hb)
          replace HU0_3 := Lib.hid (HU0_3.out.below hb)
          replace HV0_0 := Lib.hid (HV0_0.out.below hb)
          replace HV0_1 := Lib.hid (HV0_1.out.below hb)
          replace HV0_2 := Lib.hid (HV0_2.out.below hb)
          replace HV0_3 := Lib.hid (HV0_3.out.below hb)
          replace HS0 := Lib.hid (HS0.out.below hb)
          have HG := Lib.hid ho
          clear ho
          have sz6 := hb.size
          rw [World.size_alloc] at sz6
          clear hb
          clear k0_0 k0_1 k0_2 k0_3 k0_4 k0_5 k0_6 k0_7 k0_8 k0_9 k0_10 k0_11 k0_12 k0_13 k0_14 k0_15
          obtain rfl : mHW = mHG := HW.out.len.symm.trans HG.out.len
          go_wp2_with fail
          refine (SlI.eq_any _ _ _ _ _ _ _ HG.out.rd HW.out.rd).mono ?_
          rintro e w7 ⟨rfl, hb⟩
          replace HB := Lib.hid (below_on HB.out hb)
          replace HX0 := Lib.hid (HX0.out.below hb)
          replace HW := Lib.hid (HW.out.below hb)
          replace HU0_0 := Lib.hid (HU0_0.out.below hb)
          replace HU0_1 := Lib.hid (HU0_1.out.below hb)
          replace HU0_2 := Lib.hid (HU0_2.out.below hb)
          replace HU0_3 := Lib.hid (HU0_3.out.below hb)
          replace HV0_0 := Lib.hid (HV0_0.out.below hb)
          replace HV0_1 := Lib.hid (HV0_1.out.below hb)
          replace HV0_2 := Lib.hid (HV0_2.out.below hb)
          replace HV0_3 := Lib.hid (HV0_3.out.below hb)
          replace HS0 := Lib.hid (HS0.out.below hb)
          replace HG := Lib.hid (HG.out.below hb)
          have sz7 := hb.size
          clear hb
          as_aux_lemma =>
            obtain ⟨j0_0, j0_1, j0_2, j0_3, j0_4, j0_5, j0_6, j0_7, j0_8, j0_9, j0_10, j0_11, j0_12, j0_13, j0_14, j0_15⟩ := DpItem.bxc HS0.out
            obtain ⟨j1_0, j1_1, j1_2, j1_3, j1_4, j1_5, j1_6, j1_7, j1_8, j1_9, j1_10, j1_11, j1_12, j1_13, j1_14, j1_15⟩ := DpItem.bxc HX0.out
            go_wp2_with fail
            replace HB := Lib.hid (drewB HB.out)
            replace HX0 := Lib.hid (HX0.out.below (drewB (Below.refl _ _)))
            replace HW := Lib.hid (HW.out.below (drewB (Below.refl _ _)))
            replace HU0_0 := Lib.hid (HU0_0.out.below (drewB (Below.refl _ _)))
            replace HU0_1 := Lib.hid (HU0_1.out.below (drewB (Below.refl _ _)))
            replace HU0_2 := Lib.hid (HU0_2.out.below (drewB (Below.refl _ _)))
            replace HU0_3 := Lib.hid (HU0_3.out.below (drewB (Below.refl _ _)))
            replace HV0_0 := Lib.hid (HV0_0.out.below (drewB (Below.refl _ _)))
            replace HV0_1 := Lib.hid (HV0_1.out.below (drewB (Below.refl _ _)))
            replace HV0_2 := Lib.hid (HV0_2.out.below (drewB (Below.refl _ _)))
            replace HV0_3 := Lib.hid (HV0_3.out.below (drewB (Below.refl _ _)))
            replace HS0 := Lib.hid (HS0.out.below (drewB (Below.refl _ _)))
            replace HG := Lib.hid (HG.out.below (drewB (Below.refl _ _)))
            go_region_held3 (fun w' => (w'.cell? ⟨w5.heap.size, 0, none⟩ = some (.int .i64 x0_0) ∧ w'.cell? ⟨w5.heap.size, 1, none⟩ = some (.int .i64 x0_1) ∧ w'.cell? ⟨w5.heap.size, 2, none⟩ = some (.int .i64 x0_2) ∧ w'.cell? ⟨w5.heap.size, 3, none⟩ = some (.slice qHU0_0 n0_3 dHU0_0) ∧ w'.cell? ⟨w5.heap.size, 4, none⟩ = some (.slice qHU0_1 n0_4 dHU0_1) ∧ w'.cell? ⟨w5.heap.size, 5, none⟩ = some (.int .i64 x0_5) ∧ w'.cell? ⟨w5.heap.size, 6, none⟩ = some (.int .i64 x0_6) ∧ w'.cell? ⟨w5.heap.size, 7, none⟩ = some (.int .i64 x0_7) ∧ w'.cell? ⟨w5.heap.size, 8, none⟩ = some (.int .i64 x0_8) ∧ w'.cell? ⟨w5.heap.size, 9, none⟩ = some (.int .i64 x0_9) ∧ w'.cell? ⟨w5.heap.size, 10, none⟩ = some (.int .i64 x0_10) ∧ w'.cell? ⟨w5.heap.size, 11, none⟩ = some (.int .i64 x0_11) ∧ w'.cell? ⟨w5.heap.size, 12, none⟩ = some (.int .i64 x0_12) ∧ w'.cell? ⟨w5.heap.size, 13, none⟩ = some (.int .i64 x0_13) ∧ w'.cell? ⟨w5.heap.size, 14, none⟩ = some (.slice qHU0_2 n0_14 dHU0_2) ∧ w'.cell? ⟨w5.heap.size, 15, none⟩ = some (.slice qHU0_3 n0_15 dHU0_3)) ∧ w'.cell? ⟨W.heap.size, 0, none⟩ = some (.int .i64 x0_0) ∧ w'.cell? ⟨W.heap.size, 1, none⟩ = some (.int .i64 x0_1) ∧ w'.cell? ⟨W.heap.size, 2, none⟩ = some (.int .i64 x0_2) ∧ w'.cell? ⟨W.heap.size, 3, none⟩ = some (.slice p0_3 n0_3 c0_3) ∧ w'.cell? ⟨W.heap.size, 4, none⟩ = some (.slice p0_4 n0_4 c0_4) ∧ w'.cell? ⟨W.heap.size, 5, none⟩ = some (.int .i64 x0_5) ∧ w'.cell? ⟨W.heap.size, 6, none⟩ = some (.int .i64 x0_6) ∧ w'.cell? ⟨W.heap.size, 7, none⟩ = some (.int .i64 x0_7) ∧ w'.cell? ⟨W.heap.size, 8, none⟩ = some (.int .i64 x0_8) ∧ w'.cell? ⟨W.heap.size, 9, none⟩ = some (.int .i64 x0_9) ∧ w'.cell? ⟨W.heap.size, 10, none⟩ = some (.int .i64 x0_10) ∧ w'.cell? ⟨W.heap.size, 11, none⟩ = some (.int .i64 x0_11) ∧ w'.cell? ⟨W.heap.size, 12, none⟩ = some (.int .i64 x0_12) ∧ w'.cell? ⟨W.heap.size, 13, none⟩ = some (.int .i64 x0_13) ∧ w'.cell? ⟨W.heap.size, 14, none⟩ = some (.slice p0_14 n0_14 c0_14) ∧ w'.cell? ⟨W.heap.size, 15, none⟩ = some (.slice p0_15 n0_15 c0_15)) (first | exact ⟨DpItem.bxc HS0.out, DpItem.bxc HX0.out⟩ | go_keep) (first | (go_at_call 23; (with_reducible refine (DpItem.to_any _ _ _ _ _ _ _ _ _ _ _ _ _ _ _ _ _ _ _ _ _ _ _ _ _ _ _ _ _ (HP0_3.out.below HB.out) (HP0_4.out.below HB.out) (HP0_14.out.below HB.out) (HP0_15.out.below HB.out) (by rw [HM0.out]; omega)).mono ?_); rintro e w8 ⟨qHY0_0, dHY0_0, qHY0_1, dHY0_1, qHY0_2, dHY0_2, qHY0_3, dHY0_3, rfl, ho0, ho1, ho2, ho3, hb⟩; replace HB := Lib.hid (below_on HB.out hb); replace HX0 := Lib.hid (HX0.out.below hb); replace HW := Lib.hid (HW.out.below hb); replace HU0_0 := Lib.hid (HU0_0.out.below hb); replace HU0_1 := Lib.hid (HU0_1.out.below hb); replace HU0_2 := Lib.hid (HU0_2.out.below hb); replace HU0_3 := Lib.hid (HU0_3.out.below hb); replace HV0_0 := Lib.hid (HV0_0.out.below hb); replace HV0_1 := Lib.hid (HV0_1.out.below hb); replace HV0_2 := Lib.hid (HV0_2.out.below hb); replace HV0_3 := Lib.hid (HV0_3.out.below hb); replace HS0 := Lib.hid (HS0.out.below hb); replace HG := Lib.hid (HG.out.below hb); have HY0_0 := Lib.hid ho0; have HY0_1 := Lib.hid ho1; have HY0_2 := Lib.hid ho2; have HY0_3 := Lib.hid ho3; clear ho0 ho1 ho2 ho3; clear hb) | (go_at_call 26; (with_reducible refine (DpItem.eq_any _ _ _ _ _ _ _ _ _ _ _ _ _ _ _ _ _ _ _ _ _ _ _ _ _ _ _ _ _ _ _ _ _ _ _ _ _ HU0_0.out HY0_0.out HU0_1.out HY0_1.out HU0_2.out HY0_2.out HU0_3.out HY0_3.out).mono ?_); rintro e w9 ⟨rfl, hb⟩; replace HB := Lib.hid (below_on HB.out hb); replace HX0 := Lib.hid (HX0.out.below hb); replace HW := Lib.hid (HW.out.below hb); replace HU0_0 := Lib.hid (HU0_0.out.below hb); replace HU0_1 := Lib.hid (HU0_1.out.below hb); replace HU0_2 := Lib.hid (HU0_2.out.below hb); replace HU0_3 := Lib.hid (HU0_3.out.below hb); replace HV0_0 := Lib.hid (HV0_0.out.below hb); replace HV0_1 := Lib.hid (HV0_1.out.below hb); replace HV0_2 := Lib.hid (HV0_2.out.below hb); replace HV0_3 := Lib.hid (HV0_3.out.below hb); replace HS0 := Lib.hid (HS0.out.below hb); replace HG := Lib.hid (HG.out.below hb); replace HY0_0 := Lib.hid (HY0_0.out.below hb); replace HY0_1 := Lib.hid (HY0_1.out.below hb); replace HY0_2 := Lib.hid (HY0_2.out.below hb); replace HY0_3 := Lib.hid (HY0_3.out.below hb); clear hb))
            clear j0_0 j0_1 j0_2 j0_3 j0_4 j0_5 j0_6 j0_7 j0_8 j0_9 j0_10 j0_11 j0_12 j0_13 j0_14 j0_15
            clear j1_0 j1_1 j1_2 j1_3 j1_4 j1_5 j1_6 j1_7 j1_8 j1_9 j1_10 j1_11 j1_12 j1_13 j1_14 j1_15
            clear HY0_0
            clear HY0_1
            clear HY0_2
            clear HY0_3
            clear HU0_0
            clear HU0_1
            clear HU0_2
            clear HU0_3
            as_aux_lemma =>
              have sG := HG.out.2.2.1
              have HNW0 : Hid ((l0_3.map Ek.mStr.nw).sum + (l0_4.map Ek.mInt.nw).sum + (l0_14.map MdPiece.M.nw).sum + (l0_15.map MdRenewal.M.nw).sum ≤ 16777216) := Lib.hid (by have h0_3 := Ek.nw_wts Ek.mStr (by show 1 ≤ 16; omega) l0_3; have h0_4 := Ek.nw_wts Ek.mInt (by show 1 ≤ 16; omega) l0_4; have h0_14 := Ek.nw_wts MdPiece.M (by show 3 ≤ 16; omega) l0_14; have h0_15 := Ek.nw_wts MdRenewal.M (by show 5 ≤ 16; omega) l0_15; have h := HM0.out; simp only [DpItem.wt_eq, DpDocument.wt_eq, DpStrand.wt_eq] at h; omega)
              obtain ⟨k0_0, k0_1, k0_2, k0_3, k0_4, k0_5, k0_6, k0_7, k0_8, k0_9, k0_10, k0_11, k0_12, k0_13, k0_14, k0_15⟩ := DpItem.bxc HS0.out
              go_wp2_with fail
              refine (MdItem.mark_any (w4.heap.size) (w5.heap.size) _ _ _ _ _ _ _ _ _ _ _ _ _ _ _ _ _ _ _ _ _ _ _ _ _ _ _ _ 1 _ (by omega) HV0_0.out HV0_1.out HV0_2.out HV0_3.out (by omega) (by have h := HNW0.out; omega)).mono ?_
              rintro e w10 ⟨kk0, rfl, hk0, hkb, hm⟩
              have HKC0 : Hid (kk0 ≤ 1 + 16777216 * 1) := Lib.hid (by have h := HNW0.out; omega)
              replace HB := Lib.hid (hm.on HB.out (by omega) (by omega))
              clear k0_0 k0_1 k0_2 k0_3 k0_4 k0_5 k0_6 k0_7 k0_8 k0_9 k0_10 k0_11 k0_12 k0_13 k0_14 k0_15
              replace HX0 := Lib.hid (hm.bx HX0.out (Or.inr (by omega)))
              replace HW := Lib.hid (hm.ow HW.out (Or.inr (by omega)))
              replace HS0 := Lib.hid (hm.bx HS0.out (Or.inl (by omega)))
              replace HG := Lib.hid (hm.ow HG.out (Or.inl (by omega)))
              have sz10 := hm.size
              clear hm hkb
              clear HV0_0
              clear HV0_1
              clear HV0_2
              clear HV0_3
              have hkd : decide (kk0 < 0) = false := decide_eq_false (by omega)
              go_wp2_with fail
              refine (SlI.eq_any _ _ _ _ _ _ _ HG.out.rd HW.out.rd).mono ?_
              rintro e w11 ⟨rfl, hb⟩
              replace HB := Lib.hid (below_on HB.out hb)
              replace HX0 := Lib.hid (HX0.out.below hb)
              replace HW := Lib.hid (HW.out.below hb)
              replace HS0 := Lib.hid (HS0.out.below hb)
              replace HG := Lib.hid (HG.out.below hb)
              have sz11 := hb.size
              clear hb
              as_aux_lemma =>
                clear HS0
                go_wp2_with fail
                refine (SlI.mark_any _ _ _ _ _ _ _ _ HG.out (by omega) (by have := HG.out.le; omega)).mono ?_
                rintro e w12 ⟨rfl, ho, hg⟩
                replace HB := Lib.hid (below_row HB.out HG.out hg (by omega))
                replace HX0 := Lib.hid (HX0.out.grown hg (fun e => by have := HG.out.far _ e.symm; have := HX0.out.lt; omega))
                replace HW := Lib.hid (HW.out.kept hg (fun g e => by have := HG.out.far g e; omega))
                replace HG := Lib.hid ho
                clear ho hg
                go_wp2_with fail
                refine (SlI.held_any _ _ _ _ _ HG.out.rd (by omega) (by omega)).mono ?_
                rintro e w13 ⟨rfl, rfl⟩
                as_aux_lemma =>
                  obtain ⟨i0, i1, i2, i3, i4, i5, i6, i7, i8, i9, i10, i11, i12, i13, i14, i15⟩ := DpItem.bxc HX0.out
                  go_wp2_with fail
                  refine (DpItem.to_any _ _ _ _ _ _ _ _ _ _ _ _ _ _ _ _ _ _ _ _ _ _ _ _ _ _ _ _ _ (HP0_3.out.below HB.out) (HP0_4.out.below HB.out) (HP0_14.out.below HB.out) (HP0_15.out.below HB.out) (by rw [HM0.out]; omega)).mono ?_
                  rintro e w14 ⟨qHZ0_0, dHZ0_0, qHZ0_1, dHZ0_1, qHZ0_2, dHZ0_2, qHZ0_3, dHZ0_3, rfl, ho0, ho1, ho2, ho3, hb⟩
                  replace HB := Lib.hid (below_on HB.out hb)
                  replace HX0 := Lib.hid (HX0.out.below hb)
                  replace HW := Lib.hid (HW.out.below hb)
                  replace HG := Lib.hid (HG.out.below hb)
                  have HZ0_0 := Lib.hid ho0
                  have HZ0_1 := Lib.hid ho1
                  have HZ0_2 := Lib.hid ho2
                  have HZ0_3 := Lib.hid ho3
                  clear ho0 ho1 ho2 ho3
                  have sz14 := hb.size
                  clear hb
                  clear i0 i1 i2 i3 i4 i5 i6 i7 i8 i9 i10 i11 i12 i13 i14 i15
                  go_wp2_with fail
                  refine (Mto.meths_any x0_0 x0_1 x0_2 _ _ _ _ _ _ x0_5 x0_6 x0_7 x0_8 x0_9 x0_10 x0_11 x0_12 x0_13 _ _ _ _ _ _ _ _ HZ0_3.out (by have h := HG0_5.out; unfold SlSignature.InR at h; exact h.2.2.1) sn0_15).mono ?_
                  rintro e w15 ⟨qHH, mHH, dHH, rfl, ho, hb⟩
                  replace HB := Lib.hid (below_on HB.out hb)
                  replace HX0 := Lib.hid (HX0.out.below hb)
                  replace HW := Lib.hid (HW.out.below hb)
                  replace HG := Lib.hid (HG.out.below hb)
                  replace HZ0_0 := Lib.hid (HZ0_0.out.below hb)
                  replace HZ0_1 := Lib.hid (HZ0_1.out.below hb)
                  replace HZ0_2 := Lib.hid (HZ0_2.out.below hb)
                  replace HZ0_3 := Lib.hid (HZ0_3.out.below hb)
                  have HH := Lib.hid ho
                  clear ho
                  have sz15 := hb.size
                  clear hb
                  clear HZ0_0
                  clear HZ0_1
                  clear HZ0_2
                  clear HZ0_3
                  obtain rfl : mHW = mHH := HW.out.len.symm.trans HH.out.len
                  go_wp2_with fail
                  refine (SlI.eq_any _ _ _ _ _ _ _ HH.out.rd HW.out.rd).mono ?_
                  rintro e w16 ⟨rfl, hb⟩
                  replace HB := Lib.hid (below_on HB.out hb)
                  replace HX0 := Lib.hid (HX0.out.below hb)
                  replace HW := Lib.hid (HW.out.below hb)
                  replace HG := Lib.hid (HG.out.below hb)
                  replace HH := Lib.hid (HH.out.below hb)
                  have sz16 := hb.size
                  clear hb
                  go_wp2_with fail
                  refine (SlI.held_any _ _ _ _ _ HG.out.rd (by omega) (by omega)).mono ?_
                  rintro e w17 ⟨rfl, rfl⟩
                  go_wp2_with fail
                  go_ret
                  exact ⟨rfl, HB.out⟩
end Go.Proofs.Ytpjckbdljbpliaa.fnExactMethodsOf
