/- The walk of the law FnExactMandatePiece. -/
import Derived.Test.YtpnnmfagdefnmaaSlMandate
import Derived.Test.YtpnnmfagdefnmaaSlPiece
import Derived.Test.YtpnnmfagdefnmaaPmMandate
import Derived.Test.YtpnnmfagdefnmaaSlB
import Derived.Test.YtpnnmfagdefnmaaSlI
import Derived.OpenShut
namespace Go.Proofs.Ytpnnmfagdefnmaa.fnExactMandatePiece
open Go.ChangeShapes Go.WideShapes Go.ChangeAt Go.RowKit Sl St Fnd SlMandate SlPiece Pm PmMandate
set_option maxRecDepth 100000 in
set_option maxHeartbeats 8000000 in
theorem walk {H : Type} {enc : TypeId × Value → H} (W : World) (base : Nat)
    (v0 : Value) (d0 : DataW H) (p0 : List MemPlace) (h0 : DataW.Trod enc Try.prog W 0 (fun _ => true) true 57 v0 d0 p0) (k0 : Value.okWide Try.prog W .any base 57 v0)
    (_hsz : (DataW.weightsEach Try.prog [57] [d0]).all (· ≤ reachBytes) = true) :
    Calls Try.prog 8 #[v0] W fun e w' => e = .returned (.bool true) ∧ Below W.heap.size W w' := by
  obtain ⟨x0_0, x0_1, x0_2, x0_3, x0_4, x0_5, rfl, b0_0, b0_1, b0_2, b0_3, b0_4, b0_5⟩ := SlMandate.open_val h0 k0
  have HG0_0 := Lib.hid b0_0
  have HG0_1 := Lib.hid b0_1
  have HG0_2 := Lib.hid b0_2
  have HG0_3 := Lib.hid b0_3
  have HG0_4 := Lib.hid b0_4
  have HG0_5 := Lib.hid b0_5
  clear b0_0 b0_1 b0_2 b0_3 b0_4 b0_5
  clear h0 k0
  clear _hsz
  have HB := Lib.hid (Below.refl W.heap.size W)
  have HX0 := Lib.hid (Bx.new W 57 #[.int .i64 x0_0, .int .i64 x0_1, .int .i64 x0_2, .int .i64 x0_3, .int .i64 x0_4, .int .i64 x0_5])
  replace HB := Lib.hid (HB.out.alloc HB.out.size (.cells #[.int .i64 x0_0, .int .i64 x0_1, .int .i64 x0_2, .int .i64 x0_3, .int .i64 x0_4, .int .i64 x0_5] 57))
  have lX0 := HX0.out.lt
  go_enter Try.func8, Try.ntmps8
  have sW := HB.out.size
  obtain ⟨cc0, cc1, cc2, cc3, cc4, cc5⟩ := SlMandate.bxc HX0.out
  go_wp2_with fail
  refine (SlMandate.val_any _ _ _ _ _ _ _).mono ?_
  rintro e w1 ⟨rfl, hb⟩
  replace HB := Lib.hid (below_on HB.out hb)
  replace HX0 := Lib.hid (HX0.out.below hb)
  have s1 := hb.size
  clear hb
  clear cc0 cc1 cc2 cc3 cc4 cc5
  go_wp2_with fail
  refine (PmMandate.spec_mandatePiece_any x0_0 x0_1 x0_2 x0_3 x0_4 x0_5 _ HG0_0.out HG0_1.out HG0_2.out HG0_3.out HG0_4.out HG0_5.out).mono ?_
  rintro e w2 ⟨qHW, mHW, eHW, dHW, rfl, ho, hb⟩
  replace HB := Lib.hid (below_on HB.out hb)
  replace HX0 := Lib.hid (HX0.out.below hb)
  have HW := Lib.hid ho
  have s2 := hb.size
  clear ho hb
  have bL : mHW ≤ 6 := Nat.le_of_eq HW.out.len.symm
  have HS := Lib.hid (Bx.new w2 27 #[.int .i64 x0_4, .slice qHW mHW eHW, .int .i64 x0_5])
  have lHS := HS.out.lt
  replace HB := Lib.hid (HB.out.alloc HB.out.size (.cells #[.int .i64 x0_4, .slice qHW mHW eHW, .int .i64 x0_5] 27))
  replace HX0 := Lib.hid (HX0.out.alloc (.cells #[.int .i64 x0_4, .slice qHW mHW eHW, .int .i64 x0_5] 27))
  replace HW := Lib.hid (HW.out.alloc (.cells #[.int .i64 x0_4, .slice qHW mHW eHW, .int .i64 x0_5] 27))
  obtain ⟨cc0, cc1, cc2, cc3, cc4, cc5⟩ := SlMandate.bxc HX0.out
  go_wp2_with fail
  refine (SlMandate.val_any _ _ _ _ _ _ _).mono ?_
  rintro e w3 ⟨rfl, hb⟩
  replace HB := Lib.hid (below_on HB.out hb)
  replace HX0 := Lib.hid (HX0.out.below hb)
  replace HW := Lib.hid (HW.out.below hb)
  replace HS := Lib.hid (HS.out.below hb)
  have s3 := hb.size
  clear hb
  clear cc0 cc1 cc2 cc3 cc4 cc5
  go_wp2_with fail
  refine (PmMandate.mandatePiece_any x0_0 x0_1 x0_2 x0_3 x0_4 x0_5 _ HG0_0.out HG0_1.out HG0_2.out HG0_3.out HG0_4.out HG0_5.out).mono ?_
  rintro e w4 ⟨qHG, mHG, eHG, dHG, rfl, ho, hb⟩
  replace HB := Lib.hid (below_on HB.out hb)
  replace HX0 := Lib.hid (HX0.out.below hb)
  replace HW := Lib.hid (HW.out.below hb)
  replace HS := Lib.hid (HS.out.below hb)
  have HG := Lib.hid ho
  have s4 := hb.size
  clear ho hb
  obtain rfl : mHW = mHG := HW.out.len.symm.trans HG.out.len
  have HT := Lib.hid (Bx.new w4 27 #[.int .i64 x0_4, .slice qHG mHW eHG, .int .i64 x0_5])
  have lHT := HT.out.lt
  replace HB := Lib.hid (HB.out.alloc HB.out.size (.cells #[.int .i64 x0_4, .slice qHG mHW eHG, .int .i64 x0_5] 27))
  replace HX0 := Lib.hid (HX0.out.alloc (.cells #[.int .i64 x0_4, .slice qHG mHW eHG, .int .i64 x0_5] 27))
  replace HW := Lib.hid (HW.out.alloc (.cells #[.int .i64 x0_4, .slice qHG mHW eHG, .int .i64 x0_5] 27))
  replace HS := Lib.hid (HS.out.alloc (.cells #[.int .i64 x0_4, .slice qHG mHW eHG, .int .i64 x0_5] 27))
  replace HG := Lib.hid (HG.out.alloc (.cells #[.int .i64 x0_4, .slice qHG mHW eHG, .int .i64 x0_5] 27))
  obtain ⟨i0, i1, i2⟩ := SlPiece.bx3 HT.out
  obtain ⟨j0, j1, j2⟩ := SlPiece.bx3 HS.out
  go_wp2_with fail
  refine (SlPiece.eq_any _ _ _ _ _ _ _ _ _ HG.out.rd HW.out.rd).mono ?_
  rintro e w5 ⟨rfl, hb⟩
  replace HB := Lib.hid (below_on HB.out hb)
  replace HX0 := Lib.hid (HX0.out.below hb)
  replace HW := Lib.hid (HW.out.below hb)
  replace HS := Lib.hid (HS.out.below hb)
  replace HG := Lib.hid (HG.out.below hb)
  replace HT := Lib.hid (HT.out.below hb)
  have s5 := hb.size
  clear hb
  clear i0 i1 i2 j0 j1 j2
  have bHW := HW.out.le
  have bHG := HG.out.le
  obtain ⟨i0, i1, i2⟩ := SlPiece.bx3 HT.out
  go_wp2_with fail
  refine (SlPiece.mark_any _ _ _ _ _ _ _ _ _ _ _ HG.out (by omega) (by omega)).mono ?_
  rintro e w6 ⟨rfl, ho, hg⟩
  replace HB := Lib.hid (below_row HB.out HG.out hg (by omega))
  replace HW := Lib.hid (HW.out.kept hg (fun g e => by have := HG.out.far g e; omega))
  replace HX0 := Lib.hid (HX0.out.grown hg (fun e => by have := HG.out.far _ e.symm; have := lX0; omega))
  replace HS := Lib.hid (HS.out.grown hg (fun e => by have := HG.out.far _ e.symm; have := lHS; omega))
  replace HT := Lib.hid (HT.out.grown hg (fun e => by have := HG.out.far _ e.symm; have := lHT; omega))
  replace HG := Lib.hid ho
  clear ho hg
  clear i0 i1 i2
  obtain ⟨i0, i1, i2⟩ := SlPiece.bx3 HT.out
  go_wp2_with fail
  refine (SlPiece.held_any _ _ _ _ _ _ _ HG.out.rd (by omega) (by omega)).mono ?_
  rintro e w7 ⟨rfl, hb⟩
  replace HB := Lib.hid (below_on HB.out hb)
  replace HX0 := Lib.hid (HX0.out.below hb)
  replace HW := Lib.hid (HW.out.below hb)
  replace HS := Lib.hid (HS.out.below hb)
  replace HG := Lib.hid (HG.out.below hb)
  replace HT := Lib.hid (HT.out.below hb)
  have s7 := hb.size
  clear hb
  clear i0 i1 i2
  obtain ⟨cc0, cc1, cc2, cc3, cc4, cc5⟩ := SlMandate.bxc HX0.out
  go_wp2_with fail
  refine (SlMandate.val_any _ _ _ _ _ _ _).mono ?_
  rintro e w8 ⟨rfl, hb⟩
  replace HB := Lib.hid (below_on HB.out hb)
  replace HX0 := Lib.hid (HX0.out.below hb)
  replace HW := Lib.hid (HW.out.below hb)
  replace HS := Lib.hid (HS.out.below hb)
  replace HG := Lib.hid (HG.out.below hb)
  replace HT := Lib.hid (HT.out.below hb)
  have s8 := hb.size
  clear hb
  clear cc0 cc1 cc2 cc3 cc4 cc5
  go_wp2_with fail
  refine (PmMandate.mandatePiece_any x0_0 x0_1 x0_2 x0_3 x0_4 x0_5 _ HG0_0.out HG0_1.out HG0_2.out HG0_3.out HG0_4.out HG0_5.out).mono ?_
  rintro e w9 ⟨qHH, mHH, eHH, dHH, rfl, ho, hb⟩
  replace HB := Lib.hid (below_on HB.out hb)
  replace HX0 := Lib.hid (HX0.out.below hb)
  replace HW := Lib.hid (HW.out.below hb)
  replace HS := Lib.hid (HS.out.below hb)
  replace HG := Lib.hid (HG.out.below hb)
  replace HT := Lib.hid (HT.out.below hb)
  have HH := Lib.hid ho
  have s9 := hb.size
  clear ho hb
  obtain rfl : mHW = mHH := HW.out.len.symm.trans HH.out.len
  have HU := Lib.hid (Bx.new w9 27 #[.int .i64 x0_4, .slice qHH mHW eHH, .int .i64 x0_5])
  have lHU := HU.out.lt
  replace HB := Lib.hid (HB.out.alloc HB.out.size (.cells #[.int .i64 x0_4, .slice qHH mHW eHH, .int .i64 x0_5] 27))
  replace HX0 := Lib.hid (HX0.out.alloc (.cells #[.int .i64 x0_4, .slice qHH mHW eHH, .int .i64 x0_5] 27))
  replace HW := Lib.hid (HW.out.alloc (.cells #[.int .i64 x0_4, .slice qHH mHW eHH, .int .i64 x0_5] 27))
  replace HS := Lib.hid (HS.out.alloc (.cells #[.int .i64 x0_4, .slice qHH mHW eHH, .int .i64 x0_5] 27))
  replace HG := Lib.hid (HG.out.alloc (.cells #[.int .i64 x0_4, .slice qHH mHW eHH, .int .i64 x0_5] 27))
  replace HT := Lib.hid (HT.out.alloc (.cells #[.int .i64 x0_4, .slice qHH mHW eHH, .int .i64 x0_5] 27))
  replace HH := Lib.hid (HH.out.alloc (.cells #[.int .i64 x0_4, .slice qHH mHW eHH, .int .i64 x0_5] 27))
  obtain ⟨i0, i1, i2⟩ := SlPiece.bx3 HU.out
  obtain ⟨j0, j1, j2⟩ := SlPiece.bx3 HS.out
  go_wp2_with fail
  refine (SlPiece.eq_any _ _ _ _ _ _ _ _ _ HH.out.rd HW.out.rd).mono ?_
  rintro e w10 ⟨rfl, hb⟩
  replace HB := Lib.hid (below_on HB.out hb)
  replace HX0 := Lib.hid (HX0.out.below hb)
  replace HW := Lib.hid (HW.out.below hb)
  replace HS := Lib.hid (HS.out.below hb)
  replace HG := Lib.hid (HG.out.below hb)
  replace HT := Lib.hid (HT.out.below hb)
  replace HH := Lib.hid (HH.out.below hb)
  replace HU := Lib.hid (HU.out.below hb)
  have s10 := hb.size
  clear hb
  clear i0 i1 i2 j0 j1 j2
  obtain ⟨i0, i1, i2⟩ := SlPiece.bx3 HT.out
  go_wp2_with fail
  refine (SlPiece.held_any _ _ _ _ _ _ _ HG.out.rd (by omega) (by omega)).mono ?_
  rintro e w11 ⟨rfl, hb⟩
  replace HB := Lib.hid (below_on HB.out hb)
  replace HX0 := Lib.hid (HX0.out.below hb)
  replace HW := Lib.hid (HW.out.below hb)
  replace HS := Lib.hid (HS.out.below hb)
  replace HG := Lib.hid (HG.out.below hb)
  replace HT := Lib.hid (HT.out.below hb)
  replace HH := Lib.hid (HH.out.below hb)
  replace HU := Lib.hid (HU.out.below hb)
  have s11 := hb.size
  clear hb
  clear i0 i1 i2
  go_wp2_with fail
  go_ret
  exact ⟨rfl, HB.out⟩
end Go.Proofs.Ytpnnmfagdefnmaa.fnExactMandatePiece
