/- The walk of the law FnExactStampPiece. -/
import Derived.Test.YtpnnmfagdefnmaaSlStamp
import Derived.Test.YtpnnmfagdefnmaaSlPiece
import Derived.Test.YtpnnmfagdefnmaaPmStamp
import Derived.Test.YtpnnmfagdefnmaaSlB
import Derived.Test.YtpnnmfagdefnmaaSlI
import Derived.OpenShut
namespace Go.Proofs.Ytpnnmfagdefnmaa.fnExactStampPiece
open Go.ChangeShapes Go.WideShapes Go.ChangeAt Go.RowKit Sl St Fnd SlStamp SlPiece Pm PmStamp
set_option maxRecDepth 100000 in
set_option maxHeartbeats 8000000 in
theorem walk {H : Type} {enc : TypeId × Value → H} (W : World) (base : Nat)
    (v0 : Value) (d0 : DataW H) (p0 : List MemPlace) (h0 : DataW.Trod enc Try.prog W 0 (fun _ => true) true 3 v0 d0 p0) (k0 : Value.okWide Try.prog W .any base 3 v0)
    (v1 : Value) (d1 : DataW H) (p1 : List MemPlace) (h1 : DataW.Trod enc Try.prog W 0 (fun _ => true) true 45 v1 d1 p1) (k1 : Value.okWide Try.prog W .any base 45 v1)
    (_hsz : (DataW.weightsEach Try.prog [3, 45] [d0, d1]).all (· ≤ reachBytes) = true) :
    Calls Try.prog 6 #[v0, v1] W fun e w' => e = .returned (.bool true) ∧ Below W.heap.size W w' := by
  obtain ⟨x0, rfl, _, _, wf0⟩ := open_int Try.underlying3 k0 h0
  have xb0 := bounds_i64 wf0
  obtain ⟨xl0, xh0⟩ := xb0
  clear wf0
  clear h0 k0
  obtain ⟨x1_0, x1_1, x1_2, x1_3, x1_4, rfl, b1_0, b1_1, b1_2, b1_3, b1_4⟩ := SlStamp.open_val h1 k1
  have HG1_0 := Lib.hid b1_0
  have HG1_1 := Lib.hid b1_1
  have HG1_2 := Lib.hid b1_2
  have HG1_3 := Lib.hid b1_3
  have HG1_4 := Lib.hid b1_4
  clear b1_0 b1_1 b1_2 b1_3 b1_4
  clear h1 k1
  clear _hsz
  have HB := Lib.hid (Below.refl W.heap.size W)
  have HX1 := Lib.hid (Bx.new W 45 #[.int .i64 x1_0, .int .i64 x1_1, .int .i64 x1_2, .int .i64 x1_3, .int .i64 x1_4])
  replace HB := Lib.hid (HB.out.alloc HB.out.size (.cells #[.int .i64 x1_0, .int .i64 x1_1, .int .i64 x1_2, .int .i64 x1_3, .int .i64 x1_4] 45))
  have lX1 := HX1.out.lt
  go_enter Try.func6, Try.ntmps6
  have sW := HB.out.size
  obtain ⟨cc0, cc1, cc2, cc3, cc4⟩ := SlStamp.bxc HX1.out
  go_wp2_with fail
  refine (SlStamp.val_any _ _ _ _ _ _).mono ?_
  rintro e w1 ⟨rfl, hb⟩
  replace HB := Lib.hid (below_on HB.out hb)
  replace HX1 := Lib.hid (HX1.out.below hb)
  have s1 := hb.size
  clear hb
  clear cc0 cc1 cc2 cc3 cc4
  go_wp2_with fail
  refine (PmStamp.spec_stampPiece_any x0 x1_0 x1_1 x1_2 x1_3 x1_4 _ HG1_0.out HG1_1.out HG1_2.out HG1_3.out HG1_4.out).mono ?_
  rintro e w2 ⟨qHW, mHW, eHW, dHW, rfl, ho, hb⟩
  replace HB := Lib.hid (below_on HB.out hb)
  replace HX1 := Lib.hid (HX1.out.below hb)
  have HW := Lib.hid ho
  have s2 := hb.size
  clear ho hb
  have bL : mHW ≤ 5 := Nat.le_of_eq HW.out.len.symm
  have HS := Lib.hid (Bx.new w2 27 #[.int .i64 x0, .slice qHW mHW eHW, .int .i64 x1_4])
  have lHS := HS.out.lt
  replace HB := Lib.hid (HB.out.alloc HB.out.size (.cells #[.int .i64 x0, .slice qHW mHW eHW, .int .i64 x1_4] 27))
  replace HX1 := Lib.hid (HX1.out.alloc (.cells #[.int .i64 x0, .slice qHW mHW eHW, .int .i64 x1_4] 27))
  replace HW := Lib.hid (HW.out.alloc (.cells #[.int .i64 x0, .slice qHW mHW eHW, .int .i64 x1_4] 27))
  obtain ⟨cc0, cc1, cc2, cc3, cc4⟩ := SlStamp.bxc HX1.out
  go_wp2_with fail
  refine (SlStamp.val_any _ _ _ _ _ _).mono ?_
  rintro e w3 ⟨rfl, hb⟩
  replace HB := Lib.hid (below_on HB.out hb)
  replace HX1 := Lib.hid (HX1.out.below hb)
  replace HW := Lib.hid (HW.out.below hb)
  replace HS := Lib.hid (HS.out.below hb)
  have s3 := hb.size
  clear hb
  clear cc0 cc1 cc2 cc3 cc4
  go_wp2_with fail
  refine (PmStamp.stampPiece_any x0 x1_0 x1_1 x1_2 x1_3 x1_4 _ HG1_0.out HG1_1.out HG1_2.out HG1_3.out HG1_4.out).mono ?_
  rintro e w4 ⟨qHG, mHG, eHG, dHG, rfl, ho, hb⟩
  replace HB := Lib.hid (below_on HB.out hb)
  replace HX1 := Lib.hid (HX1.out.below hb)
  replace HW := Lib.hid (HW.out.below hb)
  replace HS := Lib.hid (HS.out.below hb)
  have HG := Lib.hid ho
  have s4 := hb.size
  clear ho hb
  obtain rfl : mHW = mHG := HW.out.len.symm.trans HG.out.len
  have HT := Lib.hid (Bx.new w4 27 #[.int .i64 x0, .slice qHG mHW eHG, .int .i64 x1_4])
  have lHT := HT.out.lt
  replace HB := Lib.hid (HB.out.alloc HB.out.size (.cells #[.int .i64 x0, .slice qHG mHW eHG, .int .i64 x1_4] 27))
  replace HX1 := Lib.hid (HX1.out.alloc (.cells #[.int .i64 x0, .slice qHG mHW eHG, .int .i64 x1_4] 27))
  replace HW := Lib.hid (HW.out.alloc (.cells #[.int .i64 x0, .slice qHG mHW eHG, .int .i64 x1_4] 27))
  replace HS := Lib.hid (HS.out.alloc (.cells #[.int .i64 x0, .slice qHG mHW eHG, .int .i64 x1_4] 27))
  replace HG := Lib.hid (HG.out.alloc (.cells #[.int .i64 x0, .slice qHG mHW eHG, .int .i64 x1_4] 27))
  obtain ⟨i0, i1, i2⟩ := SlPiece.bx3 HT.out
  obtain ⟨j0, j1, j2⟩ := SlPiece.bx3 HS.out
  go_wp2_with fail
  refine (SlPiece.eq_any _ _ _ _ _ _ _ _ _ HG.out.rd HW.out.rd).mono ?_
  rintro e w5 ⟨rfl, hb⟩
  replace HB := Lib.hid (below_on HB.out hb)
  replace HX1 := Lib.hid (HX1.out.below hb)
  replace HW := Lib.hid (HW.out.below hb)
  replace HS := Lib.hid (HS.out.below hb)
  replace HG := Lib.hid (HG.out.below hb)
  replace HT := Lib.hid (HT.out.below hb)
  have s5 := hb.size
  clear hb
  clear i0 i1 i2 j0 j1 j2
  have bHW := HW.out.le
  have bHG := HG.out.le
  obtain ⟨i0, i1, i2⟩ := SlPiece.bx3 HT.out
  go_wp2_with fail
  refine (SlPiece.mark_any _ _ _ _ _ _ _ _ _ _ _ HG.out (by omega) (by omega)).mono ?_
  rintro e w6 ⟨rfl, ho, hg⟩
  replace HB := Lib.hid (below_row HB.out HG.out hg (by omega))
  replace HW := Lib.hid (HW.out.kept hg (fun g e => by have := HG.out.far g e; omega))
  replace HX1 := Lib.hid (HX1.out.grown hg (fun e => by have := HG.out.far _ e.symm; have := lX1; omega))
  replace HS := Lib.hid (HS.out.grown hg (fun e => by have := HG.out.far _ e.symm; have := lHS; omega))
  replace HT := Lib.hid (HT.out.grown hg (fun e => by have := HG.out.far _ e.symm; have := lHT; omega))
  replace HG := Lib.hid ho
  clear ho hg
  clear i0 i1 i2
  obtain ⟨i0, i1, i2⟩ := SlPiece.bx3 HT.out
  go_wp2_with fail
  refine (SlPiece.held_any _ _ _ _ _ _ _ HG.out.rd (by omega) (by omega)).mono ?_
  rintro e w7 ⟨rfl, hb⟩
  replace HB := Lib.hid (below_on HB.out hb)
  replace HX1 := Lib.hid (HX1.out.below hb)
  replace HW := Lib.hid (HW.out.below hb)
  replace HS := Lib.hid (HS.out.below hb)
  replace HG := Lib.hid (HG.out.below hb)
  replace HT := Lib.hid (HT.out.below hb)
  have s7 := hb.size
  clear hb
  clear i0 i1 i2
  obtain ⟨cc0, cc1, cc2, cc3, cc4⟩ := SlStamp.bxc HX1.out
  go_wp2_with fail
  refine (SlStamp.val_any _ _ _ _ _ _).mono ?_
  rintro e w8 ⟨rfl, hb⟩
  replace HB := Lib.hid (below_on HB.out hb)
  replace HX1 := Lib.hid (HX1.out.below hb)
  replace HW := Lib.hid (HW.out.below hb)
  replace HS := Lib.hid (HS.out.below hb)
  replace HG := Lib.hid (HG.out.below hb)
  replace HT := Lib.hid (HT.out.below hb)
  have s8 := hb.size
  clear hb
  clear cc0 cc1 cc2 cc3 cc4
  go_wp2_with fail
  refine (PmStamp.stampPiece_any x0 x1_0 x1_1 x1_2 x1_3 x1_4 _ HG1_0.out HG1_1.out HG1_2.out HG1_3.out HG1_4.out).mono ?_
  rintro e w9 ⟨qHH, mHH, eHH, dHH, rfl, ho, hb⟩
  replace HB := Lib.hid (below_on HB.out hb)
  replace HX1 := Lib.hid (HX1.out.below hb)
  replace HW := Lib.hid (HW.out.below hb)
  replace HS := Lib.hid (HS.out.below hb)
  replace HG := Lib.hid (HG.out.below hb)
  replace HT := Lib.hid (HT.out.below hb)
  have HH := Lib.hid ho
  have s9 := hb.size
  clear ho hb
  obtain rfl : mHW = mHH := HW.out.len.symm.trans HH.out.len
  have HU := Lib.hid (Bx.new w9 27 #[.int .i64 x0, .slice qHH mHW eHH, .int .i64 x1_4])
  have lHU := HU.out.lt
  replace HB := Lib.hid (HB.out.alloc HB.out.size (.cells #[.int .i64 x0, .slice qHH mHW eHH, .int .i64 x1_4] 27))
  replace HX1 := Lib.hid (HX1.out.alloc (.cells #[.int .i64 x0, .slice qHH mHW eHH, .int .i64 x1_4] 27))
  replace HW := Lib.hid (HW.out.alloc (.cells #[.int .i64 x0, .slice qHH mHW eHH, .int .i64 x1_4] 27))
  replace HS := Lib.hid (HS.out.alloc (.cells #[.int .i64 x0, .slice qHH mHW eHH, .int .i64 x1_4] 27))
  replace HG := Lib.hid (HG.out.alloc (.cells #[.int .i64 x0, .slice qHH mHW eHH, .int .i64 x1_4] 27))
  replace HT := Lib.hid (HT.out.alloc (.cells #[.int .i64 x0, .slice qHH mHW eHH, .int .i64 x1_4] 27))
  replace HH := Lib.hid (HH.out.alloc (.cells #[.int .i64 x0, .slice qHH mHW eHH, .int .i64 x1_4] 27))
  obtain ⟨i0, i1, i2⟩ := SlPiece.bx3 HU.out
  obtain ⟨j0, j1, j2⟩ := SlPiece.bx3 HS.out
  go_wp2_with fail
  refine (SlPiece.eq_any _ _ _ _ _ _ _ _ _ HH.out.rd HW.out.rd).mono ?_
  rintro e w10 ⟨rfl, hb⟩
  replace HB := Lib.hid (below_on HB.out hb)
  replace HX1 := Lib.hid (HX1.out.below hb)
  replace HW := Lib.hid (HW.out.below hb)
  replace HS := Lib.hid (HS.out.below hb)
  replace HG := Lib.hid (HG.out.below hb)
  replace HT := Lib.hid (HT.out.below hb)
  replace HH := Lib.hid (HH.out.below hb)
  replace HU := Lib.hid (HU.out.below hb)
  have s10 := hb.size
  clear hb
  clear i0 i1 i2 j0 j1 j2
  obtain ⟨i0, i1, i2⟩ := SlPiece.bx3 HT.out
  go_wp2_with fail
  refine (SlPiece.held_any _ _ _ _ _ _ _ HG.out.rd (by omega) (by omega)).mono ?_
  rintro e w11 ⟨rfl, hb⟩
  replace HB := Lib.hid (below_on HB.out hb)
  replace HX1 := Lib.hid (HX1.out.below hb)
  replace HW := Lib.hid (HW.out.below hb)
  replace HS := Lib.hid (HS.out.below hb)
  replace HG := Lib.hid (HG.out.below hb)
  replace HT := Lib.hid (HT.out.below hb)
  replace HH := Lib.hid (HH.out.below hb)
  replace HU := Lib.hid (HU.out.below hb)
  have s11 := hb.size
  clear hb
  clear i0 i1 i2
  go_wp2_with fail
  go_ret
  exact ⟨rfl, HB.out⟩
end Go.Proofs.Ytpnnmfagdefnmaa.fnExactStampPiece
