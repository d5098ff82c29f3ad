/- The walk of the law FnExactStatusesFor. -/
import Derived.Test.YtpjckbdljbpliaaEd
import Derived.Test.YtpjckbdljbpliaaDz
import Derived.Test.YtpjckbdljbpliaaSlI
import Derived.Test.YtpjckbdljbpliaaDpPiece
import Derived.Test.YtpjckbdljbpliaaSlCert
import Derived.Test.YtpjckbdljbpliaaStA
import Derived.Test.YtpjckbdljbpliaaEk
import Derived.Test.YtpjckbdljbpliaaDfPiece
import Derived.Test.YtpjckbdljbpliaaMdA
import Derived.Test.YtpjckbdljbpliaaSlStatus
import Derived.OpenShut
import Derived.Deep.RegionHeld3
import Derived.Laws.Strings
namespace Go.Proofs.Ytpjckbdljbpliaa.fnExactStatusesFor
open Go.ChangeShapes Go.WideShapes Go.ChangeAt Go.RowKit Sl St Ed Stf
theorem drewB {W w : World} {B : Nat} (h : Below B W w) : Below B W w.drew := below_drewN h 1
set_option maxRecDepth 100000 in
set_option maxHeartbeats 8000000 in
theorem walk {H : Type} {enc : TypeId × Value → H} (W : World) (base : Nat)
    (v0 : Value) (d0 : DataW H) (p0 : List MemPlace) (h0 : DataW.Trod enc Try.prog W 0 (fun _ => true) true 22 v0 d0 p0) (k0 : Value.okWide Try.prog W .any base 22 v0)
    (v1 : Value) (d1 : DataW H) (p1 : List MemPlace) (h1 : DataW.Trod enc Try.prog W 0 (fun _ => true) true 34 v1 d1 p1) (k1 : Value.okWide Try.prog W .any base 34 v1)
    (_hsz : (DataW.weightsEach Try.prog [22, 34] [d0, d1]).all (· ≤ reachBytes) = true) :
    Calls Try.prog 4 #[v0, v1] W fun e w' => e = .returned (.bool true) ∧ Below W.heap.size W w' := by
  obtain ⟨p0, n0, c0, l0, rfl, hr0⟩ := Dz.open_sl (E := DpPiece.E) Try.underlying22 (by kernel_rfl) (fun hl h => DpPiece.open_cells hl h) h0 k0
  have HP0 := Lib.hid hr0
  have hn0 := hr0.le
  clear hr0
  clear h0 k0
  obtain ⟨x1_0, x1_1, x1_2, x1_3, x1_4, x1_5, x1_6, rfl, b1_0, b1_1, b1_2, b1_3, b1_4, b1_5, b1_6⟩ := SlCert.open_val h1 k1
  have HG1_0 := Lib.hid b1_0
  have HG1_1 := Lib.hid b1_1
  have HG1_2 := Lib.hid b1_2
  have HG1_3 := Lib.hid b1_3
  have HG1_4 := Lib.hid b1_4
  have HG1_5 := Lib.hid b1_5
  have HG1_6 := Lib.hid b1_6
  clear b1_0 b1_1 b1_2 b1_3 b1_4 b1_5 b1_6
  clear h1 k1
  clear _hsz
  have HB := Lib.hid (Below.refl W.heap.size W)
  have HX1 := Lib.hid (Bx.new W 34 #[.int .i64 x1_0, .int .i64 x1_1, .int .i64 x1_2, .int .i64 x1_3, .int .i64 x1_4, .int .i64 x1_5, .int .i64 x1_6])
  replace HB := Lib.hid (HB.out.alloc HB.out.size (.cells #[.int .i64 x1_0, .int .i64 x1_1, .int .i64 x1_2, .int .i64 x1_3, .int .i64 x1_4, .int .i64 x1_5, .int .i64 x1_6] 34))
  have lX1 := HX1.out.lt
  obtain ⟨m0, hm0⟩ : ∃ m : Nat, n0 + wts DpPiece.E l0 = m := ⟨_, rfl⟩
  have HM0 := Lib.hid hm0
  clear hm0
  by_cases hbig0 : 1048576 < m0
  · go_enter Try.func4, Try.ntmps4
    go_wp2_with fail
    refine (DpPiece.szM_big _ _ _ _ _ _ _ HM0.out (HP0.out.below HB.out) (by omega) (by omega) (by omega)).mono ?_
    rintro e w1 ⟨rfl, hb⟩
    replace HB := Lib.hid (below_on HB.out hb)
    replace HX1 := Lib.hid (HX1.out.below hb)
    clear hb
    go_wp2_with fail
    go_ret
    exact ⟨rfl, HB.out⟩
  go_enter Try.func4, Try.ntmps4
  go_wp2_with fail
  refine (DpPiece.szM_fits _ _ _ _ _ _ _ HM0.out (HP0.out.below HB.out) (by omega) (by omega)).mono ?_
  rintro e w2 ⟨rfl, hb⟩
  replace HB := Lib.hid (below_on HB.out hb)
  replace HX1 := Lib.hid (HX1.out.below hb)
  clear hb
  have sm0 : m0 ≤ 1048576 := by omega
  clear hbig0
  have sn0 : n0 ≤ 1048576 := by have h := HM0.out; omega
  have sW := HB.out.size
  have lY1 := HX1.out.lt
  obtain ⟨j0_0, j0_1, j0_2, j0_3, j0_4, j0_5, j0_6⟩ := SlCert.bxc HX1.out
  go_wp2_with fail
  replace HB := Lib.hid (drewB HB.out)
  replace HX1 := Lib.hid (HX1.out.below (drewB (Below.refl _ _)))
  go_region_held3 (fun w' => w'.cell? ⟨W.heap.size, 0, none⟩ = some (.int .i64 x1_0) ∧ w'.cell? ⟨W.heap.size, 1, none⟩ = some (.int .i64 x1_1) ∧ w'.cell? ⟨W.heap.size, 2, none⟩ = some (.int .i64 x1_2) ∧ w'.cell? ⟨W.heap.size, 3, none⟩ = some (.int .i64 x1_3) ∧ w'.cell? ⟨W.heap.size, 4, none⟩ = some (.int .i64 x1_4) ∧ w'.cell? ⟨W.heap.size, 5, none⟩ = some (.int .i64 x1_5) ∧ w'.cell? ⟨W.heap.size, 6, none⟩ = some (.int .i64 x1_6)) (first | exact SlCert.bxc HX1.out | go_keep) (first | (go_at_call 8; (with_reducible refine (DpPiece.toS_any _ _ _ _ _ (HP0.out.below HB.out) (by have := HM0.out; omega)).mono ?_); rintro e w3 ⟨qHT0, dHT0, rfl, ho, hb⟩; replace HB := Lib.hid (below_on HB.out hb); replace HX1 := Lib.hid (HX1.out.below hb); have HT0 := Lib.hid ho; clear ho; clear hb) | (go_at_call 16; (with_reducible refine (SlCert.val_any _ _ _ _ _ _ _ _).mono ?_); rintro e w4 ⟨rfl, hb⟩; replace HB := Lib.hid (below_on HB.out hb); replace HX1 := Lib.hid (HX1.out.below hb); replace HT0 := Lib.hid (HT0.out.below hb); clear hb) | (go_at_call 15; (with_reducible refine (Stf.spec_for_any _ _ _ _ x1_0 x1_1 x1_2 x1_3 x1_4 x1_5 x1_6 _ HT0.out (by have := HM0.out; omega)).mono ?_); rintro e w5 ⟨qHW, mHW, dHW, rfl, ho, hb⟩; replace HB := Lib.hid (below_on HB.out hb); replace HX1 := Lib.hid (HX1.out.below hb); replace HT0 := Lib.hid (HT0.out.below hb); have HW := Lib.hid ho; clear ho; have szHW := hb.size; clear hb))
  clear j0_0 j0_1 j0_2 j0_3 j0_4 j0_5 j0_6
  clear HT0
  have sB := HB.out.size
  have lZ1 := HX1.out.lt
  have bm : mHW ≤ 1048576 := by have h1 := HW.out.len; have h2 := Stf.sel_len x1_0 x1_5 l0; have h3 := HP0.out.len; have h4 := HM0.out; omega
  go_wp2_with fail
  refine (DfPiece.toSF_any _ _ _ _ _ (HP0.out.below HB.out) (by have := HM0.out; omega)).mono ?_
  rintro e w6 ⟨qHU0, dHU0, rfl, ho, hk, hb⟩
  replace HB := Lib.hid (below_on HB.out hb)
  replace HX1 := Lib.hid (HX1.out.below hb)
  replace HW := Lib.hid (HW.out.below hb)
  have HU0 := Lib.hid ho.rd
  have HV0 := Lib.hid ho.rr
  clear ho hk
  have sz6 := hb.size
  clear hb
  obtain ⟨i0, i1, i2, i3, i4, i5, i6⟩ := SlCert.bxc HX1.out
  go_wp2_with fail
  refine (SlCert.val_any _ _ _ _ _ _ _ _).mono ?_
  rintro e w7 ⟨rfl, hb⟩
  replace HB := Lib.hid (below_on HB.out hb)
  replace HX1 := Lib.hid (HX1.out.below hb)
  replace HW := Lib.hid (HW.out.below hb)
  replace HU0 := Lib.hid (HU0.out.below hb)
  replace HV0 := Lib.hid (HV0.out.below hb)
  have sz7 := hb.size
  clear hb
  clear i0 i1 i2 i3 i4 i5 i6
  go_wp2_with fail
  refine (Stf.for_any _ _ _ _ x1_0 x1_1 x1_2 x1_3 x1_4 x1_5 x1_6 _ HU0.out (by have := HM0.out; omega)).mono ?_
  rintro e w8 ⟨qHG, mHG, dHG, rfl, ho, hb⟩
  replace HB := Lib.hid (below_on HB.out hb)
  replace HX1 := Lib.hid (HX1.out.below hb)
  replace HW := Lib.hid (HW.out.below hb)
  replace HU0 := Lib.hid (HU0.out.below hb)
  replace HV0 := Lib.hid (HV0.out.below hb)
  have HG := Lib.hid ho
  clear ho
  have sz8 := hb.size
  clear hb
  obtain rfl : mHW = mHG := HW.out.len.symm.trans HG.out.len
  go_wp2_with fail
  refine (SlStatus.eq_any _ _ _ _ _ _ _ HG.out.rd HW.out.rd).mono ?_
  rintro e w9 ⟨rfl, hb⟩
  replace HB := Lib.hid (below_on HB.out hb)
  replace HX1 := Lib.hid (HX1.out.below hb)
  replace HW := Lib.hid (HW.out.below hb)
  replace HU0 := Lib.hid (HU0.out.below hb)
  replace HV0 := Lib.hid (HV0.out.below hb)
  replace HG := Lib.hid (HG.out.below hb)
  have sz9 := hb.size
  clear hb
  go_wp2_with fail
  refine (DpPiece.toS_any _ _ _ _ _ (HP0.out.below HB.out) (by have := HM0.out; omega)).mono ?_
  rintro e w10 ⟨qHY0, dHY0, rfl, ho, hb⟩
  replace HB := Lib.hid (below_on HB.out hb)
  replace HX1 := Lib.hid (HX1.out.below hb)
  replace HW := Lib.hid (HW.out.below hb)
  replace HU0 := Lib.hid (HU0.out.below hb)
  replace HV0 := Lib.hid (HV0.out.below hb)
  replace HG := Lib.hid (HG.out.below hb)
  have HY0 := Lib.hid ho
  clear ho
  have sz10 := hb.size
  clear hb
  go_wp2_with fail
  refine (DpPiece.eqS_any _ _ _ _ _ _ _ HU0.out HY0.out).mono ?_
  rintro e w11 ⟨rfl, hb⟩
  replace HB := Lib.hid (below_on HB.out hb)
  replace HX1 := Lib.hid (HX1.out.below hb)
  replace HW := Lib.hid (HW.out.below hb)
  replace HU0 := Lib.hid (HU0.out.below hb)
  replace HV0 := Lib.hid (HV0.out.below hb)
  replace HG := Lib.hid (HG.out.below hb)
  replace HY0 := Lib.hid (HY0.out.below hb)
  have sz11 := hb.size
  clear hb
  clear HY0
  clear HU0
  have HNW0 : Hid ((1 : Int) + ((l0.map MdPiece.M.nw).sum : Nat) ≤ 1000000000) := Lib.hid (by have h1 := Ek.nw_wts MdPiece.M (by show 3 ≤ 16; omega) l0; have h2 := HP0.out.len; have h3 := HM0.out; omega)
  go_wp2_with fail
  refine (MdPiece.markS_any (w5.heap.size) (w6.heap.size) _ _ _ _ 1 _ HV0.out (by omega) HNW0.out).mono ?_
  rintro e w12 ⟨kk0, rfl, hk0, _, hm⟩
  replace HB := Lib.hid (hm.on HB.out (by omega) (by omega))
  replace HX1 := Lib.hid (hm.bx HX1.out (Or.inr (by omega)))
  replace HW := Lib.hid (hm.owS HW.out (Or.inr (by omega)))
  replace HG := Lib.hid (hm.owS HG.out (Or.inl (by omega)))
  have sz12 := hm.size
  have hkd0 : decide (kk0 < 0) = false := decide_eq_false (by omega)
  clear hm
  clear HV0
  go_wp2_with fail
  refine (SlStatus.eq_any _ _ _ _ _ _ _ HG.out.rd HW.out.rd).mono ?_
  rintro e w13 ⟨rfl, hb⟩
  replace HB := Lib.hid (below_on HB.out hb)
  replace HX1 := Lib.hid (HX1.out.below hb)
  replace HW := Lib.hid (HW.out.below hb)
  replace HG := Lib.hid (HG.out.below hb)
  have sz13 := hb.size
  clear hb
  go_wp2_with fail
  refine (SlStatus.mark_any _ _ _ _ _ _ _ _ HG.out (by omega) (by have := HG.out.le; omega)).mono ?_
  rintro e w14 ⟨rfl, ho, hg⟩
  replace HB := Lib.hid (below_rowS HB.out HG.out hg (by omega))
  replace HX1 := Lib.hid (HX1.out.grown hg (fun e => by have := HG.out.far _ e.symm; have := HX1.out.lt; omega))
  replace HW := Lib.hid (HW.out.kept hg (fun g e => by have := HG.out.far g e; omega))
  replace HG := Lib.hid ho
  clear ho hg
  go_wp2_with fail
  refine (SlStatus.held_any _ _ _ _ _ HG.out.rd (by omega) (by omega)).mono ?_
  rintro e w15 ⟨rfl, rfl⟩
  obtain ⟨j0_0, j0_1, j0_2, j0_3, j0_4, j0_5, j0_6⟩ := SlCert.bxc HX1.out
  go_wp2_with fail
  replace HB := Lib.hid (drewB HB.out)
  replace HX1 := Lib.hid (HX1.out.below (drewB (Below.refl _ _)))
  replace HW := Lib.hid (HW.out.below (drewB (Below.refl _ _)))
  replace HG := Lib.hid (HG.out.below (drewB (Below.refl _ _)))
  go_region_held3 (fun w' => w'.cell? ⟨W.heap.size, 0, none⟩ = some (.int .i64 x1_0) ∧ w'.cell? ⟨W.heap.size, 1, none⟩ = some (.int .i64 x1_1) ∧ w'.cell? ⟨W.heap.size, 2, none⟩ = some (.int .i64 x1_2) ∧ w'.cell? ⟨W.heap.size, 3, none⟩ = some (.int .i64 x1_3) ∧ w'.cell? ⟨W.heap.size, 4, none⟩ = some (.int .i64 x1_4) ∧ w'.cell? ⟨W.heap.size, 5, none⟩ = some (.int .i64 x1_5) ∧ w'.cell? ⟨W.heap.size, 6, none⟩ = some (.int .i64 x1_6)) (first | exact SlCert.bxc HX1.out | go_keep) (first | (go_at_call 8; (with_reducible refine (DpPiece.toS_any _ _ _ _ _ (HP0.out.below HB.out) (by have := HM0.out; omega)).mono ?_); rintro e w16 ⟨qHZ0, dHZ0, rfl, ho, hb⟩; replace HB := Lib.hid (below_on HB.out hb); replace HX1 := Lib.hid (HX1.out.below hb); replace HW := Lib.hid (HW.out.below hb); replace HG := Lib.hid (HG.out.below hb); have HZ0 := Lib.hid ho; clear ho; clear hb) | (go_at_call 16; (with_reducible refine (SlCert.val_any _ _ _ _ _ _ _ _).mono ?_); rintro e w17 ⟨rfl, hb⟩; replace HB := Lib.hid (below_on HB.out hb); replace HX1 := Lib.hid (HX1.out.below hb); replace HW := Lib.hid (HW.out.below hb); replace HG := Lib.hid (HG.out.below hb); replace HZ0 := Lib.hid (HZ0.out.below hb); clear hb) | (go_at_call 17; (with_reducible refine (Stf.for_any _ _ _ _ x1_0 x1_1 x1_2 x1_3 x1_4 x1_5 x1_6 _ HZ0.out (by have := HM0.out; omega)).mono ?_); rintro e w18 ⟨qHH, mHH, dHH, rfl, ho, hb⟩; replace HB := Lib.hid (below_on HB.out hb); replace HX1 := Lib.hid (HX1.out.below hb); replace HW := Lib.hid (HW.out.below hb); replace HG := Lib.hid (HG.out.below hb); replace HZ0 := Lib.hid (HZ0.out.below hb); have HH := Lib.hid ho; clear ho; clear hb))
  clear j0_0 j0_1 j0_2 j0_3 j0_4 j0_5 j0_6
  clear HZ0
  obtain rfl : mHW = mHH := HW.out.len.symm.trans HH.out.len
  go_wp2_with fail
  refine (SlStatus.eq_any _ _ _ _ _ _ _ HH.out.rd HW.out.rd).mono ?_
  rintro e w19 ⟨rfl, hb⟩
  replace HB := Lib.hid (below_on HB.out hb)
  replace HX1 := Lib.hid (HX1.out.below hb)
  replace HW := Lib.hid (HW.out.below hb)
  replace HG := Lib.hid (HG.out.below hb)
  replace HH := Lib.hid (HH.out.below hb)
  have sz19 := hb.size
  clear hb
  go_wp2_with fail
  refine (SlStatus.held_any _ _ _ _ _ HG.out.rd (by omega) (by omega)).mono ?_
  rintro e w20 ⟨rfl, rfl⟩
  go_wp2_with fail
  go_ret
  exact ⟨rfl, HB.out⟩
end Go.Proofs.Ytpjckbdljbpliaa.fnExactStatusesFor
