/- Marks over a slice of numbers that may be written. Marks over a slice of Step that may be written. Marks over a slice of Stamp that may be written. -/
import Derived.Test.YtjaholcmaafenaaEk
import Derived.Test.YtjaholcmaafenaaSlI
import Derived.LoopTactic
import Derived.Outline
import Derived.Test.YtjaholcmaafenaaSlStep
import Derived.Test.YtjaholcmaafenaaSlStamp
namespace Go.Proofs.Ytjaholcmaafenaa.MdI
open Go.ChangeShapes Go.WideShapes Go.ChangeAt Go.RowKit Sl St Ed Ek
set_option maxRecDepth 100000 in
set_option maxHeartbeats 8000000 in
theorem markS_any (lo hi : Nat) (p : Option Addr) (n c : Nat) (xs : List Int) (k : Int) (w : World) (hr : RRd int lo hi w p n xs) (hk : 1 ≤ k) (hm : k + ((xs.map Ek.mInt.nw).sum : Nat) ≤ 1000000000) : Calls Try.prog 21 #[.slice p n c, .int .i64 k] w (MkD lo hi k (xs.map Ek.mInt.nw).sum w) := by
  have HR := Lib.hid hr
  have hle := hr.le
  have HM := Lib.hid hm
  have HLEN := Lib.hid hr.len
  clear hr hm
  go_enter Try.func21, Try.ntmps21
  go_wp2_with fail
  go_loopw [1, 5] (fun x i wr => ∃ (j : Nat) (y : Int), j ≤ n ∧ i = .int .i64 j ∧ x = .int .i64 y ∧ k ≤ y ∧ Hid (y ≤ k + (nwt Ek.mInt xs j : Nat)) ∧ Hid (Mk lo hi w wr)) (fun _ i _ => n - (intOf i).toNat)
  case atStart => exact ⟨0, k, Nat.zero_le _, rfl, rfl, Int.le_refl _, Lib.hid (by rw [nwt_zero]; omega), Lib.hid (Mk.refl _ _ _)⟩
  case round =>
    obtain ⟨j, y, hj, rfl, rfl, hky, HY, HK⟩ := hrel
    by_cases hlt : j < n
    · obtain ⟨xs', hr', he⟩ := RRd.mk Ek.mInt HR.out HK.out
      obtain ⟨b, o, x, cs, rfl, hS, hbw, hx, hc, hrd⟩ := RdD.at_ hr' hlt
      obtain ⟨rfl, hin⟩ := hrd
      have hnw : Ek.mInt.nw x = 1 := rfl
      have hnx := nwt_next (M := Ek.mInt) he hx
      rw [hnw] at hnx
      have hal := nwt_le (M := Ek.mInt) (xs := xs) (j + 1)
      have HNX : Hid (nwt Ek.mInt xs (j + 1) = nwt Ek.mInt xs j + 1) := Lib.hid hnx
      have HTOP : Hid (y + (1 : Nat) ≤ 1000000000) := Lib.hid (by have h1 := HY.out; have h2 := HM.out; omega)
      have HU0 : Hid (wr.cell? ⟨b, o + j, none⟩ = some (.int .i64 x)) := Lib.hid (by have h := hc 0 _ rfl; rw [show o + j * (int).C + 0 = o + j from by show o + j * 1 + 0 = _; omega] at h; exact h)
      have HS := Lib.hid hS
      have HBW := Lib.hid hbw
      clear hnw hnx hal hc hx he hS hbw hin
      have i1 : (0 : Int) ≤ (j : Int) := by omega
      have i2 : (j : Int) < (n : Int) := by omega
      have u0 := HU0.out
      have f0 : wr.frozen? ⟨b, o + j, none⟩ = false := HS.out.2.2 _
      have hq : 0 ≤ y := by omega
      have hq2 : y + 1 ≤ 9223372036854775000 := by have h0 := HTOP.out; omega
      go_wp2_with fail
      go_roundw
      case rel => exact ⟨j + 1, y + 1, by omega, by go_num, rfl, by omega, Lib.hid (by have h1 := HY.out; have h2 := HNX.out; omega), Lib.hid (HK.out.set HS.out.1 HS.out.2.1 HU0.out (Kd.ofInt (by unfold Ed.InI; have h := HTOP.out; omega)))⟩
      case measure => simp [intOf]; omega
    · obtain rfl : j = n := by omega
      have HE : Hid (y ≤ k + ((xs.map Ek.mInt.nw).sum : Nat)) := Lib.hid (by have h := HY.out; rw [nwt_all HLEN.out] at h; exact h)
      go_wp2_with fail
      go_ret
      exact ⟨y, rfl, hky, HE.out, HK.out⟩
end Go.Proofs.Ytjaholcmaafenaa.MdI

namespace Go.Proofs.Ytjaholcmaafenaa.MdStep
open Go.ChangeShapes Go.WideShapes Go.ChangeAt Go.RowKit Sl St Ed Ek
theorem pres (x : (Int × Bool)) (cs' : List Value) (hx : SlStep.InR x) (k : Ek.PwK (SlStep.E.of x) cs') : ∃ x', cs' = SlStep.E.of x' ∧ SlStep.InR x' := by
  obtain ⟨x0, x1⟩ := x
  have b0 : Ed.InI x0 := hx
  obtain ⟨hl, hk⟩ := k
  match cs', hl with
  | [v0, v1], _ =>
    obtain ⟨y0, rfl, h0⟩ := (hk 0 (.int .i64 x0) v0 rfl rfl).int b0
    obtain ⟨y1, rfl⟩ := (hk 1 (.bool x1) v1 rfl rfl).bool
    exact ⟨(y0, y1), rfl, h0⟩
def M : Ek.MkE (flat SlStep.E SlStep.InR) := Ek.mFlat pres
set_option maxRecDepth 100000 in
set_option maxHeartbeats 8000000 in
theorem markS_any (lo hi : Nat) (p : Option Addr) (n c : Nat) (xs : List (Int × Bool)) (k : Int) (w : World) (hr : RRd (flat SlStep.E SlStep.InR) lo hi w p n xs) (hk : 1 ≤ k) (hm : k + ((xs.map M.nw).sum : Nat) ≤ 1000000000) : Calls Try.prog 117 #[.slice p n c, .int .i64 k] w (MkD lo hi k (xs.map M.nw).sum w) := by
  have HR := Lib.hid hr
  have hle := hr.le
  have HM := Lib.hid hm
  have HLEN := Lib.hid hr.len
  clear hr hm
  go_enter Try.func117, Try.ntmps117
  go_wp2_with fail
  go_loopw [1, 5] (fun x i wr => ∃ (j : Nat) (y : Int), j ≤ n ∧ i = .int .i64 j ∧ x = .int .i64 y ∧ k ≤ y ∧ Hid (y ≤ k + (nwt M xs j : Nat)) ∧ Hid (Mk lo hi w wr)) (fun _ i _ => n - (intOf i).toNat)
  case atStart => exact ⟨0, k, Nat.zero_le _, rfl, rfl, Int.le_refl _, Lib.hid (by rw [nwt_zero]; omega), Lib.hid (Mk.refl _ _ _)⟩
  case round =>
    obtain ⟨j, y, hj, rfl, rfl, hky, HY, HK⟩ := hrel
    by_cases hlt : j < n
    · obtain ⟨xs', hr', he⟩ := RRd.mk M HR.out HK.out
      obtain ⟨b, o, x, cs, rfl, hS, hbw, hx, hc, hrd⟩ := RdD.at_ hr' hlt
      obtain ⟨x0, x1⟩ := x
      obtain ⟨rfl, hin⟩ := hrd
      have hnw : M.nw (x0, x1) = 2 := rfl
      have hnx := nwt_next (M := M) he hx
      rw [hnw] at hnx
      have hal := nwt_le (M := M) (xs := xs) (j + 1)
      have HNX : Hid (nwt M xs (j + 1) = nwt M xs j + 2) := Lib.hid hnx
      have HTOP : Hid (y + (2 : Nat) ≤ 1000000000) := Lib.hid (by have h1 := HY.out; have h2 := HM.out; omega)
      have HU0 : Hid (wr.cell? ⟨b, o + j * 2, none⟩ = some (.int .i64 x0)) := Lib.hid (hc 0 _ rfl)
      have HU1 : Hid (wr.cell? ⟨b, o + j * 2 + 1, none⟩ = some (.bool x1)) := Lib.hid (hc 1 _ rfl)
      have HS := Lib.hid hS
      have HBW := Lib.hid hbw
      clear hnw hnx hal hc hx he hS hbw hin
      have i1 : (0 : Int) ≤ (j : Int) := by omega
      have i2 : (j : Int) < (n : Int) := by omega
      have u0 := HU0.out
      have f0 : wr.frozen? ⟨b, o + j * 2, none⟩ = false := HS.out.2.2 _
      have u1 := HU1.out
      have f1 : wr.frozen? ⟨b, o + j * 2 + 1, none⟩ = false := HS.out.2.2 _
      have hq : 0 ≤ y := by omega
      have hq2 : y + 2 ≤ 9223372036854775000 := by have h0 := HTOP.out; omega
      go_wp2_with fail
      go_roundw
      case rel => exact ⟨j + 1, y + 1 + 1, by omega, by go_num, rfl, by omega, Lib.hid (by have h1 := HY.out; have h2 := HNX.out; omega), Lib.hid ((HK.out.set HS.out.1 HS.out.2.1 HU0.out (Kd.ofInt (by unfold Ed.InI; have h := HTOP.out; omega))).set HS.out.1 HS.out.2.1 (cell_far HU1.out (by omega)) Kd.ofBool)⟩
      case measure => simp [intOf]; omega
    · obtain rfl : j = n := by omega
      have HE : Hid (y ≤ k + ((xs.map M.nw).sum : Nat)) := Lib.hid (by have h := HY.out; rw [nwt_all HLEN.out] at h; exact h)
      go_wp2_with fail
      go_ret
      exact ⟨y, rfl, hky, HE.out, HK.out⟩
end Go.Proofs.Ytjaholcmaafenaa.MdStep

namespace Go.Proofs.Ytjaholcmaafenaa.MdStamp
open Go.ChangeShapes Go.WideShapes Go.ChangeAt Go.RowKit Sl St Ed Ek
theorem pres (x : (Int × Int × Int × Int × Int)) (cs' : List Value) (hx : SlStamp.InR x) (k : Ek.PwK (SlStamp.E.of x) cs') : ∃ x', cs' = SlStamp.E.of x' ∧ SlStamp.InR x' := by
  obtain ⟨x0, x1, x2, x3, x4⟩ := x
  obtain ⟨b0, b1, b2, b3, b4⟩ := hx
  obtain ⟨hl, hk⟩ := k
  match cs', hl with
  | [v0, v1, v2, v3, v4], _ =>
    obtain ⟨y0, rfl, h0⟩ := (hk 0 (.int .i64 x0) v0 rfl rfl).int b0
    obtain ⟨y1, rfl, h1⟩ := (hk 1 (.int .i64 x1) v1 rfl rfl).int b1
    obtain ⟨y2, rfl, h2⟩ := (hk 2 (.int .i64 x2) v2 rfl rfl).int b2
    obtain ⟨y3, rfl, h3⟩ := (hk 3 (.int .i64 x3) v3 rfl rfl).int b3
    obtain ⟨y4, rfl, h4⟩ := (hk 4 (.int .i64 x4) v4 rfl rfl).int b4
    exact ⟨(y0, y1, y2, y3, y4), rfl, ⟨h0, h1, h2, h3, h4⟩⟩
def M : Ek.MkE (flat SlStamp.E SlStamp.InR) := Ek.mFlat pres
set_option maxRecDepth 100000 in
set_option maxHeartbeats 8000000 in
theorem markS_any (lo hi : Nat) (p : Option Addr) (n c : Nat) (xs : List (Int × Int × Int × Int × Int)) (k : Int) (w : World) (hr : RRd (flat SlStamp.E SlStamp.InR) lo hi w p n xs) (hk : 1 ≤ k) (hm : k + ((xs.map M.nw).sum : Nat) ≤ 1000000000) : Calls Try.prog 41 #[.slice p n c, .int .i64 k] w (MkD lo hi k (xs.map M.nw).sum w) := by
  have HR := Lib.hid hr
  have hle := hr.le
  have HM := Lib.hid hm
  have HLEN := Lib.hid hr.len
  clear hr hm
  go_enter Try.func41, Try.ntmps41
  go_wp2_with fail
  go_loopw [1, 5] (fun x i wr => ∃ (j : Nat) (y : Int), j ≤ n ∧ i = .int .i64 j ∧ x = .int .i64 y ∧ k ≤ y ∧ Hid (y ≤ k + (nwt M xs j : Nat)) ∧ Hid (Mk lo hi w wr)) (fun _ i _ => n - (intOf i).toNat)
  case atStart => exact ⟨0, k, Nat.zero_le _, rfl, rfl, Int.le_refl _, Lib.hid (by rw [nwt_zero]; omega), Lib.hid (Mk.refl _ _ _)⟩
  case round =>
    obtain ⟨j, y, hj, rfl, rfl, hky, HY, HK⟩ := hrel
    by_cases hlt : j < n
    · obtain ⟨xs', hr', he⟩ := RRd.mk M HR.out HK.out
      obtain ⟨b, o, x, cs, rfl, hS, hbw, hx, hc, hrd⟩ := RdD.at_ hr' hlt
      obtain ⟨x0, x1, x2, x3, x4⟩ := x
      obtain ⟨rfl, hin⟩ := hrd
      have hnw : M.nw (x0, x1, x2, x3, x4) = 5 := rfl
      have hnx := nwt_next (M := M) he hx
      rw [hnw] at hnx
      have hal := nwt_le (M := M) (xs := xs) (j + 1)
      have HNX : Hid (nwt M xs (j + 1) = nwt M xs j + 5) := Lib.hid hnx
      have HTOP : Hid (y + (5 : Nat) ≤ 1000000000) := Lib.hid (by have h1 := HY.out; have h2 := HM.out; omega)
      have HU0 : Hid (wr.cell? ⟨b, o + j * 5, none⟩ = some (.int .i64 x0)) := Lib.hid (hc 0 _ rfl)
      have HU1 : Hid (wr.cell? ⟨b, o + j * 5 + 1, none⟩ = some (.int .i64 x1)) := Lib.hid (hc 1 _ rfl)
      have HU2 : Hid (wr.cell? ⟨b, o + j * 5 + 2, none⟩ = some (.int .i64 x2)) := Lib.hid (hc 2 _ rfl)
      have HU3 : Hid (wr.cell? ⟨b, o + j * 5 + 3, none⟩ = some (.int .i64 x3)) := Lib.hid (hc 3 _ rfl)
      have HU4 : Hid (wr.cell? ⟨b, o + j * 5 + 4, none⟩ = some (.int .i64 x4)) := Lib.hid (hc 4 _ rfl)
      have HS := Lib.hid hS
      have HBW := Lib.hid hbw
      clear hnw hnx hal hc hx he hS hbw hin
      have i1 : (0 : Int) ≤ (j : Int) := by omega
      have i2 : (j : Int) < (n : Int) := by omega
      have u0 := HU0.out
      have f0 : wr.frozen? ⟨b, o + j * 5, none⟩ = false := HS.out.2.2 _
      have u1 := HU1.out
      have f1 : wr.frozen? ⟨b, o + j * 5 + 1, none⟩ = false := HS.out.2.2 _
      have u2 := HU2.out
      have f2 : wr.frozen? ⟨b, o + j * 5 + 2, none⟩ = false := HS.out.2.2 _
      have u3 := HU3.out
      have f3 : wr.frozen? ⟨b, o + j * 5 + 3, none⟩ = false := HS.out.2.2 _
      have u4 := HU4.out
      have f4 : wr.frozen? ⟨b, o + j * 5 + 4, none⟩ = false := HS.out.2.2 _
      have hq : 0 ≤ y := by omega
      have hq2 : y + 5 ≤ 9223372036854775000 := by have h0 := HTOP.out; omega
      go_wp2_with fail
      go_roundw
      case rel => exact ⟨j + 1, y + 1 + 1 + 1 + 1 + 1, by omega, by go_num, rfl, by omega, Lib.hid (by have h1 := HY.out; have h2 := HNX.out; omega), Lib.hid (((((HK.out.set HS.out.1 HS.out.2.1 HU0.out (Kd.ofInt (by unfold Ed.InI; have h := HTOP.out; omega))).set HS.out.1 HS.out.2.1 (cell_far HU1.out (by omega)) (Kd.ofInt (by unfold Ed.InI; have h := HTOP.out; omega))).set HS.out.1 HS.out.2.1 (cell_far (cell_far HU2.out (by omega)) (by omega)) (Kd.ofInt (by unfold Ed.InI; have h := HTOP.out; omega))).set HS.out.1 HS.out.2.1 (cell_far (cell_far (cell_far HU3.out (by omega)) (by omega)) (by omega)) (Kd.ofInt (by unfold Ed.InI; have h := HTOP.out; omega))).set HS.out.1 HS.out.2.1 (cell_far (cell_far (cell_far (cell_far HU4.out (by omega)) (by omega)) (by omega)) (by omega)) (Kd.ofInt (by unfold Ed.InI; have h := HTOP.out; omega)))⟩
      case measure => simp [intOf]; omega
    · obtain rfl : j = n := by omega
      have HE : Hid (y ≤ k + ((xs.map M.nw).sum : Nat)) := Lib.hid (by have h := HY.out; rw [nwt_all HLEN.out] at h; exact h)
      go_wp2_with fail
      go_ret
      exact ⟨y, rfl, hky, HE.out, HK.out⟩
end Go.Proofs.Ytjaholcmaafenaa.MdStamp
