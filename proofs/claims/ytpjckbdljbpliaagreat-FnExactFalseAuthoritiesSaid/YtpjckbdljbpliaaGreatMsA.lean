/- Marks over a slice of words that may be written. Marks over a slice of numbers that may be written. Marks over Document, by value and in slices, in memory that may be written. Marks over a slice of Signature that may be written. Marks over Piece, by value and in slices, in memory that may be written. Marks over a slice of Step that may be written. Marks over a slice of Stamp that may be written. Marks over Renewal, by value and in slices, in memory that may be written. Marks over Strand, by value and in slices, in memory that may be written. Marks over Item, by value and in slices, in memory that may be written. Marks over Archive, by value and in slices, in memory that may be written. -/
import Derived.Test.YtpjckbdljbpliaaGreatEk
import Derived.Test.YtpjckbdljbpliaaGreatSlI
import Derived.Test.YtpjckbdljbpliaaGreatMk
import Derived.LoopTactic
import Derived.Outline
import Derived.Test.YtpjckbdljbpliaaGreatDoA
import Derived.Test.YtpjckbdljbpliaaGreatSlSignature
import Derived.Test.YtpjckbdljbpliaaGreatDpPiece
import Derived.Test.YtpjckbdljbpliaaGreatSlStep
import Derived.Test.YtpjckbdljbpliaaGreatSlStamp
import Derived.Test.YtpjckbdljbpliaaGreatDpRenewal
import Derived.Test.YtpjckbdljbpliaaGreatDpStrand
import Derived.Test.YtpjckbdljbpliaaGreatDpItem
import Derived.Test.YtpjckbdljbpliaaGreatDpArchive
namespace Go.Proofs.YtpjckbdljbpliaaGreat.MdStr
open Go.ChangeShapes Go.WideShapes Go.ChangeAt Go.RowKit Sl St Ed Ek
theorem mdig_size (k : Nat) : ∀ t : ByteArray, (Mk.mdig k t).size ≤ k + t.size := by
  induction k using Nat.strongRecOn with
  | ind k ih =>
    intro t
    rcases Nat.eq_zero_or_pos k with rfl | h
    · rw [Mk.mdig_zero]
      omega
    · rw [Mk.mdig_step h]
      have h1 := ih (k / 10) (by omega) (Mk.dig1 k ++ t)
      rw [ByteArray.size_append] at h1
      have h2 : (Mk.dig1 k).size = 1 := rfl
      omega
theorem mtext_size (k : Nat) (h : k ≤ 1000000000) : (Mk.mtext k).size ≤ 9223372036854775807 := by
  unfold Mk.mtext
  rw [ByteArray.size_append]
  have h1 := mdig_size k ByteArray.empty
  have h2 : (ByteArray.mk #[109]).size = 1 := rfl
  have h3 : ByteArray.empty.size = 0 := rfl
  omega
set_option maxRecDepth 100000 in
set_option maxHeartbeats 8000000 in
theorem markS_any (lo hi : Nat) (p : Option Addr) (n c : Nat) (xs : List ByteArray) (k : Int) (w : World) (hr : RRd str lo hi w p n xs) (hk : 1 ≤ k) (hm : k + ((xs.map Ek.mStr.nw).sum : Nat) ≤ 1000000000) : Calls Tryz.prog 67 #[.slice p n c, .int .i64 k] w (MkD lo hi k (xs.map Ek.mStr.nw).sum w) := by
  have HR := Lib.hid hr
  have hle := hr.le
  have HM := Lib.hid hm
  have HLEN := Lib.hid hr.len
  clear hr hm
  go_enter Tryz.func67, Tryz.ntmps67
  go_wp2_with fail
  go_loopw [1, 5] (fun x i wr => ∃ (j : Nat) (y : Int), j ≤ n ∧ i = .int .i64 j ∧ x = .int .i64 y ∧ k ≤ y ∧ Hid (y ≤ k + (nwt Ek.mStr xs j : Nat)) ∧ Hid (Mk lo hi w wr)) (fun _ i _ => n - (intOf i).toNat)
  case atStart => exact ⟨0, k, Nat.zero_le _, rfl, rfl, Int.le_refl _, Lib.hid (by rw [nwt_zero]; omega), Lib.hid (Mk.refl _ _ _)⟩
  case round =>
    obtain ⟨j, y, hj, rfl, rfl, hky, HY, HK⟩ := hrel
    by_cases hlt : j < n
    · obtain ⟨xs', hr', he⟩ := RRd.mk Ek.mStr HR.out HK.out
      obtain ⟨b, o, x, cs, rfl, hS, hbw, hx, hc, hrd⟩ := RdD.at_ hr' hlt
      obtain ⟨rfl, hin⟩ := hrd
      have hnw : Ek.mStr.nw x = 1 := rfl
      have hnx := nwt_next (M := Ek.mStr) he hx
      rw [hnw] at hnx
      have hal := nwt_le (M := Ek.mStr) (xs := xs) (j + 1)
      have HNX : Hid (nwt Ek.mStr xs (j + 1) = nwt Ek.mStr xs j + 1) := Lib.hid hnx
      have HTOP : Hid (y + (1 : Nat) ≤ 1000000000) := Lib.hid (by have h1 := HY.out; have h2 := HM.out; omega)
      have HU0 : Hid (wr.cell? ⟨b, o + j, none⟩ = some (.string x)) := Lib.hid (by have h := hc 0 _ rfl; rw [show o + j * (str).C + 0 = o + j from by show o + j * 1 + 0 = _; omega] at h; exact h)
      have HS := Lib.hid hS
      have HBW := Lib.hid hbw
      clear hnw hnx hal hc hx he hS hbw hin
      have i1 : (0 : Int) ≤ (j : Int) := by omega
      have i2 : (j : Int) < (n : Int) := by omega
      obtain ⟨q, rfl⟩ : ∃ q : Nat, y = (q : Int) := ⟨y.toNat, by omega⟩
      have hq2 : (q : Int) + 1 ≤ 9223372036854775000 := by have h := HTOP.out; omega
      have hq : (0 : Int) ≤ (q : Int) := by omega
      go_wp2_with fail
      refine (Mk.text_any q (by omega) (by have h := HTOP.out; omega) _).mono ?_
      rintro e w2 ⟨rfl, hb⟩
      have HK2 := Lib.hid (HK.out.below hb)
      have HS2 := Lib.hid (HS.out.mk HBW.out (Mk.ofBelow hb))
      have u0 := (hb.cell (p := ⟨b, o + j, none⟩) HBW.out).trans HU0.out
      have f0 := HS2.out.2.2 (o + j)
      have HU2 := Lib.hid u0
      clear hb
      go_wp2_with fail
      go_roundw
      case rel => exact ⟨j + 1, (q : Int) + 1, by omega, by go_num, rfl, by omega, Lib.hid (by have h1 := HY.out; have h2 := HNX.out; omega), Lib.hid (HK2.out.set HS2.out.1 HS2.out.2.1 HU2.out (Kd.ofStr (mtext_size q (by have h := HTOP.out; omega))))⟩
      case measure => simp [intOf]; omega
    · obtain rfl : j = n := by omega
      have HE : Hid (y ≤ k + ((xs.map Ek.mStr.nw).sum : Nat)) := Lib.hid (by have h := HY.out; rw [nwt_all HLEN.out] at h; exact h)
      go_wp2_with fail
      go_ret
      exact ⟨y, rfl, hky, HE.out, HK.out⟩
end Go.Proofs.YtpjckbdljbpliaaGreat.MdStr

namespace Go.Proofs.YtpjckbdljbpliaaGreat.MdI
open Go.ChangeShapes Go.WideShapes Go.ChangeAt Go.RowKit Sl St Ed Ek
set_option maxRecDepth 100000 in
set_option maxHeartbeats 8000000 in
theorem markS_any (lo hi : Nat) (p : Option Addr) (n c : Nat) (xs : List Int) (k : Int) (w : World) (hr : RRd int lo hi w p n xs) (hk : 1 ≤ k) (hm : k + ((xs.map Ek.mInt.nw).sum : Nat) ≤ 1000000000) : Calls Tryz.prog 16 #[.slice p n c, .int .i64 k] w (MkD lo hi k (xs.map Ek.mInt.nw).sum w) := by
  have HR := Lib.hid hr
  have hle := hr.le
  have HM := Lib.hid hm
  have HLEN := Lib.hid hr.len
  clear hr hm
  go_enter Tryz.func16, Tryz.ntmps16
  go_wp2_with fail
  go_loopw [1, 5] (fun x i wr => ∃ (j : Nat) (y : Int), j ≤ n ∧ i = .int .i64 j ∧ x = .int .i64 y ∧ k ≤ y ∧ Hid (y ≤ k + (nwt Ek.mInt xs j : Nat)) ∧ Hid (Mk lo hi w wr)) (fun _ i _ => n - (intOf i).toNat)
  case atStart => exact ⟨0, k, Nat.zero_le _, rfl, rfl, Int.le_refl _, Lib.hid (by rw [nwt_zero]; omega), Lib.hid (Mk.refl _ _ _)⟩
  case round =>
    obtain ⟨j, y, hj, rfl, rfl, hky, HY, HK⟩ := hrel
    by_cases hlt : j < n
    · obtain ⟨xs', hr', he⟩ := RRd.mk Ek.mInt HR.out HK.out
      obtain ⟨b, o, x, cs, rfl, hS, hbw, hx, hc, hrd⟩ := RdD.at_ hr' hlt
      obtain ⟨rfl, hin⟩ := hrd
      have hnw : Ek.mInt.nw x = 1 := rfl
      have hnx := nwt_next (M := Ek.mInt) he hx
      rw [hnw] at hnx
      have hal := nwt_le (M := Ek.mInt) (xs := xs) (j + 1)
      have HNX : Hid (nwt Ek.mInt xs (j + 1) = nwt Ek.mInt xs j + 1) := Lib.hid hnx
      have HTOP : Hid (y + (1 : Nat) ≤ 1000000000) := Lib.hid (by have h1 := HY.out; have h2 := HM.out; omega)
      have HU0 : Hid (wr.cell? ⟨b, o + j, none⟩ = some (.int .i64 x)) := Lib.hid (by have h := hc 0 _ rfl; rw [show o + j * (int).C + 0 = o + j from by show o + j * 1 + 0 = _; omega] at h; exact h)
      have HS := Lib.hid hS
      have HBW := Lib.hid hbw
      clear hnw hnx hal hc hx he hS hbw hin
      have i1 : (0 : Int) ≤ (j : Int) := by omega
      have i2 : (j : Int) < (n : Int) := by omega
      have u0 := HU0.out
      have f0 : wr.frozen? ⟨b, o + j, none⟩ = false := HS.out.2.2 _
      have hq : 0 ≤ y := by omega
      have hq2 : y + 1 ≤ 9223372036854775000 := by have h0 := HTOP.out; omega
      go_wp2_with fail
      go_roundw
      case rel => exact ⟨j + 1, y + 1, by omega, by go_num, rfl, by omega, Lib.hid (by have h1 := HY.out; have h2 := HNX.out; omega), Lib.hid (HK.out.set HS.out.1 HS.out.2.1 HU0.out (Kd.ofInt (by unfold Ed.InI; have h := HTOP.out; omega)))⟩
      case measure => simp [intOf]; omega
    · obtain rfl : j = n := by omega
      have HE : Hid (y ≤ k + ((xs.map Ek.mInt.nw).sum : Nat)) := Lib.hid (by have h := HY.out; rw [nwt_all HLEN.out] at h; exact h)
      go_wp2_with fail
      go_ret
      exact ⟨y, rfl, hky, HE.out, HK.out⟩
end Go.Proofs.YtpjckbdljbpliaaGreat.MdI

namespace Go.Proofs.YtpjckbdljbpliaaGreat.MdDocument
open Go.ChangeShapes Go.WideShapes Go.ChangeAt Go.RowKit Sl St Ed Ek
def M : Ek.MkE DpDocument.E := (Ek.mPair Ek.mInt (Ek.mPair (Ek.mSl Ek.mStr (by show 1 ≤ 16; omega)) (Ek.mSl Ek.mInt (by show 1 ≤ 16; omega))))
end Go.Proofs.YtpjckbdljbpliaaGreat.MdDocument

namespace Go.Proofs.YtpjckbdljbpliaaGreat.MdSignature
open Go.ChangeShapes Go.WideShapes Go.ChangeAt Go.RowKit Sl St Ed Ek
theorem pres (x : (Int × Int × Int × Int × Int × Int × Int × Int × Int)) (cs' : List Value) (hx : SlSignature.InR x) (k : Ek.PwK (SlSignature.E.of x) cs') : ∃ x', cs' = SlSignature.E.of x' ∧ SlSignature.InR x' := by
  obtain ⟨x0, x1, x2, x3, x4, x5, x6, x7, x8⟩ := x
  obtain ⟨b0, b1, b2, b3, b4, b5, b6, b7, b8⟩ := hx
  obtain ⟨hl, hk⟩ := k
  match cs', hl with
  | [v0, v1, v2, v3, v4, v5, v6, v7, v8], _ =>
    obtain ⟨y0, rfl, h0⟩ := (hk 0 (.int .i64 x0) v0 rfl rfl).int b0
    obtain ⟨y1, rfl, h1⟩ := (hk 1 (.int .i64 x1) v1 rfl rfl).int b1
    obtain ⟨y2, rfl, h2⟩ := (hk 2 (.int .i64 x2) v2 rfl rfl).int b2
    obtain ⟨y3, rfl, h3⟩ := (hk 3 (.int .i64 x3) v3 rfl rfl).int b3
    obtain ⟨y4, rfl, h4⟩ := (hk 4 (.int .i64 x4) v4 rfl rfl).int b4
    obtain ⟨y5, rfl, h5⟩ := (hk 5 (.int .i64 x5) v5 rfl rfl).int b5
    obtain ⟨y6, rfl, h6⟩ := (hk 6 (.int .i64 x6) v6 rfl rfl).int b6
    obtain ⟨y7, rfl, h7⟩ := (hk 7 (.int .i64 x7) v7 rfl rfl).int b7
    obtain ⟨y8, rfl, h8⟩ := (hk 8 (.int .i64 x8) v8 rfl rfl).int b8
    exact ⟨(y0, y1, y2, y3, y4, y5, y6, y7, y8), rfl, ⟨h0, h1, h2, h3, h4, h5, h6, h7, h8⟩⟩
def M : Ek.MkE (flat SlSignature.E SlSignature.InR) := Ek.mFlat pres
end Go.Proofs.YtpjckbdljbpliaaGreat.MdSignature

namespace Go.Proofs.YtpjckbdljbpliaaGreat.MdPiece
open Go.ChangeShapes Go.WideShapes Go.ChangeAt Go.RowKit Sl St Ed Ek
def M : Ek.MkE DpPiece.E := (Ek.mPair Ek.mInt (Ek.mPair (Ek.mSl Ek.mInt (by show 1 ≤ 16; omega)) Ek.mInt))
set_option maxRecDepth 100000 in
set_option maxHeartbeats 8000000 in
theorem markS_any (lo hi : Nat) (p : Option Addr) (n c : Nat) (xs : List DpPiece.A) (k : Int) (w : World) (hr : RRd DpPiece.E lo hi w p n xs) (hk : 1 ≤ k) (hm : k + ((xs.map M.nw).sum : Nat) ≤ 1000000000) : Calls Tryz.prog 68 #[.slice p n c, .int .i64 k] w (MkD lo hi k (xs.map M.nw).sum w) := by
  have HR := Lib.hid hr
  have hle := hr.le
  have HM := Lib.hid hm
  have HLEN := Lib.hid hr.len
  clear hr hm
  go_enter Tryz.func68, Tryz.ntmps68
  go_wp2_with fail
  go_loopw [1, 5] (fun x i wr => ∃ (j : Nat) (y : Int), j ≤ n ∧ i = .int .i64 j ∧ x = .int .i64 y ∧ k ≤ y ∧ Hid (y ≤ k + (nwt M xs j : Nat)) ∧ Hid (Mk lo hi w wr)) (fun _ i _ => n - (intOf i).toNat)
  case atStart => exact ⟨0, k, Nat.zero_le _, rfl, rfl, Int.le_refl _, Lib.hid (by rw [nwt_zero]; omega), Lib.hid (Mk.refl _ _ _)⟩
  case round =>
    obtain ⟨j, y, hj, rfl, rfl, hky, HY, HK⟩ := hrel
    by_cases hlt : j < n
    · obtain ⟨xs', hr', he⟩ := RRd.mk M HR.out HK.out
      obtain ⟨b, o, x, cs, rfl, hS, hbw, hx, hc, hrd⟩ := RdD.at_ hr' hlt
      obtain ⟨x0, l1, x2⟩ := x
      obtain ⟨p1, n1, c1, rfl, b0, h1, b2⟩ := DpPiece.ex hrd
      have hnw : M.nw (x0, l1, x2) = (1 + ((l1.map Ek.mInt.nw).sum + (1))) := rfl
      have hnx := nwt_next (M := M) he hx
      rw [hnw] at hnx
      have hal := nwt_le (M := M) (xs := xs) (j + 1)
      have HNX : Hid (nwt M xs (j + 1) = nwt M xs j + (1 + ((l1.map Ek.mInt.nw).sum + (1)))) := Lib.hid hnx
      have HTOP : Hid (y + ((1 + ((l1.map Ek.mInt.nw).sum + (1))) : Nat) ≤ 1000000000) := Lib.hid (by have h1 := HY.out; have h2 := HM.out; omega)
      have HU0 : Hid (wr.cell? ⟨b, o + j * 3, none⟩ = some (.int .i64 x0)) := Lib.hid (hc 0 _ rfl)
      have HU1 : Hid (wr.cell? ⟨b, o + j * 3 + 1, none⟩ = some (.slice p1 n1 c1)) := Lib.hid (hc 1 _ rfl)
      have HU2 : Hid (wr.cell? ⟨b, o + j * 3 + 2, none⟩ = some (.int .i64 x2)) := Lib.hid (hc 2 _ rfl)
      have Gb0 := Lib.hid b0
      have Gh1 := Lib.hid h1
      have Gb2 := Lib.hid b2
      have HS := Lib.hid hS
      have HBW := Lib.hid hbw
      clear hnw hnx hal hc hx he hS hbw hrd b0 h1 b2
      have i1 : (0 : Int) ≤ (j : Int) := by omega
      have i2 : (j : Int) < (n : Int) := by omega
      have u0 := HU0.out
      have f0 : wr.frozen? ⟨b, o + j * 3, none⟩ = false := HS.out.2.2 _
      have u1 := HU1.out
      have hq : 0 ≤ y := by omega
      have hq2 : y + 1 ≤ 9223372036854775000 := by have h0 := HTOP.out; omega
      have HW : Hid (Mk lo hi w (wr.setCell ⟨b, o + j * 3, none⟩ (.int .i64 y))) := Lib.hid (HK.out.set HS.out.1 HS.out.2.1 HU0.out (Kd.ofInt (by unfold Ed.InI; have h := HTOP.out; omega)))
      have HWb : Hid (Mk lo hi wr (wr.setCell ⟨b, o + j * 3, none⟩ (.int .i64 y))) := Lib.hid ((Mk.refl lo hi wr).set HS.out.1 HS.out.2.1 HU0.out (Kd.ofInt (by unfold Ed.InI; have h := HTOP.out; omega)))
      obtain ⟨la, ha, hea⟩ := RRd.mk Ek.mInt (show RRd int lo hi wr p1 n1 l1 from Gh1.out) HWb.out
      have HA := Lib.hid ha
      have HSM : Hid ((la.map Ek.mInt.nw).sum = (l1.map Ek.mInt.nw).sum) := Lib.hid (by rw [hea])
      clear ha hea
      go_wp2_with fail
      refine (MdI.markS_any lo hi _ _ _ la (y + 1) _ HA.out (by omega) (by rw [HSM.out]; have h0 := HTOP.out; omega)).mono ?_
      rintro e w2 ⟨y2, rfl, hy1, hy2, hm⟩
      rw [HSM.out] at hy2
      have HB2 : Hid (y2 ≤ y + 1 + ((l1.map Ek.mInt.nw).sum : Nat)) := Lib.hid hy2
      have HK2 := Lib.hid (HW.out.trans hm)
      have HMb := Lib.hid (HWb.out.trans hm)
      clear u0 f0 hq hq2 u1
      clear HW HWb HA HSM hm hy2
      obtain ⟨v_, e_, kd_⟩ := HMb.out.cell b _ _ HBW.out HU2.out
      obtain ⟨z2_2, rfl, hz_⟩ := kd_.int Gb2.out
      have HZ2 := Lib.hid hz_
      replace HU2 := Lib.hid e_
      clear e_ kd_ hz_
      replace HS := Lib.hid (HS.out.mk HBW.out HMb.out)
      replace HBW := Lib.hid (Nat.lt_of_lt_of_le HBW.out HMb.out.size)
      clear HMb
      have u2 := HU2.out
      have f2 : w2.frozen? ⟨b, o + j * 3 + 2, none⟩ = false := HS.out.2.2 _
      have hq : 0 ≤ y2 := by omega
      have hq2 : y2 + 1 ≤ 9223372036854775000 := by have h0 := HTOP.out; have g2 := HB2.out; omega
      go_wp2_with fail
      go_roundw
      case rel => exact ⟨j + 1, y2 + 1, by omega, by go_num, rfl, by omega, Lib.hid (by have h1 := HY.out; have h2 := HNX.out; have g2 := HB2.out; omega), Lib.hid (HK2.out.set HS.out.1 HS.out.2.1 HU2.out (Kd.ofInt (by unfold Ed.InI; have h := HTOP.out; have g2 := HB2.out; omega)))⟩
      case measure => simp [intOf]; omega
    · obtain rfl : j = n := by omega
      have HE : Hid (y ≤ k + ((xs.map M.nw).sum : Nat)) := Lib.hid (by have h := HY.out; rw [nwt_all HLEN.out] at h; exact h)
      go_wp2_with fail
      go_ret
      exact ⟨y, rfl, hky, HE.out, HK.out⟩
end Go.Proofs.YtpjckbdljbpliaaGreat.MdPiece

namespace Go.Proofs.YtpjckbdljbpliaaGreat.MdStep
open Go.ChangeShapes Go.WideShapes Go.ChangeAt Go.RowKit Sl St Ed Ek
theorem pres (x : (Int × Bool)) (cs' : List Value) (hx : SlStep.InR x) (k : Ek.PwK (SlStep.E.of x) cs') : ∃ x', cs' = SlStep.E.of x' ∧ SlStep.InR x' := by
  obtain ⟨x0, x1⟩ := x
  have b0 : Ed.InI x0 := hx
  obtain ⟨hl, hk⟩ := k
  match cs', hl with
  | [v0, v1], _ =>
    obtain ⟨y0, rfl, h0⟩ := (hk 0 (.int .i64 x0) v0 rfl rfl).int b0
    obtain ⟨y1, rfl⟩ := (hk 1 (.bool x1) v1 rfl rfl).bool
    exact ⟨(y0, y1), rfl, h0⟩
def M : Ek.MkE (flat SlStep.E SlStep.InR) := Ek.mFlat pres
set_option maxRecDepth 100000 in
set_option maxHeartbeats 8000000 in
theorem markS_any (lo hi : Nat) (p : Option Addr) (n c : Nat) (xs : List (Int × Bool)) (k : Int) (w : World) (hr : RRd (flat SlStep.E SlStep.InR) lo hi w p n xs) (hk : 1 ≤ k) (hm : k + ((xs.map M.nw).sum : Nat) ≤ 1000000000) : Calls Tryz.prog 89 #[.slice p n c, .int .i64 k] w (MkD lo hi k (xs.map M.nw).sum w) := by
  have HR := Lib.hid hr
  have hle := hr.le
  have HM := Lib.hid hm
  have HLEN := Lib.hid hr.len
  clear hr hm
  go_enter Tryz.func89, Tryz.ntmps89
  go_wp2_with fail
  go_loopw [1, 5] (fun x i wr => ∃ (j : Nat) (y : Int), j ≤ n ∧ i = .int .i64 j ∧ x = .int .i64 y ∧ k ≤ y ∧ Hid (y ≤ k + (nwt M xs j : Nat)) ∧ Hid (Mk lo hi w wr)) (fun _ i _ => n - (intOf i).toNat)
  case atStart => exact ⟨0, k, Nat.zero_le _, rfl, rfl, Int.le_refl _, Lib.hid (by rw [nwt_zero]; omega), Lib.hid (Mk.refl _ _ _)⟩
  case round =>
    obtain ⟨j, y, hj, rfl, rfl, hky, HY, HK⟩ := hrel
    by_cases hlt : j < n
    · obtain ⟨xs', hr', he⟩ := RRd.mk M HR.out HK.out
      obtain ⟨b, o, x, cs, rfl, hS, hbw, hx, hc, hrd⟩ := RdD.at_ hr' hlt
      obtain ⟨x0, x1⟩ := x
      obtain ⟨rfl, hin⟩ := hrd
      have hnw : M.nw (x0, x1) = 2 := rfl
      have hnx := nwt_next (M := M) he hx
      rw [hnw] at hnx
      have hal := nwt_le (M := M) (xs := xs) (j + 1)
      have HNX : Hid (nwt M xs (j + 1) = nwt M xs j + 2) := Lib.hid hnx
      have HTOP : Hid (y + (2 : Nat) ≤ 1000000000) := Lib.hid (by have h1 := HY.out; have h2 := HM.out; omega)
      have HU0 : Hid (wr.cell? ⟨b, o + j * 2, none⟩ = some (.int .i64 x0)) := Lib.hid (hc 0 _ rfl)
      have HU1 : Hid (wr.cell? ⟨b, o + j * 2 + 1, none⟩ = some (.bool x1)) := Lib.hid (hc 1 _ rfl)
      have HS := Lib.hid hS
      have HBW := Lib.hid hbw
      clear hnw hnx hal hc hx he hS hbw hin
      have i1 : (0 : Int) ≤ (j : Int) := by omega
      have i2 : (j : Int) < (n : Int) := by omega
      have u0 := HU0.out
      have f0 : wr.frozen? ⟨b, o + j * 2, none⟩ = false := HS.out.2.2 _
      have u1 := HU1.out
      have f1 : wr.frozen? ⟨b, o + j * 2 + 1, none⟩ = false := HS.out.2.2 _
      have hq : 0 ≤ y := by omega
      have hq2 : y + 2 ≤ 9223372036854775000 := by have h0 := HTOP.out; omega
      go_wp2_with fail
      go_roundw
      case rel => exact ⟨j + 1, y + 1 + 1, by omega, by go_num, rfl, by omega, Lib.hid (by have h1 := HY.out; have h2 := HNX.out; omega), Lib.hid ((HK.out.set HS.out.1 HS.out.2.1 HU0.out (Kd.ofInt (by unfold Ed.InI; have h := HTOP.out; omega))).set HS.out.1 HS.out.2.1 (cell_far HU1.out (by omega)) Kd.ofBool)⟩
      case measure => simp [intOf]; omega
    · obtain rfl : j = n := by omega
      have HE : Hid (y ≤ k + ((xs.map M.nw).sum : Nat)) := Lib.hid (by have h := HY.out; rw [nwt_all HLEN.out] at h; exact h)
      go_wp2_with fail
      go_ret
      exact ⟨y, rfl, hky, HE.out, HK.out⟩
end Go.Proofs.YtpjckbdljbpliaaGreat.MdStep

namespace Go.Proofs.YtpjckbdljbpliaaGreat.MdStamp
open Go.ChangeShapes Go.WideShapes Go.ChangeAt Go.RowKit Sl St Ed Ek
theorem pres (x : (Int × Int × Int × Int × Int)) (cs' : List Value) (hx : SlStamp.InR x) (k : Ek.PwK (SlStamp.E.of x) cs') : ∃ x', cs' = SlStamp.E.of x' ∧ SlStamp.InR x' := by
  obtain ⟨x0, x1, x2, x3, x4⟩ := x
  obtain ⟨b0, b1, b2, b3, b4⟩ := hx
  obtain ⟨hl, hk⟩ := k
  match cs', hl with
  | [v0, v1, v2, v3, v4], _ =>
    obtain ⟨y0, rfl, h0⟩ := (hk 0 (.int .i64 x0) v0 rfl rfl).int b0
    obtain ⟨y1, rfl, h1⟩ := (hk 1 (.int .i64 x1) v1 rfl rfl).int b1
    obtain ⟨y2, rfl, h2⟩ := (hk 2 (.int .i64 x2) v2 rfl rfl).int b2
    obtain ⟨y3, rfl, h3⟩ := (hk 3 (.int .i64 x3) v3 rfl rfl).int b3
    obtain ⟨y4, rfl, h4⟩ := (hk 4 (.int .i64 x4) v4 rfl rfl).int b4
    exact ⟨(y0, y1, y2, y3, y4), rfl, ⟨h0, h1, h2, h3, h4⟩⟩
def M : Ek.MkE (flat SlStamp.E SlStamp.InR) := Ek.mFlat pres
set_option maxRecDepth 100000 in
set_option maxHeartbeats 8000000 in
theorem markS_any (lo hi : Nat) (p : Option Addr) (n c : Nat) (xs : List (Int × Int × Int × Int × Int)) (k : Int) (w : World) (hr : RRd (flat SlStamp.E SlStamp.InR) lo hi w p n xs) (hk : 1 ≤ k) (hm : k + ((xs.map M.nw).sum : Nat) ≤ 1000000000) : Calls Tryz.prog 90 #[.slice p n c, .int .i64 k] w (MkD lo hi k (xs.map M.nw).sum w) := by
  have HR := Lib.hid hr
  have hle := hr.le
  have HM := Lib.hid hm
  have HLEN := Lib.hid hr.len
  clear hr hm
  go_enter Tryz.func90, Tryz.ntmps90
  go_wp2_with fail
  go_loopw [1, 5] (fun x i wr => ∃ (j : Nat) (y : Int), j ≤ n ∧ i = .int .i64 j ∧ x = .int .i64 y ∧ k ≤ y ∧ Hid (y ≤ k + (nwt M xs j : Nat)) ∧ Hid (Mk lo hi w wr)) (fun _ i _ => n - (intOf i).toNat)
  case atStart => exact ⟨0, k, Nat.zero_le _, rfl, rfl, Int.le_refl _, Lib.hid (by rw [nwt_zero]; omega), Lib.hid (Mk.refl _ _ _)⟩
  case round =>
    obtain ⟨j, y, hj, rfl, rfl, hky, HY, HK⟩ := hrel
    by_cases hlt : j < n
    · obtain ⟨xs', hr', he⟩ := RRd.mk M HR.out HK.out
      obtain ⟨b, o, x, cs, rfl, hS, hbw, hx, hc, hrd⟩ := RdD.at_ hr' hlt
      obtain ⟨x0, x1, x2, x3, x4⟩ := x
      obtain ⟨rfl, hin⟩ := hrd
      have hnw : M.nw (x0, x1, x2, x3, x4) = 5 := rfl
      have hnx := nwt_next (M := M) he hx
      rw [hnw] at hnx
      have hal := nwt_le (M := M) (xs := xs) (j + 1)
      have HNX : Hid (nwt M xs (j + 1) = nwt M xs j + 5) := Lib.hid hnx
      have HTOP : Hid (y + (5 : Nat) ≤ 1000000000) := Lib.hid (by have h1 := HY.out; have h2 := HM.out; omega)
      have HU0 : Hid (wr.cell? ⟨b, o + j * 5, none⟩ = some (.int .i64 x0)) := Lib.hid (hc 0 _ rfl)
      have HU1 : Hid (wr.cell? ⟨b, o + j * 5 + 1, none⟩ = some (.int .i64 x1)) := Lib.hid (hc 1 _ rfl)
      have HU2 : Hid (wr.cell? ⟨b, o + j * 5 + 2, none⟩ = some (.int .i64 x2)) := Lib.hid (hc 2 _ rfl)
      have HU3 : Hid (wr.cell? ⟨b, o + j * 5 + 3, none⟩ = some (.int .i64 x3)) := Lib.hid (hc 3 _ rfl)
      have HU4 : Hid (wr.cell? ⟨b, o + j * 5 + 4, none⟩ = some (.int .i64 x4)) := Lib.hid (hc 4 _ rfl)
      have HS := Lib.hid hS
      have HBW := Lib.hid hbw
      clear hnw hnx hal hc hx he hS hbw hin
      have i1 : (0 : Int) ≤ (j : Int) := by omega
      have i2 : (j : Int) < (n : Int) := by omega
      have u0 := HU0.out
      have f0 : wr.frozen? ⟨b, o + j * 5, none⟩ = false := HS.out.2.2 _
      have u1 := HU1.out
      have f1 : wr.frozen? ⟨b, o + j * 5 + 1, none⟩ = false := HS.out.2.2 _
      have u2 := HU2.out
      have f2 : wr.frozen? ⟨b, o + j * 5 + 2, none⟩ = false := HS.out.2.2 _
      have u3 := HU3.out
      have f3 : wr.frozen? ⟨b, o + j * 5 + 3, none⟩ = false := HS.out.2.2 _
      have u4 := HU4.out
      have f4 : wr.frozen? ⟨b, o + j * 5 + 4, none⟩ = false := HS.out.2.2 _
      have hq : 0 ≤ y := by omega
      have hq2 : y + 5 ≤ 9223372036854775000 := by have h0 := HTOP.out; omega
      go_wp2_with fail
      go_roundw
      case rel => exact ⟨j + 1, y + 1 + 1 + 1 + 1 + 1, by omega, by go_num, rfl, by omega, Lib.hid (by have h1 := HY.out; have h2 := HNX.out; omega), Lib.hid (((((HK.out.set HS.out.1 HS.out.2.1 HU0.out (Kd.ofInt (by unfold Ed.InI; have h := HTOP.out; omega))).set HS.out.1 HS.out.2.1 (cell_far HU1.out (by omega)) (Kd.ofInt (by unfold Ed.InI; have h := HTOP.out; omega))).set HS.out.1 HS.out.2.1 (cell_far (cell_far HU2.out (by omega)) (by omega)) (Kd.ofInt (by unfold Ed.InI; have h := HTOP.out; omega))).set HS.out.1 HS.out.2.1 (cell_far (cell_far (cell_far HU3.out (by omega)) (by omega)) (by omega)) (Kd.ofInt (by unfold Ed.InI; have h := HTOP.out; omega))).set HS.out.1 HS.out.2.1 (cell_far (cell_far (cell_far (cell_far HU4.out (by omega)) (by omega)) (by omega)) (by omega)) (Kd.ofInt (by unfold Ed.InI; have h := HTOP.out; omega)))⟩
      case measure => simp [intOf]; omega
    · obtain rfl : j = n := by omega
      have HE : Hid (y ≤ k + ((xs.map M.nw).sum : Nat)) := Lib.hid (by have h := HY.out; rw [nwt_all HLEN.out] at h; exact h)
      go_wp2_with fail
      go_ret
      exact ⟨y, rfl, hky, HE.out, HK.out⟩
end Go.Proofs.YtpjckbdljbpliaaGreat.MdStamp

namespace Go.Proofs.YtpjckbdljbpliaaGreat.MdRenewal
open Go.ChangeShapes Go.WideShapes Go.ChangeAt Go.RowKit Sl St Ed Ek
def M : Ek.MkE DpRenewal.E := (Ek.mPair Ek.mInt (Ek.mPair Ek.mInt (Ek.mPair Ek.mInt (Ek.mPair (Ek.mSl MdStep.M (by show 2 ≤ 16; omega)) (Ek.mSl MdStamp.M (by show 5 ≤ 16; omega))))))
set_option maxRecDepth 100000 in
set_option maxHeartbeats 8000000 in
theorem markS_any (lo hi : Nat) (p : Option Addr) (n c : Nat) (xs : List DpRenewal.A) (k : Int) (w : World) (hr : RRd DpRenewal.E lo hi w p n xs) (hk : 1 ≤ k) (hm : k + ((xs.map M.nw).sum : Nat) ≤ 1000000000) : Calls Tryz.prog 69 #[.slice p n c, .int .i64 k] w (MkD lo hi k (xs.map M.nw).sum w) := by
  have HR := Lib.hid hr
  have hle := hr.le
  have HM := Lib.hid hm
  have HLEN := Lib.hid hr.len
  clear hr hm
  go_enter Tryz.func69, Tryz.ntmps69
  go_wp2_with fail
  go_loopw [1, 5] (fun x i wr => ∃ (j : Nat) (y : Int), j ≤ n ∧ i = .int .i64 j ∧ x = .int .i64 y ∧ k ≤ y ∧ Hid (y ≤ k + (nwt M xs j : Nat)) ∧ Hid (Mk lo hi w wr)) (fun _ i _ => n - (intOf i).toNat)
  case atStart => exact ⟨0, k, Nat.zero_le _, rfl, rfl, Int.le_refl _, Lib.hid (by rw [nwt_zero]; omega), Lib.hid (Mk.refl _ _ _)⟩
  case round =>
    obtain ⟨j, y, hj, rfl, rfl, hky, HY, HK⟩ := hrel
    by_cases hlt : j < n
    · obtain ⟨xs', hr', he⟩ := RRd.mk M HR.out HK.out
      obtain ⟨b, o, x, cs, rfl, hS, hbw, hx, hc, hrd⟩ := RdD.at_ hr' hlt
      obtain ⟨x0, x1, x2, l3, l4⟩ := x
      obtain ⟨p3, n3, c3, p4, n4, c4, rfl, b0, b1, b2, h3, h4⟩ := DpRenewal.ex hrd
      have hnw : M.nw (x0, x1, x2, l3, l4) = (1 + (1 + (1 + ((l3.map MdStep.M.nw).sum + ((l4.map MdStamp.M.nw).sum))))) := rfl
      have hnx := nwt_next (M := M) he hx
      rw [hnw] at hnx
      have hal := nwt_le (M := M) (xs := xs) (j + 1)
      have HNX : Hid (nwt M xs (j + 1) = nwt M xs j + (1 + (1 + (1 + ((l3.map MdStep.M.nw).sum + ((l4.map MdStamp.M.nw).sum)))))) := Lib.hid hnx
      have HTOP : Hid (y + ((1 + (1 + (1 + ((l3.map MdStep.M.nw).sum + ((l4.map MdStamp.M.nw).sum))))) : Nat) ≤ 1000000000) := Lib.hid (by have h1 := HY.out; have h2 := HM.out; omega)
      have HU0 : Hid (wr.cell? ⟨b, o + j * 5, none⟩ = some (.int .i64 x0)) := Lib.hid (hc 0 _ rfl)
      have HU1 : Hid (wr.cell? ⟨b, o + j * 5 + 1, none⟩ = some (.int .i64 x1)) := Lib.hid (hc 1 _ rfl)
      have HU2 : Hid (wr.cell? ⟨b, o + j * 5 + 2, none⟩ = some (.int .i64 x2)) := Lib.hid (hc 2 _ rfl)
      have HU3 : Hid (wr.cell? ⟨b, o + j * 5 + 3, none⟩ = some (.slice p3 n3 c3)) := Lib.hid (hc 3 _ rfl)
      have HU4 : Hid (wr.cell? ⟨b, o + j * 5 + 4, none⟩ = some (.slice p4 n4 c4)) := Lib.hid (hc 4 _ rfl)
      have Gb0 := Lib.hid b0
      have Gb1 := Lib.hid b1
      have Gb2 := Lib.hid b2
      have Gh3 := Lib.hid h3
      have Gh4 := Lib.hid h4
      have HS := Lib.hid hS
      have HBW := Lib.hid hbw
      clear hnw hnx hal hc hx he hS hbw hrd b0 b1 b2 h3 h4
      have i1 : (0 : Int) ≤ (j : Int) := by omega
      have i2 : (j : Int) < (n : Int) := by omega
      have u0 := HU0.out
      have f0 : wr.frozen? ⟨b, o + j * 5, none⟩ = false := HS.out.2.2 _
      have u1 := HU1.out
      have f1 : wr.frozen? ⟨b, o + j * 5 + 1, none⟩ = false := HS.out.2.2 _
      have u2 := HU2.out
      have f2 : wr.frozen? ⟨b, o + j * 5 + 2, none⟩ = false := HS.out.2.2 _
      have u3 := HU3.out
      have hq : 0 ≤ y := by omega
      have hq2 : y + 3 ≤ 9223372036854775000 := by have h0 := HTOP.out; omega
      have HW : Hid (Mk lo hi w (((wr.setCell ⟨b, o + j * 5, none⟩ (.int .i64 y)).setCell ⟨b, o + j * 5 + 1, none⟩ (.int .i64 (y + 1))).setCell ⟨b, o + j * 5 + 2, none⟩ (.int .i64 (y + 1 + 1)))) := Lib.hid (((HK.out.set HS.out.1 HS.out.2.1 HU0.out (Kd.ofInt (by unfold Ed.InI; have h := HTOP.out; omega))).set HS.out.1 HS.out.2.1 (cell_far HU1.out (by omega)) (Kd.ofInt (by unfold Ed.InI; have h := HTOP.out; omega))).set HS.out.1 HS.out.2.1 (cell_far (cell_far HU2.out (by omega)) (by omega)) (Kd.ofInt (by unfold Ed.InI; have h := HTOP.out; omega)))
      have HWb : Hid (Mk lo hi wr (((wr.setCell ⟨b, o + j * 5, none⟩ (.int .i64 y)).setCell ⟨b, o + j * 5 + 1, none⟩ (.int .i64 (y + 1))).setCell ⟨b, o + j * 5 + 2, none⟩ (.int .i64 (y + 1 + 1)))) := Lib.hid ((((Mk.refl lo hi wr).set HS.out.1 HS.out.2.1 HU0.out (Kd.ofInt (by unfold Ed.InI; have h := HTOP.out; omega))).set HS.out.1 HS.out.2.1 (cell_far HU1.out (by omega)) (Kd.ofInt (by unfold Ed.InI; have h := HTOP.out; omega))).set HS.out.1 HS.out.2.1 (cell_far (cell_far HU2.out (by omega)) (by omega)) (Kd.ofInt (by unfold Ed.InI; have h := HTOP.out; omega)))
      obtain ⟨la, ha, hea⟩ := RRd.mk MdStep.M (show RRd (flat SlStep.E SlStep.InR) lo hi wr p3 n3 l3 from Gh3.out) HWb.out
      have HA := Lib.hid ha
      have HSM : Hid ((la.map MdStep.M.nw).sum = (l3.map MdStep.M.nw).sum) := Lib.hid (by rw [hea])
      clear ha hea
      go_wp2_with fail
      refine (MdStep.markS_any lo hi _ _ _ la (y + 1 + 1 + 1) _ HA.out (by omega) (by rw [HSM.out]; have h0 := HTOP.out; omega)).mono ?_
      rintro e w2 ⟨y2, rfl, hy1, hy2, hm⟩
      rw [HSM.out] at hy2
      have HB2 : Hid (y2 ≤ y + 1 + 1 + 1 + ((l3.map MdStep.M.nw).sum : Nat)) := Lib.hid hy2
      have HK2 := Lib.hid (HW.out.trans hm)
      have HMb := Lib.hid (HWb.out.trans hm)
      clear u0 f0 u1 f1 u2 f2 hq hq2 u3
      clear HW HWb HA HSM hm hy2
      obtain ⟨v_, e_, kd_⟩ := HMb.out.cell b _ _ HBW.out HU4.out
      obtain rfl := kd_.slice
      replace HU4 := Lib.hid e_
      clear e_ kd_
      obtain ⟨l4_3, h_, he_⟩ := RRd.mk MdStamp.M (show RRd (flat SlStamp.E SlStamp.InR) lo hi wr p4 n4 l4 from Gh4.out) HMb.out
      have HE4 : Hid (l4_3.map MdStamp.M.nw = l4.map MdStamp.M.nw) := Lib.hid (he_)
      replace Gh4 := Lib.hid h_
      clear h_ he_
      replace HS := Lib.hid (HS.out.mk HBW.out HMb.out)
      replace HBW := Lib.hid (Nat.lt_of_lt_of_le HBW.out HMb.out.size)
      clear HMb
      have u4 := HU4.out
      have HW : Hid (Mk lo hi w w2) := Lib.hid HK2.out
      have HWb : Hid (Mk lo hi w2 w2) := Lib.hid (Mk.refl lo hi w2)
      obtain ⟨la, ha, hea⟩ := RRd.mk MdStamp.M (show RRd (flat SlStamp.E SlStamp.InR) lo hi w2 p4 n4 l4_3 from Gh4.out) HWb.out
      have HA := Lib.hid ha
      have HSM : Hid ((la.map MdStamp.M.nw).sum = (l4.map MdStamp.M.nw).sum) := Lib.hid (by rw [hea, HE4.out])
      clear ha hea
      go_wp2_with fail
      refine (MdStamp.markS_any lo hi _ _ _ la (y2) _ HA.out (by omega) (by rw [HSM.out]; have h0 := HTOP.out; have g2 := HB2.out; omega)).mono ?_
      rintro e w3 ⟨y3, rfl, hy1, hy2, hm⟩
      rw [HSM.out] at hy2
      have HB3 : Hid (y3 ≤ y2 + ((l4.map MdStamp.M.nw).sum : Nat)) := Lib.hid hy2
      have HK3 := Lib.hid (HW.out.trans hm)
      have HMb := Lib.hid (HWb.out.trans hm)
      clear u4
      clear HW HWb HA HSM hm hy2
      replace HS := Lib.hid (HS.out.mk HBW.out HMb.out)
      replace HBW := Lib.hid (Nat.lt_of_lt_of_le HBW.out HMb.out.size)
      clear HMb
      go_wp2_with fail
      go_roundw
      case rel => exact ⟨j + 1, y3, by omega, by go_num, rfl, by omega, Lib.hid (by have h1 := HY.out; have h2 := HNX.out; have g2 := HB2.out; have g3 := HB3.out; omega), Lib.hid HK3.out⟩
      case measure => simp [intOf]; omega
    · obtain rfl : j = n := by omega
      have HE : Hid (y ≤ k + ((xs.map M.nw).sum : Nat)) := Lib.hid (by have h := HY.out; rw [nwt_all HLEN.out] at h; exact h)
      go_wp2_with fail
      go_ret
      exact ⟨y, rfl, hky, HE.out, HK.out⟩
end Go.Proofs.YtpjckbdljbpliaaGreat.MdRenewal

namespace Go.Proofs.YtpjckbdljbpliaaGreat.MdStrand
open Go.ChangeShapes Go.WideShapes Go.ChangeAt Go.RowKit Sl St Ed Ek
def M : Ek.MkE DpStrand.E := (Ek.mPair (Ek.mSl MdPiece.M (by show 3 ≤ 16; omega)) (Ek.mSl MdRenewal.M (by show 5 ≤ 16; omega)))
end Go.Proofs.YtpjckbdljbpliaaGreat.MdStrand

namespace Go.Proofs.YtpjckbdljbpliaaGreat.MdItem
open Go.ChangeShapes Go.WideShapes Go.ChangeAt Go.RowKit Sl St Ed Ek
def M : Ek.MkE DpItem.E := (Ek.mPair Ek.mInt (Ek.mPair Ek.mInt (Ek.mPair MdDocument.M (Ek.mPair MdSignature.M MdStrand.M))))
set_option maxRecDepth 100000 in
set_option maxHeartbeats 8000000 in
theorem markS_any (lo hi : Nat) (p : Option Addr) (n c : Nat) (xs : List DpItem.A) (k : Int) (w : World) (hr : RRd DpItem.E lo hi w p n xs) (hk : 1 ≤ k) (hm : k + ((xs.map M.nw).sum : Nat) ≤ 1000000000) : Calls Tryz.prog 41 #[.slice p n c, .int .i64 k] w (MkD lo hi k (xs.map M.nw).sum w) := by
  have HR := Lib.hid hr
  have hle := hr.le
  have HM := Lib.hid hm
  have HLEN := Lib.hid hr.len
  clear hr hm
  go_enter Tryz.func41, Tryz.ntmps41
  go_wp2_with fail
  go_loopw [1, 5] (fun x i wr => ∃ (j : Nat) (y : Int), j ≤ n ∧ i = .int .i64 j ∧ x = .int .i64 y ∧ k ≤ y ∧ Hid (y ≤ k + (nwt M xs j : Nat)) ∧ Hid (Mk lo hi w wr)) (fun _ i _ => n - (intOf i).toNat)
  case atStart => exact ⟨0, k, Nat.zero_le _, rfl, rfl, Int.le_refl _, Lib.hid (by rw [nwt_zero]; omega), Lib.hid (Mk.refl _ _ _)⟩
  case round =>
    obtain ⟨j, y, hj, rfl, rfl, hky, HY, HK⟩ := hrel
    by_cases hlt : j < n
    · obtain ⟨xs', hr', he⟩ := RRd.mk M HR.out HK.out
      obtain ⟨b, o, x, cs, rfl, hS, hbw, hx, hc, hrd⟩ := RdD.at_ hr' hlt
      obtain ⟨x0, x1, ⟨x2, l3, l4⟩, ⟨x5, x6, x7, x8, x9, x10, x11, x12, x13⟩, ⟨l14, l15⟩⟩ := x
      obtain ⟨p3, n3, c3, p4, n4, c4, p14, n14, c14, p15, n15, c15, rfl, b0, b1, b2, h3, h4, b5, h14, h15⟩ := DpItem.ex hrd
      have hnw : M.nw (x0, x1, (x2, l3, l4), (x5, x6, x7, x8, x9, x10, x11, x12, x13), (l14, l15)) = (1 + (1 + ((1 + ((l3.map Ek.mStr.nw).sum + ((l4.map Ek.mInt.nw).sum))) + (9 + (((l14.map MdPiece.M.nw).sum + ((l15.map MdRenewal.M.nw).sum))))))) := rfl
      have hnx := nwt_next (M := M) he hx
      rw [hnw] at hnx
      have hal := nwt_le (M := M) (xs := xs) (j + 1)
      have HNX : Hid (nwt M xs (j + 1) = nwt M xs j + (1 + (1 + ((1 + ((l3.map Ek.mStr.nw).sum + ((l4.map Ek.mInt.nw).sum))) + (9 + (((l14.map MdPiece.M.nw).sum + ((l15.map MdRenewal.M.nw).sum)))))))) := Lib.hid hnx
      have HTOP : Hid (y + ((1 + (1 + ((1 + ((l3.map Ek.mStr.nw).sum + ((l4.map Ek.mInt.nw).sum))) + (9 + (((l14.map MdPiece.M.nw).sum + ((l15.map MdRenewal.M.nw).sum))))))) : Nat) ≤ 1000000000) := Lib.hid (by have h1 := HY.out; have h2 := HM.out; omega)
      have HU0 : Hid (wr.cell? ⟨b, o + j * 16, none⟩ = some (.int .i64 x0)) := Lib.hid (hc 0 _ rfl)
      have HU1 : Hid (wr.cell? ⟨b, o + j * 16 + 1, none⟩ = some (.int .i64 x1)) := Lib.hid (hc 1 _ rfl)
      have HU2 : Hid (wr.cell? ⟨b, o + j * 16 + 2, none⟩ = some (.int .i64 x2)) := Lib.hid (hc 2 _ rfl)
      have HU3 : Hid (wr.cell? ⟨b, o + j * 16 + 3, none⟩ = some (.slice p3 n3 c3)) := Lib.hid (hc 3 _ rfl)
      have HU4 : Hid (wr.cell? ⟨b, o + j * 16 + 4, none⟩ = some (.slice p4 n4 c4)) := Lib.hid (hc 4 _ rfl)
      have HU5 : Hid (wr.cell? ⟨b, o + j * 16 + 5, none⟩ = some (.int .i64 x5)) := Lib.hid (hc 5 _ rfl)
      have HU6 : Hid (wr.cell? ⟨b, o + j * 16 + 6, none⟩ = some (.int .i64 x6)) := Lib.hid (hc 6 _ rfl)
      have HU7 : Hid (wr.cell? ⟨b, o + j * 16 + 7, none⟩ = some (.int .i64 x7)) := Lib.hid (hc 7 _ rfl)
      have HU8 : Hid (wr.cell? ⟨b, o + j * 16 + 8, none⟩ = some (.int .i64 x8)) := Lib.hid (hc 8 _ rfl)
      have HU9 : Hid (wr.cell? ⟨b, o + j * 16 + 9, none⟩ = some (.int .i64 x9)) := Lib.hid (hc 9 _ rfl)
      have HU10 : Hid (wr.cell? ⟨b, o + j * 16 + 10, none⟩ = some (.int .i64 x10)) := Lib.hid (hc 10 _ rfl)
      have HU11 : Hid (wr.cell? ⟨b, o + j * 16 + 11, none⟩ = some (.int .i64 x11)) := Lib.hid (hc 11 _ rfl)
      have HU12 : Hid (wr.cell? ⟨b, o + j * 16 + 12, none⟩ = some (.int .i64 x12)) := Lib.hid (hc 12 _ rfl)
      have HU13 : Hid (wr.cell? ⟨b, o + j * 16 + 13, none⟩ = some (.int .i64 x13)) := Lib.hid (hc 13 _ rfl)
      have HU14 : Hid (wr.cell? ⟨b, o + j * 16 + 14, none⟩ = some (.slice p14 n14 c14)) := Lib.hid (hc 14 _ rfl)
      have HU15 : Hid (wr.cell? ⟨b, o + j * 16 + 15, none⟩ = some (.slice p15 n15 c15)) := Lib.hid (hc 15 _ rfl)
      have Gb0 := Lib.hid b0
      have Gb1 := Lib.hid b1
      have Gb2 := Lib.hid b2
      have Gh3 := Lib.hid h3
      have Gh4 := Lib.hid h4
      have Gb5 := Lib.hid b5
      have Gh14 := Lib.hid h14
      have Gh15 := Lib.hid h15
      have HS := Lib.hid hS
      have HBW := Lib.hid hbw
      clear hnw hnx hal hc hx he hS hbw hrd b0 b1 b2 h3 h4 b5 h14 h15
      have i1 : (0 : Int) ≤ (j : Int) := by omega
      have i2 : (j : Int) < (n : Int) := by omega
      have u0 := HU0.out
      have f0 : wr.frozen? ⟨b, o + j * 16, none⟩ = false := HS.out.2.2 _
      have u1 := HU1.out
      have f1 : wr.frozen? ⟨b, o + j * 16 + 1, none⟩ = false := HS.out.2.2 _
      have u2 := HU2.out
      have f2 : wr.frozen? ⟨b, o + j * 16 + 2, none⟩ = false := HS.out.2.2 _
      have u3 := HU3.out
      have hq : 0 ≤ y := by omega
      have hq2 : y + 3 ≤ 9223372036854775000 := by have h0 := HTOP.out; omega
      have HW : Hid (Mk lo hi w (((wr.setCell ⟨b, o + j * 16, none⟩ (.int .i64 y)).setCell ⟨b, o + j * 16 + 1, none⟩ (.int .i64 (y + 1))).setCell ⟨b, o + j * 16 + 2, none⟩ (.int .i64 (y + 1 + 1)))) := Lib.hid (((HK.out.set HS.out.1 HS.out.2.1 HU0.out (Kd.ofInt (by unfold Ed.InI; have h := HTOP.out; omega))).set HS.out.1 HS.out.2.1 (cell_far HU1.out (by omega)) (Kd.ofInt (by unfold Ed.InI; have h := HTOP.out; omega))).set HS.out.1 HS.out.2.1 (cell_far (cell_far HU2.out (by omega)) (by omega)) (Kd.ofInt (by unfold Ed.InI; have h := HTOP.out; omega)))
      have HWb : Hid (Mk lo hi wr (((wr.setCell ⟨b, o + j * 16, none⟩ (.int .i64 y)).setCell ⟨b, o + j * 16 + 1, none⟩ (.int .i64 (y + 1))).setCell ⟨b, o + j * 16 + 2, none⟩ (.int .i64 (y + 1 + 1)))) := Lib.hid ((((Mk.refl lo hi wr).set HS.out.1 HS.out.2.1 HU0.out (Kd.ofInt (by unfold Ed.InI; have h := HTOP.out; omega))).set HS.out.1 HS.out.2.1 (cell_far HU1.out (by omega)) (Kd.ofInt (by unfold Ed.InI; have h := HTOP.out; omega))).set HS.out.1 HS.out.2.1 (cell_far (cell_far HU2.out (by omega)) (by omega)) (Kd.ofInt (by unfold Ed.InI; have h := HTOP.out; omega)))
      obtain ⟨la, ha, hea⟩ := RRd.mk Ek.mStr (show RRd str lo hi wr p3 n3 l3 from Gh3.out) HWb.out
      have HA := Lib.hid ha
      have HSM : Hid ((la.map Ek.mStr.nw).sum = (l3.map Ek.mStr.nw).sum) := Lib.hid (by rw [hea])
      clear ha hea
      go_wp2_with fail
      refine (MdStr.markS_any lo hi _ _ _ la (y + 1 + 1 + 1) _ HA.out (by omega) (by rw [HSM.out]; have h0 := HTOP.out; omega)).mono ?_
      rintro e w2 ⟨y2, rfl, hy1, hy2, hm⟩
      rw [HSM.out] at hy2
      have HB2 : Hid (y2 ≤ y + 1 + 1 + 1 + ((l3.map Ek.mStr.nw).sum : Nat)) := Lib.hid hy2
      have HK2 := Lib.hid (HW.out.trans hm)
      have HMb := Lib.hid (HWb.out.trans hm)
      clear u0 f0 u1 f1 u2 f2 hq hq2 u3
      clear HW HWb HA HSM hm hy2
      obtain ⟨v_, e_, kd_⟩ := HMb.out.cell b _ _ HBW.out HU4.out
      obtain rfl := kd_.slice
      replace HU4 := Lib.hid e_
      clear e_ kd_
      obtain ⟨l4_3, h_, he_⟩ := RRd.mk Ek.mInt (show RRd int lo hi wr p4 n4 l4 from Gh4.out) HMb.out
      have HE4 : Hid (l4_3.map Ek.mInt.nw = l4.map Ek.mInt.nw) := Lib.hid (he_)
      replace Gh4 := Lib.hid h_
      clear h_ he_
      obtain ⟨v_, e_, kd_⟩ := HMb.out.cell b _ _ HBW.out HU5.out
      obtain ⟨z5_2, rfl, hz_⟩ := kd_.int Gb5.out.1
      have HZ5 := Lib.hid hz_
      replace HU5 := Lib.hid e_
      clear e_ kd_ hz_
      obtain ⟨v_, e_, kd_⟩ := HMb.out.cell b _ _ HBW.out HU6.out
      obtain ⟨z6_2, rfl, hz_⟩ := kd_.int Gb5.out.2.1
      have HZ6 := Lib.hid hz_
      replace HU6 := Lib.hid e_
      clear e_ kd_ hz_
      obtain ⟨v_, e_, kd_⟩ := HMb.out.cell b _ _ HBW.out HU7.out
      obtain ⟨z7_2, rfl, hz_⟩ := kd_.int Gb5.out.2.2.1
      have HZ7 := Lib.hid hz_
      replace HU7 := Lib.hid e_
      clear e_ kd_ hz_
      obtain ⟨v_, e_, kd_⟩ := HMb.out.cell b _ _ HBW.out HU8.out
      obtain ⟨z8_2, rfl, hz_⟩ := kd_.int Gb5.out.2.2.2.1
      have HZ8 := Lib.hid hz_
      replace HU8 := Lib.hid e_
      clear e_ kd_ hz_
      obtain ⟨v_, e_, kd_⟩ := HMb.out.cell b _ _ HBW.out HU9.out
      obtain ⟨z9_2, rfl, hz_⟩ := kd_.int Gb5.out.2.2.2.2.1
      have HZ9 := Lib.hid hz_
      replace HU9 := Lib.hid e_
      clear e_ kd_ hz_
      obtain ⟨v_, e_, kd_⟩ := HMb.out.cell b _ _ HBW.out HU10.out
      obtain ⟨z10_2, rfl, hz_⟩ := kd_.int Gb5.out.2.2.2.2.2.1
      have HZ10 := Lib.hid hz_
      replace HU10 := Lib.hid e_
      clear e_ kd_ hz_
      obtain ⟨v_, e_, kd_⟩ := HMb.out.cell b _ _ HBW.out HU11.out
      obtain ⟨z11_2, rfl, hz_⟩ := kd_.int Gb5.out.2.2.2.2.2.2.1
      have HZ11 := Lib.hid hz_
      replace HU11 := Lib.hid e_
      clear e_ kd_ hz_
      obtain ⟨v_, e_, kd_⟩ := HMb.out.cell b _ _ HBW.out HU12.out
      obtain ⟨z12_2, rfl, hz_⟩ := kd_.int Gb5.out.2.2.2.2.2.2.2.1
      have HZ12 := Lib.hid hz_
      replace HU12 := Lib.hid e_
      clear e_ kd_ hz_
      obtain ⟨v_, e_, kd_⟩ := HMb.out.cell b _ _ HBW.out HU13.out
      obtain ⟨z13_2, rfl, hz_⟩ := kd_.int Gb5.out.2.2.2.2.2.2.2.2
      have HZ13 := Lib.hid hz_
      replace HU13 := Lib.hid e_
      clear e_ kd_ hz_
      obtain ⟨v_, e_, kd_⟩ := HMb.out.cell b _ _ HBW.out HU14.out
      obtain rfl := kd_.slice
      replace HU14 := Lib.hid e_
      clear e_ kd_
      obtain ⟨l14_3, h_, he_⟩ := RRd.mk MdPiece.M (show RRd DpPiece.E lo hi wr p14 n14 l14 from Gh14.out) HMb.out
      have HE14 : Hid (l14_3.map MdPiece.M.nw = l14.map MdPiece.M.nw) := Lib.hid (he_)
      replace Gh14 := Lib.hid h_
      clear h_ he_
      obtain ⟨v_, e_, kd_⟩ := HMb.out.cell b _ _ HBW.out HU15.out
      obtain rfl := kd_.slice
      replace HU15 := Lib.hid e_
      clear e_ kd_
      obtain ⟨l15_3, h_, he_⟩ := RRd.mk MdRenewal.M (show RRd DpRenewal.E lo hi wr p15 n15 l15 from Gh15.out) HMb.out
      have HE15 : Hid (l15_3.map MdRenewal.M.nw = l15.map MdRenewal.M.nw) := Lib.hid (he_)
      replace Gh15 := Lib.hid h_
      clear h_ he_
      replace HS := Lib.hid (HS.out.mk HBW.out HMb.out)
      replace HBW := Lib.hid (Nat.lt_of_lt_of_le HBW.out HMb.out.size)
      clear HMb
      have u4 := HU4.out
      have HW : Hid (Mk lo hi w w2) := Lib.hid HK2.out
      have HWb : Hid (Mk lo hi w2 w2) := Lib.hid (Mk.refl lo hi w2)
      obtain ⟨la, ha, hea⟩ := RRd.mk Ek.mInt (show RRd int lo hi w2 p4 n4 l4_3 from Gh4.out) HWb.out
      have HA := Lib.hid ha
      have HSM : Hid ((la.map Ek.mInt.nw).sum = (l4.map Ek.mInt.nw).sum) := Lib.hid (by rw [hea, HE4.out])
      clear ha hea
      go_wp2_with fail
      refine (MdI.markS_any lo hi _ _ _ la (y2) _ HA.out (by omega) (by rw [HSM.out]; have h0 := HTOP.out; have g2 := HB2.out; omega)).mono ?_
      rintro e w3 ⟨y3, rfl, hy1, hy2, hm⟩
      rw [HSM.out] at hy2
      have HB3 : Hid (y3 ≤ y2 + ((l4.map Ek.mInt.nw).sum : Nat)) := Lib.hid hy2
      have HK3 := Lib.hid (HW.out.trans hm)
      have HMb := Lib.hid (HWb.out.trans hm)
      clear u4
      clear HW HWb HA HSM hm hy2
      obtain ⟨v_, e_, kd_⟩ := HMb.out.cell b _ _ HBW.out HU5.out
      obtain ⟨z5_3, rfl, hz_⟩ := kd_.int HZ5.out
      replace HZ5 := Lib.hid hz_
      replace HU5 := Lib.hid e_
      clear e_ kd_ hz_
      obtain ⟨v_, e_, kd_⟩ := HMb.out.cell b _ _ HBW.out HU6.out
      obtain ⟨z6_3, rfl, hz_⟩ := kd_.int HZ6.out
      replace HZ6 := Lib.hid hz_
      replace HU6 := Lib.hid e_
      clear e_ kd_ hz_
      obtain ⟨v_, e_, kd_⟩ := HMb.out.cell b _ _ HBW.out HU7.out
      obtain ⟨z7_3, rfl, hz_⟩ := kd_.int HZ7.out
      replace HZ7 := Lib.hid hz_
      replace HU7 := Lib.hid e_
      clear e_ kd_ hz_
      obtain ⟨v_, e_, kd_⟩ := HMb.out.cell b _ _ HBW.out HU8.out
      obtain ⟨z8_3, rfl, hz_⟩ := kd_.int HZ8.out
      replace HZ8 := Lib.hid hz_
      replace HU8 := Lib.hid e_
      clear e_ kd_ hz_
      obtain ⟨v_, e_, kd_⟩ := HMb.out.cell b _ _ HBW.out HU9.out
      obtain ⟨z9_3, rfl, hz_⟩ := kd_.int HZ9.out
      replace HZ9 := Lib.hid hz_
      replace HU9 := Lib.hid e_
      clear e_ kd_ hz_
      obtain ⟨v_, e_, kd_⟩ := HMb.out.cell b _ _ HBW.out HU10.out
      obtain ⟨z10_3, rfl, hz_⟩ := kd_.int HZ10.out
      replace HZ10 := Lib.hid hz_
      replace HU10 := Lib.hid e_
      clear e_ kd_ hz_
      obtain ⟨v_, e_, kd_⟩ := HMb.out.cell b _ _ HBW.out HU11.out
      obtain ⟨z11_3, rfl, hz_⟩ := kd_.int HZ11.out
      replace HZ11 := Lib.hid hz_
      replace HU11 := Lib.hid e_
      clear e_ kd_ hz_
      obtain ⟨v_, e_, kd_⟩ := HMb.out.cell b _ _ HBW.out HU12.out
      obtain ⟨z12_3, rfl, hz_⟩ := kd_.int HZ12.out
      replace HZ12 := Lib.hid hz_
      replace HU12 := Lib.hid e_
      clear e_ kd_ hz_
      obtain ⟨v_, e_, kd_⟩ := HMb.out.cell b _ _ HBW.out HU13.out
      obtain ⟨z13_3, rfl, hz_⟩ := kd_.int HZ13.out
      replace HZ13 := Lib.hid hz_
      replace HU13 := Lib.hid e_
      clear e_ kd_ hz_
      obtain ⟨v_, e_, kd_⟩ := HMb.out.cell b _ _ HBW.out HU14.out
      obtain rfl := kd_.slice
      replace HU14 := Lib.hid e_
      clear e_ kd_
      obtain ⟨l14_4, h_, he_⟩ := RRd.mk MdPiece.M (show RRd DpPiece.E lo hi w2 p14 n14 l14_3 from Gh14.out) HMb.out
      replace HE14 : Hid (l14_4.map MdPiece.M.nw = l14.map MdPiece.M.nw) := Lib.hid (he_.trans HE14.out)
      replace Gh14 := Lib.hid h_
      clear h_ he_
      obtain ⟨v_, e_, kd_⟩ := HMb.out.cell b _ _ HBW.out HU15.out
      obtain rfl := kd_.slice
      replace HU15 := Lib.hid e_
      clear e_ kd_
      obtain ⟨l15_4, h_, he_⟩ := RRd.mk MdRenewal.M (show RRd DpRenewal.E lo hi w2 p15 n15 l15_3 from Gh15.out) HMb.out
      replace HE15 : Hid (l15_4.map MdRenewal.M.nw = l15.map MdRenewal.M.nw) := Lib.hid (he_.trans HE15.out)
      replace Gh15 := Lib.hid h_
      clear h_ he_
      replace HS := Lib.hid (HS.out.mk HBW.out HMb.out)
      replace HBW := Lib.hid (Nat.lt_of_lt_of_le HBW.out HMb.out.size)
      clear HMb
      have u5 := HU5.out
      have f5 : w3.frozen? ⟨b, o + j * 16 + 5, none⟩ = false := HS.out.2.2 _
      have u6 := HU6.out
      have f6 : w3.frozen? ⟨b, o + j * 16 + 6, none⟩ = false := HS.out.2.2 _
      have u7 := HU7.out
      have f7 : w3.frozen? ⟨b, o + j * 16 + 7, none⟩ = false := HS.out.2.2 _
      have u8 := HU8.out
      have f8 : w3.frozen? ⟨b, o + j * 16 + 8, none⟩ = false := HS.out.2.2 _
      have u9 := HU9.out
      have f9 : w3.frozen? ⟨b, o + j * 16 + 9, none⟩ = false := HS.out.2.2 _
      have u10 := HU10.out
      have f10 : w3.frozen? ⟨b, o + j * 16 + 10, none⟩ = false := HS.out.2.2 _
      have u11 := HU11.out
      have f11 : w3.frozen? ⟨b, o + j * 16 + 11, none⟩ = false := HS.out.2.2 _
      have u12 := HU12.out
      have f12 : w3.frozen? ⟨b, o + j * 16 + 12, none⟩ = false := HS.out.2.2 _
      have u13 := HU13.out
      have f13 : w3.frozen? ⟨b, o + j * 16 + 13, none⟩ = false := HS.out.2.2 _
      have u14 := HU14.out
      have hq : 0 ≤ y3 := by omega
      have hq2 : y3 + 9 ≤ 9223372036854775000 := by have h0 := HTOP.out; have g2 := HB2.out; have g3 := HB3.out; omega
      have HW : Hid (Mk lo hi w (((((((((w3.setCell ⟨b, o + j * 16 + 5, none⟩ (.int .i64 (y3))).setCell ⟨b, o + j * 16 + 6, none⟩ (.int .i64 (y3 + 1))).setCell ⟨b, o + j * 16 + 7, none⟩ (.int .i64 (y3 + 1 + 1))).setCell ⟨b, o + j * 16 + 8, none⟩ (.int .i64 (y3 + 1 + 1 + 1))).setCell ⟨b, o + j * 16 + 9, none⟩ (.int .i64 (y3 + 1 + 1 + 1 + 1))).setCell ⟨b, o + j * 16 + 10, none⟩ (.int .i64 (y3 + 1 + 1 + 1 + 1 + 1))).setCell ⟨b, o + j * 16 + 11, none⟩ (.int .i64 (y3 + 1 + 1 + 1 + 1 + 1 + 1))).setCell ⟨b, o + j * 16 + 12, none⟩ (.int .i64 (y3 + 1 + 1 + 1 + 1 + 1 + 1 + 1))).setCell ⟨b, o + j * 16 + 13, none⟩ (.int .i64 (y3 + 1 + 1 + 1 + 1 + 1 + 1 + 1 + 1)))) := Lib.hid (((((((((HK3.out.set HS.out.1 HS.out.2.1 HU5.out (Kd.ofInt (by unfold Ed.InI; have h := HTOP.out; have g2 := HB2.out; have g3 := HB3.out; omega))).set HS.out.1 HS.out.2.1 (cell_far HU6.out (by omega)) (Kd.ofInt (by unfold Ed.InI; have h := HTOP.out; have g2 := HB2.out; have g3 := HB3.out; omega))).set HS.out.1 HS.out.2.1 (cell_far (cell_far HU7.out (by omega)) (by omega)) (Kd.ofInt (by unfold Ed.InI; have h := HTOP.out; have g2 := HB2.out; have g3 := HB3.out; omega))).set HS.out.1 HS.out.2.1 (cell_far (cell_far (cell_far HU8.out (by omega)) (by omega)) (by omega)) (Kd.ofInt (by unfold Ed.InI; have h := HTOP.out; have g2 := HB2.out; have g3 := HB3.out; omega))).set HS.out.1 HS.out.2.1 (cell_far (cell_far (cell_far (cell_far HU9.out (by omega)) (by omega)) (by omega)) (by omega)) (Kd.ofInt (by unfold Ed.InI; have h := HTOP.out; have g2 := HB2.out; have g3 := HB3.out; omega))).set HS.out.1 HS.out.2.1 (cell_far (cell_far (cell_far (cell_far (cell_far HU10.out (by omega)) (by omega)) (by omega)) (by omega)) (by omega)) (Kd.ofInt (by unfold Ed.InI; have h := HTOP.out; have g2 := HB2.out; have g3 := HB3.out; omega))).set HS.out.1 HS.out.2.1 (cell_far (cell_far (cell_far (cell_far (cell_far (cell_far HU11.out (by omega)) (by omega)) (by omega)) (by omega)) (by omega)) (by omega)) (Kd.ofInt (by unfold Ed.InI; have h := HTOP.out; have g2 := HB2.out; have g3 := HB3.out; omega))).set HS.out.1 HS.out.2.1 (cell_far (cell_far (cell_far (cell_far (cell_far (cell_far (cell_far HU12.out (by omega)) (by omega)) (by omega)) (by omega)) (by omega)) (by omega)) (by omega)) (Kd.ofInt (by unfold Ed.InI; have h := HTOP.out; have g2 := HB2.out; have g3 := HB3.out; omega))).set HS.out.1 HS.out.2.1 (cell_far (cell_far (cell_far (cell_far (cell_far (cell_far (cell_far (cell_far HU13.out (by omega)) (by omega)) (by omega)) (by omega)) (by omega)) (by omega)) (by omega)) (by omega)) (Kd.ofInt (by unfold Ed.InI; have h := HTOP.out; have g2 := HB2.out; have g3 := HB3.out; omega)))
      have HWb : Hid (Mk lo hi w3 (((((((((w3.setCell ⟨b, o + j * 16 + 5, none⟩ (.int .i64 (y3))).setCell ⟨b, o + j * 16 + 6, none⟩ (.int .i64 (y3 + 1))).setCell ⟨b, o + j * 16 + 7, none⟩ (.int .i64 (y3 + 1 + 1))).setCell ⟨b, o + j * 16 + 8, none⟩ (.int .i64 (y3 + 1 + 1 + 1))).setCell ⟨b, o + j * 16 + 9, none⟩ (.int .i64 (y3 + 1 + 1 + 1 + 1))).setCell ⟨b, o + j * 16 + 10, none⟩ (.int .i64 (y3 + 1 + 1 + 1 + 1 + 1))).setCell ⟨b, o + j * 16 + 11, none⟩ (.int .i64 (y3 + 1 + 1 + 1 + 1 + 1 + 1))).setCell ⟨b, o + j * 16 + 12, none⟩ (.int .i64 (y3 + 1 + 1 + 1 + 1 + 1 + 1 + 1))).setCell ⟨b, o + j * 16 + 13, none⟩ (.int .i64 (y3 + 1 + 1 + 1 + 1 + 1 + 1 + 1 + 1)))) := Lib.hid ((((((((((Mk.refl lo hi w3).set HS.out.1 HS.out.2.1 HU5.out (Kd.ofInt (by unfold Ed.InI; have h := HTOP.out; have g2 := HB2.out; have g3 := HB3.out; omega))).set HS.out.1 HS.out.2.1 (cell_far HU6.out (by omega)) (Kd.ofInt (by unfold Ed.InI; have h := HTOP.out; have g2 := HB2.out; have g3 := HB3.out; omega))).set HS.out.1 HS.out.2.1 (cell_far (cell_far HU7.out (by omega)) (by omega)) (Kd.ofInt (by unfold Ed.InI; have h := HTOP.out; have g2 := HB2.out; have g3 := HB3.out; omega))).set HS.out.1 HS.out.2.1 (cell_far (cell_far (cell_far HU8.out (by omega)) (by omega)) (by omega)) (Kd.ofInt (by unfold Ed.InI; have h := HTOP.out; have g2 := HB2.out; have g3 := HB3.out; omega))).set HS.out.1 HS.out.2.1 (cell_far (cell_far (cell_far (cell_far HU9.out (by omega)) (by omega)) (by omega)) (by omega)) (Kd.ofInt (by unfold Ed.InI; have h := HTOP.out; have g2 := HB2.out; have g3 := HB3.out; omega))).set HS.out.1 HS.out.2.1 (cell_far (cell_far (cell_far (cell_far (cell_far HU10.out (by omega)) (by omega)) (by omega)) (by omega)) (by omega)) (Kd.ofInt (by unfold Ed.InI; have h := HTOP.out; have g2 := HB2.out; have g3 := HB3.out; omega))).set HS.out.1 HS.out.2.1 (cell_far (cell_far (cell_far (cell_far (cell_far (cell_far HU11.out (by omega)) (by omega)) (by omega)) (by omega)) (by omega)) (by omega)) (Kd.ofInt (by unfold Ed.InI; have h := HTOP.out; have g2 := HB2.out; have g3 := HB3.out; omega))).set HS.out.1 HS.out.2.1 (cell_far (cell_far (cell_far (cell_far (cell_far (cell_far (cell_far HU12.out (by omega)) (by omega)) (by omega)) (by omega)) (by omega)) (by omega)) (by omega)) (Kd.ofInt (by unfold Ed.InI; have h := HTOP.out; have g2 := HB2.out; have g3 := HB3.out; omega))).set HS.out.1 HS.out.2.1 (cell_far (cell_far (cell_far (cell_far (cell_far (cell_far (cell_far (cell_far HU13.out (by omega)) (by omega)) (by omega)) (by omega)) (by omega)) (by omega)) (by omega)) (by omega)) (Kd.ofInt (by unfold Ed.InI; have h := HTOP.out; have g2 := HB2.out; have g3 := HB3.out; omega)))
      obtain ⟨la, ha, hea⟩ := RRd.mk MdPiece.M (show RRd DpPiece.E lo hi w3 p14 n14 l14_4 from Gh14.out) HWb.out
      have HA := Lib.hid ha
      have HSM : Hid ((la.map MdPiece.M.nw).sum = (l14.map MdPiece.M.nw).sum) := Lib.hid (by rw [hea, HE14.out])
      clear ha hea
      go_wp2_with fail
      refine (MdPiece.markS_any lo hi _ _ _ la (y3 + 1 + 1 + 1 + 1 + 1 + 1 + 1 + 1 + 1) _ HA.out (by omega) (by rw [HSM.out]; have h0 := HTOP.out; have g2 := HB2.out; have g3 := HB3.out; omega)).mono ?_
      rintro e w4 ⟨y4, rfl, hy1, hy2, hm⟩
      rw [HSM.out] at hy2
      have HB4 : Hid (y4 ≤ y3 + 1 + 1 + 1 + 1 + 1 + 1 + 1 + 1 + 1 + ((l14.map MdPiece.M.nw).sum : Nat)) := Lib.hid hy2
      have HK4 := Lib.hid (HW.out.trans hm)
      have HMb := Lib.hid (HWb.out.trans hm)
      clear u5 f5 u6 f6 u7 f7 u8 f8 u9 f9 u10 f10 u11 f11 u12 f12 u13 f13 hq hq2 u14
      clear HW HWb HA HSM hm hy2
      obtain ⟨v_, e_, kd_⟩ := HMb.out.cell b _ _ HBW.out HU15.out
      obtain rfl := kd_.slice
      replace HU15 := Lib.hid e_
      clear e_ kd_
      obtain ⟨l15_5, h_, he_⟩ := RRd.mk MdRenewal.M (show RRd DpRenewal.E lo hi w3 p15 n15 l15_4 from Gh15.out) HMb.out
      replace HE15 : Hid (l15_5.map MdRenewal.M.nw = l15.map MdRenewal.M.nw) := Lib.hid (he_.trans HE15.out)
      replace Gh15 := Lib.hid h_
      clear h_ he_
      replace HS := Lib.hid (HS.out.mk HBW.out HMb.out)
      replace HBW := Lib.hid (Nat.lt_of_lt_of_le HBW.out HMb.out.size)
      clear HMb
      have u15 := HU15.out
      have HW : Hid (Mk lo hi w w4) := Lib.hid HK4.out
      have HWb : Hid (Mk lo hi w4 w4) := Lib.hid (Mk.refl lo hi w4)
      obtain ⟨la, ha, hea⟩ := RRd.mk MdRenewal.M (show RRd DpRenewal.E lo hi w4 p15 n15 l15_5 from Gh15.out) HWb.out
      have HA := Lib.hid ha
      have HSM : Hid ((la.map MdRenewal.M.nw).sum = (l15.map MdRenewal.M.nw).sum) := Lib.hid (by rw [hea, HE15.out])
      clear ha hea
      go_wp2_with fail
      refine (MdRenewal.markS_any lo hi _ _ _ la (y4) _ HA.out (by omega) (by rw [HSM.out]; have h0 := HTOP.out; have g2 := HB2.out; have g3 := HB3.out; have g4 := HB4.out; omega)).mono ?_
      rintro e w5 ⟨y5, rfl, hy1, hy2, hm⟩
      rw [HSM.out] at hy2
      have HB5 : Hid (y5 ≤ y4 + ((l15.map MdRenewal.M.nw).sum : Nat)) := Lib.hid hy2
      have HK5 := Lib.hid (HW.out.trans hm)
      have HMb := Lib.hid (HWb.out.trans hm)
      clear u15
      clear HW HWb HA HSM hm hy2
      replace HS := Lib.hid (HS.out.mk HBW.out HMb.out)
      replace HBW := Lib.hid (Nat.lt_of_lt_of_le HBW.out HMb.out.size)
      clear HMb
      go_wp2_with fail
      go_roundw
      case rel => exact ⟨j + 1, y5, by omega, by go_num, rfl, by omega, Lib.hid (by have h1 := HY.out; have h2 := HNX.out; have g2 := HB2.out; have g3 := HB3.out; have g4 := HB4.out; have g5 := HB5.out; omega), Lib.hid HK5.out⟩
      case measure => simp [intOf]; omega
    · obtain rfl : j = n := by omega
      have HE : Hid (y ≤ k + ((xs.map M.nw).sum : Nat)) := Lib.hid (by have h := HY.out; rw [nwt_all HLEN.out] at h; exact h)
      go_wp2_with fail
      go_ret
      exact ⟨y, rfl, hky, HE.out, HK.out⟩
end Go.Proofs.YtpjckbdljbpliaaGreat.MdItem

namespace Go.Proofs.YtpjckbdljbpliaaGreat.MdArchive
open Go.ChangeShapes Go.WideShapes Go.ChangeAt Go.RowKit Sl St Ed Ek
def M : Ek.MkE DpArchive.E := (Ek.mPair Ek.mInt (Ek.mSl MdItem.M (by show 16 ≤ 16; omega)))
set_option maxRecDepth 100000 in
set_option maxHeartbeats 8000000 in
theorem markS_any (lo hi : Nat) (p : Option Addr) (n c : Nat) (xs : List DpArchive.A) (k : Int) (w : World) (hr : RRd DpArchive.E lo hi w p n xs) (hk : 1 ≤ k) (hm : k + ((xs.map M.nw).sum : Nat) ≤ 1000000000) : Calls Tryz.prog 54 #[.slice p n c, .int .i64 k] w (MkD lo hi k (xs.map M.nw).sum w) := by
  have HR := Lib.hid hr
  have hle := hr.le
  have HM := Lib.hid hm
  have HLEN := Lib.hid hr.len
  clear hr hm
  go_enter Tryz.func54, Tryz.ntmps54
  go_wp2_with fail
  go_loopw [1, 5] (fun x i wr => ∃ (j : Nat) (y : Int), j ≤ n ∧ i = .int .i64 j ∧ x = .int .i64 y ∧ k ≤ y ∧ Hid (y ≤ k + (nwt M xs j : Nat)) ∧ Hid (Mk lo hi w wr)) (fun _ i _ => n - (intOf i).toNat)
  case atStart => exact ⟨0, k, Nat.zero_le _, rfl, rfl, Int.le_refl _, Lib.hid (by rw [nwt_zero]; omega), Lib.hid (Mk.refl _ _ _)⟩
  case round =>
    obtain ⟨j, y, hj, rfl, rfl, hky, HY, HK⟩ := hrel
    by_cases hlt : j < n
    · obtain ⟨xs', hr', he⟩ := RRd.mk M HR.out HK.out
      obtain ⟨b, o, x, cs, rfl, hS, hbw, hx, hc, hrd⟩ := RdD.at_ hr' hlt
      obtain ⟨x0, l1⟩ := x
      obtain ⟨p1, n1, c1, rfl, b0, h1⟩ := DpArchive.ex hrd
      have hnw : M.nw (x0, l1) = (1 + ((l1.map MdItem.M.nw).sum)) := rfl
      have hnx := nwt_next (M := M) he hx
      rw [hnw] at hnx
      have hal := nwt_le (M := M) (xs := xs) (j + 1)
      have HNX : Hid (nwt M xs (j + 1) = nwt M xs j + (1 + ((l1.map MdItem.M.nw).sum))) := Lib.hid hnx
      have HTOP : Hid (y + ((1 + ((l1.map MdItem.M.nw).sum)) : Nat) ≤ 1000000000) := Lib.hid (by have h1 := HY.out; have h2 := HM.out; omega)
      have HU0 : Hid (wr.cell? ⟨b, o + j * 2, none⟩ = some (.int .i64 x0)) := Lib.hid (hc 0 _ rfl)
      have HU1 : Hid (wr.cell? ⟨b, o + j * 2 + 1, none⟩ = some (.slice p1 n1 c1)) := Lib.hid (hc 1 _ rfl)
      have Gb0 := Lib.hid b0
      have Gh1 := Lib.hid h1
      have HS := Lib.hid hS
      have HBW := Lib.hid hbw
      clear hnw hnx hal hc hx he hS hbw hrd b0 h1
      have i1 : (0 : Int) ≤ (j : Int) := by omega
      have i2 : (j : Int) < (n : Int) := by omega
      have u0 := HU0.out
      have f0 : wr.frozen? ⟨b, o + j * 2, none⟩ = false := HS.out.2.2 _
      have u1 := HU1.out
      have hq : 0 ≤ y := by omega
      have hq2 : y + 1 ≤ 9223372036854775000 := by have h0 := HTOP.out; omega
      have HW : Hid (Mk lo hi w (wr.setCell ⟨b, o + j * 2, none⟩ (.int .i64 y))) := Lib.hid (HK.out.set HS.out.1 HS.out.2.1 HU0.out (Kd.ofInt (by unfold Ed.InI; have h := HTOP.out; omega)))
      have HWb : Hid (Mk lo hi wr (wr.setCell ⟨b, o + j * 2, none⟩ (.int .i64 y))) := Lib.hid ((Mk.refl lo hi wr).set HS.out.1 HS.out.2.1 HU0.out (Kd.ofInt (by unfold Ed.InI; have h := HTOP.out; omega)))
      obtain ⟨la, ha, hea⟩ := RRd.mk MdItem.M (show RRd DpItem.E lo hi wr p1 n1 l1 from Gh1.out) HWb.out
      have HA := Lib.hid ha
      have HSM : Hid ((la.map MdItem.M.nw).sum = (l1.map MdItem.M.nw).sum) := Lib.hid (by rw [hea])
      clear ha hea
      go_wp2_with fail
      refine (MdItem.markS_any lo hi _ _ _ la (y + 1) _ HA.out (by omega) (by rw [HSM.out]; have h0 := HTOP.out; omega)).mono ?_
      rintro e w2 ⟨y2, rfl, hy1, hy2, hm⟩
      rw [HSM.out] at hy2
      have HB2 : Hid (y2 ≤ y + 1 + ((l1.map MdItem.M.nw).sum : Nat)) := Lib.hid hy2
      have HK2 := Lib.hid (HW.out.trans hm)
      have HMb := Lib.hid (HWb.out.trans hm)
      clear u0 f0 hq hq2 u1
      clear HW HWb HA HSM hm hy2
      replace HS := Lib.hid (HS.out.mk HBW.out HMb.out)
      replace HBW := Lib.hid (Nat.lt_of_lt_of_le HBW.out HMb.out.size)
      clear HMb
      go_wp2_with fail
      go_roundw
      case rel => exact ⟨j + 1, y2, by omega, by go_num, rfl, by omega, Lib.hid (by have h1 := HY.out; have h2 := HNX.out; have g2 := HB2.out; omega), Lib.hid HK2.out⟩
      case measure => simp [intOf]; omega
    · obtain rfl : j = n := by omega
      have HE : Hid (y ≤ k + ((xs.map M.nw).sum : Nat)) := Lib.hid (by have h := HY.out; rw [nwt_all HLEN.out] at h; exact h)
      go_wp2_with fail
      go_ret
      exact ⟨y, rfl, hky, HE.out, HK.out⟩
set_option maxRecDepth 100000 in
set_option maxHeartbeats 4000000 in
theorem mark_any (lo hi : Nat) (x0 : Int) (l1 : List DpItem.A) (p1 : Option Addr) (n1 c1 : Nat) (k : Int) (w : World) (hhi : hi ≤ w.heap.size) (h1 : RRd DpItem.E lo hi w p1 n1 l1) (hk : 1 ≤ k) (hm : k + ((l1.map MdItem.M.nw).sum : Nat) ≤ 1000000000) : Calls Tryz.prog 15 #[.agg #[.int .i64 x0, .slice p1 n1 c1], .int .i64 k] w (MkD lo hi k ((l1.map MdItem.M.nw).sum) w) := by
  have HX := Lib.hid (Bx.new w 42 #[.int .i64 x0, .slice p1 n1 c1])
  have HM : Hid (Mk lo hi w (w.alloc (.cells #[.int .i64 x0, .slice p1 n1 c1] 42))) := Lib.hid (Mk.ofBelow (Dz.box1 w _))
  have HHI := Lib.hid hhi
  have HT := Lib.hid hm
  have H1 := Lib.hid (h1.below (Dz.box1 w (.cells #[.int .i64 x0, .slice p1 n1 c1] 42)))
  clear hm hhi h1
  go_enter Tryz.func15, Tryz.ntmps15
  obtain ⟨u0, u1⟩ := DpArchive.bxc HX.out
  go_wp2_with fail
  refine (MdItem.markS_any lo hi _ _ _ _ (k) _ H1.out (by omega) (by have h0 := HT.out; omega)).mono ?_
  rintro e w1 ⟨y1, rfl, hy1, hy2, hm⟩
  have HB1 : Hid (y1 ≤ k + ((l1.map MdItem.M.nw).sum : Nat)) := Lib.hid hy2
  replace HX := Lib.hid (hm.bx HX.out (Or.inl HHI.out))
  replace HM := Lib.hid (HM.out.trans hm)
  clear hm hy2 u0 u1
  go_wp2_with fail
  go_ret
  exact ⟨y1, rfl, by omega, by have g1 := HB1.out; omega, HM.out⟩
end Go.Proofs.YtpjckbdljbpliaaGreat.MdArchive
