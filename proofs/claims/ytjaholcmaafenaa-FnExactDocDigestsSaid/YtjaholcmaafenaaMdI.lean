/- Marks over a slice of numbers that may be written. -/
import Derived.Test.YtjaholcmaafenaaEk
import Derived.Test.YtjaholcmaafenaaSlI
import Derived.LoopTactic
import Derived.Outline
namespace Go.Proofs.Ytjaholcmaafenaa.MdI
open Go.ChangeShapes Go.WideShapes Go.ChangeAt Go.RowKit Sl St Ed Ek
set_option maxRecDepth 100000 in
set_option maxHeartbeats 8000000 in
theorem markS_any (lo hi : Nat) (p : Option Addr) (n c : Nat) (xs : List Int) (k : Int) (w : World) (hr : RRd int lo hi w p n xs) (hk : 1 ≤ k) (hm : k + ((xs.map Ek.mInt.nw).sum : Nat) ≤ 1000000000) : Calls Try.prog 21 #[.slice p n c, .int .i64 k] w (MkD lo hi k (xs.map Ek.mInt.nw).sum w) := by
  have HR := Lib.hid hr
  have hle := hr.le
  have HM := Lib.hid hm
  have HLEN := Lib.hid hr.len
  clear hr hm
  go_enter Try.func21, Try.ntmps21
  go_wp2_with fail
  go_loopw [1, 5] (fun x i wr => ∃ (j : Nat) (y : Int), j ≤ n ∧ i = .int .i64 j ∧ x = .int .i64 y ∧ k ≤ y ∧ Hid (y ≤ k + (nwt Ek.mInt xs j : Nat)) ∧ Hid (Mk lo hi w wr)) (fun _ i _ => n - (intOf i).toNat)
  case atStart => exact ⟨0, k, Nat.zero_le _, rfl, rfl, Int.le_refl _, Lib.hid (by rw [nwt_zero]; omega), Lib.hid (Mk.refl _ _ _)⟩
  case round =>
    obtain ⟨j, y, hj, rfl, rfl, hky, HY, HK⟩ := hrel
    by_cases hlt : j < n
    · obtain ⟨xs', hr', he⟩ := RRd.mk Ek.mInt HR.out HK.out
      obtain ⟨b, o, x, cs, rfl, hS, hbw, hx, hc, hrd⟩ := RdD.at_ hr' hlt
      obtain ⟨rfl, hin⟩ := hrd
      have hnw : Ek.mInt.nw x = 1 := rfl
      have hnx := nwt_next (M := Ek.mInt) he hx
      rw [hnw] at hnx
      have hal := nwt_le (M := Ek.mInt) (xs := xs) (j + 1)
      have HNX : Hid (nwt Ek.mInt xs (j + 1) = nwt Ek.mInt xs j + 1) := Lib.hid hnx
      have HTOP : Hid (y + (1 : Nat) ≤ 1000000000) := Lib.hid (by have h1 := HY.out; have h2 := HM.out; omega)
      have HU0 : Hid (wr.cell? ⟨b, o + j, none⟩ = some (.int .i64 x)) := Lib.hid (by have h := hc 0 _ rfl; rw [show o + j * (int).C + 0 = o + j from by show o + j * 1 + 0 = _; omega] at h; exact h)
      have HS := Lib.hid hS
      have HBW := Lib.hid hbw
      clear hnw hnx hal hc hx he hS hbw hin
      have i1 : (0 : Int) ≤ (j : Int) := by omega
      have i2 : (j : Int) < (n : Int) := by omega
      have u0 := HU0.out
      have f0 : wr.frozen? ⟨b, o + j, none⟩ = false := HS.out.2.2 _
      have hq : 0 ≤ y := by omega
      have hq2 : y + 1 ≤ 9223372036854775000 := by have h0 := HTOP.out; omega
      go_wp2_with fail
      go_roundw
      case rel => exact ⟨j + 1, y + 1, by omega, by go_num, rfl, by omega, Lib.hid (by have h1 := HY.out; have h2 := HNX.out; omega), Lib.hid (HK.out.set HS.out.1 HS.out.2.1 HU0.out (Kd.ofInt (by unfold Ed.InI; have h := HTOP.out; omega)))⟩
      case measure => simp [intOf]; omega
    · obtain rfl : j = n := by omega
      have HE : Hid (y ≤ k + ((xs.map Ek.mInt.nw).sum : Nat)) := Lib.hid (by have h := HY.out; rw [nwt_all HLEN.out] at h; exact h)
      go_wp2_with fail
      go_ret
      exact ⟨y, rfl, hky, HE.out, HK.out⟩
end Go.Proofs.Ytjaholcmaafenaa.MdI
