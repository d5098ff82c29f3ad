/- Marks over a slice of words that may be written. -/
import Derived.Test.YtjaholcmaafenaaEk
import Derived.Test.YtjaholcmaafenaaSlI
import Derived.Test.YtjaholcmaafenaaMk
import Derived.LoopTactic
import Derived.Outline
namespace Go.Proofs.Ytjaholcmaafenaa.MdStr
open Go.ChangeShapes Go.WideShapes Go.ChangeAt Go.RowKit Sl St Ed Ek
theorem mdig_size (k : Nat) : ∀ t : ByteArray, (Mk.mdig k t).size ≤ k + t.size := by
  induction k using Nat.strongRecOn with
  | ind k ih =>
    intro t
    rcases Nat.eq_zero_or_pos k with rfl | h
    · rw [Mk.mdig_zero]
      omega
    · rw [Mk.mdig_step h]
      have h1 := ih (k / 10) (by omega) (Mk.dig1 k ++ t)
      rw [ByteArray.size_append] at h1
      have h2 : (Mk.dig1 k).size = 1 := rfl
      omega
theorem mtext_size (k : Nat) (h : k ≤ 1000000000) : (Mk.mtext k).size ≤ 9223372036854775807 := by
  unfold Mk.mtext
  rw [ByteArray.size_append]
  have h1 := mdig_size k ByteArray.empty
  have h2 : (ByteArray.mk #[109]).size = 1 := rfl
  have h3 : ByteArray.empty.size = 0 := rfl
  omega
set_option maxRecDepth 100000 in
set_option maxHeartbeats 8000000 in
theorem markS_any (lo hi : Nat) (p : Option Addr) (n c : Nat) (xs : List ByteArray) (k : Int) (w : World) (hr : RRd str lo hi w p n xs) (hk : 1 ≤ k) (hm : k + ((xs.map Ek.mStr.nw).sum : Nat) ≤ 1000000000) : Calls Try.prog 78 #[.slice p n c, .int .i64 k] w (MkD lo hi k (xs.map Ek.mStr.nw).sum w) := by
  have HR := Lib.hid hr
  have hle := hr.le
  have HM := Lib.hid hm
  have HLEN := Lib.hid hr.len
  clear hr hm
  go_enter Try.func78, Try.ntmps78
  go_wp2_with fail
  go_loopw [1, 5] (fun x i wr => ∃ (j : Nat) (y : Int), j ≤ n ∧ i = .int .i64 j ∧ x = .int .i64 y ∧ k ≤ y ∧ Hid (y ≤ k + (nwt Ek.mStr xs j : Nat)) ∧ Hid (Mk lo hi w wr)) (fun _ i _ => n - (intOf i).toNat)
  case atStart => exact ⟨0, k, Nat.zero_le _, rfl, rfl, Int.le_refl _, Lib.hid (by rw [nwt_zero]; omega), Lib.hid (Mk.refl _ _ _)⟩
  case round =>
    obtain ⟨j, y, hj, rfl, rfl, hky, HY, HK⟩ := hrel
    by_cases hlt : j < n
    · obtain ⟨xs', hr', he⟩ := RRd.mk Ek.mStr HR.out HK.out
      obtain ⟨b, o, x, cs, rfl, hS, hbw, hx, hc, hrd⟩ := RdD.at_ hr' hlt
      obtain ⟨rfl, hin⟩ := hrd
      have hnw : Ek.mStr.nw x = 1 := rfl
      have hnx := nwt_next (M := Ek.mStr) he hx
      rw [hnw] at hnx
      have hal := nwt_le (M := Ek.mStr) (xs := xs) (j + 1)
      have HNX : Hid (nwt Ek.mStr xs (j + 1) = nwt Ek.mStr xs j + 1) := Lib.hid hnx
      have HTOP : Hid (y + (1 : Nat) ≤ 1000000000) := Lib.hid (by have h1 := HY.out; have h2 := HM.out; omega)
      have HU0 : Hid (wr.cell? ⟨b, o + j, none⟩ = some (.string x)) := Lib.hid (by have h := hc 0 _ rfl; rw [show o + j * (str).C + 0 = o + j from by show o + j * 1 + 0 = _; omega] at h; exact h)
      have HS := Lib.hid hS
      have HBW := Lib.hid hbw
      clear hnw hnx hal hc hx he hS hbw hin
      have i1 : (0 : Int) ≤ (j : Int) := by omega
      have i2 : (j : Int) < (n : Int) := by omega
      obtain ⟨q, rfl⟩ : ∃ q : Nat, y = (q : Int) := ⟨y.toNat, by omega⟩
      have hq2 : (q : Int) + 1 ≤ 9223372036854775000 := by have h := HTOP.out; omega
      have hq : (0 : Int) ≤ (q : Int) := by omega
      go_wp2_with fail
      refine (Mk.text_any q (by omega) (by have h := HTOP.out; omega) _).mono ?_
      rintro e w2 ⟨rfl, hb⟩
      have HK2 := Lib.hid (HK.out.below hb)
      have HS2 := Lib.hid (HS.out.mk HBW.out (Mk.ofBelow hb))
      have u0 := (hb.cell (p := ⟨b, o + j, none⟩) HBW.out).trans HU0.out
      have f0 := HS2.out.2.2 (o + j)
      have HU2 := Lib.hid u0
      clear hb
      go_wp2_with fail
      go_roundw
      case rel => exact ⟨j + 1, (q : Int) + 1, by omega, by go_num, rfl, by omega, Lib.hid (by have h1 := HY.out; have h2 := HNX.out; omega), Lib.hid (HK2.out.set HS2.out.1 HS2.out.2.1 HU2.out (Kd.ofStr (mtext_size q (by have h := HTOP.out; omega))))⟩
      case measure => simp [intOf]; omega
    · obtain rfl : j = n := by omega
      have HE : Hid (y ≤ k + ((xs.map Ek.mStr.nw).sum : Nat)) := Lib.hid (by have h := HY.out; rw [nwt_all HLEN.out] at h; exact h)
      go_wp2_with fail
      go_ret
      exact ⟨y, rfl, hky, HE.out, HK.out⟩
end Go.Proofs.Ytjaholcmaafenaa.MdStr
