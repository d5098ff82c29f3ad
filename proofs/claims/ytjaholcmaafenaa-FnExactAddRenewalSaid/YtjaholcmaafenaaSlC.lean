/- A slice of the call's own whose capacity was cut off: marks are written into it. -/
import Derived.Test.YtjaholcmaafenaaSlI
import Derived.LoopTactic
namespace Go.Proofs.Ytjaholcmaafenaa.SlC
open Go.ChangeShapes Go.WideShapes Go.ChangeAt Go.RowKit Sl Sl SlI
set_option maxHeartbeats 1000000 in
theorem mark_any (lo hi : Nat) (p : Option Addr) (n c d : Nat) (zs : List Int) (m : Int) (w : World) (ho : Ow .i64 3 w lo hi p n d zs) (hm : 0 ≤ m) (hm' : m + n ≤ 9223372036854775000) : Calls Try.prog 21 #[.slice p n c, .int .i64 m] w (SlI.Marked lo hi p n d m w) := by
  have HL := Lib.hid ho.len
  have hle := ho.rd.le
  have HM : Hid (SlI.MarkMid lo hi p n d zs m 0 w w) := ⟨ho, ⟨rfl, rfl, rfl, Nat.le_refl _, fun _ _ _ => rfl⟩⟩
  clear ho
  go_enter Try.func21, Try.ntmps21
  go_wp2_with fail
  go_loopw [1, 5] (fun x i wr => ∃ k : Nat, k ≤ n ∧ i = .int .i64 k ∧ x = .int .i64 (m + k) ∧ Hid (SlI.MarkMid lo hi p n d zs m k w wr)) (fun _ i _ => n - (intOf i).toNat)
  case atStart => exact ⟨0, Nat.zero_le _, rfl, by simp, HM⟩
  case round =>
    obtain ⟨k, hk, rfl, rfl, HK⟩ := hrel
    by_cases hlt : k < n
    · rcases HK.out.1.form with ⟨_, hn0, _⟩ | ⟨g, rfl, _, _, hnc, _⟩
      · omega
      have hcd := HK.out.1.cell hlt
      have hfd := HK.out.1.free (i := k)
      go_wp2_with fail
      go_roundw
      case rel => exact ⟨k + 1, by omega, by go_num, by go_num, HK.out.next hlt HL.out (intK_of (by omega)).symm⟩
      case measure => simp [intOf]; omega
    · obtain rfl : k = n := by omega
      go_wp2_with fail
      go_ret
      exact HK.out.done HL.out
end Go.Proofs.Ytjaholcmaafenaa.SlC
