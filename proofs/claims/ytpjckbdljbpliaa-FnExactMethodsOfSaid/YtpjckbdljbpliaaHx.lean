/- Whether a list of numbers has a number: slices.Contains and the reference's l7Has. -/
import Derived.Test.YtpjckbdljbpliaaSlI
import Derived.LoopTactic
import Derived.Outline
namespace Go.Proofs.Ytpjckbdljbpliaa.Hx
open Go.ChangeShapes Go.WideShapes Go.ChangeAt Go.RowKit Sl
def hasI (l : List Int) (x : Int) : Bool := decide (x ∈ l)
theorem hasI_yes {l : List Int} {x : Int} {j : Nat} (hj : j < l.length) (h : l.getD j 0 = x) : hasI l x = true := by
  refine decide_eq_true ?_
  rw [← h, List.getD_eq_getElem?_getD, List.getElem?_eq_getElem hj]
  exact List.getElem_mem _
theorem hasI_no {l : List Int} {x : Int} (h : ∀ j, j < l.length → l.getD j 0 ≠ x) : hasI l x = false := by
  refine decide_eq_false fun hm => ?_
  obtain ⟨j, hj, e⟩ := List.mem_iff_getElem.1 hm
  exact h j hj (by rw [List.getD_eq_getElem?_getD, List.getElem?_eq_getElem hj, e]; rfl)
def At (l : List Int) (x : Int) (w : World) (e : Ending) (w' : World) : Prop := ∃ r : Int, e = .returned (.int .i64 r) ∧ decide (0 ≤ r) = hasI l x ∧ w = w'
set_option maxHeartbeats 2000000 in
theorem l7Has_any (p : Option Addr) (n c : Nat) (l : List Int) (x : Int) (w : World) (hr : Rd .i64 w p n l) : Calls Try.prog 43 #[.slice p n c, .int .i64 x] w (fun e w' => e = .returned (.bool (hasI l x)) ∧ w = w') := by
  have HR := Lib.hid hr
  have HL := Lib.hid hr.len
  have hle := hr.le
  clear hr
  go_enter Try.func43, Try.ntmps43
  go_wp2_with fail
  go_loop [5] (fun i => ∃ j : Nat, j ≤ n ∧ i = .int .i64 j ∧ Hid (∀ q, q < j → l.getD q 0 ≠ x)) (fun i => n - (intOf i).toNat)
  case atStart => exact ⟨0, Nat.zero_le _, rfl, Lib.hid fun j h => by omega⟩
  case round =>
    obtain ⟨j, hj, rfl, HA⟩ := hrel
    by_cases hlt : j < n
    · obtain ⟨b, o, rfl, hb, hc⟩ := HR.out.at_ hlt
      by_cases he : l.getD j 0 = x
      · have HE := Lib.hid (hasI_yes (by rw [HL.out]; exact hlt) he)
        rw [he] at hc
        clear he
        go_wp2_with fail
        go_ret
        exact ⟨by rw [HE.out]; rfl, rfl⟩
      · have HN2 : Hid (∀ q, q < j + 1 → l.getD q 0 ≠ x) := Lib.hid fun q hq => by
          rcases Nat.lt_succ_iff_lt_or_eq.1 hq with h | rfl
          · exact HA.out q h
          · exact he
        generalize l.getD j 0 = z at hc he
        have q1 : (z == x) = false := beq_eq_false_iff_ne.2 he
        have q3 : decide (z = x) = false := decide_eq_false he
        clear he
        go_wp2_with fail
        go_round
        case rel => exact ⟨j + 1, by omega, by go_num, HN2⟩
        case measure => simp [intOf]; omega
    · obtain rfl : j = n := by omega
      have HE := Lib.hid (hasI_no (x := x) (fun q hq => HA.out q (by rw [← HL.out]; exact hq)))
      go_wp2_with fail
      go_ret
      exact ⟨by rw [HE.out]; rfl, rfl⟩
end Go.Proofs.Ytpjckbdljbpliaa.Hx
