/- What is of no program: the kind of a piece. -/
import Derived.Test.YtpjckbdljbpliaaEd
namespace Go.Proofs.Ytpjckbdljbpliaa.Kd
open Go.RowKit Sl
/-- the kind of n numbers whose first one is z -/
def kind (n : Nat) (z : Int) : Int := if n = 7 ∧ z = 101 then 101 else if n = 5 ∧ z = 102 then 102 else if n = 5 ∧ z = 103 then 103 else if n = 9 ∧ z = 104 then 104 else if n = 6 ∧ z = 105 then 105 else 0
theorem kind_out {n : Nat} {z : Int} (h : ¬ (101 ≤ z ∧ z ≤ 105)) : kind n z = 0 := by
  unfold kind
  rw [if_neg (by omega), if_neg (by omega), if_neg (by omega), if_neg (by omega), if_neg (by omega)]
theorem kind_nil {z : Int} : kind 0 z = 0 := by simp [kind]
theorem kind_cases (n : Nat) (z : Int) : (n = 7 ∧ z = 101 ∧ kind n z = 101) ∨ (n = 5 ∧ z = 102 ∧ kind n z = 102) ∨ (n = 5 ∧ z = 103 ∧ kind n z = 103) ∨ (n = 9 ∧ z = 104 ∧ kind n z = 104) ∨ (n = 6 ∧ z = 105 ∧ kind n z = 105) ∨ kind n z = 0 := by
  unfold kind
  split
  · next h => exact Or.inl ⟨h.1, h.2, rfl⟩
  split
  · next h => exact Or.inr (Or.inl ⟨h.1, h.2, rfl⟩)
  split
  · next h => exact Or.inr (Or.inr (Or.inl ⟨h.1, h.2, rfl⟩))
  split
  · next h => exact Or.inr (Or.inr (Or.inr (Or.inl ⟨h.1, h.2, rfl⟩)))
  split
  · next h => exact Or.inr (Or.inr (Or.inr (Or.inr (Or.inl ⟨h.1, h.2, rfl⟩))))
  · exact Or.inr (Or.inr (Or.inr (Or.inr (Or.inr rfl))))
theorem first_at {w : World} {p : Option Addr} {n : Nat} {zs : List Int} (h : Rd .i64 w p n zs) (hn : 0 < n) : ∃ b o, p = some ⟨b, o, none⟩ ∧ b < w.heap.size ∧ w.cell? ⟨b, o, none⟩ = some (.int .i64 (zs.getD 0 0)) := by
  obtain ⟨b, o, e, hb, hc⟩ := h.2.2.2 hn
  exact ⟨b, o, e, hb, hc 0 hn⟩
end Go.Proofs.Ytpjckbdljbpliaa.Kd
