/- Mathematics for the law of methods. -/
import Derived.Test.YtllkpapkkgfjaacMn
namespace Go.Proofs.Ytllkpapkkgfjaac.Mn
theorem alive_brk {l : List Me} {id t : Int} (h : alive l id t = true) : t < brk l id := by
  rcases fnd_in l id with hf | ⟨k, _, hf⟩
  · rw [alive_none t hf] at h; cases h
  · rw [alive_at t hf] at h
    rw [brk_at hf]
    simp only [Bool.and_eq_true, decide_eq_true_eq] at h
    exact h.2
theorem brk_fnd {l : List Me} {id : Int} (h : ¬ brk l id = 0) : ¬ fnd l id < 0 := by
  rcases fnd_in l id with hf | ⟨k, _, hf⟩
  · exact absurd (brk_none hf) h
  · omega
theorem best_cases (l : List Me) (t : Int) : (best l t = -1 ∧ bestN l t l.length = none) ∨ ∃ b, b < l.length ∧ bestN l t l.length = some b ∧ best l t = (l.getD b z4).1 := by
  rcases h : bestN l t l.length with _ | b
  · exact .inl ⟨best_none h, rfl⟩
  · exact .inr ⟨b, bestN_lt h, rfl, best_at h⟩
theorem best_id {l : List Me} (h : areM l = true) {b : Nat} (hb : b < l.length) : 0 ≤ (l.getD b z4).1 := by
  have := (areM_step h b hb).1
  unfold okM inB at this
  simp only [Bool.and_eq_true, decide_eq_true_eq] at this
  exact this.1.1
theorem fnd_self {l : List Me} (h : areM l = true) {b : Nat} (hb : b < l.length) : fnd l (l.getD b z4).1 = b :=
  fnd_at hb rfl fun j hj e => by
    have := areM_rise h (b - j) j (by omega) (by omega)
    rw [show j + (b - j) = b by omega] at this
    omega
theorem best_inUse {l : List Me} {t : Int} {b : Nat} (h : bestN l t l.length = some b) : inUse (l.getD b z4) t := (bestN_says l.length).1 b h
theorem best_last {l : List Me} {t : Int} {i : Nat} (hi : i < l.length) (hu : inUse (l.getD i z4) t) : ∃ b, bestN l t l.length = some b ∧ (l.getD i z4).2.2.1 ≤ (l.getD b z4).2.2.1 := (bestN_says l.length).2 i hi hu
end Go.Proofs.Ytllkpapkkgfjaac.Mn
