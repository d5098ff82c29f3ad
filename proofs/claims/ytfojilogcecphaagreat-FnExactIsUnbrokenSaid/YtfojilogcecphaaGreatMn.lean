/- Mathematics of methods: valid ones, the first with an Id, its break, the one that ends last. -/
import Derived.Test.YtfojilogcecphaaGreatKit
namespace Go.Proofs.YtfojilogcecphaaGreat.Mn

/-- Id, Known, Ends, Broken -/
abbrev Me := Int × Int × Int × Int
def z4 : Me := (0, 0, 0, 0)
theorem idx {α : Type} {l : List α} {k : Nat} (z : α) (h : k < l.length) : l[k]? = some (l.getD k z) := by
  rw [List.getD_eq_getElem?_getD, List.getElem?_eq_getElem h]; rfl
theorem getD_mem {α : Type} {l : List α} {k : Nat} (z : α) (h : k < l.length) : l.getD k z ∈ l := by
  rw [List.getD_eq_getElem?_getD, List.getElem?_eq_getElem h]; exact List.getElem_mem h

/-! ### valid -/
def inB (x lo hi : Int) : Bool := decide (lo ≤ x ∧ x ≤ hi)
theorem inB_def (x lo hi : Int) : decide (lo ≤ x ∧ x ≤ hi) = inB x lo hi := rfl
def okM (m : Me) : Bool := inB m.1 0 99 && (inB m.2.1 0 10000 && (inB m.2.2.1 1 10001 && (inB m.2.2.2 1 10001 && (decide (m.2.1 < m.2.2.1) && decide (m.2.1 < m.2.2.2)))))
/-- the element i is valid, and its Id above the one before -/
def Step (l : List Me) (i : Nat) : Prop := okM (l.getD i z4) = true ∧ (0 < i → (l.getD (i - 1) z4).1 < (l.getD i z4).1)
instance (l : List Me) (i : Nat) : Decidable (Step l i) := by unfold Step; infer_instance
def areM (l : List Me) : Bool := decide (l.length ≤ 8 ∧ ∀ i, i < l.length → Step l i)
theorem areM_no {l : List Me} {i : Nat} (hi : i < l.length) (h : ¬ Step l i) : areM l = false := decide_eq_false fun ⟨_, h2⟩ => h (h2 i hi)
theorem areM_long {l : List Me} (h : 8 < l.length) : areM l = false := decide_eq_false fun ⟨h2, _⟩ => by omega
theorem areM_all {l : List Me} (h : ∀ i, i < l.length → Step l i) : areM l = decide (l.length ≤ 8) := by
  unfold areM
  by_cases h8 : l.length ≤ 8
  · rw [decide_eq_true ⟨h8, h⟩, decide_eq_true h8]
  · rw [decide_eq_false h8, decide_eq_false fun ⟨h2, _⟩ => h8 h2]
theorem areM_yes {l : List Me} (h8 : l.length ≤ 8) (h : ∀ i, i < l.length → Step l i) : areM l = true := decide_eq_true ⟨h8, h⟩
theorem areM_step {l : List Me} (h : areM l = true) : ∀ i, i < l.length → Step l i := (of_decide_eq_true h).2
theorem areM_rise {l : List Me} (h : areM l = true) : ∀ d i, i + d < l.length → 0 < d → (l.getD i z4).1 < (l.getD (i + d) z4).1
  | 0, _, _, hd => absurd hd (Nat.lt_irrefl 0)
  | 1, i, hi, _ => by
    have := (areM_step h (i + 1) hi).2 (by omega)
    simpa using this
  | d + 2, i, hi, _ => by
    have h1 := areM_rise h (d + 1) i (by omega) (by omega)
    have h2 := (areM_step h (i + (d + 1) + 1) (by omega)).2 (by omega)
    simp only [Nat.add_sub_cancel] at h2
    rw [show i + (d + 2) = i + (d + 1) + 1 by omega]
    omega

/-! ### the first with an Id -/
def fndN : List Me → Int → Option Nat
  | [], _ => none
  | m :: l, id => if m.1 = id then some 0 else (fndN l id).map (· + 1)
def fnd (l : List Me) (id : Int) : Int := match fndN l id with | some k => (k : Int) | none => -1
theorem fndN_cases (id : Int) : ∀ l : List Me, (∃ k, k < l.length ∧ fndN l id = some k ∧ (l.getD k z4).1 = id ∧ ∀ j, j < k → (l.getD j z4).1 ≠ id) ∨ (fndN l id = none ∧ ∀ j, j < l.length → (l.getD j z4).1 ≠ id)
  | [] => .inr ⟨rfl, fun j h => by simp at h⟩
  | m :: l => by
    by_cases h : m.1 = id
    · refine .inl ⟨0, by simp, by simp [fndN, h], by simpa using h, fun j hj => by omega⟩
    · rcases fndN_cases id l with ⟨k, h1, h2, h3, h4⟩ | ⟨h1, h2⟩
      · refine .inl ⟨k + 1, by simp; omega, by simp [fndN, h, h2], by simpa using h3, fun j hj => ?_⟩
        cases j with
        | zero => simpa using h
        | succ j => simpa using h4 j (by omega)
      · refine .inr ⟨by simp [fndN, h, h1], fun j hj => ?_⟩
        cases j with
        | zero => simpa using h
        | succ j => simpa using h2 j (by simpa using hj)
theorem fnd_cases (l : List Me) (id : Int) : (∃ k : Nat, k < l.length ∧ fnd l id = k ∧ (l.getD k z4).1 = id ∧ ∀ j, j < k → (l.getD j z4).1 ≠ id) ∨ (fnd l id = -1 ∧ ∀ j, j < l.length → (l.getD j z4).1 ≠ id) := by
  rcases fndN_cases id l with ⟨k, h1, h2, h3, h4⟩ | ⟨h1, h2⟩
  · exact .inl ⟨k, h1, by simp [fnd, h2], h3, h4⟩
  · exact .inr ⟨by simp [fnd, h1], h2⟩
theorem fnd_at {l : List Me} {id : Int} {k : Nat} (hk : k < l.length) (he : (l.getD k z4).1 = id) (hb : ∀ j, j < k → (l.getD j z4).1 ≠ id) : fnd l id = k := by
  rcases fnd_cases l id with ⟨k', h1, h2, h3, h4⟩ | ⟨_, h2⟩
  · rcases Nat.lt_trichotomy k' k with h | h | h
    · exact absurd h3 (hb k' h)
    · rw [h2, h]
    · exact absurd he (h4 k h)
  · exact absurd he (h2 k hk)
theorem fnd_none {l : List Me} {id : Int} (h : ∀ j, j < l.length → (l.getD j z4).1 ≠ id) : fnd l id = -1 := by
  rcases fnd_cases l id with ⟨k', h1, h2, h3, h4⟩ | ⟨h1, _⟩
  · exact absurd h3 (h k' h1)
  · exact h1
/-- whatever it is: a place or -1 -/
theorem fnd_in (l : List Me) (id : Int) : fnd l id = -1 ∨ ∃ k : Nat, k < l.length ∧ fnd l id = k := by
  rcases fnd_cases l id with ⟨k, h1, h2, _⟩ | ⟨h1, _⟩
  · exact .inr ⟨k, h1, h2⟩
  · exact .inl h1
def brk (l : List Me) (id : Int) : Int := if fnd l id < 0 then 0 else (l.getD (fnd l id).toNat z4).2.2.2
def alive (l : List Me) (id t : Int) : Bool := decide (0 ≤ fnd l id) && (decide ((l.getD (fnd l id).toNat z4).2.1 ≤ t) && decide (t < (l.getD (fnd l id).toNat z4).2.2.2))
theorem brk_none {l : List Me} {id : Int} (h : fnd l id = -1) : brk l id = 0 := by unfold brk; rw [if_pos (by omega)]
theorem brk_at {l : List Me} {id : Int} {k : Nat} (h : fnd l id = k) : brk l id = (l.getD k z4).2.2.2 := by unfold brk; rw [h, if_neg (by omega), Int.toNat_natCast]
theorem alive_none {l : List Me} {id : Int} (t : Int) (h : fnd l id = -1) : alive l id t = false := by unfold alive; rw [h]; rfl
theorem alive_at {l : List Me} {id : Int} {k : Nat} (t : Int) (h : fnd l id = k) : alive l id t = (decide ((l.getD k z4).2.1 ≤ t) && decide (t < (l.getD k z4).2.2.2)) := by
  unfold alive; rw [h, Int.toNat_natCast, decide_eq_true (by omega : (0 : Int) ≤ (k : Int)), Bool.true_and]

/-! ### the one in use that ends last -/
def inUse (m : Me) (t : Int) : Prop := m.2.1 ≤ t ∧ t < m.2.2.1
instance (m : Me) (t : Int) : Decidable (inUse m t) := by unfold inUse; infer_instance
/-- the place of the best of the first k, if there is one -/
def bestN (l : List Me) (t : Int) : Nat → Option Nat
  | 0 => none
  | k + 1 => if inUse (l.getD k z4) t then (match bestN l t k with | none => some k | some b => if (l.getD b z4).2.2.1 < (l.getD k z4).2.2.1 then some k else some b) else bestN l t k
theorem bestN_lt {l : List Me} {t : Int} : ∀ {k b : Nat}, bestN l t k = some b → b < k
  | 0, b, h => by simp [bestN] at h
  | k + 1, b, h => by
    unfold bestN at h
    split at h
    · split at h
      · simp only [Option.some.injEq] at h; omega
      · rename_i b' hb'
        have := bestN_lt hb'
        split at h <;> (simp only [Option.some.injEq] at h; omega)
    · have := bestN_lt h
      omega
theorem bestN_out {l : List Me} {t : Int} {k : Nat} (h : ¬ inUse (l.getD k z4) t) : bestN l t (k + 1) = bestN l t k := by
  rw [bestN, if_neg h]
theorem bestN_first {l : List Me} {t : Int} {k : Nat} (h : inUse (l.getD k z4) t) (hb : bestN l t k = none) : bestN l t (k + 1) = some k := by
  rw [bestN, if_pos h, hb]
theorem bestN_more {l : List Me} {t : Int} {k b : Nat} (h : inUse (l.getD k z4) t) (hb : bestN l t k = some b) (hm : (l.getD b z4).2.2.1 < (l.getD k z4).2.2.1) : bestN l t (k + 1) = some k := by
  rw [bestN, if_pos h, hb]; exact if_pos hm
theorem bestN_less {l : List Me} {t : Int} {k b : Nat} (h : inUse (l.getD k z4) t) (hb : bestN l t k = some b) (hm : ¬ (l.getD b z4).2.2.1 < (l.getD k z4).2.2.1) : bestN l t (k + 1) = some b := by
  rw [bestN, if_pos h, hb]; exact if_neg hm
/-- the best of the first k is in use, and none of them in use ends later; none: none is in use -/
theorem bestN_says {l : List Me} {t : Int} : ∀ k : Nat, (∀ b, bestN l t k = some b → inUse (l.getD b z4) t) ∧ (∀ j, j < k → inUse (l.getD j z4) t → ∃ b, bestN l t k = some b ∧ (l.getD j z4).2.2.1 ≤ (l.getD b z4).2.2.1)
  | 0 => ⟨fun b h => by simp [bestN] at h, fun j h => by omega⟩
  | k + 1 => by
    obtain ⟨h1, h2⟩ := bestN_says (l := l) (t := t) k
    by_cases hu : inUse (l.getD k z4) t
    · rcases hb : bestN l t k with _ | b
      · rw [bestN_first hu hb]
        refine ⟨fun b h => by cases h; exact hu, fun j hj hj2 => ⟨k, rfl, ?_⟩⟩
        rcases Nat.lt_succ_iff_lt_or_eq.1 hj with h | rfl
        · obtain ⟨b, e, _⟩ := h2 j h hj2
          rw [hb] at e; cases e
        · exact Int.le_refl _
      · by_cases hm : (l.getD b z4).2.2.1 < (l.getD k z4).2.2.1
        · rw [bestN_more hu hb hm]
          refine ⟨fun b h => by cases h; exact hu, fun j hj hj2 => ⟨k, rfl, ?_⟩⟩
          rcases Nat.lt_succ_iff_lt_or_eq.1 hj with h | rfl
          · obtain ⟨b', e, h3⟩ := h2 j h hj2
            rw [hb] at e; cases e; omega
          · exact Int.le_refl _
        · rw [bestN_less hu hb hm]
          refine ⟨fun b' h => by cases h; exact h1 b hb, fun j hj hj2 => ⟨b, rfl, ?_⟩⟩
          rcases Nat.lt_succ_iff_lt_or_eq.1 hj with h | rfl
          · obtain ⟨b', e, h3⟩ := h2 j h hj2
            rw [hb] at e; cases e; omega
          · omega
    · rw [bestN_out hu]
      refine ⟨h1, fun j hj hj2 => ?_⟩
      rcases Nat.lt_succ_iff_lt_or_eq.1 hj with h | rfl
      · exact h2 j h hj2
      · exact absurd hj2 hu
def best (l : List Me) (t : Int) : Int := match bestN l t l.length with | none => -1 | some b => (l.getD b z4).1
theorem best_none {l : List Me} {t : Int} (h : bestN l t l.length = none) : best l t = -1 := by unfold best; rw [h]
theorem best_at {l : List Me} {t : Int} {b : Nat} (h : bestN l t l.length = some b) : best l t = (l.getD b z4).1 := by unfold best; rw [h]
end Go.Proofs.YtfojilogcecphaaGreat.Mn
