/- Mathematics, of no program: the first element that is such; lists of valid elements with rising numbers; the last one kept under each key; elements that are such. -/
import Derived.Test.YtfojilogcecphaaGreatKit
import Derived.Lib.SlBy
namespace Go.Proofs.YtfojilogcecphaaGreat.Fnd
/-- numbers, some at a time -/
abbrev I3 := Int × Int × Int
abbrev I4 := Int × Int × Int × Int
abbrev I5 := Int × Int × Int × Int × Int
abbrev I6 := Int × Int × Int × Int × Int × Int
abbrev I7 := Int × Int × Int × Int × Int × Int × Int
abbrev I9 := Int × Int × Int × Int × Int × Int × Int × Int × Int
section
variable {α : Type}
theorem idx {l : List α} {k : Nat} (z : α) (h : k < l.length) : l[k]? = some (l.getD k z) := by
  rw [List.getD_eq_getElem?_getD, List.getElem?_eq_getElem h]; rfl
theorem getD_mem {l : List α} {k : Nat} (z : α) (h : k < l.length) : l.getD k z ∈ l := by
  rw [List.getD_eq_getElem?_getD, List.getElem?_eq_getElem h]; exact List.getElem_mem h
def inB (x lo hi : Int) : Bool := decide (lo ≤ x ∧ x ≤ hi)
theorem inB_def (x lo hi : Int) : decide (lo ≤ x ∧ x ≤ hi) = inB x lo hi := rfl
theorem inB_iff {x lo hi : Int} : inB x lo hi = true ↔ lo ≤ x ∧ x ≤ hi := decide_eq_true_iff

/-! ### the first that is such -/
def firstN (p : α → Bool) : List α → Option Nat
  | [] => none
  | m :: l => if p m = true then some 0 else (firstN p l).map (· + 1)
def first (p : α → Bool) (l : List α) : Int := match firstN p l with | some k => (k : Int) | none => -1
theorem firstN_cases (p : α → Bool) (z : α) : ∀ l : List α, (∃ k, k < l.length ∧ firstN p l = some k ∧ p (l.getD k z) = true ∧ ∀ j, j < k → p (l.getD j z) = false) ∨ (firstN p l = none ∧ ∀ j, j < l.length → p (l.getD j z) = false)
  | [] => .inr ⟨rfl, fun j h => by simp at h⟩
  | m :: l => by
    by_cases h : p m = true
    · refine .inl ⟨0, by simp, by simp [firstN, h], by simpa using h, fun j hj => by omega⟩
    · rcases firstN_cases p z l with ⟨k, h1, h2, h3, h4⟩ | ⟨h1, h2⟩
      · refine .inl ⟨k + 1, by simp; omega, by simp [firstN, h, h2], by simpa using h3, fun j hj => ?_⟩
        cases j with
        | zero => simpa using h
        | succ j => simpa using h4 j (by omega)
      · refine .inr ⟨by simp [firstN, h, h1], fun j hj => ?_⟩
        cases j with
        | zero => simpa using h
        | succ j => simpa using h2 j (by simpa using hj)
theorem first_cases (p : α → Bool) (z : α) (l : List α) : (∃ k : Nat, k < l.length ∧ first p l = k ∧ p (l.getD k z) = true ∧ ∀ j, j < k → p (l.getD j z) = false) ∨ (first p l = -1 ∧ ∀ j, j < l.length → p (l.getD j z) = false) := by
  rcases firstN_cases p z l with ⟨k, h1, h2, h3, h4⟩ | ⟨h1, h2⟩
  · exact .inl ⟨k, h1, by simp [first, h2], h3, h4⟩
  · exact .inr ⟨by simp [first, h1], h2⟩
theorem first_at {p : α → Bool} {z : α} {l : List α} {k : Nat} (hk : k < l.length) (he : p (l.getD k z) = true) (hb : ∀ j, j < k → p (l.getD j z) = false) : first p l = k := by
  rcases first_cases p z l with ⟨k', h1, h2, h3, h4⟩ | ⟨_, h2⟩
  · rcases Nat.lt_trichotomy k' k with h | h | h
    · rw [hb k' h] at h3; cases h3
    · rw [h2, h]
    · rw [h4 k h] at he; cases he
  · rw [h2 k hk] at he; cases he
theorem first_none {p : α → Bool} {z : α} {l : List α} (h : ∀ j, j < l.length → p (l.getD j z) = false) : first p l = -1 := by
  rcases first_cases p z l with ⟨k', h1, h2, h3, h4⟩ | ⟨h1, _⟩
  · rw [h k' h1] at h3; cases h3
  · exact h1
theorem first_in (p : α → Bool) (l : List α) : first p l = -1 ∨ ∃ k : Nat, k < l.length ∧ first p l = k := by
  cases l with
  | nil => exact .inl rfl
  | cons z l =>
    rcases first_cases p z (z :: l) with ⟨k, h1, h2, _⟩ | ⟨h1, _⟩
    · exact .inr ⟨k, h1, h2⟩
    · exact .inl h1
theorem first_range (p : α → Bool) (l : List α) : -1 ≤ first p l ∧ first p l < l.length := by
  rcases first_in p l with h | ⟨k, h1, h2⟩
  · have : (0 : Int) ≤ l.length := by omega
    omega
  · omega
theorem first_congr {p q : α → Bool} {l : List α} (h : ∀ x ∈ l, p x = q x) : first p l = first q l := by
  have : firstN p l = firstN q l := by
    induction l with
    | nil => rfl
    | cons x l ih =>
      have h1 := h x (by simp)
      have h2 := ih (fun y hy => h y (by simp [hy]))
      simp only [firstN, h1, h2]
  unfold first
  rw [this]

theorem idxByFrom_first (p : α → Bool) (x : α) : ∀ (l : List α) (i : Nat), Lib.idxByFrom (fun _ y => p y) x l i = match firstN p l with | some k => ((i + k : Nat) : Int) | none => -1
  | [], i => rfl
  | y :: l, i => by
    by_cases h : p y = true
    · simp [Lib.idxByFrom, firstN, h]
    · have ih := idxByFrom_first p x l (i + 1)
      simp only [Lib.idxByFrom, firstN, h, if_false, ih, Bool.false_eq_true]
      cases firstN p l with
      | none => rfl
      | some k =>
        simp only [Option.map_some]
        congr 1
        omega
theorem idxBy_first (p : α → Bool) (x : α) (l : List α) : Lib.idxBy (fun _ y => p y) l x = first p l := by
  unfold Lib.idxBy first
  rw [idxByFrom_first]
  cases firstN p l with
  | none => rfl
  | some k => simp

/-! ### the first with a number -/
section
variable {β : Type}
def isN (n : Int) (k : Int × β) : Bool := decide (k.1 = n)
theorem isN_yes {n : Int} {k : Int × β} (h : k.1 = n) : isN n k = true := decide_eq_true h
theorem isN_no {n : Int} {k : Int × β} (h : ¬ k.1 = n) : isN n k = false := decide_eq_false h
theorem isN_iff {n : Int} {k : Int × β} : isN n k = true ↔ k.1 = n := decide_eq_true_iff
def find (l : List (Int × β)) (n : Int) : Int := first (isN n) l
def look (z : Int × β) (l : List (Int × β)) (n : Int) : Option (Int × β) := (firstN (isN n) l).map fun i => l.getD i z
theorem look_cases (z : Int × β) (l : List (Int × β)) (n : Int) : (∃ k : Nat, k < l.length ∧ find l n = k ∧ look z l n = some (l.getD k z) ∧ (l.getD k z).1 = n ∧ ∀ j, j < k → (l.getD j z).1 ≠ n) ∨ (find l n = -1 ∧ look z l n = none ∧ ∀ j, j < l.length → (l.getD j z).1 ≠ n) := by
  rcases firstN_cases (isN n) z l with ⟨k, h1, h2, h3, h4⟩ | ⟨h1, h2⟩
  · exact .inl ⟨k, h1, by simp [find, first, h2], by simp [look, h2], isN_iff.1 h3, fun j hj e => by have := h4 j hj; rw [isN_yes e] at this; cases this⟩
  · exact .inr ⟨by simp [find, first, h1], by simp [look, h1], fun j hj e => by have := h2 j hj; rw [isN_yes e] at this; cases this⟩
theorem find_at {z : Int × β} {l : List (Int × β)} {n : Int} {k : Nat} (hk : k < l.length) (he : (l.getD k z).1 = n) (hb : ∀ j, j < k → (l.getD j z).1 ≠ n) : find l n = k := first_at hk (isN_yes he) (fun j hj => isN_no (hb j hj))
theorem find_none {z : Int × β} {l : List (Int × β)} {n : Int} (h : ∀ j, j < l.length → (l.getD j z).1 ≠ n) : find l n = -1 := first_none (z := z) (fun j hj => isN_no (h j hj))
theorem look_mem {z : Int × β} {l : List (Int × β)} {n : Int} {k : Int × β} (h : look z l n = some k) : k ∈ l ∧ k.1 = n := by
  rcases look_cases z l n with ⟨i, h1, _, h3, h4, _⟩ | ⟨_, h2, _⟩
  · rw [h3, Option.some.injEq] at h
    subst h
    exact ⟨getD_mem z h1, h4⟩
  · rw [h2] at h; cases h
end

/-! ### lists of valid elements whose numbers rise -/
/-- the element i is valid, and its number above the one before -/
def Step (ok : α → Bool) (f : α → Int) (z : α) (l : List α) (i : Nat) : Prop := ok (l.getD i z) = true ∧ (0 < i → f (l.getD (i - 1) z) < f (l.getD i z))
instance (ok : α → Bool) (f : α → Int) (z : α) (l : List α) (i : Nat) : Decidable (Step ok f z l i) := by unfold Step; infer_instance
def areL (ok : α → Bool) (f : α → Int) (z : α) (m : Nat) (l : List α) : Bool := decide (l.length ≤ m ∧ ∀ i, i < l.length → Step ok f z l i)
variable {ok : α → Bool} {f : α → Int} {z : α} {m : Nat}
theorem areL_no {l : List α} {i : Nat} (hi : i < l.length) (h : ¬ Step ok f z l i) : areL ok f z m l = false := decide_eq_false fun ⟨_, h2⟩ => h (h2 i hi)
theorem areL_long {l : List α} (h : m < l.length) : areL ok f z m l = false := decide_eq_false fun ⟨h2, _⟩ => by omega
theorem areL_all {l : List α} (h : ∀ i, i < l.length → Step ok f z l i) : areL ok f z m l = decide (l.length ≤ m) := by
  unfold areL
  by_cases h8 : l.length ≤ m
  · rw [decide_eq_true ⟨h8, h⟩, decide_eq_true h8]
  · rw [decide_eq_false h8, decide_eq_false fun ⟨h2, _⟩ => h8 h2]
theorem areL_yes {l : List α} (h8 : l.length ≤ m) (h : ∀ i, i < l.length → Step ok f z l i) : areL ok f z m l = true := decide_eq_true ⟨h8, h⟩
theorem areL_step {l : List α} (h : areL ok f z m l = true) : ∀ i, i < l.length → Step ok f z l i := (of_decide_eq_true h).2
theorem areL_rise {l : List α} (h : areL ok f z m l = true) : ∀ d i, i + d < l.length → 0 < d → f (l.getD i z) < f (l.getD (i + d) z)
  | 0, _, _, hd => absurd hd (Nat.lt_irrefl 0)
  | 1, i, hi, _ => by
    have := (areL_step h (i + 1) hi).2 (by omega)
    simpa using this
  | d + 2, i, hi, _ => by
    have h1 := areL_rise h (d + 1) i (by omega) (by omega)
    have h2 := (areL_step h (i + (d + 1) + 1) (by omega)).2 (by omega)
    simp only [Nat.add_sub_cancel] at h2
    rw [show i + (d + 2) = i + (d + 1) + 1 by omega]
    omega
theorem step_zero {xs : List α} {x : α} (hx : xs.getD 0 z = x) (h : ok x = true) : Step ok f z xs 0 := ⟨by rw [hx]; exact h, fun h => absurd h (Nat.lt_irrefl 0)⟩
theorem step_next {xs : List α} {j : Nat} {x y : α} (hx : xs.getD (j + 1) z = x) (hy : xs.getD j z = y) (h : ok x = true) (hl : f y < f x) : Step ok f z xs (j + 1) := ⟨by rw [hx]; exact h, fun _ => by rw [Nat.add_sub_cancel, hx, hy]; exact hl⟩
theorem no_ok {xs : List α} {k : Nat} {x : α} (hx : xs.getD k z = x) (h : ok x = false) : ¬ Step ok f z xs k := fun ⟨h1, _⟩ => by rw [hx, h] at h1; cases h1
theorem no_rise {xs : List α} {j : Nat} {x y : α} (hx : xs.getD (j + 1) z = x) (hy : xs.getD j z = y) (hl : ¬ f y < f x) : ¬ Step ok f z xs (j + 1) := fun ⟨_, h2⟩ => hl (by have := h2 (by omega); rw [Nat.add_sub_cancel, hx, hy] at this; exact this)
theorem steps_next {xs : List α} {k : Nat} (h : ∀ j, j < k → Step ok f z xs j) (hk : Step ok f z xs k) : ∀ j, j < k + 1 → Step ok f z xs j := fun j hj => by
  rcases Nat.lt_succ_iff_lt_or_eq.1 hj with h2 | rfl
  · exact h j h2
  · exact hk
/-- a list of which k elements have been taken -/
theorem take_succ (z : α) {xs : List α} {k : Nat} (h : k < xs.length) : xs.take (k + 1) = xs.take k ++ [xs.getD k z] := by
  rw [List.take_succ_eq_append_getElem h, List.getD_eq_getElem?_getD, List.getElem?_eq_getElem h]; rfl
end
end Go.Proofs.YtfojilogcecphaaGreat.Fnd
