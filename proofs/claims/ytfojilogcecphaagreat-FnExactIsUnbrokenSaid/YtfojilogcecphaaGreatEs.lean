/- What is of no program: sums and counts over lists, step by step. -/
import Derived.Test.YtfojilogcecphaaGreatEd
namespace Go.Proofs.YtfojilogcecphaaGreat.Es
open Go.RowKit Ed

def sumBy {α : Type} (f : α → Nat) (xs : List α) : Nat := (xs.map f).sum
section
variable {α : Type} {f : α → Nat}
theorem sumBy_nil : sumBy f [] = 0 := rfl
theorem sumBy_take {xs : List α} {k : Nat} {x : α} (h : xs[k]? = some x) : sumBy f (xs.take (k + 1)) = sumBy f (xs.take k) + f x := by
  obtain ⟨hk, rfl⟩ := List.getElem?_eq_some_iff.1 h
  unfold sumBy
  rw [List.take_succ_eq_append_getElem hk, List.map_append, List.sum_append, List.map_singleton, List.sum_singleton]
theorem sumBy_all (xs : List α) {n : Nat} (h : xs.length = n) : sumBy f (xs.take n) = sumBy f xs := by rw [← h, List.take_length]
theorem sumBy_le (xs : List α) (k : Nat) : sumBy f (xs.take k) ≤ sumBy f xs := by
  have e : sumBy f xs = sumBy f (xs.take k) + sumBy f (xs.drop k) := by
    unfold sumBy
    rw [← List.sum_append, ← List.map_append, List.take_append_drop]
  omega
theorem sumBy_bound {E : Ent α} (A B : Nat) (h : ∀ x, f x ≤ A + B * E.wt x) : ∀ xs : List α, sumBy f xs ≤ A * xs.length + B * wts E xs
  | [] => by simp [sumBy, wts]
  | x :: xs => by
    have h1 := sumBy_bound A B h xs
    have h2 := h x
    have e1 : sumBy f (x :: xs) = f x + sumBy f xs := by simp [sumBy]
    rw [e1, wts_cons, List.length_cons, Nat.mul_add, Nat.mul_add, Nat.mul_one]
    omega
end
/-- how many are so -/
def cnt {α : Type} (p : α → Bool) (xs : List α) : Nat := sumBy (fun x => if p x then 1 else 0) xs
section
variable {α : Type} {p : α → Bool}
theorem cnt_nil : cnt p [] = 0 := rfl
theorem cnt_yes {xs : List α} {k : Nat} {x : α} (h : xs[k]? = some x) (hp : p x = true) : cnt p (xs.take (k + 1)) = cnt p (xs.take k) + 1 := by
  unfold cnt
  rw [sumBy_take h, if_pos hp]
theorem cnt_no {xs : List α} {k : Nat} {x : α} (h : xs[k]? = some x) (hp : p x = false) : cnt p (xs.take (k + 1)) = cnt p (xs.take k) := by
  unfold cnt
  rw [sumBy_take h, if_neg (by rw [hp]; decide)]
  omega
theorem cnt_all (xs : List α) {n : Nat} (h : xs.length = n) : cnt p (xs.take n) = cnt p xs := sumBy_all xs h
end
/-- none before is so -/
def noneB {α : Type} (p : α → Bool) (xs : List α) (k : Nat) : Prop := ∀ j x, j < k → xs[j]? = some x → p x = false
section
variable {α : Type} {p : α → Bool}
theorem noneB_zero (xs : List α) : noneB p xs 0 := fun _ _ h => absurd h (Nat.not_lt_zero _)
theorem noneB_next {xs : List α} {k : Nat} {x : α} (h : noneB p xs k) (hx : xs[k]? = some x) (hp : p x = false) : noneB p xs (k + 1) := fun j y hj hy => by
  by_cases e : j = k
  · subst e
    rw [hx] at hy
    cases hy
    exact hp
  · exact h j y (by omega) hy
theorem any_no {xs : List α} {n : Nat} (h : noneB p xs n) (hl : xs.length = n) : xs.any p = false := by
  rw [List.any_eq_false]
  intro x hx
  obtain ⟨i, hi⟩ := List.mem_iff_getElem?.1 hx
  have := (List.getElem?_eq_some_iff.1 hi).1
  rw [h i x (by omega) hi]
  decide
theorem any_yes {xs : List α} {k : Nat} {x : α} (hx : xs[k]? = some x) (hp : p x = true) : xs.any p = true := List.any_eq_true.2 ⟨x, List.mem_of_getElem? hx, hp⟩
end
end Go.Proofs.YtfojilogcecphaaGreat.Es
