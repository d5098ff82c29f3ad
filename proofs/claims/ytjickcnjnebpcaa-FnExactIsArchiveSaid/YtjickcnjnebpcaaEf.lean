/- slices.EqualFunc over pieces and over renewals. -/
import Derived.Test.YtjickcnjnebpcaaDpPiece
import Derived.Test.YtjickcnjnebpcaaDpRenewal
import Derived.Test.YtjickcnjnebpcaaEs
import Derived.Test.YtjickcnjnebpcaaCpA
import Derived.Test.YtjickcnjnebpcaaEqA
import Derived.Test.YtjickcnjnebpcaaErA
import Derived.LoopTactic
import Derived.Outline
namespace Go.Proofs.Ytjickcnjnebpcaa.Ef
open Go.ChangeShapes Go.WideShapes Go.ChangeAt Go.RowKit Sl St Ed Dz
/-- as many, and each pair so -/
noncomputable def eqAll {α : Type} (f : α → α → Bool) (xs ys : List α) : Bool := @decide (xs.length = ys.length ∧ ∀ (i : Nat) (x y : α), xs[i]? = some x → ys[i]? = some y → f x y = true) (Classical.propDecidable _)
section
variable {α : Type} {f : α → α → Bool} {xs ys : List α}
theorem eqAll_len (h : xs.length ≠ ys.length) : eqAll f xs ys = false := @decide_eq_false _ (Classical.propDecidable _) fun ⟨h1, _⟩ => h h1
theorem eqAll_at {k : Nat} {x y : α} (hx : xs[k]? = some x) (hy : ys[k]? = some y) (h : f x y = false) : eqAll f xs ys = false := @decide_eq_false _ (Classical.propDecidable _) fun ⟨_, h2⟩ => by
  have := h2 k x y hx hy
  rw [h] at this
  cases this
def Upto (f : α → α → Bool) (xs ys : List α) (k : Nat) : Prop := ∀ (i : Nat) (x y : α), i < k → xs[i]? = some x → ys[i]? = some y → f x y = true
theorem upto_zero : Upto f xs ys 0 := fun _ _ _ h => absurd h (Nat.not_lt_zero _)
theorem upto_next {k : Nat} {x y : α} (h : Upto f xs ys k) (hx : xs[k]? = some x) (hy : ys[k]? = some y) (hf : f x y = true) : Upto f xs ys (k + 1) := fun i a b hi ha hb => by
  by_cases e : i = k
  · subst e
    rw [hx] at ha
    rw [hy] at hb
    cases ha
    cases hb
    exact hf
  · exact h i a b (by omega) ha hb
theorem eqAll_yes {n : Nat} (h1 : xs.length = n) (h2 : ys.length = n) (h : Upto f xs ys n) : eqAll f xs ys = true := @decide_eq_true _ (Classical.propDecidable _) ⟨h1.trans h2.symm, fun i x y hx hy => h i x y (by have := (List.getElem?_eq_some_iff.1 hx).1; omega) hx hy⟩
end
def eqP (a b : DpPiece.A) : Bool := decide (Cp.cP a.1 b.1 a.2.1 b.2.1 a.2.2 b.2.2 = 0)
end Go.Proofs.Ytjickcnjnebpcaa.Ef
