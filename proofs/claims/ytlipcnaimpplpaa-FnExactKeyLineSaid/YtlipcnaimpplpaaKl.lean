/- The line of keys: mathematics (how long a line can be, and what stands in it). -/
import Derived.Test.YtlipcnaimpplpaaNx
import Derived.Test.YtlipcnaimpplpaaHx
namespace Go.Proofs.Ytlipcnaimpplpaa.Kl
open Sl Fnd SlSuccession Nx Hx
/-- a list without repeats is no longer than a list that has all of it -/
theorem nodup_le : ∀ (l m : List Int), l.Nodup → (∀ x ∈ l, x ∈ m) → l.length ≤ m.length
  | [], _, _, _ => Nat.zero_le _
  | x :: l, m, hn, hs => by
    obtain ⟨h1, h2⟩ := List.nodup_cons.1 hn
    have hx : x ∈ m := hs x List.mem_cons_self
    have := nodup_le l (m.erase x) h2 (fun y hy => (List.mem_erase_of_ne (by rintro rfl; exact h1 hy)).2 (hs y (List.mem_cons_of_mem _ hy)))
    rw [List.length_erase_of_mem hx] at this
    have hp : 0 < m.length := List.length_pos_of_mem hx
    simp only [List.length_cons]
    omega
/-- the line by so many steps -/
def lineF (ks : List I5) (xs : List I4) (t : Int) : Nat → Int → List Int → List Int
  | 0, _, out => out
  | f + 1, key, out => if key = 0 ∨ hasI out key = true then out else lineF ks xs t f (next ks xs key t) (out ++ [key])
/-- the line from a key -/
def line (ks : List I5) (xs : List I4) (key t : Int) : List Int := lineF ks xs t (xs.length + 2) key []
/-- where the walk of a line stands: what is left of it makes it whole -/
def Way (ks : List I5) (xs : List I4) (key0 t : Int) (key : Int) (out : List Int) : Prop :=
  (∃ f, f + out.length = xs.length + 2 ∧ lineF ks xs t f key out = line ks xs key0 t) ∧ out.Nodup ∧ (∀ x ∈ out, x ∈ key0 :: xs.map (·.2.1)) ∧ (key = 0 ∨ key ∈ key0 :: xs.map (·.2.1))
theorem Way.start (ks : List I5) (xs : List I4) (key t : Int) : Way ks xs key t key [] := ⟨⟨xs.length + 2, by simp, rfl⟩, List.nodup_nil, (fun _ h => by cases h), .inr List.mem_cons_self⟩
theorem Way.len {ks : List I5} {xs : List I4} {key0 t key : Int} {out : List Int} (h : Way ks xs key0 t key out) : out.length ≤ xs.length + 1 := by
  have := nodup_le out _ h.2.1 h.2.2.1
  simpa using this
theorem Way.done {ks : List I5} {xs : List I4} {key0 t key : Int} {out : List Int} (h : Way ks xs key0 t key out) (hk : key = 0 ∨ hasI out key = true) : out = line ks xs key0 t := by
  have hl := h.len
  obtain ⟨⟨f, hf, he⟩, _⟩ := h
  obtain ⟨g, rfl⟩ : ∃ g, f = g + 1 := ⟨f - 1, by omega⟩
  rw [← he]
  unfold lineF
  rw [if_pos hk]
theorem next_in (ks : List I5) (xs : List I4) (key t : Int) : next ks xs key t = 0 ∨ next ks xs key t ∈ xs.map (·.2.1) := by
  rcases next_cases ks xs key t with ⟨k, hk, _, h⟩ | ⟨_, h⟩
  · right
    rw [h, List.getD_eq_getElem?_getD, List.getElem?_eq_getElem hk]
    exact List.mem_map.2 ⟨_, List.getElem_mem hk, rfl⟩
  · exact .inl h
theorem Way.next {ks : List I5} {xs : List I4} {key0 t key : Int} {out : List Int} (h : Way ks xs key0 t key out) (h0 : key ≠ 0) (hh : hasI out key = false) : Way ks xs key0 t (next ks xs key t) (out ++ [key]) := by
  have hl := h.len
  obtain ⟨⟨f, hf, he⟩, hn, hs, hk⟩ := h
  obtain ⟨g, rfl⟩ : ∃ g, f = g + 1 := ⟨f - 1, by omega⟩
  have hm : key ∉ out := of_decide_eq_false hh
  refine ⟨⟨g, by simp; omega, ?_⟩, ?_, ?_, ?_⟩
  · rw [← he]
    conv => rhs; unfold lineF
    rw [if_neg (by rintro (h | h); exact h0 h; rw [hh] at h; cases h)]
  · refine List.nodup_append.2 ⟨hn, by simp, ?_⟩
    intro a ha b hb e
    simp only [List.mem_cons, List.not_mem_nil, or_false] at hb
    subst hb
    subst e
    exact hm ha
  · intro x hx
    rcases List.mem_append.1 hx with h | h
    · exact hs x h
    · simp only [List.mem_cons, List.not_mem_nil, or_false] at h
      subst h
      exact hk.resolve_left h0
  · rcases next_in ks xs key t with h | h
    · exact .inl h
    · exact .inr (List.mem_cons_of_mem _ h)
end Go.Proofs.Ytlipcnaimpplpaa.Kl
