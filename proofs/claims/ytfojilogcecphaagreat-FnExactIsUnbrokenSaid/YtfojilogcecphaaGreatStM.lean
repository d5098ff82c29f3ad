/- What is of no program: rows of structs that are made, and elements that are stored whole. -/
import Derived.Test.YtfojilogcecphaaGreatSt
import Derived.Laws.IdiomCopy
import Derived.Laws.MakeOwn
namespace Go.Proofs.YtfojilogcecphaaGreat.St
open Go.RowKit Go.WideShapes Sl

def setL (xs : List Value) (s : Nat) : List Value → List Value
  | [] => xs
  | v :: r => setL (xs.set s v) (s + 1) r
theorem setL_mid : ∀ (vs pre old rest : List Value), old.length = vs.length → setL (pre ++ (old ++ rest)) pre.length vs = pre ++ (vs ++ rest)
  | [], pre, old, rest, h => by
    have : old = [] := List.eq_nil_of_length_eq_zero h
    rw [this]
    rfl
  | v :: vs, pre, o :: old, rest, h => by
    have h2 := setL_mid vs (pre ++ [v]) old rest (by simpa using h)
    unfold setL
    rw [List.cons_append, List.set_append_right _ _ (Nat.le_refl _), Nat.sub_self, List.set_cons_zero]
    rw [List.length_append, List.length_singleton, List.append_assoc, List.singleton_append, List.append_assoc, List.singleton_append] at h2
    exact h2
  | _ :: _, _, [], _, h => by simp at h
theorem row_setCells {T : TypeId} {C lo n c g : Nat} : ∀ (vs : List Value) (s : Nat) (xs : List Value) (w : World), w.ownsRow lo T C (.slice (some ⟨g, 0, none⟩) n c) n xs →
    (w.setCells g s vs).ownsRow lo T C (.slice (some ⟨g, 0, none⟩) n c) n (setL xs s vs) ∧ w.grownBy (w.setCells g s vs) (some g)
  | [], _, _, _, h => ⟨h, ⟨rfl, rfl, rfl, Nat.le_refl _, fun _ _ _ => rfl⟩⟩
  | v :: r, s, xs, w, h => by
    obtain ⟨h1, g1⟩ := h.stored s v
    obtain ⟨h2, g2⟩ := row_setCells r (s + 1) _ _ h1
    exact ⟨h2, ⟨g2.os.trans g1.os, g2.tape.trans g1.tape, g2.output.trans g1.output, Nat.le_trans g1.size g2.size, fun i hi hne => (g2.block i (Nat.lt_of_lt_of_le hi g1.size) hne).trans (g1.block i hi hne)⟩⟩
section
variable {α : Type} {E : En α}
theorem fl_setL {xs : List α} {i : Nat} (hi : i < xs.length) (y : α) : setL (fl E xs) (i * E.C) (E.of y) = fl E (xs.set i y) := by
  have e1 : xs = xs.take i ++ (xs[i] :: xs.drop (i + 1)) := by rw [← List.drop_eq_getElem_cons hi, List.take_append_drop]
  have e2 : xs.set i y = xs.take i ++ (y :: xs.drop (i + 1)) := List.set_eq_take_append_cons_drop.trans (if_pos hi)
  have h := setL_mid (E.of y) (fl E (xs.take i)) (E.of xs[i]) (fl E (xs.drop (i + 1))) (by rw [E.len, E.len])
  rw [fl_len, List.length_take, Nat.min_eq_left (Nat.le_of_lt hi), ← fl_cons, ← fl_cons, ← fl_append, ← fl_append, ← e1, ← e2] at h
  exact h
/-- an element is stored whole -/
theorem OwS.elem {T : TypeId} {w : World} {lo hi g n c i : Nat} {xs : List α} (h : OwS E T w lo hi (some ⟨g, 0, none⟩) n c xs) (hi' : i < n) (y : α) : OwS E T (w.setCells g (i * E.C) (E.of y)) lo hi (some ⟨g, 0, none⟩) n c (xs.set i y) ∧ w.grownBy (w.setCells g (i * E.C) (E.of y)) (some g) := by
  obtain ⟨h1, h2⟩ := row_setCells (E.of y) (i * E.C) _ _ h.own
  rw [fl_setL (by rw [h.len]; exact hi')] at h1
  exact ⟨⟨h1, by rw [List.length_set]; exact h.len, Nat.le_trans h.2.2.1 h2.size, h.2.2.2⟩, h2⟩
theorem made_fl (z : Value) (x : α) (hz : z.cells.toList = E.of x) (n : Nat) : (madeCells z.cells (n * E.C)).toList = fl E (List.replicate n x) := by
  have hs : z.cells.size = E.C := by rw [← Array.length_toList, hz, E.len]
  apply List.ext_getElem?
  intro q
  by_cases hq : q < n * E.C
  · have hp := E.pos
    have hi : q / E.C < n := Nat.div_lt_of_lt_mul (by rw [Nat.mul_comm]; exact hq)
    have hj : q % E.C < E.C := Nat.mod_lt _ hp
    have hx : (List.replicate n x)[q / E.C]? = some x := by rw [List.getElem?_replicate, if_pos hi]
    have hv : (E.of x)[q % E.C]? = some ((E.of x)[q % E.C]'(by rw [E.len]; exact hj)) := List.getElem?_eq_getElem _
    have h2 := fl_at E hx hv
    rw [show q / E.C * E.C + q % E.C = q by rw [Nat.mul_comm]; exact Nat.div_add_mod q E.C] at h2
    rw [h2]
    unfold madeCells
    rw [Array.getElem?_toList, Array.getElem?_map, Array.getElem?_range, if_pos hq, Option.map_some, hs]
    have hz2 : z.cells[q % E.C]? = some ((E.of x)[q % E.C]'(by rw [E.len]; exact hj)) := by rw [← Array.getElem?_toList, hz, hv]
    rw [getElem!_def, hz2]
  · rw [List.getElem?_eq_none (by rw [Array.length_toList, size_madeCells]; omega), List.getElem?_eq_none (by rw [fl_len, List.length_replicate]; omega)]
/-- a row made, the first j elements stored -/
theorem set_mid {xs : List α} {x : α} {j : Nat} (h : j < xs.length) : (xs.take j ++ List.replicate (xs.length - j) x).set j xs[j] = xs.take (j + 1) ++ List.replicate (xs.length - (j + 1)) x := by
  rw [show xs.length - j = (xs.length - (j + 1)) + 1 by omega, List.replicate_succ, List.set_append_right _ _ (by rw [List.length_take]; omega), List.length_take, show j - min j xs.length = 0 by omega, List.set_cons_zero, List.take_succ_eq_append_getElem h, List.append_assoc]
  rfl
end
end Go.Proofs.YtfojilogcecphaaGreat.St
