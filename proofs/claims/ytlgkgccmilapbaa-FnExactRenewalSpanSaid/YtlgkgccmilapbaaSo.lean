/- What is of no program: a slice of the call's own that the library sorts. -/
import Derived.Test.YtlgkgccmilapbaaSt
import Derived.Shelf.SlSortCmp.NoneTotal
namespace Go.Proofs.Ytlgkgccmilapbaa.St
open Go.RowKit Go.WideShapes Go.Sort Sl

section
variable {α : Type} [Inhabited α] {E : En α} {T : TypeId} {w : World} {lo hi g n c : Nat} {xs : List α}
theorem flat_at (ys : List α) {q : Nat} (hq : q < ys.length * E.C) : ∃ v, (fl E ys)[q]? = some v ∧ (Go.Sort.flatK E.of E.C ys.toArray)[q]! = v := by
  have hp := E.pos
  have hi : q / E.C < ys.length := Nat.div_lt_of_lt_mul (by rw [Nat.mul_comm]; exact hq)
  have hj : q % E.C < E.C := Nat.mod_lt _ hp
  have hx : ys[q / E.C]? = some ys[q / E.C] := List.getElem?_eq_getElem hi
  have hv : (E.of ys[q / E.C])[q % E.C]? = some ((E.of ys[q / E.C])[q % E.C]'(by rw [E.len]; exact hj)) := List.getElem?_eq_getElem _
  have h := fl_at E hx hv
  rw [show q / E.C * E.C + q % E.C = q by rw [Nat.mul_comm]; exact Nat.div_add_mod q E.C] at h
  refine ⟨_, h, ?_⟩
  rw [Go.Sort.get_flatK _ _ _ _ (by simpa using hq)]
  have hd : (ys.toArray)[q / E.C]! = ys[q / E.C] := by
    rw [getElem!_pos _ _ (by simpa using hi)]
    simp
  rw [hd, getElem!_def, hv]
theorem OwS.holds (h : OwS E T w lo hi (some ⟨g, 0, none⟩) n c xs) : Go.Sort.HoldsK E.of E.C w g 0 xs.toArray := by
  intro j hj
  have hj2 : j < xs.length * E.C := by simpa using hj
  obtain ⟨v, h1, h2⟩ := flat_at (E := E) xs hj2
  rw [Nat.zero_add, h.own.cellAt j (by rw [← h.len]; exact hj2), h1, h2]
  exact ⟨rfl, h.free⟩
theorem own_sorted (h : OwS E T w lo hi (some ⟨g, 0, none⟩) n c xs) (q : Nat) (os : Array Obj) {ys : List α} (hl : ys.length = n) :
    OwS E T (Go.Proofs.sortWorldK E.of E.C w g 0 q ys.toArray os) lo hi (some ⟨g, 0, none⟩) n c ys ∧ w.grownBy (Go.Proofs.sortWorldK E.of E.C w g 0 q ys.toArray os) (some g) := by
  have hheap : (Go.Proofs.sortWorldK E.of E.C w g 0 q ys.toArray os).heap = w.heap.modify g (onCells (putCells id 0 (Go.Sort.flatK E.of E.C ys.toArray))) ++ os := rfl
  have hg : w.grownBy (Go.Proofs.sortWorldK E.of E.C w g 0 q ys.toArray os) (some g) := by
    refine ⟨rfl, rfl, rfl, by rw [hheap]; simp, fun k hk hne => ?_⟩
    rw [hheap, Array.getElem?_append_left (by simpa using hk), Array.getElem?_modify, if_neg (fun e => hne (by rw [e]))]
  refine ⟨⟨⟨by rw [fl_len, hl], ?_⟩, hl, Nat.le_trans h.2.2.1 hg.size, h.2.2.2⟩, hg⟩
  rcases h.own.2 with ⟨h', _⟩ | ⟨g', cap', cur, h', hb, hgg, hnc, hcm, hcs, htake⟩
  · simp at h'
  · simp only [Value.slice.injEq, Option.some.injEq, Addr.mk.injEq, and_true, true_and] at h'
    obtain ⟨rfl, rfl⟩ := h'
    refine .inr ⟨g, c, putCells id 0 (Go.Sort.flatK E.of E.C ys.toArray) cur, rfl, hb, ?_, hnc, hcm, by simp [putCells, hcs], ?_⟩
    · have hlt := (Array.getElem?_eq_some_iff.1 hgg).1
      rw [hheap, Array.getElem?_append_left (by simpa using hlt), Array.getElem?_modify, if_pos rfl, hgg]
      rfl
    · have hle : n * E.C ≤ cur.size := by rw [hcs]; exact Nat.mul_le_mul_right _ hnc
      apply List.ext_getElem?
      intro j
      by_cases hj : j < n * E.C
      · obtain ⟨v, h1, h2⟩ := flat_at (E := E) ys (q := j) (by rw [hl]; exact hj)
        rw [List.getElem?_take_of_lt hj, h1, Array.getElem?_toList]
        unfold putCells
        rw [Array.getElem?_mapIdx, Array.getElem?_eq_getElem (by omega), Option.map_some, if_pos ⟨Nat.zero_le _, by simp [hl]; exact hj⟩, Nat.sub_zero, h2]
        rfl
      · rw [List.getElem?_eq_none (by rw [List.length_take]; omega), List.getElem?_eq_none (by rw [fl_len, hl]; omega)]
end
end Go.Proofs.Ytlgkgccmilapbaa.St
