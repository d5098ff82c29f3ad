/- What is of no program: append at an operation that is guarded, where the guard lets it by. -/
import Derived.Test.YtamlmpigllidoaaSl
namespace Go.Proofs.Ytamlmpigllidoaa.Sl
open Go.RowKit Go.WideShapes

section
variable {P : Program} {w : World} {ops : Array Oper} {rest : List Oper} {o : Oper} {a : Act} {Q : Exit → Act → World → Prop} {k : IntKind} {E : TypeId} {lo hi : Nat} {p : Option Addr} {n c : Nat} {zs : List Int}
theorem wpList_want (hw : Region.wanted o (yielded ops a.tmps) = true) (h : ∀ K : Act → World → Prop, (∀ a w, wpList P ops Q rest a w → K a w) → o.wp P a w K Q) : wpList P ops Q (o :: rest) a w :=
  wpList_step fun K hK => by
    rw [if_pos hw]
    exact h K hK
theorem wpList_appG (hw : Region.wanted o (yielded ops a.tmps) = true) (s x : Operand) (t : TypeId) (ho : o.op = .call { callee := .builtin .append, args := #[s, x], argTypes := #[t, t] })
    (i : TypeInfo) (z : Value) (bytes : Nat) (ht : P.underlying t = some (.slice E)) (hi' : P.info? E = some i) (hz : i.zero = some z) (hsize : i.size = 1) (hby : i.bytes = bytes) (hzs : z.cells.size = 1)
    (hs : a.eval s = .slice p n c) (how : Ow k E w lo hi p n c zs) (p' : Option Addr) (m cc : Nat) (ys : List Int) (hx : a.eval x = .slice p' m cc) (hr : Rd k w p' m ys)
    (hlo : lo ≤ w.heap.size) (hb : (n + m) * bytes ≤ 140737488355328) (hb' : n + m ≤ 140737488355328)
    (h : ∀ p' c' w', Ow k E w' lo w'.heap.size p' (n + m) c' (zs ++ ys) → w.grownBy w' (Value.slice p n c).ownBlock → wpList P ops Q rest (a.put o.dst (.slice p' (n + m) c')) w') : wpList P ops Q (o :: rest) a w := by
  refine wpList_want hw fun K hK => ?_
  rcases p' with _ | ⟨b, off, spot⟩
  · have hm : m = 0 := by
      rcases Nat.eq_zero_or_pos m with h0 | h0
      · exact h0
      · obtain ⟨_, _, e, _⟩ := hr.2.2.2 h0
        cases e
    subst hm
    have hy : ys = [] := List.eq_nil_of_length_eq_zero hr.1
    subst hy
    have hrun : (Builtin.append_ #[t, t] o.type #[.slice p n c, .slice none 0 cc]).run P w = .ok (.slice p n c) w := by
      rcases how.own.2 with ⟨he, _⟩ | ⟨g, cap, cur, he, _, _, hnc, _⟩
      · simp only [Value.slice.injEq] at he
        obtain ⟨rfl, rfl, rfl⟩ := he
        simp [Builtin.append_, run_underlying ht, sizeOf, typeInfo, hi', Builtin.lenOf, Builtin.firstCells]
      · simp only [Value.slice.injEq, true_and] at he
        obtain ⟨rfl, rfl⟩ := he
        simp [Builtin.append_, run_underlying ht, sizeOf, typeInfo, hi', Builtin.lenOf, Builtin.firstCells, hnc, storeCells]
    unfold Oper.wp execOp
    simp only [ho, resolve, invoke, builtin, Sem.run_bind, Sem.run_pure, Result.andThen_ok, List.map_toArray, List.map_cons, List.map_nil, hs, hx, hrun]
    refine hK _ _ (h p c w ?_ ⟨rfl, rfl, rfl, Nat.le_refl _, fun _ _ _ => rfl⟩)
    rw [List.append_nil]
    exact how.wide (Nat.le_refl _) how.2.2.1 (Nat.le_refl _)
  · refine wp_append_own w s x t ho lo E i z 1 bytes ht hi' hz hsize hby hzs (by omega) _ n _ hs how.own ⟨b, off, spot⟩ m cc (ys.map (Value.int k)) hx (by rw [List.length_map, hr.len]; omega) ?_ ?_ (by unfold maxLen; omega) hb hlo ?_
    · intro j u hu
      have hj : j < ys.length := by have := List.getElem?_eq_some_iff.1 hu; simpa using this.1
      obtain ⟨b', o', e, _, hc⟩ := hr.at_ (i := j) (by rw [← hr.len]; exact hj)
      simp only [Option.some.injEq, Addr.mk.injEq] at e
      obtain ⟨rfl, rfl, rfl⟩ := e
      rw [Addr.add_lit, hc, ← hu, List.getElem?_map, List.getD_eq_getElem?_getD, List.getElem?_eq_getElem hj]
      rfl
    · intro u hu
      rw [List.mem_map] at hu
      obtain ⟨y, _, rfl⟩ := hu
      rfl
    · intro v' w' hown hg _
      obtain ⟨p3, c3, rfl⟩ : ∃ p3 c3, v' = .slice p3 (n + m) c3 := row_form hown
      rw [← List.map_append] at hown
      exact hK _ _ (h p3 c3 w' (Ow.of_row hown (allK_append how.all hr.all)) hg)
end
end Go.Proofs.Ytamlmpigllidoaa.Sl
