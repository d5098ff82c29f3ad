/- What is of no program: append of ints onto a slice of the call's own, as one operation, and in a region that draws its order. -/
import Derived.Test.YtjaholcmaafenaaSl
import Derived.Deep.RegionHeld3
namespace Go.Proofs.Ytjaholcmaafenaa.Sl
open Go.RowKit Go.WideShapes
section
variable {P : Program} {w : World} {ops : Array Oper} {o : Oper} {a : Act} {Q : Exit → Act → World → Prop} {K : Act → World → Prop} {k : IntKind} {E : TypeId} {lo hi : Nat} {p : Option Addr} {n c : Nat} {zs : List Int}
/-- append of a slice that reads as ys, nil too, onto a slice of the call's own: one operation -/
theorem wp_appR (s x : Operand) (t : TypeId) (ho : o.op = .call { callee := .builtin .append, args := #[s, x], argTypes := #[t, t] })
    (i : TypeInfo) (z : Value) (bytes : Nat) (ht : P.underlying t = some (.slice E)) (hi' : P.info? E = some i) (hz : i.zero = some z) (hsize : i.size = 1) (hby : i.bytes = bytes) (hzs : z.cells.size = 1)
    (hs : a.eval s = .slice p n c) (how : Ow k E w lo hi p n c zs) (p' : Option Addr) (m cc : Nat) (ys : List Int) (hx : a.eval x = .slice p' m cc) (hr : Rd k w p' m ys)
    (hlo : lo ≤ w.heap.size) (hb : (n + m) * bytes ≤ 140737488355328) (hb' : n + m ≤ 140737488355328)
    (h : ∀ p' c' w', Ow k E w' lo w'.heap.size p' (n + m) c' (zs ++ ys) → w.grownBy w' (Value.slice p n c).ownBlock → K (a.put o.dst (.slice p' (n + m) c')) w') : Oper.wp P o a w K Q := by
  rcases p' with _ | ⟨b, off, spot⟩
  · have hm : m = 0 := by
      rcases Nat.eq_zero_or_pos m with h0 | h0
      · exact h0
      · obtain ⟨_, _, e, _⟩ := hr.2.2.2 h0
        cases e
    subst hm
    have hy : ys = [] := List.eq_nil_of_length_eq_zero hr.1
    subst hy
    have hrun : (Builtin.append_ #[t, t] o.type #[.slice p n c, .slice none 0 cc]).run P w = .ok (.slice p n c) w := by
      rcases how.own.2 with ⟨he, _⟩ | ⟨g, cap, cur, he, _, _, hnc, _⟩
      · simp only [Value.slice.injEq] at he
        obtain ⟨rfl, rfl, rfl⟩ := he
        simp [Builtin.append_, run_underlying ht, sizeOf, typeInfo, hi', Builtin.lenOf, Builtin.firstCells]
      · simp only [Value.slice.injEq, true_and] at he
        obtain ⟨rfl, rfl⟩ := he
        simp [Builtin.append_, run_underlying ht, sizeOf, typeInfo, hi', Builtin.lenOf, Builtin.firstCells, hnc, storeCells]
    unfold Oper.wp execOp
    simp only [ho, resolve, invoke, builtin, Sem.run_bind, Sem.run_pure, Result.andThen_ok, List.map_toArray, List.map_cons, List.map_nil, hs, hx, hrun]
    refine h p c w ?_ ⟨rfl, rfl, rfl, Nat.le_refl _, fun _ _ _ => rfl⟩
    rw [List.append_nil]
    exact how.wide (Nat.le_refl _) how.2.2.1 (Nat.le_refl _)
  · refine wp_append_own w s x t ho lo E i z 1 bytes ht hi' hz hsize hby hzs (by decide) _ n _ hs how.own ⟨b, off, spot⟩ m cc (ys.map (Value.int k)) hx (by rw [List.length_map, hr.len, Nat.mul_one]) (fun q u hu => ?_) (fun u hu => ?_) (by unfold maxLen; omega) hb hlo ?_
    · rw [List.getElem?_map, Option.map_eq_some_iff] at hu
      obtain ⟨y, hy, rfl⟩ := hu
      have hq := (List.getElem?_eq_some_iff.1 hy).1
      rw [hr.len] at hq
      obtain ⟨b', o', e, _, hc⟩ := hr.at_ hq
      simp only [Option.some.injEq, Addr.mk.injEq] at e
      obtain ⟨rfl, rfl, rfl⟩ := e
      rw [Addr.add_lit, hc, List.getD_eq_getElem?_getD, hy]
      rfl
    · rw [List.mem_map] at hu
      obtain ⟨y, _, rfl⟩ := hu
      rfl
    · intro v' w' hown hg _
      obtain ⟨p3, c3, rfl⟩ : ∃ p3 c3, v' = .slice p3 (n + m) c3 := row_form hown
      rw [← List.map_append] at hown
      exact h p3 c3 w' (Ow.of_row hown (allK_append how.all hr.all)) hg
/-- .. in a drawn region -/
theorem step_appR {F : Prop} (hgd : o.guard = none) (s x : Operand) (t : TypeId) (ho : o.op = .call { callee := .builtin .append, args := #[s, x], argTypes := #[t, t] })
    (i : TypeInfo) (z : Value) (bytes : Nat) (ht : P.underlying t = some (.slice E)) (hi' : P.info? E = some i) (hz : i.zero = some z) (hsize : i.size = 1) (hby : i.bytes = bytes) (hzs : z.cells.size = 1)
    (hs : a.eval s = .slice p n c) (how : Ow k E w lo hi p n c zs) (p' : Option Addr) (m cc : Nat) (ys : List Int) (hx : a.eval x = .slice p' m cc) (hr : Rd k w p' m ys)
    (hlo : lo ≤ w.heap.size) (hb : (n + m) * bytes ≤ 140737488355328) (hb' : n + m ≤ 140737488355328)
    (h : ∀ p' c' w', Ow k E w' lo w'.heap.size p' (n + m) c' (zs ++ ys) → w.grownBy w' (Value.slice p n c).ownBlock → K (a.put o.dst (.slice p' (n + m) c')) w') :
    if Region.wanted o (yielded ops a.tmps) = true then Oper.wp P o a w K Q else F := by
  have hw : Region.wanted o (yielded ops a.tmps) = true := by simp [Region.wanted, hgd]
  rw [if_pos hw]
  exact wp_appR s x t ho i z bytes ht hi' hz hsize hby hzs hs how p' m cc ys hx hr hlo hb hb' h
end
/-- ints that are laid in a block anew -/
theorem litN_own (T : TypeId) (w : World) (lo : Nat) (zs : List Int) (hk : allK .i64 zs) (h : lo ≤ w.heap.size) (hn : zs.length ≤ 1000000) : Ow .i64 T (w.alloc (.cells (zs.map (Value.int .i64)).toArray T)) lo (w.alloc (.cells (zs.map (Value.int .i64)).toArray T)).heap.size (some ⟨w.heap.size, 0, none⟩) zs.length zs.length zs := by
  have h1 := World.ownsRow_lit (base := lo) (e := T) (size := 1) w (zs.map (Value.int .i64)).toArray zs.length h (by unfold maxLen; omega) (by simp)
  exact Ow.of_row (by simpa using h1) hk
theorem litN_at (T : TypeId) (V : World) (lo g : Nat) (zs : List Int) (hk : allK .i64 zs) (h : lo ≤ V.heap.size) (hg : g = V.heap.size) (hn : zs.length ≤ 1000000) : Ow .i64 T (V.alloc (.cells (zs.map (Value.int .i64)).toArray T)) lo (V.alloc (.cells (zs.map (Value.int .i64)).toArray T)).heap.size (some ⟨g, 0, none⟩) zs.length zs.length zs := by
  subst hg
  exact litN_own T V lo zs hk h hn
theorem Rd.drew1 {k : IntKind} {w : World} {p : Option Addr} {n : Nat} {zs : List Int} (h : Rd k w p n zs) : Rd k w.drew p n zs := h
theorem Ow.drew1 {k : IntKind} {E : TypeId} {w : World} {lo hi n c : Nat} {p : Option Addr} {zs : List Int} (h : Ow k E w lo hi p n c zs) : Ow k E w.drew lo hi p n c zs := ⟨h.1.drew, h.2⟩
theorem allK_cons {k : IntKind} {x : Int} {xs : List Int} (h : inK k x) (h' : allK k xs) : allK k (x :: xs) := fun y hy => by
  rcases List.mem_cons.1 hy with rfl | hy
  · exact h
  · exact h' y hy
end Go.Proofs.Ytjaholcmaafenaa.Sl
