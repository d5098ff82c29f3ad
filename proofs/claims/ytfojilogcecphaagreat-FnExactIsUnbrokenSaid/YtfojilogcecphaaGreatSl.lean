/- What is of no program: slices of integers that read as a list, slices of the call's own, and what keeps them. -/
import Derived.Below
import Derived.Laws.OwnMore
import Derived.Laws.Rows
import Derived.Deep.Draws
import Derived.WideShapes
import Derived.WalkKit
import Derived.OpenShut
import Derived.OwnWalk
import Derived.Laws.BitsAllLaws
import Derived.Laws.BitsLemmas
import Derived.Lib.Hide
namespace Go.Proofs.YtfojilogcecphaaGreat.Sl
open Go.RowKit Go.WideShapes

def inK : IntKind → Int → Prop
  | .u8, x => 0 ≤ x ∧ x ≤ 255
  | _, x => -9223372036854775808 ≤ x ∧ x ≤ 9223372036854775807
def allK (k : IntKind) (zs : List Int) : Prop := ∀ x ∈ zs, inK k x
theorem allK_nil (k : IntKind) : allK k [] := fun _ h => by cases h
theorem allK_append {k : IntKind} {xs ys : List Int} (h : allK k xs) (h' : allK k ys) : allK k (xs ++ ys) := fun x hx => by
  rcases List.mem_append.1 hx with hx | hx
  · exact h x hx
  · exact h' x hx
theorem allK_drop {k : IntKind} {xs : List Int} (h : allK k xs) (n : Nat) : allK k (xs.drop n) := fun x hx => h x (List.mem_of_mem_drop hx)
theorem allK_take {k : IntKind} {xs : List Int} (h : allK k xs) (n : Nat) : allK k (xs.take n) := fun x hx => h x (List.mem_of_mem_take hx)
theorem inK_zero (k : IntKind) : inK k 0 := by cases k <;> simp [inK]
theorem allK_getD {k : IntKind} {xs : List Int} (h : allK k xs) (i : Nat) : inK k (xs.getD i 0) := by
  rw [List.getD_eq_getElem?_getD]
  rcases hi : xs[i]? with _ | x
  · exact inK_zero k
  · exact h x (List.mem_of_getElem? hi)
theorem byte_range {xs : List Int} (h : allK .u8 xs) (i : Nat) : 0 ≤ xs.getD i 0 ∧ xs.getD i 0 ≤ 255 := allK_getD h i
theorem int_range {xs : List Int} (h : allK .i64 xs) (i : Nat) : -9223372036854775808 ≤ xs.getD i 0 ∧ xs.getD i 0 ≤ 9223372036854775807 := allK_getD h i

/-! ### a slice that reads as a list -/
/-- The slice at p, of n elements of the kind k, reads as zs. -/
def Rd (k : IntKind) (w : World) (p : Option Addr) (n : Nat) (zs : List Int) : Prop :=
  zs.length = n ∧ n ≤ maxLen ∧ allK k zs ∧ (0 < n → ∃ b o, p = some ⟨b, o, none⟩ ∧ b < w.heap.size ∧ ∀ i, i < n → w.cell? ⟨b, o + i, none⟩ = some (.int k (zs.getD i 0)))
section
variable {k : IntKind} {w w' : World} {p : Option Addr} {n : Nat} {zs : List Int}
theorem Rd.len (h : Rd k w p n zs) : zs.length = n := h.1
theorem Rd.le (h : Rd k w p n zs) : n ≤ 9223372036854775807 := by have := h.2.1; simpa [maxLen] using this
theorem Rd.all (h : Rd k w p n zs) : allK k zs := h.2.2.1
theorem Rd.at_ (h : Rd k w p n zs) {i : Nat} (hi : i < n) : ∃ b o, p = some ⟨b, o, none⟩ ∧ b < w.heap.size ∧ w.cell? ⟨b, o + i, none⟩ = some (.int k (zs.getD i 0)) := by
  obtain ⟨b, o, e, hb, hc⟩ := h.2.2.2 (by omega)
  exact ⟨b, o, e, hb, hc i hi⟩
theorem Rd.at_below (h : Rd k w p n zs) (hb : Below w.heap.size w w') {i : Nat} (hi : i < n) : ∃ b o, p = some ⟨b, o, none⟩ ∧ b < w.heap.size ∧ w'.cell? ⟨b, o + i, none⟩ = some (.int k (zs.getD i 0)) := by
  obtain ⟨b, o, e, hlt, hc⟩ := h.at_ hi
  exact ⟨b, o, e, hlt, (hb.cell (p := ⟨b, o + i, none⟩) hlt).trans hc⟩
theorem Rd.nil_ (k : IntKind) (w : World) (p : Option Addr) : Rd k w p 0 [] := ⟨rfl, Nat.zero_le _, allK_nil k, fun h => absurd h (Nat.lt_irrefl 0)⟩
theorem Rd.keep (h : Rd k w p n zs) (hs : w.heap.size ≤ w'.heap.size) (hk : ∀ b, b < w.heap.size → (∃ o, p = some ⟨b, o, none⟩) → w'.heap[b]? = w.heap[b]?) : Rd k w' p n zs :=
  ⟨h.1, h.2.1, h.2.2.1, fun hn => by
    obtain ⟨b, o, e, hb, hc⟩ := h.2.2.2 hn
    exact ⟨b, o, e, by omega, fun i hi => (World.cell?_of_block (w := w) (a := ⟨b, o + i, none⟩) (hk b hb ⟨o, e⟩)).trans (hc i hi)⟩⟩
theorem Rd.below (h : Rd k w p n zs) (hb : Below w.heap.size w w') : Rd k w' p n zs := h.keep hb.size fun b hlt _ => hb.block b hlt
theorem Rd.drewN (h : Rd k w p n zs) (q : Nat) : Rd k (w.drewN q) p n zs := h
theorem Rd.alloc (h : Rd k w p n zs) (o : Obj) : Rd k (w.alloc o) p n zs := h.below ((Below.refl _ _).alloc (Nat.le_refl _) _)
theorem Rd.grown (h : Rd k w p n zs) {row : Option Nat} (hg : w.grownBy w' row) (hne : ∀ b o, p = some ⟨b, o, none⟩ → some b ≠ row) : Rd k w' p n zs :=
  h.keep hg.size fun b hlt ⟨o, e⟩ => hg.block b hlt (hne b o e)
theorem getD_drop (zs : List Int) (o i : Nat) : (zs.drop o).getD i 0 = zs.getD (o + i) 0 := by
  simp [List.getD_eq_getElem?_getD, List.getElem?_drop]
theorem getD_take (zs : List Int) {m i : Nat} (h : i < m) : (zs.take m).getD i 0 = zs.getD i 0 := by
  simp [List.getD_eq_getElem?_getD, h]
/-- a part of it, at the address moved -/
theorem Rd.cut (h : Rd k w p n zs) {lo m : Nat} {p' : Option Addr} (hm : lo + m ≤ n) (hp : 0 < m → ∀ b o, p = some ⟨b, o, none⟩ → p' = some ⟨b, o + lo, none⟩) : Rd k w p' m ((zs.drop lo).take m) := by
  have hl := h.1
  refine ⟨by rw [List.length_take, List.length_drop]; omega, by have := h.2.1; omega, allK_take (allK_drop h.2.2.1 _) _, fun hm0 => ?_⟩
  obtain ⟨b, o, e, hb, hc⟩ := h.2.2.2 (by omega)
  refine ⟨b, o + lo, hp hm0 b o e, hb, fun i hi => ?_⟩
  rw [getD_take _ hi, getD_drop, Nat.add_assoc]
  exact hc _ (by omega)
end

/-! ### a slice of the call's own -/
/-- The slice owns its cells, which read as zs; its block lies from lo on and below hi. -/
def Ow (k : IntKind) (E : TypeId) (w : World) (lo hi : Nat) (p : Option Addr) (n c : Nat) (zs : List Int) : Prop :=
  w.ownsRow lo E 1 (.slice p n c) n (zs.map (Value.int k)) ∧ allK k zs ∧ hi ≤ w.heap.size ∧ ∀ g, (Value.slice p n c).ownBlock = some g → g < hi
section
variable {k : IntKind} {E : TypeId} {w w' : World} {lo hi : Nat} {p : Option Addr} {n c : Nat} {zs : List Int}
theorem Ow.own (h : Ow k E w lo hi p n c zs) : w.ownsRow lo E 1 (.slice p n c) n (zs.map (Value.int k)) := h.1
theorem Ow.all (h : Ow k E w lo hi p n c zs) : allK k zs := h.2.1
theorem Ow.len (h : Ow k E w lo hi p n c zs) : zs.length = n := by have := h.1.1; simpa using this
theorem Ow.form (h : Ow k E w lo hi p n c zs) : (p = none ∧ n = 0 ∧ c = 0) ∨ ∃ g, p = some ⟨g, 0, none⟩ ∧ lo ≤ g ∧ g < hi ∧ n ≤ c ∧ c ≤ maxLen := by
  rcases h.1.2 with ⟨hv, hn⟩ | ⟨g, cap, cur, hv, hb, hg, hnc, hcm, _⟩
  · left
    simp only [Value.slice.injEq] at hv
    exact ⟨hv.1, hn, hv.2.2⟩
  · right
    simp only [Value.slice.injEq, true_and] at hv
    obtain ⟨rfl, rfl⟩ := hv
    exact ⟨g, rfl, hb, h.2.2.2 g rfl, hnc, hcm⟩
theorem Ow.le (h : Ow k E w lo hi p n c zs) : n ≤ c ∧ c ≤ 9223372036854775807 := by
  rcases h.form with ⟨_, rfl, rfl⟩ | ⟨g, _, _, _, h1, h2⟩
  · omega
  · exact ⟨h1, by simpa [maxLen] using h2⟩
theorem Ow.rd (h : Ow k E w lo hi p n c zs) : Rd k w p n zs := by
  refine ⟨h.len, by have := h.le; unfold maxLen; omega, h.all, fun hn => ?_⟩
  rcases h.form with ⟨_, rfl, _⟩ | ⟨g, rfl, h1, h2, _⟩
  · omega
  · refine ⟨g, 0, rfl, Nat.lt_of_lt_of_le h2 h.2.2.1, fun i hi => ?_⟩
    have hl := h.len
    rw [Nat.zero_add, h.1.cellAt i (by omega), List.getElem?_map, List.getD_eq_getElem?_getD, List.getElem?_eq_getElem (by omega)]
    rfl
theorem Ow.cell {g i : Nat} (h : Ow k E w lo hi (some ⟨g, 0, none⟩) n c zs) (hi : i < n) : w.cell? ⟨g, i, none⟩ = some (.int k (zs.getD i 0)) := by
  obtain ⟨b, o, e, _, hc⟩ := h.rd.at_ hi
  simp only [Option.some.injEq, Addr.mk.injEq, and_true] at e
  obtain ⟨rfl, rfl⟩ := e
  rwa [Nat.zero_add] at hc
theorem Ow.free {g i : Nat} (h : Ow k E w lo hi (some ⟨g, 0, none⟩) n c zs) : w.frozen? ⟨g, i, none⟩ = false := h.1.frozenAt i
theorem Ow.kept (h : Ow k E w lo hi p n c zs) {row : Option Nat} (hg : w.grownBy w' row) (hne : ∀ g, row = some g → g < lo ∨ hi ≤ g) : Ow k E w' lo hi p n c zs := by
  refine ⟨h.1.kept hg ?_, h.2.1, Nat.le_trans h.2.2.1 hg.size, h.2.2.2⟩
  rcases hv : (Value.slice p n c).ownBlock with _ | g
  · exact Or.inl rfl
  · right
    intro e
    have h1 := h.1.lt g hv
    have h2 := h.2.2.2 g hv
    have h3 := hne g e.symm
    omega
theorem below_grown (h : Below w.heap.size w w') (row : Option Nat) : w.grownBy w' row := ⟨h.os, h.tape, h.output, h.size, fun i hi _ => h.block i hi⟩
theorem Ow.below (h : Ow k E w lo hi p n c zs) (hb : Below w.heap.size w w') : Ow k E w' lo hi p n c zs := h.kept (below_grown hb none) (fun _ h => by cases h)
theorem Ow.alloc (h : Ow k E w lo hi p n c zs) (o : Obj) : Ow k E (w.alloc o) lo hi p n c zs := h.below ((Below.refl _ _).alloc (Nat.le_refl _) _)
theorem Ow.drewN (h : Ow k E w lo hi p n c zs) (q : Nat) : Ow k E (w.drewN q) lo hi p n c zs := ⟨h.1.kept ⟨rfl, rfl, rfl, Nat.le_refl _, fun _ _ _ => rfl⟩ (Classical.em ((Value.slice p n c).ownBlock = none)), h.2.1, h.2.2.1, h.2.2.2⟩
theorem Ow.wide {lo' hi' : Nat} (h : Ow k E w lo hi p n c zs) (h1 : lo' ≤ lo) (h2 : hi ≤ hi') (h3 : hi' ≤ w.heap.size) : Ow k E w lo' hi' p n c zs := by
  refine ⟨⟨h.1.1, ?_⟩, h.2.1, h3, fun g hg => Nat.lt_of_lt_of_le (h.2.2.2 g hg) h2⟩
  rcases h.1.2 with hn | ⟨g, cap, cur, hv, hb, hr⟩
  · exact Or.inl hn
  · exact Or.inr ⟨g, cap, cur, hv, Nat.le_trans h1 hb, hr⟩
theorem Ow.nil_ (k : IntKind) (E : TypeId) (w : World) (lo : Nat) (h : lo ≤ w.heap.size) : Ow k E w lo lo none 0 0 [] :=
  ⟨World.ownsRow_nil w lo E 1, allK_nil k, h, fun g hg => by simp [Value.ownBlock] at hg⟩
/-- out of a row that a law of the walk leaves -/
theorem Ow.of_row (h : w.ownsRow lo E 1 (.slice p n c) n (zs.map (Value.int k))) (ha : allK k zs) : Ow k E w lo w.heap.size p n c zs :=
  ⟨h, ha, Nat.le_refl _, fun g hg => (h.lt g hg).2⟩
/-- a row's value is a slice -/
theorem row_form {v : Value} {xs : List Value} (h : w.ownsRow lo E 1 v n xs) : ∃ p c, v = .slice p n c := by
  rcases h.2 with ⟨rfl, rfl⟩ | ⟨g, cap, _, rfl, _⟩
  · exact ⟨_, _, rfl⟩
  · exact ⟨_, _, rfl⟩
theorem Ow.far (h : Ow k E w lo hi p n c zs) : ∀ g, (Value.slice p n c).ownBlock = some g → lo ≤ g ∧ g < hi := fun g hg => ⟨(h.1.lt g hg).1, h.2.2.2 g hg⟩
theorem Ow.rd_kept (h : Ow k E w lo hi p n c zs) {k' : IntKind} {p' : Option Addr} {n' : Nat} {ys : List Int} (hr : Rd k' w p' n' ys) (hg : w.grownBy w' (Value.slice p n c).ownBlock) (hne : ∀ b o, p' = some ⟨b, o, none⟩ → b < lo ∨ hi ≤ b) : Rd k' w' p' n' ys :=
  hr.grown hg fun b o e hb => by
    have h1 := h.far b hb.symm
    have h2 := hne b o e
    omega
end

/-! ### append -/
section
variable {P : Program} {w : World} {ops : Array Oper} {rest : List Oper} {o : Oper} {a : Act} {Q : Exit → Act → World → Prop} {k : IntKind} {E : TypeId} {lo hi : Nat} {p : Option Addr} {n c : Nat} {zs : List Int}
/-- append of some elements that lie at an address, onto a slice of the call's own -/
theorem wpList_app (hgd : o.guard = none) (s x : Operand) (t : TypeId) (ho : o.op = .call { callee := .builtin .append, args := #[s, x], argTypes := #[t, t] })
    (i : TypeInfo) (z : Value) (bytes : Nat) (ht : P.underlying t = some (.slice E)) (hi' : P.info? E = some i) (hz : i.zero = some z) (hsize : i.size = 1) (hby : i.bytes = bytes) (hzs : z.cells.size = 1)
    (hs : a.eval s = .slice p n c) (how : Ow k E w lo hi p n c zs) (ad : Addr) (m cc : Nat) (ys : List Int) (hx : a.eval x = .slice (some ad) m cc) (hl : ys.length = m) (hc : ∀ j, j < m → w.cell? (ad.add j) = some (.int k (ys.getD j 0)))
    (hy : allK k ys) (hlo : lo ≤ w.heap.size) (hb : (n + m) * bytes ≤ 140737488355328) (hb' : n + m ≤ 140737488355328)
    (h : ∀ p' c' w', Ow k E w' lo w'.heap.size p' (n + m) c' (zs ++ ys) → w.grownBy w' (Value.slice p n c).ownBlock → wpList P ops Q rest (a.put o.dst (.slice p' (n + m) c')) w') : wpList P ops Q (o :: rest) a w := by
  refine wpList_append_own _ hgd s x t ho lo E i z 1 bytes ht hi' hz hsize hby hzs (by omega) _ n _ hs how.own ad m cc (ys.map (Value.int k)) hx (by rw [List.length_map]; omega) ?_ ?_ (by unfold maxLen; omega) hb hlo ?_
  · intro j u hu
    have hj : j < ys.length := by have := List.getElem?_eq_some_iff.1 hu; simpa using this.1
    rw [hc j (by omega), ← hu, List.getElem?_map, List.getD_eq_getElem?_getD, List.getElem?_eq_getElem hj]
    rfl
  · intro u hu
    rw [List.mem_map] at hu
    obtain ⟨y, _, rfl⟩ := hu
    rfl
  · intro v' w' hown hg _
    obtain ⟨p', c', rfl⟩ : ∃ p' c', v' = .slice p' (n + m) c' := by
      rcases hown.2 with ⟨rfl, h0⟩ | ⟨g, cap, _, rfl, _⟩
      · exact ⟨_, _, by rw [h0]⟩
      · exact ⟨_, _, rfl⟩
    rw [← List.map_append] at hown
    exact h p' c' w' (Ow.of_row hown (allK_append how.all hy)) hg
/-- append of one element, out of the block in which it was laid -/
theorem wpList_app1 (hgd : o.guard = none) (s x : Operand) (t : TypeId) (ho : o.op = .call { callee := .builtin .append, args := #[s, x], argTypes := #[t, t] })
    (i : TypeInfo) (z : Value) (bytes : Nat) (ht : P.underlying t = some (.slice E)) (hi' : P.info? E = some i) (hz : i.zero = some z) (hsize : i.size = 1) (hby : i.bytes = bytes) (hzs : z.cells.size = 1)
    (hs : a.eval s = .slice p n c) (how : Ow k E w lo hi p n c zs) (g cc : Nat) (y : Int) (hx : a.eval x = .slice (some ⟨g, 0, none⟩) 1 cc) (hc : w.cell? ⟨g, 0, none⟩ = some (.int k y))
    (hy : inK k y) (hlo : lo ≤ w.heap.size) (hb : (n + 1) * bytes ≤ 140737488355328) (hb' : n + 1 ≤ 140737488355328)
    (h : ∀ p' c' w', Ow k E w' lo w'.heap.size p' (n + 1) c' (zs ++ [y]) → w.grownBy w' (Value.slice p n c).ownBlock → wpList P ops Q rest (a.put o.dst (.slice p' (n + 1) c')) w') : wpList P ops Q (o :: rest) a w := by
  refine wpList_app hgd s x t ho i z bytes ht hi' hz hsize hby hzs hs how ⟨g, 0, none⟩ 1 cc [y] hx rfl ?_ ?_ hlo hb hb' h
  · intro j hj
    cases j with
    | zero => exact hc
    | succ j => omega
  · intro u hu
    rw [List.mem_singleton] at hu
    rw [hu]
    exact hy
end
section
variable {P : Program} {w : World} {ops : Array Oper} {rest : List Oper} {o : Oper} {a : Act} {Q : Exit → Act → World → Prop} {k : IntKind} {E : TypeId} {lo hi : Nat} {p : Option Addr} {n c : Nat} {zs : List Int}
/-- append of a slice that reads as ys, nil too, onto a slice of the call's own -/
theorem wpList_appR (hgd : o.guard = none) (s x : Operand) (t : TypeId) (ho : o.op = .call { callee := .builtin .append, args := #[s, x], argTypes := #[t, t] })
    (i : TypeInfo) (z : Value) (bytes : Nat) (ht : P.underlying t = some (.slice E)) (hi' : P.info? E = some i) (hz : i.zero = some z) (hsize : i.size = 1) (hby : i.bytes = bytes) (hzs : z.cells.size = 1)
    (hs : a.eval s = .slice p n c) (how : Ow k E w lo hi p n c zs) (p' : Option Addr) (m cc : Nat) (ys : List Int) (hx : a.eval x = .slice p' m cc) (hr : Rd k w p' m ys)
    (hlo : lo ≤ w.heap.size) (hb : (n + m) * bytes ≤ 140737488355328) (hb' : n + m ≤ 140737488355328)
    (h : ∀ p' c' w', Ow k E w' lo w'.heap.size p' (n + m) c' (zs ++ ys) → w.grownBy w' (Value.slice p n c).ownBlock → wpList P ops Q rest (a.put o.dst (.slice p' (n + m) c')) w') : wpList P ops Q (o :: rest) a w := by
  rcases p' with _ | ⟨b, off, spot⟩
  · have hm : m = 0 := by
      rcases Nat.eq_zero_or_pos m with h0 | h0
      · exact h0
      · obtain ⟨_, _, e, _⟩ := hr.2.2.2 h0
        cases e
    subst hm
    have hy : ys = [] := List.eq_nil_of_length_eq_zero hr.1
    subst hy
    have hrun : (Builtin.append_ #[t, t] o.type #[.slice p n c, .slice none 0 cc]).run P w = .ok (.slice p n c) w := by
      rcases how.own.2 with ⟨he, _⟩ | ⟨g, cap, cur, he, _, _, hnc, _⟩
      · simp only [Value.slice.injEq] at he
        obtain ⟨rfl, rfl, rfl⟩ := he
        simp [Builtin.append_, run_underlying ht, sizeOf, typeInfo, hi', Builtin.lenOf, Builtin.firstCells]
      · simp only [Value.slice.injEq, true_and] at he
        obtain ⟨rfl, rfl⟩ := he
        simp [Builtin.append_, run_underlying ht, sizeOf, typeInfo, hi', Builtin.lenOf, Builtin.firstCells, hnc, storeCells]
    refine wpList_plain hgd fun K hK => ?_
    unfold Oper.wp execOp
    simp only [ho, resolve, invoke, builtin, Sem.run_bind, Sem.run_pure, Result.andThen_ok, List.map_toArray, List.map_cons, List.map_nil, hs, hx, hrun]
    refine hK _ _ (h p c w ?_ ⟨rfl, rfl, rfl, Nat.le_refl _, fun _ _ _ => rfl⟩)
    rw [List.append_nil]
    exact how.wide (Nat.le_refl _) how.2.2.1 (Nat.le_refl _)
  · refine wpList_app hgd s x t ho i z bytes ht hi' hz hsize hby hzs hs how ⟨b, off, spot⟩ m cc ys hx hr.len (fun j hj => ?_) hr.all hlo hb hb' h
    obtain ⟨b', o', e, _, hc⟩ := hr.at_ hj
    simp only [Option.some.injEq, Addr.mk.injEq] at e
    obtain ⟨rfl, rfl, rfl⟩ := e
    rw [Addr.add_lit]
    exact hc
end
theorem Ow.below_row {k : IntKind} {E : TypeId} {w w' : World} {lo hi : Nat} {p : Option Addr} {n c : Nat} {zs : List Int} (h : Ow k E w lo hi p n c zs) (hg : w.grownBy w' (Value.slice p n c).ownBlock) (hlo : lo ≤ w.heap.size) : Below lo w w' :=
  (Below.refl _ _).grown hg hlo (fun g e => (h.far g e).1)

/-! ### marks -/
def marks (W : Int → Int) (m : Int) (n : Nat) : List Int := (List.range n).map fun i => W (m + (i : Nat))
theorem marks_len (W : Int → Int) (m : Int) (n : Nat) : (marks W m n).length = n := by simp [marks]
theorem marks_at (W : Int → Int) (m : Int) {n j : Nat} (h : j < n) : (marks W m n).getD j 0 = W (m + j) := by
  simp [marks, List.getD_eq_getElem?_getD, h]
theorem marks_set (W : Int → Int) (m : Int) (zs : List Int) (j : Nat) (h : j < zs.length) : (marks W m j ++ zs.drop j).set j (W (m + j)) = marks W m (j + 1) ++ zs.drop (j + 1) := by
  have e : zs.drop j = zs[j] :: zs.drop (j + 1) := List.drop_eq_getElem_cons h
  rw [e, List.set_append_right _ _ (by rw [marks_len]; exact Nat.le_refl _), marks_len, Nat.sub_self, List.set_cons_zero]
  simp [marks, List.range_succ]
theorem marks_end (W : Int → Int) (m : Int) (zs : List Int) : marks W m zs.length ++ zs.drop zs.length = marks W m zs.length := by simp
theorem marks_all {k : IntKind} {W : Int → Int} (h : ∀ x, inK k (W x)) (m : Int) (n : Nat) : allK k (marks W m n) := fun x hx => by
  unfold marks at hx
  rw [List.mem_map] at hx
  obtain ⟨i, _, rfl⟩ := hx
  exact h _
def byteK (x : Int) : Int := x % 256
theorem byteK_in (x : Int) : inK .u8 (byteK x) := by
  show 0 ≤ x % 256 ∧ x % 256 ≤ 255
  omega
theorem byteK_def (x : Int) : byteK x = x % 256 := rfl
def intK (x : Int) : Int := if -9223372036854775808 ≤ x ∧ x ≤ 9223372036854775807 then x else 0
theorem intK_in (x : Int) : inK .i64 (intK x) := by
  show -9223372036854775808 ≤ intK x ∧ intK x ≤ 9223372036854775807
  unfold intK
  split <;> omega
theorem intK_of {x : Int} (h : -9223372036854775808 ≤ x ∧ x ≤ 9223372036854775807) : intK x = x := if_pos h

/-! ### bits at int -/
theorem ofInt_i64 (a : Nat) (ha : a < 9223372036854775808) : (BitVec.ofInt 64 (a : Int)).toNat = a := by
  rw [BitVec.ofInt_natCast, BitVec.toNat_ofNat]
  exact Nat.mod_eq_of_lt (by omega)
theorem i64_and_nat (a b : Nat) (ha : a < 9223372036854775808) (hb : b < 9223372036854775808) : bits .and .i64 (a : Int) (b : Int) = ((a &&& b : Nat) : Int) := by
  have hx : a &&& b < 2 ^ 63 := Nat.and_lt_two_pow _ (by omega)
  show IntKind.i64.wrap ((BitVec.ofInt 64 (a : Int) &&& BitVec.ofInt 64 (b : Int)).toNat : Int) = _
  rw [BitVec.toNat_and, ofInt_i64 a ha, ofInt_i64 b hb, IntKind.wrap_i64]
  omega
theorem i64_or_nat (a b : Nat) (ha : a < 9223372036854775808) (hb : b < 9223372036854775808) : bits .or .i64 (a : Int) (b : Int) = ((a ||| b : Nat) : Int) := by
  have hx : a ||| b < 2 ^ 63 := Nat.or_lt_two_pow (by omega) (by omega)
  show IntKind.i64.wrap ((BitVec.ofInt 64 (a : Int) ||| BitVec.ofInt 64 (b : Int)).toNat : Int) = _
  rw [BitVec.toNat_or, ofInt_i64 a ha, ofInt_i64 b hb, IntKind.wrap_i64]
  omega

/-! ### frames -/
theorem below_drewN {B : Nat} {a w : World} (h : Below B a w) (n : Nat) : Below B a (w.drewN n) := ⟨h.os, h.tape, h.output, h.size, h.block⟩
theorem below_grownBy {B : Nat} {a w w' : World} {row : Option Nat} (h : Below B a w) (hg : w.grownBy w' row) (hB : B ≤ w.heap.size) (hr : ∀ k, row = some k → B ≤ k) : Below B a w' := h.grown hg hB hr
theorem below_more {B : Nat} {w w1 w2 : World} (h : Below B w w1) (hB : B ≤ w.heap.size) (k : Below w1.heap.size w1 w2) : Below B w w2 := h.trans (k.mono (Nat.le_trans hB h.size))
theorem below_on {W w1 w2 : World} (h : Below W.heap.size W w1) (k : Below w1.heap.size w1 w2) : Below W.heap.size W w2 := below_more h (Nat.le_refl _) k
theorem below_row {W w1 w2 : World} {k : IntKind} {E : TypeId} {lo hi n c : Nat} {p : Option Addr} {zs : List Int} (h : Below W.heap.size W w1) (ho : Ow k E w1 lo hi p n c zs) (hg : w1.grownBy w2 (Value.slice p n c).ownBlock) (hlo : W.heap.size ≤ lo) : Below W.heap.size W w2 :=
  h.grown hg h.size (fun g e => Nat.le_trans hlo (ho.far g e).1)
theorem Ow.apart {w w' : World} {k k' : IntKind} {E E' : TypeId} {lo hi lo' hi' n c n' c' : Nat} {p p' : Option Addr} {zs zs' : List Int} (h : Ow k E w lo hi p n c zs) (ho : Ow k' E' w lo' hi' p' n' c' zs') (hg : w.grownBy w' (Value.slice p' n' c').ownBlock) (hd : hi ≤ lo' ∨ hi' ≤ lo) : Ow k E w' lo hi p n c zs :=
  h.kept hg (fun g e => by have := ho.far g e; omega)
end Go.Proofs.YtfojilogcecphaaGreat.Sl
