/- What is of no program: slices of structs (elements of some cells each) that read as a list, slices of the call's own, and what keeps them. -/
import Derived.Test.YtfojilogcecphaaGreatSl
import Derived.Deep.RegionHeld3
import Derived.Deep.AppendLies
namespace Go.Proofs.YtfojilogcecphaaGreat.St
open Go.RowKit Go.WideShapes Sl

/-- HOW AN ELEMENT LIES: its cells, always as many, each one cell. -/
structure En (α : Type) where
  of : α → List Value
  C : Nat
  len : ∀ x, (of x).length = C
  one : ∀ x, ∀ v ∈ of x, v.oneCell' = true
  pos : 0 < C
section
variable {α : Type} (E : En α)
def fl (xs : List α) : List Value := xs.flatMap E.of
theorem fl_nil : fl E [] = [] := rfl
theorem fl_cons (x : α) (xs : List α) : fl E (x :: xs) = E.of x ++ fl E xs := rfl
theorem fl_append (xs ys : List α) : fl E (xs ++ ys) = fl E xs ++ fl E ys := by
  unfold fl
  rw [List.flatMap_append]
theorem fl_one (x : α) : fl E [x] = E.of x := by rw [fl_cons, fl_nil, List.append_nil]
theorem fl_len : ∀ xs : List α, (fl E xs).length = xs.length * E.C
  | [] => by simp [fl_nil]
  | x :: xs => by rw [fl_cons, List.length_append, fl_len xs, E.len, List.length_cons, Nat.succ_mul, Nat.add_comm]
theorem fl_at : ∀ {xs : List α} {i : Nat} {x : α}, xs[i]? = some x → ∀ {j : Nat} {v : Value}, (E.of x)[j]? = some v → (fl E xs)[i * E.C + j]? = some v
  | [], i, x, h, j, v, _ => by simp at h
  | y :: ys, 0, x, h, j, v, hv => by
    simp only [List.getElem?_cons_zero, Option.some.injEq] at h
    subst h
    have hj := (List.getElem?_eq_some_iff.1 hv).1
    rw [fl_cons, Nat.zero_mul, Nat.zero_add, List.getElem?_append_left hj]
    exact hv
  | y :: ys, i + 1, x, h, j, v, hv => by
    simp only [List.getElem?_cons_succ] at h
    rw [fl_cons, List.getElem?_append_right (by rw [E.len, Nat.succ_mul]; omega), E.len, show (i + 1) * E.C + j - E.C = i * E.C + j by rw [Nat.succ_mul]; omega]
    exact fl_at h hv
theorem fl_one' (xs : List α) : ∀ u ∈ fl E xs, u.oneCell' = true := fun u hu => by
  unfold fl at hu
  rw [List.mem_flatMap] at hu
  obtain ⟨x, _, hx⟩ := hu
  exact E.one x u hx
theorem fl_set : ∀ {xs : List α} {i : Nat} {x y : α} {j : Nat} {v : Value}, xs[i]? = some x → (E.of x).set j v = E.of y → j < E.C → (fl E xs).set (i * E.C + j) v = fl E (xs.set i y)
  | [], i, x, y, j, v, h, _, _ => by simp at h
  | z :: zs, 0, x, y, j, v, h, he, hj => by
    simp only [List.getElem?_cons_zero, Option.some.injEq] at h
    subst h
    rw [fl_cons, Nat.zero_mul, Nat.zero_add, List.set_append_left _ _ (by rw [E.len]; exact hj), he, List.set_cons_zero, fl_cons]
  | z :: zs, i + 1, x, y, j, v, h, he, hj => by
    simp only [List.getElem?_cons_succ] at h
    rw [fl_cons, List.set_append_right _ _ (by rw [E.len, Nat.succ_mul]; omega), E.len, show (i + 1) * E.C + j - E.C = i * E.C + j by rw [Nat.succ_mul]; omega, fl_set h he hj, List.set_cons_succ, fl_cons]
/-- every cell of a list of elements is one of an element's -/
theorem fl_of {xs : List α} {q : Nat} {v : Value} (h : (fl E xs)[q]? = some v) : ∃ i x j, q = i * E.C + j ∧ j < E.C ∧ xs[i]? = some x ∧ (E.of x)[j]? = some v := by
  have hq := (List.getElem?_eq_some_iff.1 h).1
  rw [fl_len] at hq
  have hp := E.pos
  have hi : q / E.C < xs.length := Nat.div_lt_of_lt_mul (by rw [Nat.mul_comm]; exact hq)
  have hj : q % E.C < E.C := Nat.mod_lt _ hp
  have hx : xs[q / E.C]? = some xs[q / E.C] := List.getElem?_eq_getElem hi
  have hv : (E.of xs[q / E.C])[q % E.C]? = some ((E.of xs[q / E.C])[q % E.C]'(by rw [E.len]; exact hj)) := List.getElem?_eq_getElem _
  have he : q = q / E.C * E.C + q % E.C := by rw [Nat.mul_comm]; exact (Nat.div_add_mod q E.C).symm
  refine ⟨q / E.C, _, q % E.C, he, hj, hx, ?_⟩
  have h2 := fl_at E hx hv
  rw [← he] at h2
  rw [hv, ← h2, h]
end

/-! ### a slice that reads as a list -/
/-- The slice at p, of n elements, reads as xs. -/
def RdS {α : Type} (E : En α) (w : World) (p : Option Addr) (n : Nat) (xs : List α) : Prop :=
  xs.length = n ∧ n ≤ maxLen ∧ (0 < n → ∃ b o, p = some ⟨b, o, none⟩ ∧ b < w.heap.size ∧ ∀ i x, xs[i]? = some x → ∀ j v, (E.of x)[j]? = some v → w.cell? ⟨b, o + i * E.C + j, none⟩ = some v)
section
variable {α : Type} {E : En α} {w w' : World} {p : Option Addr} {n : Nat} {xs : List α}
theorem RdS.len (h : RdS E w p n xs) : xs.length = n := h.1
theorem RdS.le (h : RdS E w p n xs) : n ≤ 9223372036854775807 := by have := h.2.1; simpa [maxLen] using this
theorem RdS.at_ (h : RdS E w p n xs) {i : Nat} (hi : i < n) : ∃ b o x, p = some ⟨b, o, none⟩ ∧ b < w.heap.size ∧ xs[i]? = some x ∧ ∀ j v, (E.of x)[j]? = some v → w.cell? ⟨b, o + i * E.C + j, none⟩ = some v := by
  obtain ⟨b, o, e, hb, hc⟩ := h.2.2 (by omega)
  have hx : xs[i]? = some (xs[i]'(by rw [h.1]; exact hi)) := List.getElem?_eq_getElem _
  exact ⟨b, o, _, e, hb, hx, fun j v hv => hc i _ hx j v hv⟩
theorem RdS.nil_ (E : En α) (w : World) (p : Option Addr) : RdS E w p 0 [] := ⟨rfl, Nat.zero_le _, fun h => absurd h (Nat.lt_irrefl 0)⟩
theorem RdS.keep (h : RdS E w p n xs) (hs : w.heap.size ≤ w'.heap.size) (hk : ∀ b, b < w.heap.size → (∃ o, p = some ⟨b, o, none⟩) → w'.heap[b]? = w.heap[b]?) : RdS E w' p n xs :=
  ⟨h.1, h.2.1, fun hn => by
    obtain ⟨b, o, e, hb, hc⟩ := h.2.2 hn
    exact ⟨b, o, e, by omega, fun i x hx j v hv => (World.cell?_of_block (w := w) (a := ⟨b, o + i * E.C + j, none⟩) (hk b hb ⟨o, e⟩)).trans (hc i x hx j v hv)⟩⟩
theorem RdS.below (h : RdS E w p n xs) (hb : Below w.heap.size w w') : RdS E w' p n xs := h.keep hb.size fun b hlt _ => hb.block b hlt
theorem RdS.drewN (h : RdS E w p n xs) (q : Nat) : RdS E (w.drewN q) p n xs := h
theorem RdS.drew1 (h : RdS E w p n xs) : RdS E w.drew p n xs := h
theorem RdS.alloc (h : RdS E w p n xs) (o : Obj) : RdS E (w.alloc o) p n xs := h.below ((Below.refl _ _).alloc (Nat.le_refl _) _)
theorem RdS.grown (h : RdS E w p n xs) {row : Option Nat} (hg : w.grownBy w' row) (hne : ∀ b o, p = some ⟨b, o, none⟩ → some b ≠ row) : RdS E w' p n xs :=
  h.keep hg.size fun b hlt ⟨o, e⟩ => hg.block b hlt (hne b o e)
/-- a part of it, at the address moved -/
theorem RdS.cut (h : RdS E w p n xs) {lo m : Nat} {p' : Option Addr} (hm : lo + m ≤ n) (hp : 0 < m → ∀ b o, p = some ⟨b, o, none⟩ → p' = some ⟨b, o + lo * E.C, none⟩) : RdS E w p' m ((xs.drop lo).take m) := by
  have hl := h.1
  refine ⟨by rw [List.length_take, List.length_drop]; omega, by have := h.2.1; omega, fun hm0 => ?_⟩
  obtain ⟨b, o, e, hb, hc⟩ := h.2.2 (by omega)
  refine ⟨b, o + lo * E.C, hp hm0 b o e, hb, fun i x hx j v hv => ?_⟩
  have hi : i < m := by
    have := (List.getElem?_eq_some_iff.1 hx).1
    rw [List.length_take] at this
    omega
  rw [List.getElem?_take_of_lt hi, List.getElem?_drop] at hx
  have := hc _ x hx j v hv
  rw [Nat.add_mul] at this
  rw [show o + lo * E.C + i * E.C + j = o + (lo * E.C + i * E.C) + j by omega]
  exact this
end

/-! ### a slice of the call's own -/
/-- The slice owns its cells, which read as xs; its block lies from lo on and below hi. -/
def OwS {α : Type} (E : En α) (T : TypeId) (w : World) (lo hi : Nat) (p : Option Addr) (n c : Nat) (xs : List α) : Prop :=
  w.ownsRow lo T E.C (.slice p n c) n (fl E xs) ∧ xs.length = n ∧ hi ≤ w.heap.size ∧ ∀ g, (Value.slice p n c).ownBlock = some g → g < hi
section
variable {α : Type} {E : En α} {T : TypeId} {w w' : World} {lo hi : Nat} {p : Option Addr} {n c : Nat} {xs : List α}
theorem OwS.own (h : OwS E T w lo hi p n c xs) : w.ownsRow lo T E.C (.slice p n c) n (fl E xs) := h.1
theorem OwS.len (h : OwS E T w lo hi p n c xs) : xs.length = n := h.2.1
theorem OwS.form (h : OwS E T w lo hi p n c xs) : (p = none ∧ n = 0 ∧ c = 0) ∨ ∃ g, p = some ⟨g, 0, none⟩ ∧ lo ≤ g ∧ g < hi ∧ n ≤ c ∧ c ≤ maxLen := by
  rcases h.1.2 with ⟨hv, hn⟩ | ⟨g, cap, cur, hv, hb, hg, hnc, hcm, _⟩
  · left
    simp only [Value.slice.injEq] at hv
    exact ⟨hv.1, hn, hv.2.2⟩
  · right
    simp only [Value.slice.injEq, true_and] at hv
    obtain ⟨rfl, rfl⟩ := hv
    exact ⟨g, rfl, hb, h.2.2.2 g rfl, hnc, hcm⟩
theorem OwS.le (h : OwS E T w lo hi p n c xs) : n ≤ c ∧ c ≤ 9223372036854775807 := by
  rcases h.form with ⟨_, rfl, rfl⟩ | ⟨g, _, _, _, h1, h2⟩
  · omega
  · exact ⟨h1, by simpa [maxLen] using h2⟩
theorem OwS.cell {g i j : Nat} {x : α} {v : Value} (h : OwS E T w lo hi (some ⟨g, 0, none⟩) n c xs) (hx : xs[i]? = some x) (hv : (E.of x)[j]? = some v) : w.cell? ⟨g, i * E.C + j, none⟩ = some v := by
  have h1 := fl_at E hx hv
  have h2 := (List.getElem?_eq_some_iff.1 h1).1
  rw [fl_len, h.len] at h2
  rw [h.1.cellAt _ h2]
  exact h1
theorem OwS.free {g i : Nat} (h : OwS E T w lo hi (some ⟨g, 0, none⟩) n c xs) : w.frozen? ⟨g, i, none⟩ = false := h.1.frozenAt i
theorem OwS.rd (h : OwS E T w lo hi p n c xs) : RdS E w p n xs := by
  refine ⟨h.len, by have := h.le; unfold maxLen; omega, fun hn => ?_⟩
  rcases h.form with ⟨_, rfl, _⟩ | ⟨g, rfl, h1, h2, _⟩
  · omega
  · refine ⟨g, 0, rfl, Nat.lt_of_lt_of_le h2 h.2.2.1, fun i x hx j v hv => ?_⟩
    rw [Nat.zero_add]
    exact h.cell hx hv
theorem OwS.kept (h : OwS E T w lo hi p n c xs) {row : Option Nat} (hg : w.grownBy w' row) (hne : ∀ g, row = some g → g < lo ∨ hi ≤ g) : OwS E T w' lo hi p n c xs := by
  refine ⟨h.1.kept hg ?_, h.2.1, Nat.le_trans h.2.2.1 hg.size, h.2.2.2⟩
  rcases hv : (Value.slice p n c).ownBlock with _ | g
  · exact Or.inl rfl
  · right
    intro e
    have h1 := h.1.lt g hv
    have h2 := h.2.2.2 g hv
    have h3 := hne g e.symm
    omega
theorem OwS.below (h : OwS E T w lo hi p n c xs) (hb : Below w.heap.size w w') : OwS E T w' lo hi p n c xs := h.kept (below_grown hb none) (fun _ h => by cases h)
theorem OwS.alloc (h : OwS E T w lo hi p n c xs) (o : Obj) : OwS E T (w.alloc o) lo hi p n c xs := h.below ((Below.refl _ _).alloc (Nat.le_refl _) _)
theorem OwS.drewN (h : OwS E T w lo hi p n c xs) (q : Nat) : OwS E T (w.drewN q) lo hi p n c xs := ⟨h.1.kept ⟨rfl, rfl, rfl, Nat.le_refl _, fun _ _ _ => rfl⟩ (Classical.em ((Value.slice p n c).ownBlock = none)), h.2.1, h.2.2.1, h.2.2.2⟩
theorem OwS.drew1 (h : OwS E T w lo hi p n c xs) : OwS E T w.drew lo hi p n c xs := h.drewN 1
theorem OwS.wide {lo' hi' : Nat} (h : OwS E T w lo hi p n c xs) (h1 : lo' ≤ lo) (h2 : hi ≤ hi') (h3 : hi' ≤ w.heap.size) : OwS E T w lo' hi' p n c xs := by
  refine ⟨⟨h.1.1, ?_⟩, h.2.1, h3, fun g hg => Nat.lt_of_lt_of_le (h.2.2.2 g hg) h2⟩
  rcases h.1.2 with hn | ⟨g, cap, cur, hv, hb, hr⟩
  · exact Or.inl hn
  · exact Or.inr ⟨g, cap, cur, hv, Nat.le_trans h1 hb, hr⟩
theorem OwS.nil_ (E : En α) (T : TypeId) (w : World) (lo : Nat) (h : lo ≤ w.heap.size) : OwS E T w lo lo none 0 0 [] :=
  ⟨World.ownsRow_nil w lo T E.C, rfl, h, fun g hg => by simp [Value.ownBlock] at hg⟩
/-- out of a row that a law of the walk leaves -/
theorem OwS.of_row (h : w.ownsRow lo T E.C (.slice p n c) n (fl E xs)) : OwS E T w lo w.heap.size p n c xs := by
  refine ⟨h, ?_, Nat.le_refl _, fun g hg => (h.lt g hg).2⟩
  have := h.1
  rw [fl_len] at this
  exact Nat.eq_of_mul_eq_mul_right E.pos this
theorem OwS.far (h : OwS E T w lo hi p n c xs) : ∀ g, (Value.slice p n c).ownBlock = some g → lo ≤ g ∧ g < hi := fun g hg => ⟨(h.1.lt g hg).1, h.2.2.2 g hg⟩
theorem OwS.below_row (h : OwS E T w lo hi p n c xs) (hg : w.grownBy w' (Value.slice p n c).ownBlock) (hlo : lo ≤ w.heap.size) : Below lo w w' :=
  (Below.refl _ _).grown hg hlo (fun g e => (h.far g e).1)
theorem OwS.apart {β : Type} {E' : En β} {T' : TypeId} {lo' hi' n' c' : Nat} {p' : Option Addr} {ys : List β} (h : OwS E T w lo hi p n c xs) (ho : OwS E' T' w lo' hi' p' n' c' ys) (hg : w.grownBy w' (Value.slice p' n' c').ownBlock) (hd : hi ≤ lo' ∨ hi' ≤ lo) : OwS E T w' lo hi p n c xs :=
  h.kept hg (fun g e => by have := ho.far g e; omega)
theorem OwS.rd_kept {β : Type} {E' : En β} {p' : Option Addr} {n' : Nat} {ys : List β} (h : OwS E T w lo hi p n c xs) (hr : RdS E' w p' n' ys) (hg : w.grownBy w' (Value.slice p n c).ownBlock) (hne : ∀ b o, p' = some ⟨b, o, none⟩ → b < lo ∨ hi ≤ b) : RdS E' w' p' n' ys :=
  hr.grown hg fun b o e hb => by
    have h1 := h.far b hb.symm
    have h2 := hne b o e
    omega
/-- a cell of an element is stored -/
theorem OwS.stored {g i j : Nat} {x y : α} {v : Value} (h : OwS E T w lo hi (some ⟨g, 0, none⟩) n c xs) (hx : xs[i]? = some x) (he : (E.of x).set j v = E.of y) (hj : j < E.C) : OwS E T (w.setCell ⟨g, i * E.C + j, none⟩ v) lo hi (some ⟨g, 0, none⟩) n c (xs.set i y) ∧ w.grownBy (w.setCell ⟨g, i * E.C + j, none⟩ v) (some g) := by
  obtain ⟨h1, h2⟩ := h.own.stored (i * E.C + j) v
  rw [fl_set E hx he hj] at h1
  exact ⟨⟨h1, by rw [List.length_set]; exact h.len, Nat.le_trans h.2.2.1 h2.size, h.2.2.2⟩, h2⟩
theorem below_rowS {W : World} (h : Below W.heap.size W w) (ho : OwS E T w lo hi p n c xs) (hg : w.grownBy w' (Value.slice p n c).ownBlock) (hlo : W.heap.size ≤ lo) : Below W.heap.size W w' :=
  h.grown hg h.size (fun g e => Nat.le_trans hlo (ho.far g e).1)
end
/-- elements that are laid in a block anew -/
theorem lit_own {α : Type} (E : En α) (T : TypeId) (w : World) (lo : Nat) (xs : List α) (cs : Array Value) (n : Nat) (hcs : cs.toList = fl E xs) (hn : xs.length = n) (hm : n ≤ maxLen) (h : lo ≤ w.heap.size) : OwS E T (w.alloc (.cells cs T)) lo (w.alloc (.cells cs T)).heap.size (some ⟨w.heap.size, 0, none⟩) n n xs := by
  refine OwS.of_row ?_
  rw [← hcs]
  exact World.ownsRow_lit w cs n h hm (by rw [← Array.length_toList, hcs, fl_len, hn])

theorem row_formS {w : World} {lo : Nat} {T : TypeId} {C n : Nat} {v : Value} {xs : List Value} (h : w.ownsRow lo T C v n xs) : ∃ p c, v = .slice p n c := by
  rcases h.2 with ⟨rfl, rfl⟩ | ⟨g, cap, _, rfl, _⟩
  · exact ⟨_, _, rfl⟩
  · exact ⟨_, _, rfl⟩
/-! ### append -/
section
variable {α : Type} {E : En α} {T : TypeId} {P : Program} {w : World} {ops : Array Oper} {rest : List Oper} {o : Oper} {a : Act} {Q : Exit → Act → World → Prop} {lo hi : Nat} {p : Option Addr} {n c : Nat} {xs : List α}
/-- append of a slice that reads as ys, nil too, onto a slice of the call's own: one operation -/
theorem wp_appS {K : Act → World → Prop} (s x : Operand) (t : TypeId) (ho : o.op = .call { callee := .builtin .append, args := #[s, x], argTypes := #[t, t] })
    (i : TypeInfo) (z : Value) (bytes : Nat) (ht : P.underlying t = some (.slice T)) (hi' : P.info? T = some i) (hz : i.zero = some z) (hsize : i.size = E.C) (hby : i.bytes = bytes) (hzs : z.cells.size = E.C)
    (hs : a.eval s = .slice p n c) (how : OwS E T w lo hi p n c xs) (p' : Option Addr) (m cc : Nat) (ys : List α) (hx : a.eval x = .slice p' m cc) (hr : RdS E w p' m ys)
    (hlo : lo ≤ w.heap.size) (hb : (n + m) * bytes ≤ 140737488355328) (hb' : n + m ≤ 140737488355328)
    (h : ∀ p' c' w', OwS E T w' lo w'.heap.size p' (n + m) c' (xs ++ ys) → w.grownBy w' (Value.slice p n c).ownBlock → K (a.put o.dst (.slice p' (n + m) c')) w') : Oper.wp P o a w K Q := by
  rcases p' with _ | ⟨b, off, spot⟩
  · have hm : m = 0 := by
      rcases Nat.eq_zero_or_pos m with h0 | h0
      · exact h0
      · obtain ⟨_, _, e, _⟩ := hr.2.2 h0
        cases e
    subst hm
    have hy : ys = [] := List.eq_nil_of_length_eq_zero hr.1
    subst hy
    have hrun : (Builtin.append_ #[t, t] o.type #[.slice p n c, .slice none 0 cc]).run P w = .ok (.slice p n c) w := by
      rcases how.own.2 with ⟨he, _⟩ | ⟨g, cap, cur, he, _, _, hnc, _⟩
      · simp only [Value.slice.injEq] at he
        obtain ⟨rfl, rfl, rfl⟩ := he
        simp [Builtin.append_, run_underlying ht, sizeOf, typeInfo, hi', Builtin.lenOf, Builtin.firstCells]
      · simp only [Value.slice.injEq, true_and] at he
        obtain ⟨rfl, rfl⟩ := he
        simp [Builtin.append_, run_underlying ht, sizeOf, typeInfo, hi', Builtin.lenOf, Builtin.firstCells, hnc, storeCells]
    unfold Oper.wp execOp
    simp only [ho, resolve, invoke, builtin, Sem.run_bind, Sem.run_pure, Result.andThen_ok, List.map_toArray, List.map_cons, List.map_nil, hs, hx, hrun]
    refine h p c w ?_ ⟨rfl, rfl, rfl, Nat.le_refl _, fun _ _ _ => rfl⟩
    rw [List.append_nil]
    exact how.wide (Nat.le_refl _) how.2.2.1 (Nat.le_refl _)
  · have hsp : 0 < m → spot = none := fun h0 => by
      obtain ⟨_, _, e, _⟩ := hr.2.2 h0
      simp only [Option.some.injEq, Addr.mk.injEq] at e
      exact e.2.2
    refine wp_append_own w s x t ho lo T i z E.C bytes ht hi' hz hsize hby hzs E.pos _ n _ hs how.own ⟨b, off, spot⟩ m cc (fl E ys) hx (by rw [fl_len, hr.len]) (fun q u hu => ?_) (fl_one' E ys) (by unfold maxLen; omega) hb hlo ?_
    · obtain ⟨i2, x2, j2, rfl, hj, hx2, hv⟩ := fl_of E hu
      have hm : 0 < m := by
        have := (List.getElem?_eq_some_iff.1 hx2).1
        have := hr.len
        omega
      obtain ⟨b', o', e, _, hc⟩ := hr.2.2 hm
      simp only [Option.some.injEq, Addr.mk.injEq] at e
      obtain ⟨rfl, rfl, rfl⟩ := e
      rw [Addr.add_lit, ← Nat.add_assoc]
      exact hc i2 x2 hx2 j2 u hv
    · intro v' w' hown hg _
      obtain ⟨p3, c3, rfl⟩ : ∃ p3 c3, v' = .slice p3 (n + m) c3 := row_formS hown
      rw [← fl_append] at hown
      exact h p3 c3 w' (OwS.of_row hown) hg
theorem wpList_appS (hgd : o.guard = none) (s x : Operand) (t : TypeId) (ho : o.op = .call { callee := .builtin .append, args := #[s, x], argTypes := #[t, t] })
    (i : TypeInfo) (z : Value) (bytes : Nat) (ht : P.underlying t = some (.slice T)) (hi' : P.info? T = some i) (hz : i.zero = some z) (hsize : i.size = E.C) (hby : i.bytes = bytes) (hzs : z.cells.size = E.C)
    (hs : a.eval s = .slice p n c) (how : OwS E T w lo hi p n c xs) (p' : Option Addr) (m cc : Nat) (ys : List α) (hx : a.eval x = .slice p' m cc) (hr : RdS E w p' m ys)
    (hlo : lo ≤ w.heap.size) (hb : (n + m) * bytes ≤ 140737488355328) (hb' : n + m ≤ 140737488355328)
    (h : ∀ p' c' w', OwS E T w' lo w'.heap.size p' (n + m) c' (xs ++ ys) → w.grownBy w' (Value.slice p n c).ownBlock → wpList P ops Q rest (a.put o.dst (.slice p' (n + m) c')) w') : wpList P ops Q (o :: rest) a w :=
  wpList_plain hgd fun _ hK => wp_appS s x t ho i z bytes ht hi' hz hsize hby hzs hs how p' m cc ys hx hr hlo hb hb' fun p3 c3 w3 h2 h3 => hK _ _ (h p3 c3 w3 h2 h3)
/-- .. in a drawn region -/
theorem step_appS {K : Act → World → Prop} {F : Prop} (hgd : o.guard = none) (s x : Operand) (t : TypeId) (ho : o.op = .call { callee := .builtin .append, args := #[s, x], argTypes := #[t, t] })
    (i : TypeInfo) (z : Value) (bytes : Nat) (ht : P.underlying t = some (.slice T)) (hi' : P.info? T = some i) (hz : i.zero = some z) (hsize : i.size = E.C) (hby : i.bytes = bytes) (hzs : z.cells.size = E.C)
    (hs : a.eval s = .slice p n c) (how : OwS E T w lo hi p n c xs) (p' : Option Addr) (m cc : Nat) (ys : List α) (hx : a.eval x = .slice p' m cc) (hr : RdS E w p' m ys)
    (hlo : lo ≤ w.heap.size) (hb : (n + m) * bytes ≤ 140737488355328) (hb' : n + m ≤ 140737488355328)
    (h : ∀ p' c' w', OwS E T w' lo w'.heap.size p' (n + m) c' (xs ++ ys) → w.grownBy w' (Value.slice p n c).ownBlock → K (a.put o.dst (.slice p' (n + m) c')) w') :
    if Region.wanted o (yielded ops a.tmps) = true then Oper.wp P o a w K Q else F := by
  have hw : Region.wanted o (yielded ops a.tmps) = true := by simp [Region.wanted, hgd]
  rw [if_pos hw]
  exact wp_appS s x t ho i z bytes ht hi' hz hsize hby hzs hs how p' m cc ys hx hr hlo hb hb' h
end
end Go.Proofs.YtfojilogcecphaaGreat.St
