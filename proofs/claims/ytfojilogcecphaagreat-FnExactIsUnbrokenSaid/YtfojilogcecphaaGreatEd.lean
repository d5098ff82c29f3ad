/- What is of no program: data of any depth (numbers, structs, slices, slices of structs with slices in them) that lie in memory and read as plain lists and pairs. -/
import Derived.Test.YtfojilogcecphaaGreatStM
import Derived.Test.YtfojilogcecphaaGreatBx
namespace Go.Proofs.YtfojilogcecphaaGreat.Ed
open Go.RowKit Go.WideShapes Sl St

/-- HOW A DATUM LIES: in so many cells, which read as a datum, in blocks of the set S. -/
structure Ent (α : Type) where
  C : Nat
  rd : (Nat → Prop) → World → List Value → α → Prop
  wt : α → Nat
  len : ∀ {S w cs x}, rd S w cs x → cs.length = C
  one : ∀ {S w cs x}, rd S w cs x → ∀ v ∈ cs, v.oneCell' = true
  keep : ∀ {S S' : Nat → Prop} {w w' : World} {cs x}, rd S w cs x → w.heap.size ≤ w'.heap.size → (∀ b, S b → b < w.heap.size → S' b ∧ w'.heap[b]? = w.heap[b]?) → rd S' w' cs x
  pos : 0 < C

def InI (x : Int) : Prop := -9223372036854775808 ≤ x ∧ x ≤ 9223372036854775807
/-- The slice at p, of n elements, reads as xs; all its blocks lie in S. -/
def RdD {α : Type} (E : Ent α) (S : Nat → Prop) (w : World) (p : Option Addr) (n : Nat) (xs : List α) : Prop :=
  xs.length = n ∧ n ≤ maxLen ∧ (0 < n → ∃ b o, p = some ⟨b, o, none⟩ ∧ S b ∧ b < w.heap.size ∧ ∀ i x, xs[i]? = some x → ∃ cs, (∀ j v, cs[j]? = some v → w.cell? ⟨b, o + i * E.C + j, none⟩ = some v) ∧ E.rd S w cs x)
section
variable {α : Type} {E : Ent α} {S S' : Nat → Prop} {w w' : World} {p : Option Addr} {n : Nat} {xs : List α}
theorem RdD.len (h : RdD E S w p n xs) : xs.length = n := h.1
theorem RdD.le (h : RdD E S w p n xs) : n ≤ 9223372036854775807 := by have := h.2.1; simpa [maxLen] using this
theorem RdD.at_ (h : RdD E S w p n xs) {i : Nat} (hi : i < n) : ∃ b o x cs, p = some ⟨b, o, none⟩ ∧ S b ∧ b < w.heap.size ∧ xs[i]? = some x ∧ (∀ j v, cs[j]? = some v → w.cell? ⟨b, o + i * E.C + j, none⟩ = some v) ∧ E.rd S w cs x := by
  obtain ⟨b, o, e, hS, hb, hc⟩ := h.2.2 (by omega)
  have hx : xs[i]? = some (xs[i]'(by rw [h.1]; exact hi)) := List.getElem?_eq_getElem _
  obtain ⟨cs, h1, h2⟩ := hc i _ hx
  exact ⟨b, o, _, cs, e, hS, hb, hx, h1, h2⟩
theorem RdD.nil_ (E : Ent α) (S : Nat → Prop) (w : World) (p : Option Addr) : RdD E S w p 0 [] := ⟨rfl, Nat.zero_le _, fun h => absurd h (Nat.lt_irrefl 0)⟩
theorem RdD.keep (h : RdD E S w p n xs) (hs : w.heap.size ≤ w'.heap.size) (hk : ∀ b, S b → b < w.heap.size → S' b ∧ w'.heap[b]? = w.heap[b]?) : RdD E S' w' p n xs :=
  ⟨h.1, h.2.1, fun hn => by
    obtain ⟨b, o, e, hS, hb, hc⟩ := h.2.2 hn
    obtain ⟨hS', he⟩ := hk b hS hb
    refine ⟨b, o, e, hS', by omega, fun i x hx => ?_⟩
    obtain ⟨cs, h1, h2⟩ := hc i x hx
    exact ⟨cs, fun j v hv => (World.cell?_of_block (w := w) (a := ⟨b, o + i * E.C + j, none⟩) he).trans (h1 j v hv), E.keep h2 hs hk⟩⟩
theorem RdD.below (h : RdD E S w p n xs) (hb : Below w.heap.size w w') : RdD E S w' p n xs := h.keep hb.size fun b hS hlt => ⟨hS, hb.block b hlt⟩
theorem RdD.mono (h : RdD E S w p n xs) (hs : ∀ b, S b → S' b) : RdD E S' w p n xs := h.keep (Nat.le_refl _) fun b hS _ => ⟨hs b hS, rfl⟩
theorem RdD.drewN (h : RdD E S w p n xs) (q : Nat) : RdD E S (w.drewN q) p n xs := h.keep (Nat.le_refl _) fun _ hS _ => ⟨hS, rfl⟩
theorem RdD.drew1 (h : RdD E S w p n xs) : RdD E S w.drew p n xs := h.keep (Nat.le_refl _) fun _ hS _ => ⟨hS, rfl⟩
theorem RdD.alloc (h : RdD E S w p n xs) (o : Obj) : RdD E S (w.alloc o) p n xs := h.below ((Below.refl _ _).alloc (Nat.le_refl _) _)
theorem RdD.far (h : RdD E S w p n xs) {q : Addr} (hq : ¬ S q.block) (u : Value) : RdD E S (w.setCell q u) p n xs :=
  h.keep (by simp [World.setCell]) fun b hS _ => ⟨hS, Below.heap_setCell w q u b (by rintro rfl; exact hq hS)⟩
theorem RdD.grown (h : RdD E S w p n xs) {row : Option Nat} (hg : w.grownBy w' row) (hne : ∀ b, S b → b < w.heap.size → some b ≠ row) : RdD E S w' p n xs :=
  h.keep hg.size fun b hS hlt => ⟨hS, hg.block b hlt (hne b hS hlt)⟩
end

/-! ### what lies in one cell, in some, in a slice -/
def int : Ent Int where
  C := 1
  rd _ _ cs x := cs = [.int .i64 x] ∧ InI x
  wt _ := 0
  len h := by rw [h.1]; rfl
  one h v hv := by rw [h.1, List.mem_singleton] at hv; subst hv; rfl
  keep h _ _ := h
  pos := by decide
def bool : Ent Bool where
  C := 1
  rd _ _ cs x := cs = [.bool x]
  wt _ := 0
  len h := by rw [h]; rfl
  one h v hv := by rw [h, List.mem_singleton] at hv; subst hv; rfl
  keep h _ _ := h
  pos := by decide
def str : Ent ByteArray where
  C := 1
  rd _ _ cs x := cs = [.string x] ∧ x.size ≤ 9223372036854775807
  wt x := x.size
  len h := by rw [h.1]; rfl
  one h v hv := by rw [h.1, List.mem_singleton] at hv; subst hv; rfl
  keep h _ _ := h
  pos := by decide
/-- a struct of numbers, known by its elder form -/
def flat {α : Type} (E : En α) (P : α → Prop) : Ent α where
  C := E.C
  rd _ _ cs x := cs = E.of x ∧ P x
  wt _ := 0
  len h := by rw [h.1, E.len]
  one h v hv := by rw [h.1] at hv; exact E.one _ v hv
  keep h _ _ := h
  pos := E.pos
def pair {α β : Type} (E : Ent α) (F : Ent β) : Ent (α × β) where
  C := E.C + F.C
  rd S w cs x := ∃ c1 c2, cs = c1 ++ c2 ∧ E.rd S w c1 x.1 ∧ F.rd S w c2 x.2
  wt x := E.wt x.1 + F.wt x.2
  len h := by
    obtain ⟨c1, c2, rfl, h1, h2⟩ := h
    rw [List.length_append, E.len h1, F.len h2]
  one h v hv := by
    obtain ⟨c1, c2, rfl, h1, h2⟩ := h
    rcases List.mem_append.1 hv with hv | hv
    · exact E.one h1 v hv
    · exact F.one h2 v hv
  keep h hs hk := by
    obtain ⟨c1, c2, e, h1, h2⟩ := h
    exact ⟨c1, c2, e, E.keep h1 hs hk, F.keep h2 hs hk⟩
  pos := Nat.lt_of_lt_of_le E.pos (Nat.le_add_right _ _)
def sl {α : Type} (E : Ent α) : Ent (List α) where
  C := 1
  rd S w cs xs := ∃ p n c, cs = [.slice p n c] ∧ n ≤ c ∧ RdD E S w p n xs
  wt xs := xs.length + (xs.map E.wt).sum
  len h := by
    obtain ⟨p, n, c, rfl, _⟩ := h
    rfl
  one h v hv := by
    obtain ⟨p, n, c, rfl, _⟩ := h
    rw [List.mem_singleton] at hv
    subst hv
    rfl
  keep h hs hk := by
    obtain ⟨p, n, c, e, h0, h1⟩ := h
    exact ⟨p, n, c, e, h0, h1.keep hs hk⟩
  pos := by decide

/-! ### weights -/
def wts {α : Type} (E : Ent α) (xs : List α) : Nat := (xs.map E.wt).sum
section
variable {α : Type} {E : Ent α}
theorem wt_sl (xs : List α) : (sl E).wt xs = xs.length + wts E xs := rfl
theorem wts_nil : wts E [] = 0 := rfl
theorem wts_cons (x : α) (xs : List α) : wts E (x :: xs) = E.wt x + wts E xs := by simp [wts]
theorem wts_take {xs : List α} {k : Nat} {x : α} (h : xs[k]? = some x) : wts E (xs.take (k + 1)) = wts E (xs.take k) + E.wt x := by
  obtain ⟨hk, rfl⟩ := List.getElem?_eq_some_iff.1 h
  unfold wts
  rw [List.take_succ_eq_append_getElem hk, List.map_append, List.sum_append, List.map_singleton, List.sum_singleton]
theorem wts_le (xs : List α) (k : Nat) : wts E (xs.take k) ≤ wts E xs := by
  have e : wts E xs = wts E (xs.take k) + wts E (xs.drop k) := by
    unfold wts
    rw [← List.sum_append, ← List.map_append, List.take_append_drop]
  omega
theorem wts_all (xs : List α) {n : Nat} (h : xs.length = n) : wts E (xs.take n) = wts E xs := by rw [← h, List.take_length]
theorem wts_at {xs : List α} {k : Nat} {x : α} (h : xs[k]? = some x) : E.wt x ≤ wts E xs := by
  have h1 := wts_take (E := E) h
  have h2 := wts_le (E := E) xs (k + 1)
  omega
theorem wts_zero (h : ∀ x, E.wt x = 0) (xs : List α) : wts E xs = 0 := by
  induction xs with
  | nil => rfl
  | cons x xs ih => rw [wts_cons, h, ih]
end

/-! ### capacities -/
theorem cap_ow {k : IntKind} {T : TypeId} {w : World} {lo hi : Nat} {p : Option Addr} {n c : Nat} {zs : List Int} (h : Ow k T w lo hi p n c zs) : n ≤ c := by
  rcases h.form with ⟨_, rfl, rfl⟩ | ⟨g, _, _, _, h1, _⟩
  · exact Nat.le_refl 0
  · exact h1
theorem cap_owS {α : Type} {E : En α} {T : TypeId} {w : World} {lo hi : Nat} {p : Option Addr} {n c : Nat} {xs : List α} (h : OwS E T w lo hi p n c xs) : n ≤ c := by
  rcases h.form with ⟨_, rfl, rfl⟩ | ⟨g, _, _, _, h1, _⟩
  · exact Nat.le_refl 0
  · exact h1
/-! ### the elder readings -/
theorem RdD.ints {S : Nat → Prop} {w : World} {p : Option Addr} {n : Nat} {zs : List Int} (h : RdD int S w p n zs) : Rd .i64 w p n zs := by
  have hl := h.1
  have key : ∀ i, i < n → InI (zs.getD i 0) := fun i hi => by
    obtain ⟨b, o, x, cs, _, _, _, hx, _, hr⟩ := h.at_ hi
    rw [List.getD_eq_getElem?_getD, hx]
    exact hr.2
  refine ⟨hl, h.2.1, fun x hx => ?_, fun hn => ?_⟩
  · obtain ⟨i, hi⟩ := List.mem_iff_getElem?.1 hx
    have hlt := (List.getElem?_eq_some_iff.1 hi).1
    have := key i (by omega)
    rw [List.getD_eq_getElem?_getD, hi] at this
    exact this
  · obtain ⟨b, o, e, _, hb, hc⟩ := h.2.2 hn
    refine ⟨b, o, e, hb, fun i hi => ?_⟩
    have hx : zs[i]? = some (zs[i]'(by omega)) := List.getElem?_eq_getElem _
    obtain ⟨cs, h1, h2⟩ := hc i _ hx
    have h3 := h1 0 (.int .i64 (zs[i]'(by omega))) (by rw [h2.1]; rfl)
    rw [List.getD_eq_getElem?_getD, hx]
    rw [show o + i = o + i * int.C + 0 from by show _ = o + i * 1 + 0; omega]
    exact h3
theorem RdD.ofInts {S : Nat → Prop} {w : World} {p : Option Addr} {n : Nat} {zs : List Int} (h : Rd .i64 w p n zs) (hS : ∀ b o, p = some ⟨b, o, none⟩ → b < w.heap.size → S b) : RdD int S w p n zs := by
  refine ⟨h.len, h.2.1, fun hn => ?_⟩
  obtain ⟨b, o, e, hb, hc⟩ := h.2.2.2 hn
  refine ⟨b, o, e, hS b o e hb, hb, fun i x hx => ⟨[.int .i64 x], fun j v hv => ?_, rfl, ?_⟩⟩
  · have hi := (List.getElem?_eq_some_iff.1 hx).1
    have hl := h.len
    have h1 := hc i (by omega)
    rw [List.getD_eq_getElem?_getD, hx] at h1
    cases j with
    | zero =>
      simp only [List.getElem?_cons_zero, Option.some.injEq] at hv
      subst hv
      rw [show o + i * int.C + 0 = o + i from by show o + i * 1 + 0 = _; omega]
      exact h1
    | succ j => simp at hv
  · exact h.all x (List.mem_of_getElem? hx)
theorem RdD.ofOw {w : World} {lo hi : Nat} {T : TypeId} {p : Option Addr} {n c : Nat} {zs : List Int} (h : Ow .i64 T w lo hi p n c zs) : RdD int (fun b => lo ≤ b) w p n zs := by
  refine RdD.ofInts h.rd fun b o e _ => ?_
  rcases h.form with ⟨rfl, _, _⟩ | ⟨g, rfl, h1, _⟩
  · cases e
  · cases e
    exact h1
section
variable {α : Type} {E : En α} {P : α → Prop} {S : Nat → Prop} {w : World} {p : Option Addr} {n : Nat} {xs : List α}
theorem RdD.rdS (h : RdD (flat E P) S w p n xs) : RdS E w p n xs := by
  refine ⟨h.1, h.2.1, fun hn => ?_⟩
  obtain ⟨b, o, e, _, hb, hc⟩ := h.2.2 hn
  refine ⟨b, o, e, hb, fun i x hx j v hv => ?_⟩
  obtain ⟨cs, h1, h2⟩ := hc i x hx
  exact h1 j v (by rw [h2.1]; exact hv)
theorem RdD.allP (h : RdD (flat E P) S w p n xs) : ∀ x ∈ xs, P x := fun x hx => by
  obtain ⟨i, hi⟩ := List.mem_iff_getElem?.1 hx
  have hlt := (List.getElem?_eq_some_iff.1 hi).1
  obtain ⟨b, o, y, cs, _, _, _, hy, _, hr⟩ := h.at_ (i := i) (by have := h.1; omega)
  rw [hi] at hy
  cases hy
  exact hr.2
theorem RdD.ofS (h : RdS E w p n xs) (hP : ∀ x ∈ xs, P x) (hS : ∀ b o, p = some ⟨b, o, none⟩ → b < w.heap.size → S b) : RdD (flat E P) S w p n xs := by
  refine ⟨h.len, h.2.1, fun hn => ?_⟩
  obtain ⟨b, o, e, hb, hc⟩ := h.2.2 hn
  exact ⟨b, o, e, hS b o e hb, hb, fun i x hx => ⟨E.of x, fun j v hv => hc i x hx j v hv, rfl, hP x (List.mem_of_getElem? hx)⟩⟩
theorem RdD.ofOwS {T : TypeId} {lo hi c : Nat} (h : OwS E T w lo hi p n c xs) (hP : ∀ x ∈ xs, P x) : RdD (flat E P) (fun b => lo ≤ b) w p n xs := by
  refine RdD.ofS h.rd hP fun b o e _ => ?_
  rcases h.form with ⟨rfl, _, _⟩ | ⟨g, rfl, h1, _⟩
  · cases e
  · cases e
    exact h1
end
/-- strings in a slice -/
theorem RdD.strs {E : En ByteArray} (hE : E.C = 1) (hof : ∀ s, E.of s = [.string s]) {S : Nat → Prop} {w : World} {p : Option Addr} {n : Nat} {xs : List ByteArray} (h : RdD str S w p n xs) : RdS E w p n xs ∧ ∀ s ∈ xs, s.size ≤ 9223372036854775807 := by
  refine ⟨⟨h.1, h.2.1, fun hn => ?_⟩, fun x hx => ?_⟩
  · obtain ⟨b, o, e, _, hb, hc⟩ := h.2.2 hn
    refine ⟨b, o, e, hb, fun i x hx j v hv => ?_⟩
    obtain ⟨cs, h1, h2⟩ := hc i x hx
    have := h1 j v (by rw [h2.1]; rw [hof] at hv; exact hv)
    rw [hE]
    exact this
  · obtain ⟨i, hi⟩ := List.mem_iff_getElem?.1 hx
    have hlt := (List.getElem?_eq_some_iff.1 hi).1
    obtain ⟨b, o, y, cs, _, _, _, hy, _, hr⟩ := h.at_ (i := i) (by have := h.1; omega)
    rw [hi] at hy
    cases hy
    exact hr.2
theorem RdD.ofStrs {E : En ByteArray} (hE : E.C = 1) (hof : ∀ s, E.of s = [.string s]) {S : Nat → Prop} {w : World} {p : Option Addr} {n : Nat} {xs : List ByteArray} (h : RdS E w p n xs) (hb : ∀ s ∈ xs, s.size ≤ 9223372036854775807) (hS : ∀ b o, p = some ⟨b, o, none⟩ → b < w.heap.size → S b) : RdD str S w p n xs := by
  refine ⟨h.len, h.2.1, fun hn => ?_⟩
  obtain ⟨b, o, e, hlt, hc⟩ := h.2.2 hn
  refine ⟨b, o, e, hS b o e hlt, hlt, fun i x hx => ⟨E.of x, fun j v hv => ?_, ?_, hb x (List.mem_of_getElem? hx)⟩⟩
  · have := hc i x hx j v hv
    rw [hE] at this
    exact this
  · exact hof x

/-! ### a copy that is made, element by element -/
/-- the row of the block g: the cells of its elements -/
def cells0 (z : List Value) (n : Nat) : List (List Value) := List.replicate n z
/-- the copy after j elements: its row lies in the block that is next at w; what the elements hold lies behind it -/
def MidD {α : Type} (E : Ent α) (T : TypeId) (z : List Value) (xs : List α) (n j : Nat) (w wr : World) : Prop :=
  ∃ css : List (List Value), css.length = n ∧ wr.ownsRow w.heap.size T E.C (.slice (some ⟨w.heap.size, 0, none⟩) n n) n css.flatten ∧
    (∀ cs ∈ css, cs.length = E.C) ∧ (∀ i, j ≤ i → i < n → css[i]? = some z) ∧
    (∀ i x cs, i < j → xs[i]? = some x → css[i]? = some cs → E.rd (fun b => w.heap.size < b) wr cs x) ∧ Below w.heap.size w wr ∧ w.heap.size < wr.heap.size
theorem flatten_at {C : Nat} : ∀ {css : List (List Value)} {i j : Nat} {cs : List Value} {v : Value}, (∀ cs ∈ css, cs.length = C) → css[i]? = some cs → cs[j]? = some v → css.flatten[i * C + j]? = some v
  | [], i, j, cs, v, _, h, _ => by simp at h
  | d :: css, 0, j, cs, v, hl, h, hv => by
    simp only [List.getElem?_cons_zero, Option.some.injEq] at h
    subst h
    rw [List.flatten_cons, Nat.zero_mul, Nat.zero_add, List.getElem?_append_left (List.getElem?_eq_some_iff.1 hv).1]
    exact hv
  | d :: css, i + 1, j, cs, v, hl, h, hv => by
    simp only [List.getElem?_cons_succ] at h
    have hd : d.length = C := hl d List.mem_cons_self
    rw [List.flatten_cons, List.getElem?_append_right (by rw [hd, Nat.succ_mul]; omega), hd, show (i + 1) * C + j - C = i * C + j by rw [Nat.succ_mul]; omega]
    exact flatten_at (fun cs hcs => hl cs (List.mem_cons_of_mem _ hcs)) h hv
theorem flatten_len {C : Nat} : ∀ {css : List (List Value)}, (∀ cs ∈ css, cs.length = C) → css.flatten.length = css.length * C
  | [], _ => by simp
  | d :: css, hl => by rw [List.flatten_cons, List.length_append, hl d List.mem_cons_self, flatten_len (fun cs hcs => hl cs (List.mem_cons_of_mem _ hcs)), List.length_cons, Nat.succ_mul, Nat.add_comm]
theorem flatten_setL {C : Nat} {css : List (List Value)} {j : Nat} {cs : List Value} (hl : ∀ cs ∈ css, cs.length = C) (hj : j < css.length) (hc : cs.length = C) : setL css.flatten (j * C) cs = (css.set j cs).flatten := by
  have e1 : css = css.take j ++ (css[j] :: css.drop (j + 1)) := by rw [← List.drop_eq_getElem_cons hj, List.take_append_drop]
  have e2 : css.set j cs = css.take j ++ (cs :: css.drop (j + 1)) := List.set_eq_take_append_cons_drop.trans (if_pos hj)
  have h1 : (css.take j).flatten.length = j * C := by
    rw [flatten_len (fun cs hcs => hl cs (List.mem_of_mem_take hcs)), List.length_take, Nat.min_eq_left (Nat.le_of_lt hj)]
  have h := setL_mid cs (css.take j).flatten css[j] (css.drop (j + 1)).flatten (by rw [hl _ (List.getElem_mem hj), hc])
  rw [h1] at h
  rw [e2, List.flatten_append, List.flatten_cons, ← h]
  congr 1
  conv => lhs; rw [e1]
  rw [List.flatten_append, List.flatten_cons]
theorem made_flatten (v : Value) (z : List Value) (hz : v.cells.toList = z) (n : Nat) (hp : 0 < z.length) (h1 : ∀ u ∈ z, u.oneCell' = true) : (madeCells v.cells (n * z.length)).toList = (cells0 z n).flatten := by
  let E : En Unit := ⟨fun _ => z, z.length, fun _ => rfl, fun _ => h1, hp⟩
  have h := made_fl (E := E) v () hz n
  have e : fl E (List.replicate n ()) = (cells0 z n).flatten := by
    unfold fl cells0
    rw [List.flatMap_replicate]
  rw [← e]
  exact h
section
variable {α : Type} {E : Ent α} {T : TypeId} {z : List Value} {xs : List α} {n j : Nat} {w wr w2 : World}
theorem MidD.start (v : Value) (hz : v.cells.toList = z) (hC : z.length = E.C) (h1 : ∀ u ∈ z, u.oneCell' = true) {w1 : World} (hown : w1.ownsRow w.heap.size T E.C (.slice (some ⟨w.heap.size, 0, none⟩) n n) n (madeCells v.cells (n * E.C)).toList) (hg : w.grownBy w1 none) : MidD E T z xs n 0 w w1 := by
  have hp : 0 < z.length := by rw [hC]; exact E.pos
  rw [← hC, made_flatten v z hz n hp h1, hC] at hown
  refine ⟨cells0 z n, by simp [cells0], hown, fun cs h => ?_, fun i _ hi => by simp [cells0, hi], fun i x cs hi => absurd hi (Nat.not_lt_zero _), (Below.refl _ _).grown hg (Nat.le_refl _) (fun _ h => by cases h), (hown.lt _ rfl).2⟩
  rw [cells0, List.mem_replicate] at h
  rw [h.2, hC]
/-- what is stored in place of an element that is zero yet -/
theorem MidD.cells (h : MidD E T z xs n j w wr) (hj : j < n) : (∀ q v, z[q]? = some v → wr.cell? ⟨w.heap.size, j * E.C + q, none⟩ = some v) ∧ ∀ q, wr.frozen? ⟨w.heap.size, q, none⟩ = false := by
  obtain ⟨css, hn, hown, hl, hz, _, _, _⟩ := h
  refine ⟨fun q v hv => ?_, fun q => hown.frozenAt q⟩
  have h1 := flatten_at hl (hz j (Nat.le_refl _) hj) hv
  have h2 := (List.getElem?_eq_some_iff.1 h1).1
  rw [flatten_len hl, hn] at h2
  rw [hown.cellAt _ h2]
  exact h1
theorem MidD.next {x : α} {cs : List Value} (h : MidD E T z xs n j w wr) (hb : Below wr.heap.size wr w2) (hj : j < n) (hx : xs[j]? = some x) (hr : E.rd (fun b => wr.heap.size ≤ b) w2 cs x) : MidD E T z xs n (j + 1) w (w2.setCells w.heap.size (j * E.C) cs) := by
  obtain ⟨css, hn, hown, hl, hz, hrd, hB, hlt⟩ := h
  have hown2 : w2.ownsRow w.heap.size T E.C (.slice (some ⟨w.heap.size, 0, none⟩) n n) n css.flatten := by
    refine hown.kept (below_grown hb none) (Or.inr ?_)
    simp [Value.ownBlock]
  obtain ⟨h3, h4⟩ := row_setCells cs (j * E.C) _ _ hown2
  have hcs := E.len hr
  rw [flatten_setL hl (by omega) hcs] at h3
  refine ⟨css.set j cs, by rw [List.length_set]; exact hn, h3, fun d hd => ?_, fun i h1 h2 => ?_, fun i y d hi hy hd => ?_, (hB.trans (hb.mono hB.size)).grown h4 (Nat.le_trans hB.size hb.size) (fun k e => by cases e; exact Nat.le_refl _), ?_⟩
  · rcases List.mem_or_eq_of_mem_set hd with h5 | rfl
    · exact hl d h5
    · exact hcs
  · rw [List.getElem?_set_ne (by omega)]
    exact hz i (by omega) h2
  · have hkeep : ∀ {S : Nat → Prop} {w0 : World}, w0.heap.size ≤ w2.heap.size → (∀ b, S b → b < w0.heap.size → w.heap.size < b ∧ w2.heap[b]? = w0.heap[b]?) → ∀ b, S b → b < w0.heap.size → w.heap.size < b ∧ (w2.setCells w.heap.size (j * E.C) cs).heap[b]? = w0.heap[b]? := fun hs hk b hS hlt0 => by
      obtain ⟨k1, k2⟩ := hk b hS hlt0
      exact ⟨k1, (h4.block b (by omega) (by intro e; cases e; omega)).trans k2⟩
    by_cases hij : i = j
    · subst hij
      rw [List.getElem?_set_self (by omega)] at hd
      cases hd
      rw [hx] at hy
      cases hy
      exact E.keep hr (by rw [show (w2.setCells w.heap.size (i * E.C) cs).heap.size = _ from rfl]; exact h4.size) (hkeep (Nat.le_refl _) fun b hS _ => ⟨by omega, rfl⟩)
    · rw [List.getElem?_set_ne (by omega)] at hd
      exact E.keep (hrd i y d (by omega) hy hd) (Nat.le_trans hb.size h4.size) (hkeep hb.size fun b hS hlt0 => ⟨hS, hb.block b hlt0⟩)
  · have := h4.size
    have := hb.size
    omega
theorem MidD.done (h : MidD E T z xs n n w wr) (hl : xs.length = n) (hm : n ≤ maxLen) : RdD E (fun b => w.heap.size ≤ b) wr (some ⟨w.heap.size, 0, none⟩) n xs ∧ Below w.heap.size w wr := by
  obtain ⟨css, hn, hown, hcl, _, hrd, hB, hlt⟩ := h
  refine ⟨⟨hl, hm, fun hpos => ⟨w.heap.size, 0, rfl, Nat.le_refl _, hlt, fun i x hx => ?_⟩⟩, hB⟩
  have hi := (List.getElem?_eq_some_iff.1 hx).1
  have hc : css[i]? = some (css[i]'(by omega)) := List.getElem?_eq_getElem _
  refine ⟨_, fun q v hv => ?_, E.keep (hrd i x _ (by omega) hx hc) (Nat.le_refl _) fun b hS _ => ⟨Nat.le_of_lt hS, rfl⟩⟩
  have h1 := flatten_at hcl hc hv
  have h2 := (List.getElem?_eq_some_iff.1 h1).1
  rw [flatten_len hcl, hn] at h2
  rw [Nat.zero_add, hown.cellAt _ h2]
  exact h1
theorem MidD.below (h : MidD E T z xs n j w wr) : Below w.heap.size w wr := by
  obtain ⟨_, _, _, _, _, _, hB, _⟩ := h
  exact hB
theorem MidD.lt (h : MidD E T z xs n j w wr) : w.heap.size < wr.heap.size := by
  obtain ⟨_, _, _, _, _, _, _, hlt⟩ := h
  exact hlt
end
end Go.Proofs.YtfojilogcecphaaGreat.Ed
