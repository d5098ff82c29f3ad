/- What is of no program: data of any depth in memory that may be written; marks over numbers, Bools and words: what was read reads on, as other data of the same form. -/
import Derived.Test.YtjaholcmaafenaaEd
namespace Go.Proofs.Ytjaholcmaafenaa.Ek
open Go.RowKit Go.WideShapes Sl St Ed

/-! ### memory that is not frozen -/
def Free (w : World) (b : Nat) : Prop := ∀ i, w.frozen? ⟨b, i, none⟩ = false
theorem Free.of {w w' : World} {b : Nat} (h : Free w b) (e : w'.heap[b]? = w.heap[b]?) : Free w' b := fun i => (World.frozen?_of_block (w := w) (a := ⟨b, i, none⟩) e).trans (h i)
def Fr (lo : Nat) (w : World) (b : Nat) : Prop := lo ≤ b ∧ Free w b
/-- data in blocks from lo on, that aren't frozen -/
def FRd {α : Type} (E : Ent α) (lo : Nat) (w : World) (p : Option Addr) (n : Nat) (xs : List α) : Prop := RdD E (Fr lo w) w p n xs
section
variable {α : Type} {E : Ent α} {lo : Nat} {w w' : World} {p : Option Addr} {n : Nat} {xs : List α}
theorem FRd.len (h : FRd E lo w p n xs) : xs.length = n := RdD.len h
theorem FRd.keepB (h : FRd E lo w p n xs) (hs : w.heap.size ≤ w'.heap.size) (hk : ∀ b, lo ≤ b → b < w.heap.size → w'.heap[b]? = w.heap[b]?) : FRd E lo w' p n xs := RdD.keep h hs fun b hS hlt => ⟨⟨hS.1, hS.2.of (hk b hS.1 hlt)⟩, hk b hS.1 hlt⟩
theorem FRd.below (h : FRd E lo w p n xs) (hb : Below w.heap.size w w') : FRd E lo w' p n xs := h.keepB hb.size fun b _ hlt => hb.block b hlt
theorem FRd.alloc (h : FRd E lo w p n xs) (o : Obj) : FRd E lo (w.alloc o) p n xs := h.below ((Below.refl _ _).alloc (Nat.le_refl _) _)
theorem FRd.drew1 (h : FRd E lo w p n xs) : FRd E lo w.drew p n xs := h.keepB (Nat.le_refl _) fun _ _ _ => rfl
theorem FRd.far (h : FRd E lo w p n xs) {q : Addr} (hq : ¬ lo ≤ q.block) (u : Value) : FRd E lo (w.setCell q u) p n xs := h.keepB (by simp [World.setCell]) fun b hS _ => Below.heap_setCell w q u b (by rintro rfl; exact hq hS)
theorem FRd.up (h : FRd E lo w p n xs) {lo' : Nat} (hl : lo' ≤ lo) : FRd E lo' w p n xs := RdD.mono h fun _ hb => ⟨Nat.le_trans hl hb.1, hb.2⟩
theorem FRd.rd (h : FRd E lo w p n xs) : RdD E (fun b => lo ≤ b) w p n xs := RdD.mono h fun _ hb => hb.1
end
theorem ofOwF {w : World} {lo hi : Nat} {T : TypeId} {p : Option Addr} {n c : Nat} {zs : List Int} (h : Ow .i64 T w lo hi p n c zs) : FRd int lo w p n zs := by
  refine RdD.ofInts h.rd fun b o e _ => ?_
  rcases h.form with ⟨rfl, _, _⟩ | ⟨g, rfl, h1, _⟩
  · cases e
  · cases e
    exact ⟨h1, fun i => h.free⟩
theorem ofOwSF {α : Type} {E : En α} {P : α → Prop} {w : World} {p : Option Addr} {n : Nat} {xs : List α} {T : TypeId} {lo hi c : Nat} (h : OwS E T w lo hi p n c xs) (hP : ∀ x ∈ xs, P x) : FRd (flat E P) lo w p n xs := by
  refine RdD.ofS h.rd hP fun b o e _ => ?_
  rcases h.form with ⟨rfl, _, _⟩ | ⟨g, rfl, h1, _⟩
  · cases e
  · cases e
    exact ⟨h1, fun i => h.own.frozenAt i⟩
theorem ofStrsF {E : En ByteArray} (hE : E.C = 1) (hof : ∀ s, E.of s = [.string s]) {w : World} {lo hi : Nat} {T : TypeId} {p : Option Addr} {n c : Nat} {xs : List ByteArray} (h : OwS E T w lo hi p n c xs) (hb : ∀ s ∈ xs, s.size ≤ 9223372036854775807) : FRd str lo w p n xs := by
  refine RdD.ofStrs hE hof h.rd hb fun b o e _ => ?_
  rcases h.form with ⟨rfl, _, _⟩ | ⟨g, rfl, h1, _⟩
  · cases e
  · cases e
    exact ⟨h1, fun i => h.own.frozenAt i⟩

/-! ### a copy that is made, element by element -/
def MidF {α : Type} (E : Ent α) (T : TypeId) (z : List Value) (xs : List α) (n j : Nat) (w wr : World) : Prop :=
  ∃ css : List (List Value), css.length = n ∧ wr.ownsRow w.heap.size T E.C (.slice (some ⟨w.heap.size, 0, none⟩) n n) n css.flatten ∧
    (∀ cs ∈ css, cs.length = E.C) ∧ (∀ i, j ≤ i → i < n → css[i]? = some z) ∧
    (∀ i x cs, i < j → xs[i]? = some x → css[i]? = some cs → E.rd (Fr (w.heap.size + 1) wr) wr cs x) ∧ Below w.heap.size w wr ∧ w.heap.size < wr.heap.size
section
variable {α : Type} {E : Ent α} {T : TypeId} {z : List Value} {xs : List α} {n j : Nat} {w wr w2 : World}
theorem MidF.start (v : Value) (hz : v.cells.toList = z) (hC : z.length = E.C) (h1 : ∀ u ∈ z, u.oneCell' = true) {w1 : World} (hown : w1.ownsRow w.heap.size T E.C (.slice (some ⟨w.heap.size, 0, none⟩) n n) n (madeCells v.cells (n * E.C)).toList) (hg : w.grownBy w1 none) : MidF E T z xs n 0 w w1 := by
  have hp : 0 < z.length := by rw [hC]; exact E.pos
  rw [← hC, made_flatten v z hz n hp h1, hC] at hown
  refine ⟨cells0 z n, by simp [cells0], hown, fun cs h => ?_, fun i _ hi => by simp [cells0, hi], fun i x cs hi => absurd hi (Nat.not_lt_zero _), (Below.refl _ _).grown hg (Nat.le_refl _) (fun _ h => by cases h), (hown.lt _ rfl).2⟩
  rw [cells0, List.mem_replicate] at h
  rw [h.2, hC]
theorem MidF.cells (h : MidF E T z xs n j w wr) (hj : j < n) : (∀ q v, z[q]? = some v → wr.cell? ⟨w.heap.size, j * E.C + q, none⟩ = some v) ∧ ∀ q, wr.frozen? ⟨w.heap.size, q, none⟩ = false := by
  obtain ⟨css, hn, hown, hl, hz, _, _, _⟩ := h
  refine ⟨fun q v hv => ?_, fun q => hown.frozenAt q⟩
  have h1 := flatten_at hl (hz j (Nat.le_refl _) hj) hv
  have h2 := (List.getElem?_eq_some_iff.1 h1).1
  rw [flatten_len hl, hn] at h2
  rw [hown.cellAt _ h2]
  exact h1
theorem MidF.next {x : α} {cs : List Value} (h : MidF E T z xs n j w wr) (hb : Below wr.heap.size wr w2) (hj : j < n) (hx : xs[j]? = some x) (hr : E.rd (Fr wr.heap.size w2) w2 cs x) : MidF E T z xs n (j + 1) w (w2.setCells w.heap.size (j * E.C) cs) := by
  obtain ⟨css, hn, hown, hl, hz, hrd, hB, hlt⟩ := h
  have hown2 : w2.ownsRow w.heap.size T E.C (.slice (some ⟨w.heap.size, 0, none⟩) n n) n css.flatten := by
    refine hown.kept (below_grown hb none) (Or.inr ?_)
    simp [Value.ownBlock]
  obtain ⟨h3, h4⟩ := row_setCells cs (j * E.C) _ _ hown2
  have hcs := E.len hr
  rw [flatten_setL hl (by omega) hcs] at h3
  refine ⟨css.set j cs, by rw [List.length_set]; exact hn, h3, fun d hd => ?_, fun i h1 h2 => ?_, fun i y d hi hy hd => ?_, (hB.trans (hb.mono hB.size)).grown h4 (Nat.le_trans hB.size hb.size) (fun k e => by cases e; exact Nat.le_refl _), ?_⟩
  · rcases List.mem_or_eq_of_mem_set hd with h5 | rfl
    · exact hl d h5
    · exact hcs
  · rw [List.getElem?_set_ne (by omega)]
    exact hz i (by omega) h2
  · have hkeep : ∀ {w0 : World} {l0 : Nat}, w.heap.size < l0 → w0.heap.size ≤ w2.heap.size → (∀ b, l0 ≤ b → b < w0.heap.size → w2.heap[b]? = w0.heap[b]?) → ∀ b, Fr l0 w0 b → b < w0.heap.size → Fr (w.heap.size + 1) (w2.setCells w.heap.size (j * E.C) cs) b ∧ (w2.setCells w.heap.size (j * E.C) cs).heap[b]? = w0.heap[b]? := fun {w0 l0} hl0 hs hk b hS hlt0 => by
      have hSb := hS.1
      have e := (h4.block b (by omega) (by intro e; cases e; omega)).trans (hk b hSb hlt0)
      exact ⟨⟨by omega, hS.2.of e⟩, e⟩
    by_cases hij : i = j
    · subst hij
      rw [List.getElem?_set_self (by omega)] at hd
      cases hd
      rw [hx] at hy
      cases hy
      exact E.keep hr h4.size (hkeep hlt (Nat.le_refl _) fun _ _ _ => rfl)
    · rw [List.getElem?_set_ne (by omega)] at hd
      exact E.keep (hrd i y d (by omega) hy hd) (Nat.le_trans hb.size h4.size) (hkeep (Nat.lt_succ_self _) hb.size fun b _ hlt0 => hb.block b hlt0)
  · have := h4.size
    have := hb.size
    omega
theorem MidF.done (h : MidF E T z xs n n w wr) (hl : xs.length = n) (hm : n ≤ maxLen) : FRd E w.heap.size wr (some ⟨w.heap.size, 0, none⟩) n xs ∧ Below w.heap.size w wr := by
  obtain ⟨css, hn, hown, hcl, _, hrd, hB, hlt⟩ := h
  refine ⟨⟨hl, hm, fun hpos => ⟨w.heap.size, 0, rfl, ⟨Nat.le_refl _, fun i => hown.frozenAt i⟩, hlt, fun i x hx => ?_⟩⟩, hB⟩
  have hi := (List.getElem?_eq_some_iff.1 hx).1
  have hc : css[i]? = some (css[i]'(by omega)) := List.getElem?_eq_getElem _
  refine ⟨_, fun q v hv => ?_, E.keep (hrd i x _ (by omega) hx hc) (Nat.le_refl _) fun b hS _ => ⟨⟨by have := hS.1; omega, hS.2⟩, rfl⟩⟩
  have h1 := flatten_at hcl hc hv
  have h2 := (List.getElem?_eq_some_iff.1 h1).1
  rw [flatten_len hcl, hn] at h2
  rw [Nat.zero_add, hown.cellAt _ h2]
  exact h1
theorem MidF.below (h : MidF E T z xs n j w wr) : Below w.heap.size w wr := by
  obtain ⟨_, _, _, _, _, _, hB, _⟩ := h
  exact hB
theorem MidF.lt (h : MidF E T z xs n j w wr) : w.heap.size < wr.heap.size := by
  obtain ⟨_, _, _, _, _, _, _, hlt⟩ := h
  exact hlt
end

/-! ### a value of the same kind -/
def Kd (v v' : Value) : Prop := v' = v ∨ (∃ x y : Int, v = .int .i64 x ∧ v' = .int .i64 y ∧ InI y) ∨ (∃ a b : Bool, v = .bool a ∧ v' = .bool b) ∨ (∃ s t : ByteArray, v = .string s ∧ v' = .string t ∧ t.size ≤ 9223372036854775807)
theorem Kd.refl (v : Value) : Kd v v := Or.inl rfl
theorem Kd.trans {u v x : Value} (h : Kd u v) (k : Kd v x) : Kd u x := by
  rcases k with rfl | ⟨a, b, rfl, rfl, hb⟩ | ⟨a, b, rfl, rfl⟩ | ⟨a, b, rfl, rfl, hb⟩
  · exact h
  · rcases h with h | ⟨c, d, rfl, _, _⟩ | ⟨c, d, _, h⟩ | ⟨c, d, _, h, _⟩
    · subst h; exact Or.inr (Or.inl ⟨_, _, rfl, rfl, hb⟩)
    · exact Or.inr (Or.inl ⟨_, _, rfl, rfl, hb⟩)
    · cases h
    · cases h
  · rcases h with h | ⟨c, d, _, h, _⟩ | ⟨c, d, rfl, _⟩ | ⟨c, d, _, h, _⟩
    · subst h; exact Or.inr (Or.inr (Or.inl ⟨_, _, rfl, rfl⟩))
    · cases h
    · exact Or.inr (Or.inr (Or.inl ⟨_, _, rfl, rfl⟩))
    · cases h
  · rcases h with h | ⟨c, d, _, h, _⟩ | ⟨c, d, _, h⟩ | ⟨c, d, rfl, _, _⟩
    · subst h; exact Or.inr (Or.inr (Or.inr ⟨_, _, rfl, rfl, hb⟩))
    · cases h
    · cases h
    · exact Or.inr (Or.inr (Or.inr ⟨_, _, rfl, rfl, hb⟩))
theorem Kd.ofInt {x y : Int} (h : InI y) : Kd (.int .i64 x) (.int .i64 y) := Or.inr (Or.inl ⟨_, _, rfl, rfl, h⟩)
theorem Kd.ofBool {x y : Bool} : Kd (.bool x) (.bool y) := Or.inr (Or.inr (Or.inl ⟨_, _, rfl, rfl⟩))
theorem Kd.ofStr {x y : ByteArray} (h : y.size ≤ 9223372036854775807) : Kd (.string x) (.string y) := Or.inr (Or.inr (Or.inr ⟨_, _, rfl, rfl, h⟩))
theorem Kd.int {x : Int} {v : Value} (h : Kd (.int .i64 x) v) (hx : InI x) : ∃ y, v = .int .i64 y ∧ InI y := by
  rcases h with rfl | ⟨_, y, _, rfl, hy⟩ | ⟨_, _, h, _⟩ | ⟨_, _, h, _, _⟩
  · exact ⟨_, rfl, hx⟩
  · exact ⟨_, rfl, hy⟩
  · cases h
  · cases h
theorem Kd.bool {x : Bool} {v : Value} (h : Kd (.bool x) v) : ∃ y, v = .bool y := by
  rcases h with rfl | ⟨_, _, h, _, _⟩ | ⟨_, y, _, rfl⟩ | ⟨_, _, h, _, _⟩
  · exact ⟨_, rfl⟩
  · cases h
  · exact ⟨_, rfl⟩
  · cases h
theorem Kd.str {x : ByteArray} {v : Value} (h : Kd (.string x) v) (hx : x.size ≤ 9223372036854775807) : ∃ y, v = .string y ∧ y.size ≤ 9223372036854775807 := by
  rcases h with rfl | ⟨_, _, h, _, _⟩ | ⟨_, _, h, _⟩ | ⟨_, y, _, rfl, hy⟩
  · exact ⟨_, rfl, hx⟩
  · cases h
  · cases h
  · exact ⟨_, rfl, hy⟩
theorem Kd.slice {p : Option Addr} {n c : Nat} {v : Value} (h : Kd (.slice p n c) v) : v = .slice p n c := by
  rcases h with rfl | ⟨_, _, h, _, _⟩ | ⟨_, _, h, _⟩ | ⟨_, _, h, _, _⟩
  · rfl
  · cases h
  · cases h
  · cases h

/-! ### what marks leave -/
structure Mk (lo hi : Nat) (w w' : World) : Prop where
  os : w'.os = w.os
  tape : w'.tape = w.tape
  output : w'.output = w.output
  size : w.heap.size ≤ w'.heap.size
  block : ∀ b, b < w.heap.size → ¬ (lo ≤ b ∧ b < hi) → w'.heap[b]? = w.heap[b]?
  cell : ∀ b o v, b < w.heap.size → w.cell? ⟨b, o, none⟩ = some v → ∃ v', w'.cell? ⟨b, o, none⟩ = some v' ∧ Kd v v'
  froz : ∀ b o, b < w.heap.size → w'.frozen? ⟨b, o, none⟩ = w.frozen? ⟨b, o, none⟩
theorem cell_far {w : World} {b i j : Nat} {v u : Value} (h : w.cell? ⟨b, i, none⟩ = some v) (hne : j ≠ i) : (w.setCell ⟨b, j, none⟩ u).cell? ⟨b, i, none⟩ = some v := by
  exact (World.cell?_setCell_other (w := w) (v := u) (a := ⟨b, j, none⟩) (b := ⟨b, i, none⟩) (by intro e; cases e; exact hne rfl)).trans h
section
variable {lo hi : Nat} {w w1 w2 : World}
theorem Mk.refl (lo hi : Nat) (w : World) : Mk lo hi w w := ⟨rfl, rfl, rfl, Nat.le_refl _, fun _ _ _ => rfl, fun _ _ v _ h => ⟨v, h, Kd.refl v⟩, fun _ _ _ => rfl⟩
theorem Mk.trans (h : Mk lo hi w w1) (k : Mk lo hi w1 w2) : Mk lo hi w w2 := by
  refine ⟨k.os.trans h.os, k.tape.trans h.tape, k.output.trans h.output, Nat.le_trans h.size k.size, fun b hb hn => (k.block b (Nat.lt_of_lt_of_le hb h.size) hn).trans (h.block b hb hn), fun b o v hb hc => ?_, fun b o hb => (k.froz b o (Nat.lt_of_lt_of_le hb h.size)).trans (h.froz b o hb)⟩
  obtain ⟨v1, h1, k1⟩ := h.cell b o v hb hc
  obtain ⟨v2, h2, k2⟩ := k.cell b o v1 (Nat.lt_of_lt_of_le hb h.size) h1
  exact ⟨v2, h2, k1.trans k2⟩
theorem Mk.ofBelow (hb : Below w.heap.size w w1) : Mk lo hi w w1 := ⟨hb.os, hb.tape, hb.output, hb.size, fun b h _ => hb.block b h, fun b o v h hc => ⟨v, (hb.cell (p := ⟨b, o, none⟩) h).trans hc, Kd.refl v⟩, fun b o h => hb.frozen (p := ⟨b, o, none⟩) h⟩
theorem Mk.below (h : Mk lo hi w w1) (hb : Below w1.heap.size w1 w2) : Mk lo hi w w2 := h.trans (Mk.ofBelow hb)
theorem Mk.one {b i : Nat} {v0 v : Value} (hl : lo ≤ b) (hh : b < hi) (hc : w.cell? ⟨b, i, none⟩ = some v0) (hk : Kd v0 v) : Mk lo hi w (w.setCell ⟨b, i, none⟩ v) := by
  refine ⟨rfl, rfl, rfl, by simp [World.setCell], fun k _ hn => Below.heap_setCell w _ v k (by rintro rfl; exact hn ⟨hl, hh⟩), fun b' o' v' _ h' => ?_, fun b' o' _ => by simp⟩
  by_cases he : (⟨b, i, none⟩ : Addr) = ⟨b', o', none⟩
  · cases he
    rw [hc] at h'
    cases h'
    exact ⟨v, World.cell?_setCell_same w _ v hc, hk⟩
  · exact ⟨v', (World.cell?_setCell_other w _ _ v he).trans h', Kd.refl v'⟩
theorem Mk.set (h : Mk lo hi w w1) {b i : Nat} {v0 v : Value} (hl : lo ≤ b) (hh : b < hi) (hc : w1.cell? ⟨b, i, none⟩ = some v0) (hk : Kd v0 v) : Mk lo hi w (w1.setCell ⟨b, i, none⟩ v) := h.trans (Mk.one hl hh hc hk)
theorem Mk.on {B : Nat} {W : World} (h : Mk lo hi w w1) (hB : Below B W w) (hl : B ≤ lo) (hs : B ≤ w.heap.size) : Below B W w1 := hB.trans ⟨h.os, h.tape, h.output, h.size, fun k hk => h.block k (by omega) (by omega)⟩
theorem Mk.bx {g : Nat} {T : TypeId} {cs : Array Value} (h : Mk lo hi w w1) (hx : Bx w g T cs) (hg : hi ≤ g ∨ g < lo) : Bx w1 g T cs := (h.block g hx.lt (by omega)).trans hx
theorem Mk.own {l e n C : Nat} {T : TypeId} {p : Option Addr} {c : Nat} {xs : List Value} (h : Mk lo hi w w1) (ho : w.ownsRow l T C (.slice p n c) n xs) (he : ∀ g, (Value.slice p n c).ownBlock = some g → g < e) (hd : hi ≤ l ∨ e ≤ lo) : w1.ownsRow l T C (.slice p n c) n xs := by
  refine ⟨ho.1, ?_⟩
  rcases ho.2 with hn | ⟨g, cap, cur, hv, hb, hg, rest⟩
  · exact Or.inl hn
  · refine Or.inr ⟨g, cap, cur, hv, hb, ?_, rest⟩
    have hge := he g (by rw [hv]; rfl)
    rw [h.block g (Array.getElem?_eq_some_iff.1 hg).1 (by omega)]
    exact hg
theorem Mk.owS {α : Type} {E : En α} {T : TypeId} {l e n c : Nat} {p : Option Addr} {xs : List α} (h : Mk lo hi w w1) (ho : OwS E T w l e p n c xs) (hd : hi ≤ l ∨ e ≤ lo) : OwS E T w1 l e p n c xs := ⟨h.own ho.1 ho.2.2.2 hd, ho.2.1, Nat.le_trans ho.2.2.1 h.size, ho.2.2.2⟩
theorem Mk.ow {k : IntKind} {T : TypeId} {l e n c : Nat} {p : Option Addr} {xs : List Int} (h : Mk lo hi w w1) (ho : Ow k T w l e p n c xs) (hd : hi ≤ l ∨ e ≤ lo) : Ow k T w1 l e p n c xs := ⟨h.own ho.1 ho.2.2.2 hd, ho.2.1, Nat.le_trans ho.2.2.1 h.size, ho.2.2.2⟩
end

/-! ### data in the memory that marks may write -/
def Rg (lo hi : Nat) (w : World) (b : Nat) : Prop := lo ≤ b ∧ b < hi ∧ Free w b
def RRd {α : Type} (E : Ent α) (lo hi : Nat) (w : World) (p : Option Addr) (n : Nat) (xs : List α) : Prop := RdD E (Rg lo hi w) w p n xs
section
variable {α : Type} {E : Ent α} {lo hi : Nat} {w w' : World} {p : Option Addr} {n : Nat} {xs : List α}
theorem FRd.rr (h : FRd E lo w p n xs) : RRd E lo w.heap.size w p n xs := RdD.keep h (Nat.le_refl _) fun _ hS hlt => ⟨⟨hS.1, hlt, hS.2⟩, rfl⟩
theorem RRd.below (h : RRd E lo hi w p n xs) (hb : Below w.heap.size w w') : RRd E lo hi w' p n xs := RdD.keep h hb.size fun b hS hlt => ⟨⟨hS.1, hS.2.1, hS.2.2.of (hb.block b hlt)⟩, hb.block b hlt⟩
theorem RRd.alloc (h : RRd E lo hi w p n xs) (o : Obj) : RRd E lo hi (w.alloc o) p n xs := h.below ((Below.refl _ _).alloc (Nat.le_refl _) _)
theorem RRd.drew1 (h : RRd E lo hi w p n xs) : RRd E lo hi w.drew p n xs := RdD.keep h (Nat.le_refl _) fun _ hS _ => ⟨hS, rfl⟩
theorem RRd.len (h : RRd E lo hi w p n xs) : xs.length = n := RdD.len h
theorem RRd.le (h : RRd E lo hi w p n xs) : n ≤ 9223372036854775807 := RdD.le h
theorem RRd.away {lo' hi' : Nat} (h : RRd E lo hi w p n xs) (m : Mk lo' hi' w w') (hd : hi' ≤ lo ∨ hi ≤ lo') : RRd E lo hi w' p n xs := RdD.keep h m.size fun b hS hlt => by
  have h1 := hS.1
  have h2 := hS.2.1
  have e := m.block b hlt (by omega)
  exact ⟨⟨h1, h2, hS.2.2.of e⟩, e⟩
theorem RRd.rd (h : RRd E lo hi w p n xs) : RdD E (fun _ => True) w p n xs := RdD.mono h fun _ _ => trivial
end
theorem ex_list {β : Type} : ∀ (n : Nat) (P : Nat → β → Prop), (∀ i, i < n → ∃ x, P i x) → ∃ l : List β, l.length = n ∧ ∀ i x, l[i]? = some x → P i x
  | 0, _, _ => ⟨[], rfl, fun i x h => by simp at h⟩
  | n + 1, P, h => by
    obtain ⟨l, hl, hp⟩ := ex_list n P fun i hi => h i (by omega)
    obtain ⟨y, hy⟩ := h n (Nat.lt_succ_self n)
    refine ⟨l ++ [y], by simp [hl], fun i x hx => ?_⟩
    rcases Nat.lt_or_ge i n with hi | hi
    · rw [List.getElem?_append_left (by omega)] at hx
      exact hp i x hx
    · have := (List.getElem?_eq_some_iff.1 hx).1
      simp only [List.length_append, List.length_singleton] at this
      obtain rfl : i = n := by omega
      rw [List.getElem?_append_right (by omega), hl, Nat.sub_self, List.getElem?_cons_zero] at hx
      cases hx
      exact hy
def PwK (cs cs' : List Value) : Prop := cs'.length = cs.length ∧ ∀ (j : Nat) (v v' : Value), cs[j]? = some v → cs'[j]? = some v' → Kd v v'
/-- WHAT MARKS DO TO A DATUM: how many there are, and that they leave one of the same form -/
structure MkE {α : Type} (E : Ent α) where
  nw : α → Nat
  bnd : ∀ x, nw x ≤ E.C + 16 * E.wt x
  pres : ∀ {lo hi : Nat} {w w' : World} {cs : List Value} {x : α}, E.rd (Rg lo hi w) w cs x → Mk lo hi w w' → ∀ cs', PwK cs cs' → ∃ x', E.rd (Rg lo hi w') w' cs' x' ∧ nw x' = nw x
theorem Rg.mk {lo hi b : Nat} {w w' : World} (h : Rg lo hi w b) (hb : b < w.heap.size) (m : Mk lo hi w w') : Rg lo hi w' b := ⟨h.1, h.2.1, fun i => (m.froz b i hb).trans (h.2.2 i)⟩
theorem RRd.mk {α : Type} {E : Ent α} (M : MkE E) {lo hi : Nat} {w w' : World} {p : Option Addr} {n : Nat} {xs : List α} (h : RRd E lo hi w p n xs) (m : Mk lo hi w w') : ∃ xs', RRd E lo hi w' p n xs' ∧ xs'.map M.nw = xs.map M.nw := by
  obtain ⟨hl, hm, hc⟩ := h
  rcases Nat.eq_zero_or_pos n with rfl | hn
  · exact ⟨xs, ⟨hl, hm, fun h0 => absurd h0 (Nat.lt_irrefl 0)⟩, rfl⟩
  obtain ⟨b, o, rfl, hS, hb, hx⟩ := hc hn
  have key : ∀ i, i < n → ∃ y : α, (∃ cs, (∀ j v, cs[j]? = some v → w'.cell? ⟨b, o + i * E.C + j, none⟩ = some v) ∧ E.rd (Rg lo hi w') w' cs y) ∧ ∃ x, xs[i]? = some x ∧ M.nw y = M.nw x := fun i hi => by
    have hxi : xs[i]? = some (xs[i]'(by omega)) := List.getElem?_eq_getElem _
    obtain ⟨cs, h1, h2⟩ := hx i _ hxi
    obtain ⟨cs', hl', hc'⟩ := ex_list cs.length (fun j v' => w'.cell? ⟨b, o + i * E.C + j, none⟩ = some v' ∧ ∀ v, cs[j]? = some v → Kd v v') fun j hj => by
      have hv : cs[j]? = some (cs[j]'hj) := List.getElem?_eq_getElem _
      obtain ⟨v', e1, e2⟩ := m.cell b _ _ hb (h1 j _ hv)
      exact ⟨v', e1, fun v e => by rw [hv] at e; cases e; exact e2⟩
    obtain ⟨y, h3, h4⟩ := M.pres h2 m cs' ⟨hl', fun j v v' e e' => (hc' j v' e').2 v e⟩
    exact ⟨y, ⟨cs', fun j v hv => (hc' j v hv).1, h3⟩, _, hxi, h4⟩
  obtain ⟨ys, hyl, hy⟩ := ex_list n _ key
  refine ⟨ys, ⟨hyl, hm, fun _ => ⟨b, o, rfl, hS.mk hb m, Nat.lt_of_lt_of_le hb m.size, fun i y e => (hy i y e).1⟩⟩, ?_⟩
  apply List.ext_getElem?
  intro i
  rcases Nat.lt_or_ge i n with hi | hi
  · have e : ys[i]? = some (ys[i]'(by omega)) := List.getElem?_eq_getElem _
    obtain ⟨_, x, h1, h2⟩ := hy i _ e
    rw [List.getElem?_map, List.getElem?_map, e, h1, Option.map_some, Option.map_some, h2]
  · rw [List.getElem?_eq_none (by rw [List.length_map]; omega), List.getElem?_eq_none (by rw [List.length_map]; omega)]
theorem one_of {cs' : List Value} {v : Value} (h : PwK [v] cs') : ∃ v', cs' = [v'] ∧ Kd v v' := by
  obtain ⟨hl, hk⟩ := h
  match cs', hl with
  | [v'], _ => exact ⟨v', rfl, hk 0 v v' rfl rfl⟩
def mInt : MkE int where
  nw _ := 1
  bnd _ := by show 1 ≤ 1 + 16 * 0; omega
  pres h _ cs' k := by
    obtain ⟨rfl, hx⟩ := h
    obtain ⟨v', rfl, hv⟩ := one_of k
    obtain ⟨y, rfl, hy⟩ := hv.int hx
    exact ⟨y, ⟨rfl, hy⟩, rfl⟩
def mBool : MkE Ed.bool where
  nw _ := 1
  bnd _ := by show 1 ≤ 1 + 16 * 0; omega
  pres h _ cs' k := by
    have h' : _ = [Value.bool _] := h
    subst h'
    obtain ⟨v', rfl, hv⟩ := one_of k
    obtain ⟨y, rfl⟩ := hv.bool
    exact ⟨y, rfl, rfl⟩
def mStr : MkE str where
  nw _ := 1
  bnd x := by show 1 ≤ 1 + 16 * x.size; omega
  pres h _ cs' k := by
    obtain ⟨rfl, hx⟩ := h
    obtain ⟨v', rfl, hv⟩ := one_of k
    obtain ⟨y, rfl, hy⟩ := hv.str hx
    exact ⟨y, ⟨rfl, hy⟩, rfl⟩
def mFlat {α : Type} {E : En α} {P : α → Prop} (hp : ∀ x cs', P x → PwK (E.of x) cs' → ∃ x', cs' = E.of x' ∧ P x') : MkE (flat E P) where
  nw _ := E.C
  bnd _ := by show E.C ≤ E.C + 16 * 0; omega
  pres h _ cs' k := by
    obtain ⟨rfl, hx⟩ := h
    obtain ⟨x', rfl, h'⟩ := hp _ _ hx k
    exact ⟨x', ⟨rfl, h'⟩, rfl⟩
def mPair {α β : Type} {E : Ent α} {F : Ent β} (M : MkE E) (N : MkE F) : MkE (pair E F) where
  nw x := M.nw x.1 + N.nw x.2
  bnd x := by
    have h1 := M.bnd x.1
    have h2 := N.bnd x.2
    show M.nw x.1 + N.nw x.2 ≤ (E.C + F.C) + 16 * (E.wt x.1 + F.wt x.2)
    omega
  pres h m cs' k := by
    obtain ⟨c1, c2, rfl, h1, h2⟩ := h
    obtain ⟨hl, hk⟩ := k
    have hl' : cs'.length = c1.length + c2.length := by rw [hl, List.length_append]
    obtain ⟨y1, r1, e1⟩ := M.pres h1 m (cs'.take c1.length) ⟨by rw [List.length_take]; omega, fun j v v' e e' => by
      have hj := (List.getElem?_eq_some_iff.1 e).1
      rw [List.getElem?_take_of_lt hj] at e'
      exact hk j v v' (by rw [List.getElem?_append_left hj]; exact e) e'⟩
    obtain ⟨y2, r2, e2⟩ := N.pres h2 m (cs'.drop c1.length) ⟨by rw [List.length_drop]; omega, fun j v v' e e' => by
      rw [List.getElem?_drop] at e'
      exact hk (c1.length + j) v v' (by rw [List.getElem?_append_right (by omega), show c1.length + j - c1.length = j by omega]; exact e) e'⟩
    exact ⟨(y1, y2), ⟨_, _, (List.take_append_drop _ _).symm, r1, r2⟩, by show M.nw y1 + N.nw y2 = _; rw [e1, e2]⟩
theorem nw_wts {α : Type} {E : Ent α} (M : MkE E) (h16 : E.C ≤ 16) (xs : List α) : (xs.map M.nw).sum ≤ 16 * (xs.length + wts E xs) := by
  induction xs with
  | nil => simp [wts]
  | cons x xs ih =>
    rw [List.map_cons, List.sum_cons, List.length_cons, wts_cons]
    have := M.bnd x
    omega
def mSl {α : Type} {E : Ent α} (M : MkE E) (h16 : E.C ≤ 16) : MkE (sl E) where
  nw xs := (xs.map M.nw).sum
  bnd xs := by
    have h := nw_wts M h16 xs
    show (xs.map M.nw).sum ≤ 1 + 16 * (xs.length + wts E xs)
    omega
  pres h m cs' k := by
    obtain ⟨p, n, c, rfl, hnc, hr⟩ := h
    obtain ⟨v', rfl, hv⟩ := one_of k
    obtain rfl := hv.slice
    obtain ⟨ys, h1, h2⟩ := RRd.mk M hr m
    exact ⟨ys, ⟨p, n, c, rfl, hnc, h1⟩, by show (ys.map M.nw).sum = _; rw [h2]⟩
/-- what a function that marks leaves -/
def MkD (lo hi : Nat) (k : Int) (m : Nat) (w : World) (e : Ending) (w' : World) : Prop := ∃ k' : Int, e = .returned (.int .i64 k') ∧ k ≤ k' ∧ k' ≤ k + (m : Nat) ∧ Mk lo hi w w'
/-- the marks of the first j -/
def nwt {α : Type} {E : Ent α} (M : MkE E) (xs : List α) (j : Nat) : Nat := ((xs.map M.nw).take j).sum
section
variable {α : Type} {E : Ent α} {M : MkE E} {xs xs' : List α}
theorem nwt_zero : nwt M xs 0 = 0 := by simp [nwt]
theorem nwt_next {j : Nat} {x : α} (he : xs'.map M.nw = xs.map M.nw) (hx : xs'[j]? = some x) : nwt M xs (j + 1) = nwt M xs j + M.nw x := by
  have h1 : (xs.map M.nw)[j]? = some (M.nw x) := by rw [← he, List.getElem?_map, hx]; rfl
  obtain ⟨hj, h2⟩ := List.getElem?_eq_some_iff.1 h1
  unfold nwt
  rw [List.take_succ_eq_append_getElem hj, List.sum_append, h2]
  simp
theorem nwt_le (j : Nat) : nwt M xs j ≤ (xs.map M.nw).sum := by
  have e : (xs.map M.nw).sum = nwt M xs j + ((xs.map M.nw).drop j).sum := by
    unfold nwt
    rw [← List.sum_append, List.take_append_drop]
  omega
theorem nwt_all {n : Nat} (h : xs.length = n) : nwt M xs n = (xs.map M.nw).sum := by
  unfold nwt
  rw [List.take_of_length_le (by rw [List.length_map]; omega)]
end
end Go.Proofs.Ytjaholcmaafenaa.Ek
