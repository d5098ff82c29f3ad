/- What is of no program: append onto a slice whose capacity was cut off: always a new row; elements of any form. -/
import Derived.Test.YtjaholcmaafenaaLf
import Derived.Deep.RegionLawGrows
import Derived.Deep.AppendLies
namespace Go.Proofs.Ytjaholcmaafenaa.Gr
open Go.RowKit Go.WideShapes Sl St Ed Ek Lf
section
variable {α : Type} {E : En α} {T : TypeId} {P : Program} {w : World} {ops : Array Oper} {o : Oper} {a : Act} {Q : Exit → Act → World → Prop} {p : Option Addr} {n : Nat} {xs : List α}
theorem src {w : World} {ad : Addr} {m : Nat} {ys : List α} (hr : RdS E w (some ad) m ys) : ∀ q u, (fl E ys)[q]? = some u → w.cell? (ad.add q) = some u := fun q u hu => by
  obtain ⟨i2, x2, j2, rfl, hj, hx2, hv⟩ := fl_of E hu
  have hm : 0 < m := by
    have := (List.getElem?_eq_some_iff.1 hx2).1
    have := hr.len
    omega
  obtain ⟨b', o', e, _, hc⟩ := hr.2.2 hm
  cases e
  rw [Addr.add_lit, ← Nat.add_assoc]
  exact hc i2 x2 hx2 j2 u hv
/-- .. in a drawn region -/
theorem step_growS {K : Act → World → Prop} {F : Prop} (hgd : o.guard = none) (s x : Operand) (t : TypeId) (ho : o.op = .call { callee := .builtin .append, args := #[s, x], argTypes := #[t, t] })
    (i : TypeInfo) (z : Value) (bytes : Nat) (ht : P.underlying t = some (.slice T)) (hi' : P.info? T = some i) (hz : i.zero = some z) (hsize : i.size = E.C) (hby : i.bytes = bytes) (hzs : z.cells.size = E.C)
    (hs : a.eval s = .slice p n n) (hr : RdS E w p n xs) (ad : Addr) (m cc : Nat) (ys : List α) (hx : a.eval x = .slice (some ad) m cc) (hr' : RdS E w (some ad) m ys)
    (hm : 0 < m) (hb : (n + m) * bytes ≤ 140737488355328) (hb' : n + m ≤ 140737488355328)
    (h : ∀ p' c' w', OwS E T w' w.heap.size w'.heap.size p' (n + m) c' (xs ++ ys) → w.grownBy w' none → K (a.put o.dst (.slice p' (n + m) c')) w') :
    if Region.wanted o (yielded ops a.tmps) = true then Oper.wp P o a w K Q else F := by
  have hp : p = none → n = 0 := fun e => by
    rcases Nat.eq_zero_or_pos n with h0 | h0
    · exact h0
    · obtain ⟨_, _, e', _⟩ := hr.2.2 h0
      rw [e] at e'
      cases e'
  refine step_append_grows hgd s x t ho T i z E.C bytes ht hi' hz hsize hby hzs E.pos p n n (fl E xs) hs (fun e => ⟨hp e, hp e⟩) (by rw [fl_len, hr.len]) (fun b e q u hu => ?_) ad m cc (fl E ys) hx (by rw [fl_len, hr'.len]) (src hr') (fl_one' E ys) (by omega) (by unfold maxLen; omega) hb ?_
  · subst e
    exact src hr q u hu
  · intro v' w' hown hg
    obtain ⟨p3, c3, rfl⟩ : ∃ p3 c3, v' = .slice p3 (n + m) c3 := row_formS hown
    rw [← fl_append] at hown
    exact h p3 c3 w' (OwS.of_row hown) hg
end
/-- a row of cells that reads as data -/
theorem as_rd {α : Type} {E : Ent α} {T : TypeId} {w : World} {lo hi n c : Nat} {p : Option Addr} {cl : List (Raw E.C)} {xs : List α} {S : Nat → Prop} (h : OwS (raw E) T w lo hi p n c cl) (ha : As E S w cl xs) (hS : ∀ b, lo ≤ b → b < hi → S b) : RdD E S w p n xs := by
  refine of_raw h.rd ha fun b o e _ => ?_
  rcases h.form with ⟨rfl, _, _⟩ | ⟨g, rfl, h1, h2, _⟩
  · cases e
  · cases e
    exact hS _ h1 h2
theorem as_app {α : Type} {E : Ent α} {S : Nat → Prop} {w : World} {cl : List (Raw E.C)} {xs : List α} {c : Raw E.C} {x : α} (h : As E S w cl xs) (hx : E.rd S w c.1 x) : As E S w (cl ++ [c]) (xs ++ [x]) := As.snoc h hx
theorem as_below {α : Type} {E : Ent α} {S S' : Nat → Prop} {w w' : World} {cl : List (Raw E.C)} {xs : List α} (h : As E S w cl xs) (hb : Below w.heap.size w w') (hS : ∀ b, S b → S' b) : As E S' w' cl xs := As.keep h hb.size fun b hs hlt => ⟨hS b hs, hb.block b hlt⟩
/-- a row that grows by append: its cells read as data; all its blocks lie from lo on and below hi, and what the elements hold doesn't lie in the row itself -/
def Gd {α : Type} (E : Ent α) (T : TypeId) (lo hi : Nat) (p : Option Addr) (n c : Nat) (xs : List α) (wr : World) : Prop := ∃ cl : List (Raw E.C), OwS (raw E) T wr lo hi p n c cl ∧ As E (fun b => lo ≤ b ∧ b < hi ∧ some b ≠ (Value.slice p n c).ownBlock) wr cl xs
section
variable {α : Type} {E : Ent α} {T : TypeId} {lo hi lo' hi' : Nat} {p : Option Addr} {n c : Nat} {xs : List α} {wr w' : World}
theorem Gd.rd (h : Gd E T lo hi p n c xs wr) : RdD E (fun b => lo ≤ b ∧ b < hi) wr p n xs := by
  obtain ⟨cl, h1, h2⟩ := h
  exact as_rd h1 (As.keep h2 (Nat.le_refl _) fun b hb _ => ⟨⟨hb.1, hb.2.1⟩, rfl⟩) fun b h1 h2 => ⟨h1, h2⟩
theorem Gd.cap (h : Gd E T lo hi p n c xs wr) : n ≤ c := by
  obtain ⟨cl, h1, _⟩ := h
  exact cap_owS h1
theorem Gd.len (h : Gd E T lo hi p n c xs wr) : xs.length = n := RdD.len h.rd
theorem Gd.kept (h : Gd E T lo hi p n c xs wr) {row : Option Nat} (hg : wr.grownBy w' row) (hr : ∀ g, row = some g → g < lo ∨ hi ≤ g) : Gd E T lo hi p n c xs w' := by
  obtain ⟨cl, h1, h2⟩ := h
  exact ⟨cl, h1.kept hg hr, As.keep h2 hg.size fun b hs hlt => ⟨hs, hg.block b hlt fun e => by have := hr b e.symm; omega⟩⟩
theorem Gd.below (h : Gd E T lo hi p n c xs wr) (hb : Below wr.heap.size wr w') : Gd E T lo hi p n c xs w' := h.kept (below_grown hb none) fun _ e => by cases e
theorem Gd.alloc (h : Gd E T lo hi p n c xs wr) (o : Obj) : Gd E T lo hi p n c xs (wr.alloc o) := h.below ((Below.refl _ _).alloc (Nat.le_refl _) _)
theorem Gd.drew1 (h : Gd E T lo hi p n c xs wr) : Gd E T lo hi p n c xs wr.drew := h.below (below_drewN (Below.refl _ _) 1)
theorem Gd.wide (h : Gd E T lo hi p n c xs wr) (h1 : lo' ≤ lo) (h2 : hi ≤ hi') (h3 : hi' ≤ wr.heap.size) : Gd E T lo' hi' p n c xs wr := by
  obtain ⟨cl, k1, k2⟩ := h
  exact ⟨cl, k1.wide h1 h2 h3, As.keep k2 (Nat.le_refl _) fun b hs _ => ⟨⟨Nat.le_trans h1 hs.1, Nat.lt_of_lt_of_le hs.2.1 h2, hs.2.2⟩, rfl⟩⟩
theorem Gd.far (h : Gd E T lo hi p n c xs wr) {q : Addr} (hq : q.block < lo ∨ hi ≤ q.block) (u : Value) : Gd E T lo hi p n c xs (wr.setCell q u) :=
  h.kept (row := some q.block) ⟨rfl, rfl, rfl, by simp [World.setCell], fun b hlt hne => Below.heap_setCell wr q u b (by rintro rfl; exact hne rfl)⟩ fun g e => by cases e; exact hq
theorem Gd.hi_le (h : Gd E T lo hi p n c xs wr) : hi ≤ wr.heap.size := by
  obtain ⟨cl, h1, _⟩ := h
  exact h1.2.2.1
theorem Gd.start (E : Ent α) (T : TypeId) (V : World) : Gd E T V.heap.size (V.heap.size + 1) (some ⟨V.heap.size, 0, none⟩) 0 0 [] (V.alloc (.cells #[] T)) := by
  refine ⟨[], ?_, As.nil_⟩
  have h := lit_own (raw E) T V V.heap.size [] #[] 0 rfl rfl (Nat.zero_le _) (Nat.le_refl _)
  rw [World.size_alloc] at h
  exact h
theorem Gd.nothing (E : Ent α) (T : TypeId) (V : World) (lo : Nat) (hl : lo ≤ V.heap.size) : Gd E T lo lo none 0 0 [] V := ⟨[], OwS.nil_ _ _ _ _ hl, As.nil_⟩
/-- one element more: the row so far, and what the append's law gives -/
theorem Gd.next (h : Gd E T lo hi p n c xs wr) (hlw : lo ≤ wr.heap.size) {V : World} (hb : Below wr.heap.size wr V) {cx : Raw E.C} {x : α} (hx : E.rd (fun b => wr.heap.size ≤ b) V cx.1 x) : ∃ cl, OwS (raw E) T V lo hi p n c cl ∧ ∀ g c' W, OwS (raw E) T W lo W.heap.size (some ⟨g, 0, none⟩) (n + 1) c' (cl ++ [cx]) → V.grownBy W (Value.slice p n c).ownBlock → ((Value.slice p n c).ownBlock = some g ∨ g = V.heap.size) → Gd E T lo W.heap.size (some ⟨g, 0, none⟩) (n + 1) c' (xs ++ [x]) W := by
  have hh := h.hi_le
  obtain ⟨cl, h1, h2⟩ := h.below hb
  refine ⟨cl, h1, fun g c' W how hg hat => ⟨cl ++ [cx], how, ?_⟩⟩
  have hgl : lo ≤ g := by
    rcases how.form with ⟨e, _⟩ | ⟨g', e, a1, a2, _⟩
    · cases e
    · cases e
      exact a1
  have hnew : ∀ b, b < V.heap.size → some b ≠ (Value.slice p n c).ownBlock → some b ≠ (Value.slice (some ⟨g, 0, Option.none⟩) (n + 1) c').ownBlock := fun b hlt hne e => by
    simp only [Value.ownBlock, Option.some.injEq] at e
    rcases hat with h | h
    · exact hne (by rw [h, e])
    · omega
  have hsz := hg.size
  refine As.snoc (As.keep h2 hg.size fun b hs hlt => ⟨⟨hs.1, by omega, hnew b hlt hs.2.2⟩, hg.block b hlt hs.2.2⟩) (E.keep hx hg.size fun b hs hlt => ?_)
  have hne : some b ≠ (Value.slice p n c).ownBlock := fun e => by
    have := h1.far b e.symm
    omega
  exact ⟨⟨by omega, by omega, hnew b hlt hne⟩, hg.block b hlt hne⟩
/-- .. with the places told more closely -/
theorem Gd.nextR (h : Gd E T lo hi p n c xs wr) {V : World} (hb : Below wr.heap.size wr V) {cx : Raw E.C} {x : α} (hx : E.rd (fun b => wr.heap.size ≤ b) V cx.1 x) : ∃ cl, OwS (raw E) T V lo hi p n c cl ∧ ∀ g c' W, OwS (raw E) T W lo W.heap.size (some ⟨g, 0, none⟩) (n + 1) c' (cl ++ [cx]) → V.grownBy W (Value.slice p n c).ownBlock → ((Value.slice p n c).ownBlock = some g ∨ g = V.heap.size) → RdD E (fun b => (lo ≤ b ∧ b < hi) ∨ wr.heap.size ≤ b) W (some ⟨g, 0, none⟩) (n + 1) (xs ++ [x]) := by
  have hh := h.hi_le
  obtain ⟨cl, h1, h2⟩ := h.below hb
  refine ⟨cl, h1, fun g c' W how hg hat => of_raw how.rd (As.snoc (As.keep h2 hg.size fun b hs hlt => ⟨Or.inl ⟨hs.1, hs.2.1⟩, hg.block b hlt hs.2.2⟩) (E.keep hx hg.size fun b hs hlt => ⟨Or.inr hs, hg.block b hlt fun e => ?_⟩)) fun b o e _ => ?_⟩
  · have := h1.far b e.symm
    omega
  · cases e
    rcases hat with e | e
    · exact Or.inl (h1.far _ e)
    · exact Or.inr (by rw [e]; exact hb.size)
end
section
variable {α : Type} {E : En α} {T : TypeId} {P : Program} {w : World} {ops : Array Oper} {rest : List Oper} {o : Oper} {a : Act} {Q : Exit → Act → World → Prop} {lo hi : Nat} {p : Option Addr} {n c : Nat} {xs : List α}
theorem wpList_lieS (hgd : o.guard = none) (s x : Operand) (t : TypeId) (ho : o.op = .call { callee := .builtin .append, args := #[s, x], argTypes := #[t, t] })
    (i : TypeInfo) (z : Value) (bytes : Nat) (ht : P.underlying t = some (.slice T)) (hi' : P.info? T = some i) (hz : i.zero = some z) (hsize : i.size = E.C) (hby : i.bytes = bytes) (hzs : z.cells.size = E.C)
    (hs : a.eval s = .slice p n c) (how : OwS E T w lo hi p n c xs) (ad : Addr) (cc : Nat) (y : α) (hx : a.eval x = .slice (some ad) 1 cc) (hr : RdS E w (some ad) 1 [y])
    (hlo : lo ≤ w.heap.size) (hb : (n + 1) * bytes ≤ 140737488355328) (hb' : n + 1 ≤ 140737488355328)
    (h : ∀ g c' w', OwS E T w' lo w'.heap.size (some ⟨g, 0, none⟩) (n + 1) c' (xs ++ [y]) → w.grownBy w' (Value.slice p n c).ownBlock → ((Value.slice p n c).ownBlock = some g ∨ g = w.heap.size) → wpList P ops Q rest (a.put o.dst (.slice (some ⟨g, 0, none⟩) (n + 1) c')) w') : wpList P ops Q (o :: rest) a w :=
  wpList_append_lies w hgd s x t ho lo T i z E.C bytes ht hi' hz hsize hby hzs E.pos _ n _ hs how.own ad 1 cc (fl E [y]) hx (by rw [fl_len]; rfl) (src hr) (fl_one' E [y]) (by decide) (by unfold maxLen; omega) hb hlo w.heap.size rfl fun g c' w' h1 h2 h3 _ => h g c' w' (OwS.of_row (by rw [fl_append]; exact h1)) h2 h3
/-- .. in a drawn region -/
theorem step_lieS {K : Act → World → Prop} {F : Prop} (hgd : o.guard = none) (s x : Operand) (t : TypeId) (ho : o.op = .call { callee := .builtin .append, args := #[s, x], argTypes := #[t, t] })
    (i : TypeInfo) (z : Value) (bytes : Nat) (ht : P.underlying t = some (.slice T)) (hi' : P.info? T = some i) (hz : i.zero = some z) (hsize : i.size = E.C) (hby : i.bytes = bytes) (hzs : z.cells.size = E.C)
    (hs : a.eval s = .slice p n c) (how : OwS E T w lo hi p n c xs) (ad : Addr) (cc : Nat) (y : α) (hx : a.eval x = .slice (some ad) 1 cc) (hr : RdS E w (some ad) 1 [y])
    (hlo : lo ≤ w.heap.size) (hb : (n + 1) * bytes ≤ 140737488355328) (hb' : n + 1 ≤ 140737488355328)
    (h : ∀ g c' w', OwS E T w' lo w'.heap.size (some ⟨g, 0, none⟩) (n + 1) c' (xs ++ [y]) → w.grownBy w' (Value.slice p n c).ownBlock → ((Value.slice p n c).ownBlock = some g ∨ g = w.heap.size) → K (a.put o.dst (.slice (some ⟨g, 0, none⟩) (n + 1) c')) w') : if Region.wanted o (yielded ops a.tmps) = true then Oper.wp P o a w K Q else F :=
  step_append_lies w hgd s x t ho lo T i z E.C bytes ht hi' hz hsize hby hzs E.pos _ n _ hs how.own ad 1 cc (fl E [y]) hx (by rw [fl_len]; rfl) (src hr) (fl_one' E [y]) (by decide) (by unfold maxLen; omega) hb hlo w.heap.size rfl fun g c' w' h1 h2 h3 _ => h g c' w' (OwS.of_row (by rw [fl_append]; exact h1)) h2 h3
end
end Go.Proofs.Ytjaholcmaafenaa.Gr
