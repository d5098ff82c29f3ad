/- Redacted documents of the call's own: their slices, and what becomes of them when one slice grows. -/
import Derived.Test.YtjlckfbacphblaaSlRed
import Derived.Test.YtjlckfbacphblaaDl
namespace Go.Proofs.Ytjlckfbacphblaa.Rr
open Go.ChangeShapes Go.WideShapes Go.ChangeAt Go.RowKit Sl St Tn Dk SlRed

/-! ### append of one element, and where the row lies -/
section
variable {α : Type} {E : En α} {T : TypeId} {P : Program} {w : World} {ops : Array Oper} {o : Oper} {a : Act} {Q : Exit → Act → World → Prop} {lo hi : Nat} {p : Option Addr} {n c : Nat} {xs : List α}
theorem cell_one {b' : Nat} {y : α} (hr : RdS E w (some ⟨b', 0, none⟩) 1 [y]) {q : Nat} {u : Value} (hu : (fl E [y])[q]? = some u) : w.cell? ⟨b', 0 + q, none⟩ = some u := by
  obtain ⟨i2, x2, j2, rfl, hj, hx2, hv⟩ := fl_of E hu
  obtain ⟨b, o', e, _, hc⟩ := hr.2.2 (by decide)
  simp only [Option.some.injEq, Addr.mk.injEq, and_true] at e
  obtain ⟨rfl, rfl⟩ := e
  rw [← Nat.add_assoc]
  exact hc i2 x2 hx2 j2 u hv
theorem wpList_appL {rest : List Oper}
    (hgd : o.guard = none) (s x : Operand) (t : TypeId) (ho : o.op = .call { callee := .builtin .append, args := #[s, x], argTypes := #[t, t] })
    (i : TypeInfo) (z : Value) (bytes : Nat) (ht : P.underlying t = some (.slice T)) (hi' : P.info? T = some i) (hz : i.zero = some z) (hsize : i.size = E.C) (hby : i.bytes = bytes) (hzs : z.cells.size = E.C)
    (hs : a.eval s = .slice p n c) (how : OwS E T w lo hi p n c xs) (b' cc : Nat) (y : α) (hx : a.eval x = .slice (some ⟨b', 0, none⟩) 1 cc) (hr : RdS E w (some ⟨b', 0, none⟩) 1 [y])
    (hlo : lo ≤ w.heap.size) (hb : (n + 1) * bytes ≤ 140737488355328) (hb' : n + 1 ≤ 140737488355328)
    (h : ∀ g c' w', OwS E T w' lo w'.heap.size (some ⟨g, 0, none⟩) (n + 1) c' (xs ++ [y]) → w.grownBy w' (Value.slice p n c).ownBlock → ((Value.slice p n c).ownBlock = some g ∨ g = w.heap.size) → wpList P ops Q rest (a.put o.dst (.slice (some ⟨g, 0, none⟩) (n + 1) c')) w') : wpList P ops Q (o :: rest) a w := by
  refine wpList_append_lies w hgd s x t ho lo T i z E.C bytes ht hi' hz hsize hby hzs E.pos _ n _ hs how.own ⟨b', 0, none⟩ 1 cc (fl E [y]) hx (by rw [fl_len]; rfl) (fun q u hu => ?_) (fl_one' E [y]) (by decide) (by unfold maxLen; omega) hb hlo w.heap.size rfl ?_
  · rw [Addr.add_lit]
    exact cell_one hr hu
  · intro g cap w' hown hg hat _
    rw [← fl_append] at hown
    exact h g cap w' (OwS.of_row hown) hg hat
theorem step_appL {K : Act → World → Prop} {F : Prop}
    (hgd : o.guard = none) (s x : Operand) (t : TypeId) (ho : o.op = .call { callee := .builtin .append, args := #[s, x], argTypes := #[t, t] })
    (i : TypeInfo) (z : Value) (bytes : Nat) (ht : P.underlying t = some (.slice T)) (hi' : P.info? T = some i) (hz : i.zero = some z) (hsize : i.size = E.C) (hby : i.bytes = bytes) (hzs : z.cells.size = E.C)
    (hs : a.eval s = .slice p n c) (how : OwS E T w lo hi p n c xs) (b' cc : Nat) (y : α) (hx : a.eval x = .slice (some ⟨b', 0, none⟩) 1 cc) (hr : RdS E w (some ⟨b', 0, none⟩) 1 [y])
    (hlo : lo ≤ w.heap.size) (hb : (n + 1) * bytes ≤ 140737488355328) (hb' : n + 1 ≤ 140737488355328)
    (h : ∀ g c' w', OwS E T w' lo w'.heap.size (some ⟨g, 0, none⟩) (n + 1) c' (xs ++ [y]) → w.grownBy w' (Value.slice p n c).ownBlock → ((Value.slice p n c).ownBlock = some g ∨ g = w.heap.size) → K (a.put o.dst (.slice (some ⟨g, 0, none⟩) (n + 1) c')) w') :
    if Region.wanted o (yielded ops a.tmps) = true then Oper.wp P o a w K Q else F := by
  have hw : Region.wanted o (yielded ops a.tmps) = true := by simp [Region.wanted, hgd]
  rw [if_pos hw]
  refine wp_append_lies w s x t ho lo T i z E.C bytes ht hi' hz hsize hby hzs E.pos _ n _ hs how.own ⟨b', 0, none⟩ 1 cc (fl E [y]) hx (by rw [fl_len]; rfl) (fun q u hu => ?_) (fl_one' E [y]) (by decide) (by unfold maxLen; omega) hb hlo w.heap.size rfl ?_
  · rw [Addr.add_lit]
    exact cell_one hr hu
  · intro g cap w' hown hg hat _
    rw [← fl_append] at hown
    exact h g cap w' (OwS.of_row hown) hg hat
end
theorem one_rd {α : Type} (E : En α) (T : TypeId) (w : World) (y : α) (cs : Array Value) (h : cs.toList = fl E [y]) : RdS E (w.alloc (.cells cs T)) (some ⟨w.heap.size, 0, none⟩) 1 [y] :=
  (lit_own E T w 0 [y] cs 1 h rfl (by unfold maxLen; omega) (Nat.zero_le _)).rd

/-! ### a redacted document of the call's own -/
abbrev own (p : Option Addr) (n c : Nat) : Option Nat := (Value.slice p n c).ownBlock
structure OwRh (lo : Nat) (w : World) (a : Ra) (D : Rc) (hs : List SlL.Hd) : Prop where
  t : a.t = D.t
  ms : Ow .i64 3 w lo w.heap.size a.msp a.msn a.msc D.ms
  sh : OwS SlBool.E 4 w lo w.heap.size a.shp a.shn a.shc D.sh
  ps : OwS SlStr.E 9 w lo w.heap.size a.psp a.psn a.psc D.ps
  ss : Ow .i64 3 w lo w.heap.size a.ssp a.ssn a.ssc D.ss
  ds : OwS SlL.E 25 w lo w.heap.size a.dsp a.dsn a.dsc hs
  len : D.ds.length = a.dsn
  inn : ∀ (i : Nat) (h : SlL.Hd) (x : List Int), hs[i]? = some h → D.ds[i]? = some x → Ow .i64 3 w lo w.heap.size h.1 h.2.1 h.2.2 x
  dis : ∀ (i j : Nat) (h h' : SlL.Hd) (g : Nat), hs[i]? = some h → hs[j]? = some h' → i ≠ j → (SlL.hv h).ownBlock = some g → (SlL.hv h').ownBlock ≠ some g
  m_s : ∀ g, own a.msp a.msn a.msc = some g → own a.ssp a.ssn a.ssc ≠ some g
  m_i : ∀ g, own a.msp a.msn a.msc = some g → ∀ (i : Nat) (h : SlL.Hd), hs[i]? = some h → (SlL.hv h).ownBlock ≠ some g
  s_i : ∀ g, own a.ssp a.ssn a.ssc = some g → ∀ (i : Nat) (h : SlL.Hd), hs[i]? = some h → (SlL.hv h).ownBlock ≠ some g
section
variable {lo R : Nat} {w w' w4 : World} {a : Ra} {D : Rc} {hs : List SlL.Hd}
theorem OwRh.rd (h : OwRh lo w a D hs) : RdR w a D :=
  ⟨h.t, h.ms.rd, h.sh.rd, h.ps.rd, h.ss.rd, hs, h.ds.rd, h.len, fun i k x e1 e2 => (h.inn i k x e1 e2).rd⟩
theorem OwRh.below (h : OwRh lo w a D hs) (hb : Below w.heap.size w w') : OwRh lo w' a D hs :=
  ⟨h.t, (h.ms.below hb).wide (Nat.le_refl _) hb.size (Nat.le_refl _), (h.sh.below hb).wide (Nat.le_refl _) hb.size (Nat.le_refl _), (h.ps.below hb).wide (Nat.le_refl _) hb.size (Nat.le_refl _), (h.ss.below hb).wide (Nat.le_refl _) hb.size (Nat.le_refl _), (h.ds.below hb).wide (Nat.le_refl _) hb.size (Nat.le_refl _), h.len,
    fun i k x e1 e2 => ((h.inn i k x e1 e2).below hb).wide (Nat.le_refl _) hb.size (Nat.le_refl _), h.dis, h.m_s, h.m_i, h.s_i⟩
theorem OwRh.lo' (h : OwRh lo w a D hs) {l : Nat} (hl : l ≤ lo) : OwRh l w a D hs :=
  ⟨h.t, h.ms.wide hl (Nat.le_refl _) (Nat.le_refl _), h.sh.wide hl (Nat.le_refl _) (Nat.le_refl _), h.ps.wide hl (Nat.le_refl _) (Nat.le_refl _), h.ss.wide hl (Nat.le_refl _) (Nat.le_refl _), h.ds.wide hl (Nat.le_refl _) (Nat.le_refl _), h.len,
    fun i k x e1 e2 => (h.inn i k x e1 e2).wide hl (Nat.le_refl _) (Nat.le_refl _), h.dis, h.m_s, h.m_i, h.s_i⟩
theorem owI_t {S : Nat → Prop} {p : Option Addr} {n c : Nat} {xs : List Int} (h : Ow .i64 3 w lo w.heap.size p n c xs) (ht : Turn S w w') (hn : ∀ g, own p n c = some g → ¬ S g) : Ow .i64 3 w' lo w'.heap.size p n c xs :=
  (owI_turn h ht hn).wide (Nat.le_refl _) ht.size (Nat.le_refl _)
theorem owS_t {S : Nat → Prop} {α : Type} {E : En α} {T : TypeId} {p : Option Addr} {n c : Nat} {xs : List α} (h : OwS E T w lo w.heap.size p n c xs) (ht : Turn S w w') (hn : ∀ g, own p n c = some g → ¬ S g) : OwS E T w' lo w'.heap.size p n c xs :=
  (owS_turn h ht hn).wide (Nat.le_refl _) ht.size (Nat.le_refl _)
theorem bx_type {T T' : TypeId} {l s n g : Nat} {v : Value} {xs : List Value} {cs : Array Value} (h : w.ownsRow l T s v n xs) (hx : Bx w R T' cs) (hT : T ≠ T') (e : v.ownBlock = some g) : g ≠ R := fun e2 => by
  subst e2
  exact type_ne (own_type h e) ⟨_, hx⟩ hT
/-- what is stored into the box R turns none of the slices -/
theorem OwRh.store (h : OwRh lo w a D hs) {T : TypeId} {cs : Array Value} (hX : Bx w R T cs) (h1 : 3 ≠ T) (h2 : 4 ≠ T) (h3 : 9 ≠ T) (h4 : 25 ≠ T) (j : Nat) (v : Value) : OwRh lo (w.setCell ⟨R, j, none⟩ v) a D hs := by
  have ht : Turn (fun i => i = R) w (w.setCell ⟨R, j, none⟩ v) := (Turn.refl (fun i => i = R) w).set rfl v
  exact ⟨h.t, owI_t h.ms ht (fun g e => bx_type h.ms.1 hX h1 e), owS_t h.sh ht (fun g e => bx_type h.sh.1 hX h2 e), owS_t h.ps ht (fun g e => bx_type h.ps.1 hX h3 e), owI_t h.ss ht (fun g e => bx_type h.ss.1 hX h1 e), owS_t h.ds ht (fun g e => bx_type h.ds.1 hX h4 e), h.len,
    fun i k x e1 e2 => owI_t (h.inn i k x e1 e2) ht (fun g e => bx_type (h.inn i k x e1 e2).1 hX h1 e), h.dis, h.m_s, h.m_i, h.s_i⟩
/-- the flags grow -/
theorem OwRh.growH (h : OwRh lo w a D hs) {p : Option Addr} {n c : Nat} {xs : List Bool} (hg : w.grownBy w4 (own a.shp a.shn a.shc)) (ho : OwS SlBool.E 4 w4 lo w4.heap.size p n c xs) : OwRh lo w4 { a with shp := p, shn := n, shc := c } { D with sh := xs } hs := by
  have ht := Turn.of_grown hg
  have ne : ∀ {T : TypeId} {l s n' g : Nat} {v : Value} {ys : List Value}, w.ownsRow l T s v n' ys → T ≠ 4 → v.ownBlock = some g → ¬ own a.shp a.shn a.shc = some g := fun hr hT e e2 => type_ne (own_type hr e) (own_type h.sh.1 e2) hT
  exact ⟨h.t, owI_t h.ms ht (fun g e => ne h.ms.1 (by decide) e), ho, owS_t h.ps ht (fun g e => ne h.ps.1 (by decide) e), owI_t h.ss ht (fun g e => ne h.ss.1 (by decide) e), owS_t h.ds ht (fun g e => ne h.ds.1 (by decide) e), h.len,
    fun i k x e1 e2 => owI_t (h.inn i k x e1 e2) ht (fun g e => ne (h.inn i k x e1 e2).1 (by decide) e), h.dis, h.m_s, h.m_i, h.s_i⟩
/-- the parts grow -/
theorem OwRh.growP (h : OwRh lo w a D hs) {p : Option Addr} {n c : Nat} {xs : List ByteArray} (hg : w.grownBy w4 (own a.psp a.psn a.psc)) (ho : OwS SlStr.E 9 w4 lo w4.heap.size p n c xs) : OwRh lo w4 { a with psp := p, psn := n, psc := c } { D with ps := xs } hs := by
  have ht := Turn.of_grown hg
  have ne : ∀ {T : TypeId} {l s n' g : Nat} {v : Value} {ys : List Value}, w.ownsRow l T s v n' ys → T ≠ 9 → v.ownBlock = some g → ¬ own a.psp a.psn a.psc = some g := fun hr hT e e2 => type_ne (own_type hr e) (own_type h.ps.1 e2) hT
  exact ⟨h.t, owI_t h.ms ht (fun g e => ne h.ms.1 (by decide) e), owS_t h.sh ht (fun g e => ne h.sh.1 (by decide) e), ho, owI_t h.ss ht (fun g e => ne h.ss.1 (by decide) e), owS_t h.ds ht (fun g e => ne h.ds.1 (by decide) e), h.len,
    fun i k x e1 e2 => owI_t (h.inn i k x e1 e2) ht (fun g e => ne (h.inn i k x e1 e2).1 (by decide) e), h.dis, h.m_s, h.m_i, h.s_i⟩
/-- the salts grow -/
theorem OwRh.growS (h : OwRh lo w a D hs) {g4 n c : Nat} {xs : List Int} (hg : w.grownBy w4 (own a.ssp a.ssn a.ssc)) (ho : Ow .i64 3 w4 lo w4.heap.size (some ⟨g4, 0, none⟩) n c xs) (hat : own a.ssp a.ssn a.ssc = some g4 ∨ g4 = w.heap.size) : OwRh lo w4 { a with ssp := some ⟨g4, 0, none⟩, ssn := n, ssc := c } { D with ss := xs } hs := by
  have ht := Turn.of_grown hg
  have ne : ∀ {T : TypeId} {l s n' g : Nat} {v : Value} {ys : List Value}, w.ownsRow l T s v n' ys → T ≠ 3 → v.ownBlock = some g → ¬ own a.ssp a.ssn a.ssc = some g := fun hr hT e e2 => type_ne (own_type hr e) (own_type h.ss.1 e2) hT
  refine ⟨h.t, owI_t h.ms ht (fun g e e2 => h.m_s g e e2), owS_t h.sh ht (fun g e => ne h.sh.1 (by decide) e), owS_t h.ps ht (fun g e => ne h.ps.1 (by decide) e), ho, owS_t h.ds ht (fun g e => ne h.ds.1 (by decide) e), h.len,
    fun i k x e1 e2 => owI_t (h.inn i k x e1 e2) ht (fun g e e3 => h.s_i g e3 i k e1 e), h.dis, fun g e e2 => ?_, h.m_i, fun g e i k e1 e2 => ?_⟩
  · have e3 : g4 = g := by simpa [own, Value.ownBlock] using e2
    subst e3
    rcases hat with h1 | h1
    · exact h.m_s g4 e h1
    · have := (h.ms.far g4 e).2
      omega
  · have e3 : g4 = g := by simpa [own, Value.ownBlock] using e
    subst e3
    rcases hat with h1 | h1
    · exact h.s_i g4 h1 i k e1 e2
    · have hl := h.ds.len
      have hi2 : i < hs.length := (List.getElem?_eq_some_iff.1 e1).1
      have hx : D.ds[i]? = some (D.ds[i]'(by rw [h.len, ← hl]; exact hi2)) := List.getElem?_eq_getElem _
      have := ((h.inn i k _ e1 hx).far g4 e2).2
      omega
/-- the digests grow by a slice whose block is none of the others' -/
theorem OwRh.growD (h : OwRh lo w a D hs) {p : Option Addr} {n c : Nat} {k : SlL.Hd} {ys : List Int} (hg : w.grownBy w4 (own a.dsp a.dsn a.dsc)) (ho : OwS SlL.E 25 w4 lo w4.heap.size p n c (hs ++ [k])) (hk : Ow .i64 3 w lo w.heap.size k.1 k.2.1 k.2.2 ys)
    (k1 : ∀ g, (SlL.hv k).ownBlock = some g → own a.msp a.msn a.msc ≠ some g ∧ own a.ssp a.ssn a.ssc ≠ some g ∧ ∀ (i : Nat) (x : SlL.Hd), hs[i]? = some x → (SlL.hv x).ownBlock ≠ some g) :
    OwRh lo w4 { a with dsp := p, dsn := n, dsc := c } { D with ds := D.ds ++ [ys] } (hs ++ [k]) := by
  have ht := Turn.of_grown hg
  have ne : ∀ {T : TypeId} {l s n' g : Nat} {v : Value} {ys : List Value}, w.ownsRow l T s v n' ys → T ≠ 25 → v.ownBlock = some g → ¬ own a.dsp a.dsn a.dsc = some g := fun hr hT e e2 => type_ne (own_type hr e) (own_type h.ds.1 e2) hT
  have hl := h.ds.len
  have hl2 := h.len
  have spl : ∀ {i : Nat} {x : SlL.Hd}, (hs ++ [k])[i]? = some x → (i < hs.length ∧ hs[i]? = some x) ∨ (i = hs.length ∧ x = k) := fun {i x} e => by
    by_cases hi : i < hs.length
    · rw [List.getElem?_append_left hi] at e
      exact Or.inl ⟨hi, e⟩
    · rw [List.getElem?_append_right (by omega)] at e
      have h0 : i - hs.length = 0 := by
        have := (List.getElem?_eq_some_iff.1 e).1
        simp at this
        omega
      rw [h0, List.getElem?_cons_zero, Option.some.injEq] at e
      exact Or.inr ⟨by omega, e.symm⟩
  refine ⟨h.t, owI_t h.ms ht (fun g e => ne h.ms.1 (by decide) e), owS_t h.sh ht (fun g e => ne h.sh.1 (by decide) e), owS_t h.ps ht (fun g e => ne h.ps.1 (by decide) e), owI_t h.ss ht (fun g e => ne h.ss.1 (by decide) e), ho, ?_, fun i x y e1 e2 => ?_, fun i j x y g e1 e2 hij e3 e4 => ?_, h.m_s, fun g e i x e1 e2 => ?_, fun g e i x e1 e2 => ?_⟩
  · show (D.ds ++ [ys]).length = n
    rw [List.length_append, List.length_singleton, hl2, ← hl, ← ho.len, List.length_append, List.length_singleton]
  · rcases spl e1 with ⟨hi, e3⟩ | ⟨hi, rfl⟩
    · rw [List.getElem?_append_left (by rw [hl2, ← hl]; exact hi)] at e2
      exact owI_t (h.inn i x y e3 e2) ht (fun g e => ne (h.inn i x y e3 e2).1 (by decide) e)
    · rw [List.getElem?_append_right (by rw [hl2, ← hl, hi]; exact Nat.le_refl _), hl2, ← hl, hi, Nat.sub_self, List.getElem?_cons_zero, Option.some.injEq] at e2
      subst e2
      exact owI_t hk ht (fun g e => ne hk.1 (by decide) e)
  · rcases spl e1 with ⟨hi, e5⟩ | ⟨hi, rfl⟩
    · rcases spl e2 with ⟨hj, e6⟩ | ⟨hj, rfl⟩
      · exact h.dis i j x y g e5 e6 hij e3 e4
      · exact (k1 g e4).2.2 i x e5 e3
    · rcases spl e2 with ⟨hj, e6⟩ | ⟨hj, rfl⟩
      · exact (k1 g e3).2.2 j y e6 e4
      · exact hij (by omega)
  · rcases spl e1 with ⟨_, e5⟩ | ⟨_, rfl⟩
    · exact h.m_i g e i x e5 e2
    · exact (k1 g e2).1 e
  · rcases spl e1 with ⟨_, e5⟩ | ⟨_, rfl⟩
    · exact h.s_i g e i x e5 e2
    · exact (k1 g e2).2.1 e
end
end Go.Proofs.Ytjlckfbacphblaa.Rr
