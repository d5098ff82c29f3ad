/- What is of no program: the leaves of data of any depth, each at its place; what marks write there, and how they are found again; data of the call's own, no two leaves of which lie at one place. -/
import Derived.Test.YtjaholcmaafenaaEk
namespace Go.Proofs.Ytjaholcmaafenaa.Lf
open Go.RowKit Go.WideShapes Sl St Ed Ek

/-! ### leaves -/
/-- a leaf: its block, its place in it, and what a mark writes there -/
abbrev L1 := Nat × Nat × (Int → Value)
/-- the leaves of a datum, by where it lies -/
abbrev LF := Nat → Nat → List L1
def mI (k : Int) : Value := .int .i64 k
def mB (k : Int) : Value := .bool (k % 3 == 0)
def lv (b C : Nat) : Nat → List LF → List L1
  | _, [] => []
  | o, f :: fs => f b o ++ lv b C (o + C) fs
def lvs (p : Option Addr) (C : Nat) (fs : List LF) : List L1 :=
  match p with
  | none => []
  | some a => lv a.block C a.off fs
def ads (X : List L1) : List (Nat × Nat) := X.map fun l => (l.1, l.2.1)
theorem ads_append (X Y : List L1) : ads (X ++ Y) = ads X ++ ads Y := by simp [ads]
theorem lvs_some (b o C : Nat) (fs : List LF) : lvs (some ⟨b, o, none⟩) C fs = lv b C o fs := rfl
theorem lvs_nil (p : Option Addr) (C : Nat) : lvs p C [] = [] := by
  cases p <;> rfl
theorem lv_append (b C : Nat) : ∀ (o : Nat) (fs gs : List LF), lv b C o (fs ++ gs) = lv b C o fs ++ lv b C (o + fs.length * C) gs
  | o, [], gs => by simp [lv]
  | o, f :: fs, gs => by
    rw [List.cons_append, lv, lv, lv_append b C (o + C) fs gs, List.append_assoc, List.length_cons, Nat.succ_mul, show o + C + fs.length * C = o + (fs.length * C + C) by omega]
theorem lv_one (b C o : Nat) (f : LF) : lv b C o [f] = f b o := by simp [lv]
theorem lv_snoc (b C o : Nat) (fs : List LF) (f : LF) {j : Nat} (hj : fs.length = j) : lv b C o (fs ++ [f]) = lv b C o fs ++ f b (o + j * C) := by rw [lv_append, lv_one, hj]
theorem lv_take {b C o j : Nat} {fs : List LF} {f : LF} (h : fs[j]? = some f) : lv b C o (fs.take (j + 1)) = lv b C o (fs.take j) ++ f b (o + j * C) := by
  obtain ⟨hj, rfl⟩ := List.getElem?_eq_some_iff.1 h
  rw [List.take_succ_eq_append_getElem hj]
  exact lv_snoc _ _ _ _ _ (by rw [List.length_take]; omega)
theorem lv_split {b C o j : Nat} {fs : List LF} {f : LF} (h : fs[j]? = some f) : ∃ Z, lv b C o fs = (lv b C o (fs.take j) ++ f b (o + j * C)) ++ Z := by
  refine ⟨lv b C (o + (fs.take (j + 1)).length * C) (fs.drop (j + 1)), ?_⟩
  rw [← lv_take h, ← lv_append, List.take_append_drop]
theorem lv_mem {b C : Nat} {l : L1} : ∀ {o : Nat} {fs : List LF}, l ∈ lv b C o fs → ∃ (i : Nat) (f : LF), fs[i]? = some f ∧ l ∈ f b (o + i * C)
  | o, [], h => by simp [lv] at h
  | o, f :: fs, h => by
    rw [lv, List.mem_append] at h
    rcases h with h | h
    · exact ⟨0, f, rfl, by simpa using h⟩
    · obtain ⟨i, g, h1, h2⟩ := lv_mem h
      exact ⟨i + 1, g, by simpa using h1, by rw [Nat.succ_mul, show o + (i * C + C) = o + C + i * C by omega]; exact h2⟩

/-! ### how the leaves are read off the memory -/
def lint : Ent LF where
  C := 1
  rd _ _ cs f := (∃ x, cs = [.int .i64 x] ∧ InI x) ∧ f = fun b o => [(b, o, mI)]
  wt _ := 0
  len h := by
    obtain ⟨⟨x, rfl, _⟩, _⟩ := h
    rfl
  one h v hv := by
    obtain ⟨⟨x, rfl, _⟩, _⟩ := h
    rw [List.mem_singleton] at hv
    subst hv
    rfl
  keep h _ _ := h
  pos := by decide
def lbool : Ent LF where
  C := 1
  rd _ _ cs f := (∃ x, cs = [.bool x]) ∧ f = fun b o => [(b, o, mB)]
  wt _ := 0
  len h := by
    obtain ⟨⟨x, rfl⟩, _⟩ := h
    rfl
  one h v hv := by
    obtain ⟨⟨x, rfl⟩, _⟩ := h
    rw [List.mem_singleton] at hv
    subst hv
    rfl
  keep h _ _ := h
  pos := by decide
/-- words; mT: what a mark writes there -/
def lstr (mT : Int → Value) : Ent LF where
  C := 1
  rd _ _ cs f := (∃ x, cs = [.string x] ∧ x.size ≤ 9223372036854775807) ∧ f = fun b o => [(b, o, mT)]
  wt _ := 0
  len h := by
    obtain ⟨⟨x, rfl, _⟩, _⟩ := h
    rfl
  one h v hv := by
    obtain ⟨⟨x, rfl, _⟩, _⟩ := h
    rw [List.mem_singleton] at hv
    subst hv
    rfl
  keep h _ _ := h
  pos := by decide
def lpair (E F : Ent LF) : Ent LF where
  C := E.C + F.C
  rd S w cs f := ∃ c1 c2 f1 f2, cs = c1 ++ c2 ∧ E.rd S w c1 f1 ∧ F.rd S w c2 f2 ∧ f = fun b o => f1 b o ++ f2 b (o + E.C)
  wt _ := 0
  len h := by
    obtain ⟨c1, c2, f1, f2, rfl, h1, h2, _⟩ := h
    rw [List.length_append, E.len h1, F.len h2]
  one h v hv := by
    obtain ⟨c1, c2, f1, f2, rfl, h1, h2, _⟩ := h
    rcases List.mem_append.1 hv with hv | hv
    · exact E.one h1 v hv
    · exact F.one h2 v hv
  keep h hs hk := by
    obtain ⟨c1, c2, f1, f2, e, h1, h2, e'⟩ := h
    exact ⟨c1, c2, f1, f2, e, E.keep h1 hs hk, F.keep h2 hs hk, e'⟩
  pos := Nat.lt_of_lt_of_le E.pos (Nat.le_add_right _ _)
def lsl (E : Ent LF) : Ent LF where
  C := 1
  rd S w cs f := ∃ p n c fs, cs = [.slice p n c] ∧ n ≤ c ∧ RdD E S w p n fs ∧ f = fun _ _ => lvs p E.C fs
  wt _ := 0
  len h := by
    obtain ⟨p, n, c, fs, rfl, _⟩ := h
    rfl
  one h v hv := by
    obtain ⟨p, n, c, fs, rfl, _⟩ := h
    rw [List.mem_singleton] at hv
    subst hv
    rfl
  keep h hs hk := by
    obtain ⟨p, n, c, fs, e, h0, h1, e'⟩ := h
    exact ⟨p, n, c, fs, e, h0, h1.keep hs hk, e'⟩
  pos := by decide

/-! ### marks leave the leaves where they are -/
def Pk (E : Ent LF) : Prop := ∀ {lo hi : Nat} {w w' : World} {cs : List Value} {f : LF}, E.rd (Rg lo hi w) w cs f → Mk lo hi w w' → ∀ cs', PwK cs cs' → E.rd (Rg lo hi w') w' cs' f
theorem RRd.pk {E : Ent LF} (K : Pk E) {lo hi : Nat} {w w' : World} {p : Option Addr} {n : Nat} {fs : List LF} (h : RRd E lo hi w p n fs) (m : Mk lo hi w w') : RRd E lo hi w' p n fs := by
  obtain ⟨hl, hm, hc⟩ := h
  refine ⟨hl, hm, fun hn => ?_⟩
  obtain ⟨b, o, rfl, hS, hb, hx⟩ := hc hn
  refine ⟨b, o, rfl, hS.mk hb m, Nat.lt_of_lt_of_le hb m.size, fun i x hxi => ?_⟩
  obtain ⟨cs, h1, h2⟩ := hx i x hxi
  obtain ⟨cs', hl', hc'⟩ := ex_list cs.length (fun j v' => w'.cell? ⟨b, o + i * E.C + j, none⟩ = some v' ∧ ∀ v, cs[j]? = some v → Kd v v') fun j hj => by
    have hv : cs[j]? = some (cs[j]'hj) := List.getElem?_eq_getElem _
    obtain ⟨v', e1, e2⟩ := m.cell b _ _ hb (h1 j _ hv)
    exact ⟨v', e1, fun v e => by rw [hv] at e; cases e; exact e2⟩
  exact ⟨cs', fun j v hv => (hc' j v hv).1, K h2 m cs' ⟨hl', fun j v v' e e' => (hc' j v' e').2 v e⟩⟩
theorem pk_int : Pk lint := fun h _ cs' k => by
  obtain ⟨⟨x, rfl, hx⟩, e⟩ := h
  obtain ⟨v', rfl, hv⟩ := one_of k
  obtain ⟨y, rfl, hy⟩ := hv.int hx
  exact ⟨⟨y, rfl, hy⟩, e⟩
theorem pk_bool : Pk lbool := fun h _ cs' k => by
  obtain ⟨⟨x, rfl⟩, e⟩ := h
  obtain ⟨v', rfl, hv⟩ := one_of k
  obtain ⟨y, rfl⟩ := hv.bool
  exact ⟨⟨y, rfl⟩, e⟩
theorem pk_str (mT : Int → Value) : Pk (lstr mT) := fun h _ cs' k => by
  obtain ⟨⟨x, rfl, hx⟩, e⟩ := h
  obtain ⟨v', rfl, hv⟩ := one_of k
  obtain ⟨y, rfl, hy⟩ := hv.str hx
  exact ⟨⟨y, rfl, hy⟩, e⟩
theorem pk_pair {E F : Ent LF} (K : Pk E) (K2 : Pk F) : Pk (lpair E F) := fun h m cs' k => by
  obtain ⟨c1, c2, f1, f2, rfl, h1, h2, e⟩ := h
  obtain ⟨hl, hk⟩ := k
  have hl' : cs'.length = c1.length + c2.length := by rw [hl, List.length_append]
  have r1 := K h1 m (cs'.take c1.length) ⟨by rw [List.length_take]; omega, fun j v v' e e' => by
    have hj := (List.getElem?_eq_some_iff.1 e).1
    rw [List.getElem?_take_of_lt hj] at e'
    exact hk j v v' (by rw [List.getElem?_append_left hj]; exact e) e'⟩
  have r2 := K2 h2 m (cs'.drop c1.length) ⟨by rw [List.length_drop]; omega, fun j v v' e e' => by
    rw [List.getElem?_drop] at e'
    exact hk (c1.length + j) v v' (by rw [List.getElem?_append_right (by omega), show c1.length + j - c1.length = j by omega]; exact e) e'⟩
  exact ⟨_, _, f1, f2, (List.take_append_drop _ _).symm, r1, r2, e⟩
theorem pk_sl {E : Ent LF} (K : Pk E) : Pk (lsl E) := fun h m cs' k => by
  obtain ⟨p, n, c, fs, rfl, hnc, hr, e⟩ := h
  obtain ⟨v', rfl, hv⟩ := one_of k
  obtain rfl := hv.slice
  exact ⟨p, n, c, fs, rfl, hnc, RRd.pk K hr m, e⟩

/-! ### where the leaves lie -/
def Pl (E : Ent LF) : Prop := ∀ {S : Nat → Prop} {w : World} {cs : List Value} {f : LF}, E.rd S w cs f → ∀ b o l, l ∈ f b o → (l.1 = b ∧ o ≤ l.2.1 ∧ l.2.1 < o + E.C) ∨ (S l.1 ∧ l.1 < w.heap.size)
theorem pl_int : Pl lint := fun h b o l hl => by
  obtain ⟨_, rfl⟩ := h
  simp only [List.mem_singleton] at hl
  subst hl
  exact Or.inl ⟨rfl, Nat.le_refl _, Nat.lt_succ_self _⟩
theorem pl_bool : Pl lbool := fun h b o l hl => by
  obtain ⟨_, rfl⟩ := h
  simp only [List.mem_singleton] at hl
  subst hl
  exact Or.inl ⟨rfl, Nat.le_refl _, Nat.lt_succ_self _⟩
theorem pl_str (mT : Int → Value) : Pl (lstr mT) := fun h b o l hl => by
  obtain ⟨_, rfl⟩ := h
  simp only [List.mem_singleton] at hl
  subst hl
  exact Or.inl ⟨rfl, Nat.le_refl _, Nat.lt_succ_self _⟩
theorem pl_pair {E F : Ent LF} (K : Pl E) (K2 : Pl F) : Pl (lpair E F) := fun h b o l hl => by
  obtain ⟨c1, c2, f1, f2, rfl, h1, h2, rfl⟩ := h
  show _ ∨ _
  have eC : (lpair E F).C = E.C + F.C := rfl
  rcases List.mem_append.1 hl with hl | hl
  · rcases K h1 b o l hl with ⟨e, a1, a2⟩ | h
    · exact Or.inl ⟨e, a1, by rw [eC]; omega⟩
    · exact Or.inr h
  · rcases K2 h2 b _ l hl with ⟨e, a1, a2⟩ | h
    · exact Or.inl ⟨e, by omega, by rw [eC]; omega⟩
    · exact Or.inr h
theorem lvs_pl {E : Ent LF} (K : Pl E) {S : Nat → Prop} {w : World} {p : Option Addr} {n : Nat} {fs : List LF} (h : RdD E S w p n fs) {l : L1} (hl : l ∈ lvs p E.C fs) : S l.1 ∧ l.1 < w.heap.size := by
  obtain ⟨hn, _, hc⟩ := h
  rcases Nat.eq_zero_or_pos n with h0 | h0
  · obtain rfl : fs = [] := List.eq_nil_of_length_eq_zero (by omega)
    rw [lvs_nil] at hl
    cases hl
  · obtain ⟨b, o, rfl, hS, hb, hx⟩ := hc h0
    obtain ⟨i, f, h1, h2⟩ := lv_mem hl
    obtain ⟨cs, _, hr⟩ := hx i f h1
    rcases K hr b _ l h2 with ⟨e, _⟩ | h
    · rw [e]
      exact ⟨hS, hb⟩
    · exact h
theorem pl_sl {E : Ent LF} (K : Pl E) : Pl (lsl E) := fun h b o l hl => by
  obtain ⟨p, n, c, fs, rfl, _, hr, rfl⟩ := h
  exact Or.inr (lvs_pl K hr hl)

/-! ### how many there are -/
structure LkE {α : Type} (E : Ent α) (M : MkE E) (L : Ent LF) : Prop where
  C : L.C = E.C
  pk : Pk L
  pl : Pl L
  cnt : ∀ {S S' : Nat → Prop} {w : World} {cs : List Value} {x : α} {f : LF}, E.rd S w cs x → L.rd S' w cs f → ∀ b o, (f b o).length = M.nw x
theorem both_at {α : Type} {E : Ent α} {L : Ent LF} (hC : L.C = E.C) {S S' : Nat → Prop} {w : World} {p : Option Addr} {n : Nat} {xs : List α} {fs : List LF} (h : RdD E S w p n xs) (h' : RdD L S' w p n fs) {i : Nat} {x : α} {f : LF} (hx : xs[i]? = some x) (hf : fs[i]? = some f) : ∃ cs, E.rd S w cs x ∧ L.rd S' w cs f := by
  have hi : i < n := by
    have := (List.getElem?_eq_some_iff.1 hx).1
    have := h.1
    omega
  obtain ⟨b, o, x', cs, rfl, _, _, hx', hc, hr⟩ := h.at_ hi
  obtain ⟨b', o', f', cs', e, _, _, hf', hc', hr'⟩ := h'.at_ hi
  rw [hx] at hx'
  cases hx'
  rw [hf] at hf'
  cases hf'
  cases e
  have l1 := E.len hr
  have l2 := L.len hr'
  have : cs' = cs := by
    apply List.ext_getElem?
    intro j
    by_cases hj : j < E.C
    · have e1 : cs[j]? = some (cs[j]'(by omega)) := List.getElem?_eq_getElem _
      have e2 : cs'[j]? = some (cs'[j]'(by omega)) := List.getElem?_eq_getElem _
      have c1 := hc j _ e1
      have c2 := hc' j _ e2
      rw [hC, c1] at c2
      rw [e1, e2, ← Option.some.inj c2]
    · rw [List.getElem?_eq_none (by omega), List.getElem?_eq_none (by omega)]
  subst this
  exact ⟨_, hr, hr'⟩
theorem lv_len {α : Type} {g : α → Nat} (b C : Nat) : ∀ (o : Nat) (fs : List LF) (xs : List α), fs.length = xs.length → (∀ (i : Nat) (x : α) (f : LF), xs[i]? = some x → fs[i]? = some f → ∀ b o, (f b o).length = g x) → (lv b C o fs).length = (xs.map g).sum
  | o, [], [], _, _ => rfl
  | o, f :: fs, x :: xs, hl, h => by
    rw [lv, List.length_append, List.map_cons, List.sum_cons, h 0 x f rfl rfl, lv_len b C (o + C) fs xs (by simpa using hl) fun i y g hy hg => h (i + 1) y g (by simpa using hy) (by simpa using hg)]
theorem lvs_cnt {α : Type} {E : Ent α} {M : MkE E} {L : Ent LF} (K : LkE E M L) {S S' : Nat → Prop} {w : World} {p : Option Addr} {n : Nat} {xs : List α} {fs : List LF} (h : RdD E S w p n xs) (h' : RdD L S' w p n fs) : (lvs p L.C fs).length = (xs.map M.nw).sum := by
  have hl : fs.length = xs.length := h'.1.trans h.1.symm
  rcases Nat.eq_zero_or_pos n with h0 | h0
  · obtain rfl : fs = [] := List.eq_nil_of_length_eq_zero (by have := h'.1; omega)
    obtain rfl : xs = [] := List.eq_nil_of_length_eq_zero (by have := h.1; omega)
    rw [lvs_nil]
    rfl
  · obtain ⟨b, o, rfl, _, _, _⟩ := h.2.2 h0
    rw [lvs_some]
    refine lv_len _ _ _ _ _ hl fun i x f hx hf b' o' => ?_
    obtain ⟨cs, r1, r2⟩ := both_at K.C h h' hx hf
    exact K.cnt r1 r2 b' o'
theorem lk_int : LkE int mInt lint := ⟨rfl, pk_int, pl_int, fun _ h' b o => by obtain ⟨_, rfl⟩ := h'; rfl⟩
theorem lk_bool : LkE Ed.bool mBool lbool := ⟨rfl, pk_bool, pl_bool, fun _ h' b o => by obtain ⟨_, rfl⟩ := h'; rfl⟩
theorem lk_str (mT : Int → Value) : LkE str mStr (lstr mT) := ⟨rfl, pk_str mT, pl_str mT, fun _ h' b o => by obtain ⟨_, rfl⟩ := h'; rfl⟩
theorem lk_pair {α β : Type} {E : Ent α} {F : Ent β} {M : MkE E} {N : MkE F} {L L' : Ent LF} (K : LkE E M L) (K2 : LkE F N L') : LkE (pair E F) (mPair M N) (lpair L L') := by
  refine ⟨by show L.C + L'.C = E.C + F.C; rw [K.C, K2.C], pk_pair K.pk K2.pk, pl_pair K.pl K2.pl, fun h h' b o => ?_⟩
  obtain ⟨c1, c2, rfl, h1, h2⟩ := h
  obtain ⟨d1, d2, f1, f2, e, k1, k2, rfl⟩ := h'
  obtain ⟨rfl, rfl⟩ := List.append_inj e (by rw [E.len h1, L.len k1, K.C])
  show (f1 b o ++ f2 b (o + L.C)).length = M.nw _ + N.nw _
  rw [List.length_append, K.cnt h1 k1, K2.cnt h2 k2]
theorem lk_sl {α : Type} {E : Ent α} {M : MkE E} {L : Ent LF} (K : LkE E M L) (h16 : E.C ≤ 16) : LkE (sl E) (mSl M h16) (lsl L) := by
  refine ⟨rfl, pk_sl K.pk, pl_sl K.pl, fun h h' b o => ?_⟩
  obtain ⟨p, n, c, rfl, _, h1⟩ := h
  obtain ⟨p', n', c', fs, e, _, k1, rfl⟩ := h'
  simp only [List.cons.injEq, Value.slice.injEq, and_true] at e
  obtain ⟨rfl, rfl, rfl⟩ := e
  exact lvs_cnt K h1 k1

/-! ### data of some cells with no slices: the leaves are always the same -/
structure Flt (L : Ent LF) (f0 : LF) : Prop where
  uni : ∀ {S : Nat → Prop} {w : World} {cs : List Value} {f : LF}, L.rd S w cs f → f = f0
  nd : ∀ b o, (ads (f0 b o)).Nodup
  rng : ∀ b o a, a ∈ ads (f0 b o) → a.1 = b ∧ o ≤ a.2 ∧ a.2 < o + L.C
  num : ∀ b o, (f0 b o).length = L.C
theorem dj_nodup {X Y : List (Nat × Nat)} (h1 : X.Nodup) (h2 : Y.Nodup) (h : ∀ a ∈ X, a ∉ Y) : (X ++ Y).Nodup := by
  unfold List.Nodup at *
  rw [List.pairwise_append]
  exact ⟨h1, h2, fun a ha b hb e => h a ha (e ▸ hb)⟩
theorem nodup_parts {X Y : List (Nat × Nat)} (h : (X ++ Y).Nodup) : X.Nodup ∧ Y.Nodup ∧ ∀ a ∈ X, a ∉ Y := by
  unfold List.Nodup at *
  rw [List.pairwise_append] at h
  exact ⟨h.1, h.2.1, fun a ha hb => h.2.2 a ha a hb rfl⟩
theorem flt_int : Flt lint fun b o => [(b, o, mI)] := ⟨fun h => h.2, fun b o => by simp [ads], fun b o a h => by simp [ads] at h; subst h; exact ⟨rfl, Nat.le_refl _, Nat.lt_succ_self _⟩, fun _ _ => rfl⟩
theorem flt_bool : Flt lbool fun b o => [(b, o, mB)] := ⟨fun h => h.2, fun b o => by simp [ads], fun b o a h => by simp [ads] at h; subst h; exact ⟨rfl, Nat.le_refl _, Nat.lt_succ_self _⟩, fun _ _ => rfl⟩
theorem flt_str (mT : Int → Value) : Flt (lstr mT) fun b o => [(b, o, mT)] := ⟨fun h => h.2, fun b o => by simp [ads], fun b o a h => by simp [ads] at h; subst h; exact ⟨rfl, Nat.le_refl _, Nat.lt_succ_self _⟩, fun _ _ => rfl⟩
theorem flt_pair {E F : Ent LF} {f g : LF} (h1 : Flt E f) (h2 : Flt F g) : Flt (lpair E F) fun b o => f b o ++ g b (o + E.C) := by
  refine ⟨fun h => ?_, fun b o => ?_, fun b o a h => ?_, fun b o => ?_⟩
  · obtain ⟨c1, c2, f1, f2, rfl, k1, k2, rfl⟩ := h
    rw [h1.uni k1, h2.uni k2]
  · rw [ads_append]
    refine dj_nodup (h1.nd b o) (h2.nd b _) fun a ha hb => ?_
    have := h1.rng b o a ha
    have := h2.rng b _ a hb
    omega
  · rw [ads_append] at h
    show a.1 = b ∧ o ≤ a.2 ∧ a.2 < o + (E.C + F.C)
    rcases List.mem_append.1 h with h | h
    · have := h1.rng b o a h
      omega
    · have := h2.rng b _ a h
      omega
  · rw [List.length_append, h1.num, h2.num]
    rfl
theorem lk_flat {α : Type} {E : En α} {P : α → Prop} {L : Ent LF} {f0 : LF} (hp : ∀ x cs', P x → PwK (E.of x) cs' → ∃ x', cs' = E.of x' ∧ P x') (hC : L.C = E.C) (hf : Flt L f0) (K : Pk L) (K2 : Pl L) : LkE (flat E P) (mFlat hp) L :=
  ⟨hC, K, K2, fun _ h' b o => by rw [hf.uni h', hf.num, hC]; rfl⟩

/-! ### what marks write -/
structure MkL (lo hi : Nat) (k : Int) (X : List L1) (w w' : World) : Prop where
  mm : Mk lo hi w w'
  off : ∀ b o, b < w.heap.size → (b, o) ∉ ads X → w'.cell? ⟨b, o, none⟩ = w.cell? ⟨b, o, none⟩
  on : ∀ (i : Nat) (l : L1), X[i]? = some l → w'.cell? ⟨l.1, l.2.1, none⟩ = some (l.2.2 (k + (i : Nat)))
theorem mem_ads {X : List L1} {i : Nat} {l : L1} (h : X[i]? = some l) : (l.1, l.2.1) ∈ ads X := List.mem_map.2 ⟨l, List.mem_of_getElem? h, rfl⟩
section
variable {lo hi : Nat} {k y : Int} {X Y : List L1} {w w1 w2 : World}
theorem MkL.ofBelow (h : Below w.heap.size w w1) : MkL lo hi k [] w w1 := ⟨Mk.ofBelow h, fun b o hb _ => h.cell (p := ⟨b, o, none⟩) hb, fun i l h => by simp at h⟩
theorem MkL.refl : MkL lo hi k [] w w := MkL.ofBelow (Below.refl _ _)
theorem MkL.below (h : MkL lo hi k X w w1) (hb : Below w1.heap.size w1 w2) : MkL lo hi k X w w2 :=
  ⟨h.mm.below hb, fun b o hlt hn => (hb.cell (p := ⟨b, o, none⟩) (Nat.lt_of_lt_of_le hlt h.mm.size)).trans (h.off b o hlt hn), fun i l hl => by
    have e := h.on i l hl
    exact (hb.cell (p := ⟨l.1, l.2.1, none⟩) (World.block_lt_of_cell? _ _ e)).trans e⟩
theorem MkL.trans (h : MkL lo hi k X w w1) (h2 : MkL lo hi y Y w1 w2) (hy : y = k + (X.length : Nat)) (hd : (ads (X ++ Y)).Nodup) : MkL lo hi k (X ++ Y) w w2 := by
  rw [ads_append] at hd
  have hd := (nodup_parts hd).2.2
  refine ⟨h.mm.trans h2.mm, fun b o hlt hn => ?_, fun i l hl => ?_⟩
  · rw [ads_append, List.mem_append, not_or] at hn
    exact (h2.off b o (Nat.lt_of_lt_of_le hlt h.mm.size) hn.2).trans (h.off b o hlt hn.1)
  · rcases Nat.lt_or_ge i X.length with hi | hi
    · rw [List.getElem?_append_left hi] at hl
      have e := h.on i l hl
      exact (h2.off l.1 l.2.1 (World.block_lt_of_cell? _ _ e) (hd _ (mem_ads hl))).trans e
    · rw [List.getElem?_append_right hi] at hl
      have e := h2.on _ l hl
      rw [e, hy, show k + (X.length : Nat) + ((i - X.length : Nat) : Int) = k + (i : Nat) by omega]
theorem MkL.trans0 (h : MkL lo hi k [] w w1) (h2 : MkL lo hi k Y w1 w2) : MkL lo hi k Y w w2 := ⟨h.mm.trans h2.mm, fun b o hlt hn => (h2.off b o (Nat.lt_of_lt_of_le hlt h.mm.size) hn).trans (h.off b o hlt (by simp [ads])), h2.on⟩
theorem MkL.set (h : MkL lo hi k X w w1) {b i : Nat} {v0 v : Value} (g : Int → Value) (hl : lo ≤ b) (hh : b < hi) (hc : w1.cell? ⟨b, i, none⟩ = some v0) (hk : Kd v0 v) (hv : v = g (k + (X.length : Nat))) (hd : (ads (X ++ [(b, i, g)])).Nodup) : MkL lo hi k (X ++ [(b, i, g)]) w (w1.setCell ⟨b, i, none⟩ v) := by
  have h1 : MkL lo hi (k + (X.length : Nat)) [(b, i, g)] w1 (w1.setCell ⟨b, i, none⟩ v) := by
    refine ⟨Mk.one hl hh hc hk, fun b' o' _ hn => ?_, fun j l hj => ?_⟩
    · refine World.cell?_setCell_other w1 _ _ v fun e => hn ?_
      cases e
      simp [ads]
    · match j, hj with
      | 0, hj =>
        simp only [List.getElem?_cons_zero, Option.some.injEq] at hj
        subst hj
        rw [show (k + (X.length : Nat) + ((0 : Nat) : Int)) = k + (X.length : Nat) by omega]
        show _ = some (g (k + (X.length : Nat)))
        rw [← hv]
        exact World.cell?_setCell_same w1 _ v hc
      | j + 1, hj => simp at hj
  exact h.trans h1 rfl hd
theorem len_one {z : L1} (h : y = k + (X.length : Nat)) : y + 1 = k + ((X ++ [z]).length : Nat) := by
  rw [List.length_append, List.length_singleton, h]
  omega
theorem len_more (h : y = k + (X.length : Nat)) : y + (Y.length : Nat) = k + ((X ++ Y).length : Nat) := by
  rw [List.length_append, h]
  omega
end

/-! ### marks that are found again -/
def Hd (k : Int) (X : List L1) (w : World) : Prop := ∀ (i : Nat) (l : L1), X[i]? = some l → w.cell? ⟨l.1, l.2.1, none⟩ = some (l.2.2 (k + (i : Nat)))
section
variable {k y : Int} {X Y : List L1} {w w1 : World}
theorem MkL.hd {lo hi : Nat} (h : MkL lo hi k X w w1) : Hd k X w1 := h.on
theorem Hd.below (h : Hd k X w) (hb : Below w.heap.size w w1) : Hd k X w1 := fun i l hl => by
  have e := h i l hl
  exact (hb.cell (p := ⟨l.1, l.2.1, none⟩) (World.block_lt_of_cell? _ _ e)).trans e
theorem Hd.left (h : Hd k (X ++ Y) w) : Hd k X w := fun i l hl => h i l (by rw [List.getElem?_append_left (List.getElem?_eq_some_iff.1 hl).1]; exact hl)
theorem Hd.right (h : Hd k (X ++ Y) w) (hy : y = k + (X.length : Nat)) : Hd y Y w := fun i l hl => by
  have := h (X.length + i) l (by rw [List.getElem?_append_right (by omega), show X.length + i - X.length = i by omega]; exact hl)
  rw [this, hy, show k + ((X.length + i : Nat) : Int) = k + (X.length : Nat) + (i : Nat) by omega]
theorem Hd.one {b o : Nat} {g : Int → Value} (h : Hd k [(b, o, g)] w) : w.cell? ⟨b, o, none⟩ = some (g k) := by
  have := h 0 _ rfl
  simpa using this
theorem Hd.nil : Hd k [] w := fun i l h => by simp at h
end
theorem nd_pre {X Y : List L1} (h : (ads (X ++ Y)).Nodup) : (ads X).Nodup := by
  rw [ads_append] at h
  exact (nodup_parts h).1
theorem nd_right {X Y : List L1} (h : (ads (X ++ Y)).Nodup) : (ads Y).Nodup := by
  rw [ads_append] at h
  exact (nodup_parts h).2.1
/-- all leaves lie in these blocks -/
def Inn (lo hi : Nat) (X : List L1) : Prop := ∀ l ∈ X, lo ≤ l.1 ∧ l.1 < hi
theorem Inn.wide {lo hi lo' hi' : Nat} {X : List L1} (h : Inn lo hi X) (h1 : lo' ≤ lo) (h2 : hi ≤ hi') : Inn lo' hi' X := fun l hl => ⟨Nat.le_trans h1 (h l hl).1, Nat.lt_of_lt_of_le (h l hl).2 h2⟩
theorem Inn.append {lo hi : Nat} {X Y : List L1} (h : Inn lo hi X) (k : Inn lo hi Y) : Inn lo hi (X ++ Y) := fun l hl => by
  rcases List.mem_append.1 hl with hl | hl
  · exact h l hl
  · exact k l hl
theorem Inn.of {E : Ent LF} (K : Pl E) {lo hi : Nat} {w : World} {p : Option Addr} {n : Nat} {fs : List LF} (h : RRd E lo hi w p n fs) : Inn lo hi (lvs p E.C fs) := fun _ hl => ⟨(lvs_pl K h hl).1.1, (lvs_pl K h hl).1.2.1⟩
theorem nd_two {X Y : List L1} {lo hi lo' hi' : Nat} (h1 : (ads X).Nodup) (h2 : (ads Y).Nodup) (i1 : Inn lo hi X) (i2 : Inn lo' hi' Y) (hd : hi ≤ lo' ∨ hi' ≤ lo) : (ads (X ++ Y)).Nodup := by
  rw [ads_append]
  refine dj_nodup h1 h2 fun a ha hb => ?_
  obtain ⟨l, hl, rfl⟩ := List.mem_map.1 ha
  obtain ⟨l', hl', e⟩ := List.mem_map.1 hb
  have e1 := (Prod.mk.inj e).1
  have a1 := i1 l hl
  have a2 := i2 l' hl'
  omega

/-! ### data of the call's own -/
/-- The slice reads as xs, its blocks lie from lo on and below hi, aren't frozen, and no two leaves lie at one place. -/
def OwnD {α : Type} (E : Ent α) (L : Ent LF) (lo hi : Nat) (w : World) (p : Option Addr) (n : Nat) (xs : List α) : Prop := RRd E lo hi w p n xs ∧ ∃ fs, RRd L lo hi w p n fs ∧ (ads (lvs p L.C fs)).Nodup
/-- .. a value, wherever it is laid -/
def OwnV {α : Type} (E : Ent α) (L : Ent LF) (lo hi : Nat) (w : World) (cs : List Value) (x : α) : Prop := E.rd (Rg lo hi w) w cs x ∧ ∃ f, L.rd (Rg lo hi w) w cs f ∧ ∀ b o, (b < lo ∨ hi ≤ b) → (ads (f b o)).Nodup
theorem rgMono {lo hi lo' hi' b : Nat} {w : World} (h : Rg lo hi w b) (h1 : lo' ≤ lo) (h2 : hi ≤ hi') : Rg lo' hi' w b := ⟨Nat.le_trans h1 h.1, Nat.lt_of_lt_of_le h.2.1 h2, h.2.2⟩
theorem RRd.wide {α : Type} {E : Ent α} {lo hi lo' hi' : Nat} {w : World} {p : Option Addr} {n : Nat} {xs : List α} (h : RRd E lo hi w p n xs) (h1 : lo' ≤ lo) (h2 : hi ≤ hi') : RRd E lo' hi' w p n xs := RdD.mono h fun _ hb => rgMono hb h1 h2
section
variable {α : Type} {E : Ent α} {L : Ent LF} {lo hi lo' hi' : Nat} {w w' : World} {p : Option Addr} {n : Nat} {xs : List α} {cs : List Value} {x : α}
theorem OwnD.rr (h : OwnD E L lo hi w p n xs) : RRd E lo hi w p n xs := h.1
theorem OwnD.rd (h : OwnD E L lo hi w p n xs) : RdD E (fun _ => True) w p n xs := h.1.rd
theorem OwnD.len (h : OwnD E L lo hi w p n xs) : xs.length = n := RdD.len h.1
theorem OwnD.below (h : OwnD E L lo hi w p n xs) (hb : Below w.heap.size w w') : OwnD E L lo hi w' p n xs := ⟨h.1.below hb, h.2.choose, h.2.choose_spec.1.below hb, h.2.choose_spec.2⟩
theorem OwnD.alloc (h : OwnD E L lo hi w p n xs) (o : Obj) : OwnD E L lo hi (w.alloc o) p n xs := h.below ((Below.refl _ _).alloc (Nat.le_refl _) _)
theorem OwnD.wide (h : OwnD E L lo hi w p n xs) (h1 : lo' ≤ lo) (h2 : hi ≤ hi') : OwnD E L lo' hi' w p n xs := ⟨RRd.wide h.1 h1 h2, h.2.choose, RRd.wide h.2.choose_spec.1 h1 h2, h.2.choose_spec.2⟩
theorem OwnD.away (h : OwnD E L lo hi w p n xs) (m : Mk lo' hi' w w') (hd : hi' ≤ lo ∨ hi ≤ lo') : OwnD E L lo hi w' p n xs := ⟨h.1.away m hd, h.2.choose, h.2.choose_spec.1.away m hd, h.2.choose_spec.2⟩
/-- a store elsewhere -/
theorem RRd.far (h : RRd E lo hi w p n xs) {q : Addr} (hq : q.block < lo ∨ hi ≤ q.block) (u : Value) : RRd E lo hi (w.setCell q u) p n xs := RdD.keep h (by simp [World.setCell]) fun b hS _ => by
  have h1 := hS.1
  have h2 := hS.2.1
  have e := Below.heap_setCell w q u b (by omega)
  exact ⟨⟨h1, h2, hS.2.2.of e⟩, e⟩
theorem OwnD.far (h : OwnD E L lo hi w p n xs) {q : Addr} (hq : q.block < lo ∨ hi ≤ q.block) (u : Value) : OwnD E L lo hi (w.setCell q u) p n xs := ⟨RRd.far h.1 hq u, h.2.choose, RRd.far h.2.choose_spec.1 hq u, h.2.choose_spec.2⟩
theorem OwnD.nil_ (E : Ent α) (L : Ent LF) (lo hi : Nat) (w : World) (p : Option Addr) : OwnD E L lo hi w p 0 [] := ⟨RdD.nil_ _ _ _ _, [], RdD.nil_ _ _ _ _, by rw [lvs_nil]; exact List.nodup_nil⟩
theorem rd_keepRg (E : Ent α) (h : E.rd (Rg lo hi w) w cs x) (hb : Below w.heap.size w w') : E.rd (Rg lo hi w') w' cs x := E.keep h hb.size fun b hS hlt => ⟨⟨hS.1, hS.2.1, hS.2.2.of (hb.block b hlt)⟩, hb.block b hlt⟩
theorem rd_wideRg (E : Ent α) (h : E.rd (Rg lo hi w) w cs x) (h1 : lo' ≤ lo) (h2 : hi ≤ hi') : E.rd (Rg lo' hi' w) w cs x := E.keep h (Nat.le_refl _) fun _ hS _ => ⟨rgMono hS h1 h2, rfl⟩
end
/-- leaves of two data in blocks apart -/
theorem two_nodup {L L' : Ent LF} (K : Pl L) (K' : Pl L') {lo hi lo' hi' : Nat} {w w' : World} {p p' : Option Addr} {n n' : Nat} {fs fs' : List LF} (h : RRd L lo hi w p n fs) (h' : RRd L' lo' hi' w' p' n' fs') (hd : hi ≤ lo' ∨ hi' ≤ lo) (n1 : (ads (lvs p L.C fs)).Nodup) (n2 : (ads (lvs p' L'.C fs')).Nodup) : (ads (lvs p L.C fs ++ lvs p' L'.C fs')).Nodup := by
  rw [ads_append]
  refine dj_nodup n1 n2 fun a ha hb => ?_
  obtain ⟨l, hl, rfl⟩ := List.mem_map.1 ha
  obtain ⟨l', hl', e⟩ := List.mem_map.1 hb
  have h1 := (lvs_pl K h hl).1
  have h2 := (lvs_pl K' h' hl').1
  have e1 := (Prod.mk.inj e).1
  have a1 := h1.1
  have a2 := h1.2.1
  have a3 := h2.1
  have a4 := h2.2.1
  omega
/-- leaves collected so far: each once; they lie in the first cells at (b, o), or in blocks from lo on and below e -/
structure Tk (b o i lo e : Nat) (X : List L1) : Prop where
  nd : (ads X).Nodup
  pl : ∀ l ∈ X, (l.1 = b ∧ l.2.1 < o + i) ∨ (lo ≤ l.1 ∧ l.1 < e)
section
variable {b o i lo hi e a e' : Nat} {X A : List L1}
theorem Tk.one (b o lo : Nat) (g : Int → Value) : Tk b o 1 lo lo [(b, o, g)] := ⟨by simp [ads], fun l hl => by simp only [List.mem_singleton] at hl; subst hl; exact Or.inl ⟨rfl, Nat.lt_succ_self _⟩⟩
theorem Tk.first (b o : Nat) (hA : (ads A).Nodup) (hi' : Inn a e' A) (hl : lo ≤ a) : Tk b o 1 lo e' A := ⟨hA, fun l hl' => Or.inr ⟨Nat.le_trans hl (hi' l hl').1, (hi' l hl').2⟩⟩
theorem Tk.cell (h : Tk b o i lo e X) (hb : b < lo ∨ hi ≤ b) (he : e ≤ hi) (g : Int → Value) : Tk b o (i + 1) lo e (X ++ [(b, o + i, g)]) := by
  refine ⟨?_, fun l hl => ?_⟩
  · rw [ads_append]
    refine dj_nodup h.nd (by simp [ads]) fun x hx hy => ?_
    obtain ⟨l, hl, rfl⟩ := List.mem_map.1 hx
    simp only [ads, List.map_cons, List.map_nil, List.mem_singleton, Prod.mk.injEq] at hy
    rcases h.pl l hl with h1 | h1 <;> omega
  · rcases List.mem_append.1 hl with hl | hl
    · rcases h.pl l hl with h1 | h1
      · exact Or.inl ⟨h1.1, by omega⟩
      · exact Or.inr h1
    · simp only [List.mem_singleton] at hl
      subst hl
      exact Or.inl ⟨rfl, by show o + i < o + (i + 1); omega⟩
theorem Tk.sl (h : Tk b o i lo e X) (hb : b < lo ∨ hi ≤ b) (hA : (ads A).Nodup) (hi' : Inn a e' A) (h1 : e ≤ a) (h0 : lo ≤ a) (h2 : a ≤ e') (h3 : e' ≤ hi) : Tk b o (i + 1) lo e' (X ++ A) := by
  refine ⟨?_, fun l hl => ?_⟩
  · rw [ads_append]
    refine dj_nodup h.nd hA fun x hx hy => ?_
    obtain ⟨l, hl, rfl⟩ := List.mem_map.1 hx
    obtain ⟨l', hl', e2⟩ := List.mem_map.1 hy
    have e3 := (Prod.mk.inj e2).1
    have q := hi' l' hl'
    rcases h.pl l hl with p | p <;> omega
  · rcases List.mem_append.1 hl with hl | hl
    · rcases h.pl l hl with p | p
      · exact Or.inl ⟨p.1, by omega⟩
      · exact Or.inr ⟨p.1, by omega⟩
    · have q := hi' l hl
      exact Or.inr ⟨by omega, q.2⟩
end
theorem lv_nodup_flat {L : Ent LF} {f0 : LF} (hf : Flt L f0) (b o : Nat) : ∀ n, (ads (lv b L.C o (List.replicate n f0))).Nodup ∧ ∀ a ∈ ads (lv b L.C o (List.replicate n f0)), a.1 = b ∧ a.2 < o + n * L.C
  | 0 => ⟨List.nodup_nil, fun a h => by cases h⟩
  | n + 1 => by
    obtain ⟨h1, h2⟩ := lv_nodup_flat hf b o n
    rw [List.replicate_succ', lv_snoc _ _ _ _ _ (List.length_replicate ..), ads_append]
    refine ⟨dj_nodup h1 (hf.nd _ _) fun a ha hb => ?_, fun a ha => ?_⟩
    · have := h2 a ha
      have := hf.rng _ _ a hb
      omega
    · rw [Nat.succ_mul]
      rcases List.mem_append.1 ha with ha | ha
      · have := h2 a ha
        have := L.pos
        omega
      · have := hf.rng _ _ a ha
        omega
theorem fl_leaves {L : Ent LF} {f0 : LF} (hf : Flt L f0) {lo hi : Nat} {w : World} {p : Option Addr} {n : Nat} (hn : n ≤ maxLen) (h : 0 < n → ∃ b o, p = some ⟨b, o, none⟩ ∧ Rg lo hi w b ∧ b < w.heap.size ∧ ∀ i, i < n → ∃ cs, (∀ j v, cs[j]? = some v → w.cell? ⟨b, o + i * L.C + j, none⟩ = some v) ∧ L.rd (Rg lo hi w) w cs f0) : ∃ fs, RRd L lo hi w p n fs ∧ (ads (lvs p L.C fs)).Nodup := by
  refine ⟨List.replicate n f0, ⟨List.length_replicate .., hn, fun h0 => ?_⟩, ?_⟩
  · obtain ⟨b, o, e, hS, hb, hc⟩ := h h0
    refine ⟨b, o, e, hS, hb, fun i f hfi => ?_⟩
    have hi' := (List.getElem?_eq_some_iff.1 hfi).1
    rw [List.length_replicate] at hi'
    rw [List.getElem?_replicate, if_pos hi', Option.some.injEq] at hfi
    subst hfi
    exact hc i hi'
  · rcases p with _ | a
    · exact List.nodup_nil
    · exact (lv_nodup_flat hf _ _ n).1
theorem ofOw {lo hi n c : Nat} {T : TypeId} {w : World} {p : Option Addr} {zs : List Int} (h : Ow .i64 T w lo hi p n c zs) : OwnD int lint lo hi w p n zs := by
  have hr : RRd int lo hi w p n zs := by
    refine RdD.ofInts h.rd fun b o e _ => ?_
    rcases h.form with ⟨rfl, _, _⟩ | ⟨g, rfl, h1, h2, _⟩
    · cases e
    · cases e
      exact ⟨h1, h2, fun i => h.free⟩
  refine ⟨hr, fl_leaves flt_int hr.2.1 fun h0 => ?_⟩
  obtain ⟨b, o, e, hS, hb, hc⟩ := hr.2.2 h0
  refine ⟨b, o, e, hS, hb, fun i hi' => ?_⟩
  have hx : zs[i]? = some (zs[i]'(by have := hr.1; omega)) := List.getElem?_eq_getElem _
  obtain ⟨cs, h1, h2⟩ := hc i _ hx
  exact ⟨cs, h1, ⟨_, h2⟩, rfl⟩
theorem ofOwS {α : Type} {E : En α} {P : α → Prop} {L : Ent LF} {f0 : LF} (hf : Flt L f0) (hC : L.C = E.C) (hL : ∀ x, P x → ∀ S w, L.rd S w (E.of x) f0) {lo hi n c : Nat} {T : TypeId} {w : World} {p : Option Addr} {xs : List α} (h : OwS E T w lo hi p n c xs) (hP : ∀ x ∈ xs, P x) : OwnD (flat E P) L lo hi w p n xs := by
  have hr : RRd (flat E P) lo hi w p n xs := by
    refine RdD.ofS h.rd hP fun b o e _ => ?_
    rcases h.form with ⟨rfl, _, _⟩ | ⟨g, rfl, h1, h2, _⟩
    · cases e
    · cases e
      exact ⟨h1, h2, fun i => h.own.frozenAt i⟩
  refine ⟨hr, fl_leaves hf hr.2.1 fun h0 => ?_⟩
  obtain ⟨b, o, e, hS, hb, hc⟩ := hr.2.2 h0
  refine ⟨b, o, e, hS, hb, fun i hi' => ?_⟩
  have hx : xs[i]? = some (xs[i]'(by have := hr.1; omega)) := List.getElem?_eq_getElem _
  obtain ⟨cs, h1, h2, h3⟩ := hc i _ hx
  subst h2
  exact ⟨_, fun j v hv => by rw [hC]; exact h1 j v hv, hL _ h3 _ _⟩
theorem ofStrs (mT : Int → Value) {E : En ByteArray} (hE : E.C = 1) (hof : ∀ s, E.of s = [.string s]) {lo hi n c : Nat} {T : TypeId} {w : World} {p : Option Addr} {xs : List ByteArray} (h : OwS E T w lo hi p n c xs) (hb : ∀ s ∈ xs, s.size ≤ 9223372036854775807) : OwnD str (lstr mT) lo hi w p n xs := by
  have hr : RRd str lo hi w p n xs := by
    refine RdD.ofStrs hE hof h.rd hb fun b o e _ => ?_
    rcases h.form with ⟨rfl, _, _⟩ | ⟨g, rfl, h1, h2, _⟩
    · cases e
    · cases e
      exact ⟨h1, h2, fun i => h.own.frozenAt i⟩
  refine ⟨hr, fl_leaves (flt_str mT) hr.2.1 fun h0 => ?_⟩
  obtain ⟨b, o, e, hS, hb, hc⟩ := hr.2.2 h0
  refine ⟨b, o, e, hS, hb, fun i hi' => ?_⟩
  have hx : xs[i]? = some (xs[i]'(by have := hr.1; omega)) := List.getElem?_eq_getElem _
  obtain ⟨cs, h1, h2⟩ := hc i _ hx
  exact ⟨cs, h1, ⟨_, h2⟩, rfl⟩

/-! ### rows of cells, whatever they read as -/
structure Raw (C : Nat) where
  cs : List Value
  len : cs.length = C
  one : ∀ v ∈ cs, v.oneCell' = true
def raw {α : Type} (E : Ent α) : En (Raw E.C) := ⟨Raw.cs, E.C, Raw.len, Raw.one, E.pos⟩
section
variable {α : Type} {E : Ent α} {S : Nat → Prop} {w : World} {p : Option Addr} {n : Nat} {xs : List α}
/-- what the cells of a row read as -/
def As (E : Ent α) (S : Nat → Prop) (w : World) (cl : List (Raw E.C)) (xs : List α) : Prop := cl.length = xs.length ∧ ∀ (i : Nat) (x : α) (c : Raw E.C), xs[i]? = some x → cl[i]? = some c → E.rd S w c.1 x
theorem raw_of (h : RdD E S w p n xs) : ∃ cl : List (Raw E.C), RdS (raw E) w p n cl ∧ As E S w cl xs := by
  rcases Nat.eq_zero_or_pos n with rfl | h0
  · obtain rfl : xs = [] := List.eq_nil_of_length_eq_zero h.1
    exact ⟨[], RdS.nil_ _ _ _, rfl, fun i x c h => by simp at h⟩
  obtain ⟨b, o, e, hS, hb, hc⟩ := h.2.2 h0
  obtain ⟨cl, hl, hcl⟩ := ex_list n (fun i (c : Raw E.C) => (∀ j v, c.1[j]? = some v → w.cell? ⟨b, o + i * E.C + j, none⟩ = some v) ∧ ∀ x, xs[i]? = some x → E.rd S w c.1 x) fun i hi => by
    have hx : xs[i]? = some (xs[i]'(by have := h.1; omega)) := List.getElem?_eq_getElem _
    obtain ⟨cs, h1, h2⟩ := hc i _ hx
    exact ⟨⟨cs, E.len h2, E.one h2⟩, h1, fun x e => by rw [hx] at e; cases e; exact h2⟩
  exact ⟨cl, ⟨hl, h.2.1, fun _ => ⟨b, o, e, hb, fun i c hci j v hv => (hcl i c hci).1 j v hv⟩⟩, by rw [hl, h.1], fun i x c hx hci => (hcl i c hci).2 x hx⟩
theorem of_raw {cl : List (Raw E.C)} (h : RdS (raw E) w p n cl) (ha : As E S w cl xs) (hS : ∀ b o, p = some ⟨b, o, none⟩ → b < w.heap.size → S b) : RdD E S w p n xs := by
  refine ⟨by rw [← ha.1, h.1], h.2.1, fun h0 => ?_⟩
  obtain ⟨b, o, e, hb, hc⟩ := h.2.2 h0
  refine ⟨b, o, e, hS b o e hb, hb, fun i x hx => ?_⟩
  have hci : cl[i]? = some (cl[i]'(by rw [ha.1]; exact (List.getElem?_eq_some_iff.1 hx).1)) := List.getElem?_eq_getElem _
  exact ⟨_, fun j v hv => hc i _ hci j v hv, ha.2 i x _ hx hci⟩
theorem As.keep {cl : List (Raw E.C)} {S' : Nat → Prop} {w' : World} (h : As E S w cl xs) (hs : w.heap.size ≤ w'.heap.size) (hk : ∀ b, S b → b < w.heap.size → S' b ∧ w'.heap[b]? = w.heap[b]?) : As E S' w' cl xs := ⟨h.1, fun i x c hx hc => E.keep (h.2 i x c hx hc) hs hk⟩
theorem As.nil_ : As E S w [] [] := ⟨rfl, fun i x c h => by simp at h⟩
theorem As.snoc {cl : List (Raw E.C)} {c : Raw E.C} {x : α} (h : As E S w cl xs) (hx : E.rd S w c.1 x) : As E S w (cl ++ [c]) (xs ++ [x]) := by
  refine ⟨by simp [h.1], fun i y d hy hd => ?_⟩
  rcases Nat.lt_or_ge i xs.length with hi | hi
  · rw [List.getElem?_append_left hi] at hy
    rw [List.getElem?_append_left (by rw [h.1]; exact hi)] at hd
    exact h.2 i y d hy hd
  · have := (List.getElem?_eq_some_iff.1 hy).1
    simp only [List.length_append, List.length_singleton] at this
    obtain rfl : i = xs.length := by omega
    rw [List.getElem?_append_right (Nat.le_refl _), Nat.sub_self, List.getElem?_cons_zero] at hy
    rw [List.getElem?_append_right (by rw [h.1]; exact Nat.le_refl _), h.1, Nat.sub_self, List.getElem?_cons_zero] at hd
    cases hy
    cases hd
    exact hx
end

/-! ### a row that is replaced by copies, element by element -/
/-- after j elements: those are copies of the call's own, the rest is what the row held at first -/
def MidO {α : Type} (E : Ent α) (L : Ent LF) (T : TypeId) (cl : List (Raw E.C)) (xs : List α) (n j g : Nat) (w wr : World) : Prop :=
  ∃ (dl : List (Raw E.C)) (fs : List LF), OwS (raw E) T wr g (g + 1) (some ⟨g, 0, none⟩) n n dl ∧ (∀ i, j ≤ i → dl[i]? = cl[i]?) ∧
    (∀ (i : Nat) (x : α) (c : Raw E.C), i < j → xs[i]? = some x → dl[i]? = some c → E.rd (Rg (g + 1) wr.heap.size wr) wr c.1 x) ∧ fs.length = j ∧
    (∀ (i : Nat) (f : LF) (c : Raw E.C), fs[i]? = some f → dl[i]? = some c → L.rd (Rg (g + 1) wr.heap.size wr) wr c.1 f) ∧ (ads (lv g L.C 0 fs)).Nodup ∧ Below w.heap.size w wr ∧ w.heap.size ≤ g
section
variable {α : Type} {E : Ent α} {L : Ent LF} {T : TypeId} {cl : List (Raw E.C)} {xs : List α} {n j g : Nat} {w wr w2 : World}
theorem MidO.start {lo hi : Nat} (h : OwS (raw E) T wr lo hi (some ⟨g, 0, none⟩) n n cl) (hb : Below w.heap.size w wr) (hg : w.heap.size ≤ g) : MidO E L T cl xs n 0 g w wr := by
  have hlt : g < wr.heap.size := by
    rcases h.form with ⟨e, _⟩ | ⟨g', e, _, h2, _⟩
    · cases e
    · cases e
      exact Nat.lt_of_lt_of_le h2 h.2.2.1
  refine ⟨cl, [], ⟨⟨h.1.1, ?_⟩, h.2.1, hlt, fun k e => ?_⟩, fun _ _ => rfl, fun i x c hi => absurd hi (Nat.not_lt_zero _), rfl, fun i f c h => by simp at h, List.nodup_nil, hb, hg⟩
  · rcases h.1.2 with ⟨e, _⟩ | ⟨g', cap, cur, hv, hb', hr⟩
    · cases e
    · simp only [Value.slice.injEq, Option.some.injEq, Addr.mk.injEq] at hv
      obtain ⟨⟨rfl, _⟩, _, rfl⟩ := hv
      exact Or.inr ⟨g, n, cur, rfl, Nat.le_refl _, hr⟩
  · simp only [Value.ownBlock, Option.some.injEq] at e
    omega
theorem MidO.lt (h : MidO E L T cl xs n j g w wr) : g < wr.heap.size := by
  obtain ⟨dl, fs, h1, _⟩ := h
  exact h1.2.2.1
theorem MidO.below (h : MidO E L T cl xs n j g w wr) : Below w.heap.size w wr := by
  obtain ⟨dl, fs, _, _, _, _, _, _, h, _⟩ := h
  exact h
theorem MidO.cells (h : MidO E L T cl xs n j g w wr) {c : Raw E.C} (hc : cl[j]? = some c) : (∀ q v, c.1[q]? = some v → wr.cell? ⟨g, j * E.C + q, none⟩ = some v) ∧ ∀ q, wr.frozen? ⟨g, q, none⟩ = false := by
  obtain ⟨dl, fs, h1, h2, _⟩ := h
  exact ⟨fun q v hv => h1.cell (by rw [h2 j (Nat.le_refl _)]; exact hc) hv, fun q => h1.free⟩
theorem MidO.next (hC : L.C = E.C) (K : Pl L) {x : α} {cs : List Value} (h : MidO E L T cl xs n j g w wr) (hb : Below wr.heap.size wr w2) (hj : j < n) (hx : xs[j]? = some x) (hr : OwnV E L wr.heap.size w2.heap.size w2 cs x) : MidO E L T cl xs n (j + 1) g w (w2.setCells g (j * E.C) cs) := by
  obtain ⟨dl, fs, hown, hz, hrd, hfl, hlf, hnd, hB, hge⟩ := h
  obtain ⟨hv, f, hf, hfn⟩ := hr
  have hlt : g < wr.heap.size := hown.2.2.1
  have hown2 := (hown.below hb).own
  obtain ⟨h3, h4⟩ := row_setCells cs (j * E.C) _ _ hown2
  have hcs := E.len hv
  have hdl := hown.len
  let c : Raw E.C := ⟨cs, hcs, E.one hv⟩
  have hset : setL (fl (raw E) dl) (j * E.C) cs = fl (raw E) (dl.set j c) := by
    have e : ∀ zs : List (Raw E.C), fl (raw E) zs = (zs.map Raw.cs).flatten := fun zs => rfl
    rw [e, e, flatten_setL (C := E.C) (by intro d hd; obtain ⟨z, _, rfl⟩ := List.mem_map.1 hd; exact z.len) (by rw [List.length_map]; omega) hcs, List.map_set]
  rw [hset] at h3
  have hsz : w2.heap.size ≤ (w2.setCells g (j * E.C) cs).heap.size := h4.size
  have keep : ∀ {w0 : World} {l0 h0 : Nat}, g + 1 ≤ l0 → w0.heap.size ≤ w2.heap.size → h0 ≤ w2.heap.size → (∀ b, b < w0.heap.size → w2.heap[b]? = w0.heap[b]?) → ∀ b, Rg l0 h0 w0 b → b < w0.heap.size → Rg (g + 1) (w2.setCells g (j * E.C) cs).heap.size (w2.setCells g (j * E.C) cs) b ∧ (w2.setCells g (j * E.C) cs).heap[b]? = w0.heap[b]? := fun {w0 l0 h0} hl0 hs hh hk b hS hlt0 => by
    have a1 := hS.1
    have a2 := hS.2.1
    have e := (h4.block b (by omega) (by intro e; cases e; omega)).trans (hk b hlt0)
    exact ⟨⟨by omega, by omega, hS.2.2.of e⟩, e⟩
  refine ⟨dl.set j c, fs ++ [f], ⟨h3, by rw [List.length_set]; exact hdl, Nat.lt_of_lt_of_le hlt (Nat.le_trans hb.size hsz), fun k e => hown.2.2.2 k e⟩, fun i hi => ?_, fun i y d hi hy hd => ?_, by simp [hfl], fun i f' d hf' hd => ?_, ?_, (hB.trans (hb.mono hB.size)).grown h4 (Nat.le_trans hB.size hb.size) (fun k e => by cases e; exact hge), hge⟩
  · rw [List.getElem?_set_ne (by omega)]
    exact hz i (by omega)
  · by_cases hij : i = j
    · subst hij
      rw [List.getElem?_set_self (by omega)] at hd
      cases hd
      rw [hx] at hy
      cases hy
      exact E.keep hv hsz (keep (by omega) (Nat.le_refl _) (Nat.le_refl _) fun _ _ => rfl)
    · rw [List.getElem?_set_ne (by omega)] at hd
      exact E.keep (hrd i y d (by omega) hy hd) (Nat.le_trans hb.size hsz) (keep (Nat.le_refl _) hb.size hb.size fun b hlt0 => hb.block b hlt0)
  · rcases Nat.lt_or_ge i fs.length with hi | hi
    · rw [List.getElem?_append_left hi] at hf'
      rw [List.getElem?_set_ne (by omega)] at hd
      exact L.keep (hlf i f' d hf' hd) (Nat.le_trans hb.size hsz) (keep (Nat.le_refl _) hb.size hb.size fun b hlt0 => hb.block b hlt0)
    · have := (List.getElem?_eq_some_iff.1 hf').1
      simp only [List.length_append, List.length_singleton] at this
      obtain rfl : i = fs.length := by omega
      rw [List.getElem?_append_right (Nat.le_refl _), Nat.sub_self, List.getElem?_cons_zero] at hf'
      cases hf'
      rw [← hfl, List.getElem?_set_self (by omega)] at hd
      cases hd
      exact L.keep hf hsz (keep (by omega) (Nat.le_refl _) (Nat.le_refl _) fun _ _ => rfl)
  · rw [lv_snoc _ _ _ _ _ hfl, ads_append]
    refine dj_nodup hnd (hfn _ _ (Or.inl hlt)) fun a ha hb' => ?_
    obtain ⟨l, hl, rfl⟩ := List.mem_map.1 ha
    obtain ⟨l', hl', e⟩ := List.mem_map.1 hb'
    have e1 := (Prod.mk.inj e).1
    have e2 := (Prod.mk.inj e).2
    obtain ⟨i, f1, hf1, hl1⟩ := lv_mem hl
    have hi : i < j := by have := (List.getElem?_eq_some_iff.1 hf1).1; omega
    have hdi : dl[i]? = some (dl[i]'(by omega)) := List.getElem?_eq_getElem _
    have p1 := K (hlf i f1 _ hf1 hdi) g _ l hl1
    have p2 := K hf g _ l' hl'
    have hm : (i + 1) * L.C ≤ j * L.C := Nat.mul_le_mul_right _ hi
    rw [Nat.succ_mul] at hm
    rcases p1 with ⟨a1, a2, a3⟩ | ⟨a1, a2⟩
    · rcases p2 with ⟨b1, b2, b3⟩ | ⟨b1, b2⟩
      · omega
      · have := b1.1
        omega
    · have := a1.1
      rcases p2 with ⟨b1, b2, b3⟩ | ⟨b1, b2⟩
      · omega
      · have := b1.1
        omega
theorem MidO.done (hC : L.C = E.C) (h : MidO E L T cl xs n n g w wr) (hl : xs.length = n) : OwnD E L w.heap.size wr.heap.size wr (some ⟨g, 0, none⟩) n xs ∧ Below w.heap.size w wr := by
  obtain ⟨dl, fs, hown, hz, hrd, hfl, hlf, hnd, hB, hge⟩ := h
  have hlt : g < wr.heap.size := hown.2.2.1
  have hS : ∀ b, Rg (g + 1) wr.heap.size wr b → Rg w.heap.size wr.heap.size wr b := fun b hb => rgMono hb (by omega) (Nat.le_refl _)
  have hSg : Rg w.heap.size wr.heap.size wr g := ⟨hge, hlt, fun i => hown.own.frozenAt i⟩
  have hn : n ≤ maxLen := by have := hown.le; unfold maxLen; omega
  have at_ : ∀ i, i < n → ∃ c : Raw E.C, dl[i]? = some c ∧ ∀ q v, c.1[q]? = some v → wr.cell? ⟨g, 0 + i * E.C + q, none⟩ = some v := fun i hi => by
    have hd : dl[i]? = some (dl[i]'(by have := hown.len; omega)) := List.getElem?_eq_getElem _
    exact ⟨_, hd, fun q v hv => by rw [Nat.zero_add]; exact hown.cell hd hv⟩
  refine ⟨⟨⟨hl, hn, fun _ => ⟨g, 0, rfl, hSg, hlt, fun i x hx => ?_⟩⟩, fs, ⟨hfl, hn, fun _ => ⟨g, 0, rfl, hSg, hlt, fun i f hf => ?_⟩⟩, hnd⟩, hB⟩
  · have hi : i < n := by have := (List.getElem?_eq_some_iff.1 hx).1; omega
    obtain ⟨c, hc, hcc⟩ := at_ i hi
    exact ⟨c.1, hcc, E.keep (hrd i x c hi hx hc) (Nat.le_refl _) fun b hb _ => ⟨hS b hb, rfl⟩⟩
  · have hi : i < n := by have := (List.getElem?_eq_some_iff.1 hf).1; omega
    obtain ⟨c, hc, hcc⟩ := at_ i hi
    exact ⟨c.1, fun q v hv => by rw [hC]; exact hcc q v hv, L.keep (hlf i f c hf hc) (Nat.le_refl _) fun b hb _ => ⟨hS b hb, rfl⟩⟩
end
/-! ### for the walks of laws -/
theorem rdB {α : Type} {E : Ent α} {lo hi B : Nat} {w w' : World} {p : Option Addr} {n : Nat} {xs : List α} (m : Mk lo hi w w') (h : RdD E (fun b => b < B) w p n xs) (hB : B ≤ lo) : RdD E (fun b => b < B) w' p n xs := RdD.keep h m.size fun b hb hlt => ⟨hb, m.block b hlt (by omega)⟩
theorem bel {α : Type} {E : Ent α} {S : Nat → Prop} {w : World} {p : Option Addr} {n : Nat} {xs : List α} (h : RdD E S w p n xs) : RdD E (fun b => b < w.heap.size) w p n xs := RdD.keep h (Nat.le_refl _) fun _ _ hlt => ⟨hlt, rfl⟩
theorem awayZ {α : Type} {E : Ent α} {W w' : World} {p : Option Addr} {n : Nat} {xs : List α} {g : Nat} {T : TypeId} {cs : Array Value} (hz : Bx W g T cs) (h : RdD E (fun b => W.heap.size ≤ b) w' p n xs) : RdD E (fun b => b ≠ g) w' p n xs := RdD.mono h fun b hb e => by
  subst e
  have := hz.lt
  omega
theorem awayO {α : Type} {E : Ent α} {L : Ent LF} {lo hi : Nat} {W w' : World} {p : Option Addr} {n : Nat} {xs : List α} {g : Nat} {T : TypeId} {cs : Array Value} (hz : Bx W g T cs) (h : OwnD E L lo hi w' p n xs) (hl : W.heap.size ≤ lo) : RdD E (fun b => b ≠ g) w' p n xs := RdD.mono h.1 fun b hb e => by
  subst e
  have := hz.lt
  have := hb.1
  omega
end Go.Proofs.Ytjaholcmaafenaa.Lf
