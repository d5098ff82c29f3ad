/- Contracts of the laws' helpers over slices of slices of ints: opened, copied, compared, measured, marked. -/
import Derived.Test.YtjlckfbacphblaaTn
import Derived.Test.YtjlckfbacphblaaSlI
import Derived.Test.YtjlckfbacphblaaSlStr
import Derived.Test.YtjlckfbacphblaaQt
import Derived.Test.YtjlckfbacphblaaDt
import Derived.Deep.Matrix
namespace Go.Proofs.Ytjlckfbacphblaa.SlL
open Go.ChangeShapes Go.WideShapes Go.ChangeAt Go.RowKit Sl St Tn

abbrev Hd := Option Addr × Nat × Nat
def hv (h : Hd) : Value := .slice h.1 h.2.1 h.2.2
def E : En Hd := ⟨fun h => [hv h], 1, fun _ => rfl, fun x v h => by simp only [List.mem_cons, List.not_mem_nil, or_false] at h; subst h; rfl, by decide⟩
theorem C_eq : E.C = 1 := rfl
theorem of_eq (x : Hd) : E.of x = [hv x] := rfl
theorem info : (Try.prog.info? 25).map (fun i => (i.zero, i.size, i.bytes)) = some (some (.slice none 0 0), 1, 24) := by kernel_rfl

/-! ### a slice of slices that reads as a list of lists -/
def RdL (w : World) (p : Option Addr) (n : Nat) (xs : List (List Int)) : Prop :=
  ∃ hs : List Hd, RdS E w p n hs ∧ xs.length = n ∧ ∀ (i : Nat) (h : Hd) (x : List Int), hs[i]? = some h → xs[i]? = some x → Rd .i64 w h.1 h.2.1 x
section
variable {w w' : World} {p : Option Addr} {n : Nat} {xs : List (List Int)}
theorem RdL.len (h : RdL w p n xs) : xs.length = n := by obtain ⟨_, _, h, _⟩ := h; exact h
theorem RdL.le (h : RdL w p n xs) : n ≤ 9223372036854775807 := by obtain ⟨_, h, _⟩ := h; exact h.le
theorem RdL.below (h : RdL w p n xs) (hb : Below w.heap.size w w') : RdL w' p n xs := by
  obtain ⟨hs, h1, h2, h3⟩ := h
  exact ⟨hs, h1.below hb, h2, fun i h x e1 e2 => (h3 i h x e1 e2).below hb⟩
theorem RdL.drewN (h : RdL w p n xs) (q : Nat) : RdL (w.drewN q) p n xs := h
theorem RdL.alloc (h : RdL w p n xs) (o : Obj) : RdL (w.alloc o) p n xs := h.below ((Below.refl _ _).alloc (Nat.le_refl _) _)
theorem RdL.at_ (h : RdL w p n xs) {k : Nat} (hk : k < n) : ∃ b o pk nk ck, p = some ⟨b, o, none⟩ ∧ b < w.heap.size ∧ w.cell? ⟨b, o + k, none⟩ = some (.slice pk nk ck) ∧ Rd .i64 w pk nk (xs.getD k []) := by
  obtain ⟨hs, h1, h2, h3⟩ := h
  obtain ⟨b, o, x, e, hb, hx, hc⟩ := h1.at_ hk
  have h0 := hc 0 _ rfl
  rw [C_eq, Nat.mul_one, Nat.add_zero] at h0
  have hy : xs[k]? = some (xs[k]'(by omega)) := List.getElem?_eq_getElem _
  refine ⟨b, o, x.1, x.2.1, x.2.2, e, hb, h0, ?_⟩
  rw [List.getD_eq_getElem?_getD, hy]
  exact h3 k x _ hx hy
theorem RdL.nil_ (w : World) (p : Option Addr) : RdL w p 0 [] := ⟨[], RdS.nil_ _ _ _, rfl, fun i h x e => by simp at e⟩
end
set_option maxRecDepth 100000 in
theorem open_cells {H : Type} {enc : TypeId × Value → H} {W : World} {fuel : Nat} {cs : List Value} {x : DataW H × List MemPlace} (h : DataW.trod enc Try.prog W 0 (fun _ => true) true fuel 41 cs = some x) :
    ∃ p n c xs, cs = [.slice p n c] ∧ RdL W p n xs := by
  have c1 : Try.prog.cellsOf 25 = 1 := by kernel_rfl
  have c2 : Try.prog.cellsOf 3 = 1 := by kernel_rfl
  rcases Go.Deep.open_int_rows Try.underlying41 Try.underlying25 Try.underlying3 c1 c2 h with ⟨hcs, _⟩ | ⟨a, len, cap, A, L, C, Z, hcs, _, hl, hm, _, hel⟩
  · exact ⟨_, _, _, [], hcs, RdL.nil_ _ _⟩
  · refine ⟨_, _, _, (List.range len).map (fun r => (Z r).take (L r)), hcs, (List.range len).map (fun r => (A r, L r, C r)), ⟨by simp, by omega, fun hpos => ?_⟩, by simp, fun i h x e1 e2 => ?_⟩
    · obtain ⟨ab, ao, spot⟩ := a
      have hspot : spot = none := by simpa [Addr.add] using World.cell?_spot (hel 0 (by omega)).1
      subst hspot
      refine ⟨ab, ao, rfl, World.block_lt_of_cell? W _ (hel 0 (by omega)).1, fun i x hx j v hv => ?_⟩
      have hi : i < len := by
        have := (List.getElem?_eq_some_iff.1 hx).1
        simpa using this
      rw [List.getElem?_map, List.getElem?_range hi, Option.map_some, Option.some.injEq] at hx
      subst hx
      have hj : j = 0 := by
        have := (List.getElem?_eq_some_iff.1 hv).1
        rw [E.len, C_eq] at this
        omega
      subst hj
      simp only [of_eq, List.getElem?_cons_zero, Option.some.injEq] at hv
      subst hv
      have := (hel i (by omega)).1
      rw [Addr.add_lit] at this
      rw [C_eq, Nat.mul_one, Nat.add_zero]
      exact this
    · have hi : i < len := by
        have := (List.getElem?_eq_some_iff.1 e1).1
        simpa using this
      rw [List.getElem?_map, List.getElem?_range hi, Option.map_some, Option.some.injEq] at e1 e2
      subst e1 e2
      obtain ⟨_, q1, q2, q3, q4, q5, q6⟩ := hel i (by omega)
      refine ⟨by rw [List.length_take]; show min (L i) _ = L i; omega, by show L i ≤ maxLen; omega, fun x hx => SlI.wf_in (q4 x (List.mem_of_mem_take hx)), fun hpos => ?_⟩
      have hpos' : 0 < L i := hpos
      rcases hA : A i with _ | a'
      · have := q5 hA
        omega
      · obtain ⟨_, q7⟩ := q6 a' hA
        obtain ⟨ab', ao', spot'⟩ := a'
        have hspot' : spot' = none := by simpa [Addr.add] using World.cell?_spot (q7 0 (by omega))
        subst hspot'
        refine ⟨ab', ao', rfl, World.block_lt_of_cell? W _ (q7 0 (by omega)), fun j hj => ?_⟩
        have hj' : j < L i := hj
        have := q7 j (by omega)
        rw [Addr.add_lit] at this
        rw [getD_take _ hj']
        exact this

/-! ### a slice of slices of the call's own -/
def OwL (w : World) (lo hi : Nat) (p : Option Addr) (n c : Nat) (xs : List (List Int)) : Prop :=
  ∃ hs : List Hd, OwS E 25 w lo hi p n c hs ∧ xs.length = n ∧ (∀ (i : Nat) (h : Hd) (x : List Int), hs[i]? = some h → xs[i]? = some x → Ow .i64 3 w lo hi h.1 h.2.1 h.2.2 x) ∧
    ∀ (i j : Nat) (h h' : Hd) (g : Nat), hs[i]? = some h → hs[j]? = some h' → i ≠ j → (hv h).ownBlock = some g → (hv h').ownBlock ≠ some g
section
variable {w w' : World} {lo hi : Nat} {p : Option Addr} {n c : Nat} {xs : List (List Int)}
theorem OwL.len (h : OwL w lo hi p n c xs) : xs.length = n := by obtain ⟨_, _, h, _⟩ := h; exact h
theorem OwL.le (h : OwL w lo hi p n c xs) : n ≤ c ∧ c ≤ 9223372036854775807 := by obtain ⟨_, h, _⟩ := h; exact h.le
theorem OwL.hi_le (h : OwL w lo hi p n c xs) : hi ≤ w.heap.size := by obtain ⟨_, h, _⟩ := h; exact h.2.2.1
theorem OwL.rd (h : OwL w lo hi p n c xs) : RdL w p n xs := by
  obtain ⟨hs, h1, h2, h3, _⟩ := h
  exact ⟨hs, h1.rd, h2, fun i h x e1 e2 => (h3 i h x e1 e2).rd⟩
theorem OwL.far {S : Nat → Prop} (h : OwL w lo hi p n c xs) (ht : Turn S w w') (hn : ∀ g, S g → g < lo ∨ hi ≤ g) : OwL w' lo hi p n c xs := by
  obtain ⟨hs, h1, h2, h3, h4⟩ := h
  exact ⟨hs, owS_far h1 ht hn, h2, fun i h x e1 e2 => owI_far (h3 i h x e1 e2) ht hn, h4⟩
theorem OwL.below (h : OwL w lo hi p n c xs) (hb : Below w.heap.size w w') : OwL w' lo hi p n c xs :=
  h.far (Turn.of_below hb (fun _ => False)) (fun _ x => x.elim)
theorem OwL.alloc (h : OwL w lo hi p n c xs) (o : Obj) : OwL (w.alloc o) lo hi p n c xs := h.below ((Below.refl _ _).alloc (Nat.le_refl _) _)
theorem OwL.drewN (h : OwL w lo hi p n c xs) (q : Nat) : OwL (w.drewN q) lo hi p n c xs := h.below (below_drewN (Below.refl _ _) q)
theorem OwL.wide {lo' hi' : Nat} (h : OwL w lo hi p n c xs) (h1 : lo' ≤ lo) (h2 : hi ≤ hi') (h3 : hi' ≤ w.heap.size) : OwL w lo' hi' p n c xs := by
  obtain ⟨hs, a1, a2, a3, a4⟩ := h
  exact ⟨hs, a1.wide h1 h2 h3, a2, fun i h x e1 e2 => (a3 i h x e1 e2).wide h1 h2 h3, a4⟩
theorem OwL.nil_ (w : World) (lo : Nat) (h : lo ≤ w.heap.size) : OwL w lo lo none 0 0 [] :=
  ⟨[], OwS.nil_ _ _ _ _ h, rfl, fun i h x e => by simp at e, fun i j h h' g e => by simp at e⟩
/-- A ROW TURNED: the slice k, as it lies, and what becomes of the whole when it alone has turned. -/
theorem OwL.row {k : Nat} (h : OwL w lo hi p n c xs) (hk : k < n) : ∃ g pk nk ck, p = some ⟨g, 0, none⟩ ∧ lo ≤ g ∧ g < hi ∧ w.cell? ⟨g, k, none⟩ = some (.slice pk nk ck) ∧ Ow .i64 3 w lo hi pk nk ck (xs.getD k []) ∧
    ∀ w' y, w.grownBy w' (Value.slice pk nk ck).ownBlock → Ow .i64 3 w' lo hi pk nk ck y → OwL w' lo hi p n c (xs.set k y) := by
  obtain ⟨hs, a1, a2, a3, a4⟩ := h
  rcases a1.form with ⟨_, h0, _⟩ | ⟨g, rfl, g1, g2, _, _⟩
  · omega
  have hl := a1.len
  have hx : hs[k]? = some (hs[k]'(by omega)) := List.getElem?_eq_getElem _
  generalize hs[k]'(by omega) = x at hx
  have hy : xs[k]? = some (xs[k]'(by omega)) := List.getElem?_eq_getElem _
  have hd : xs.getD k [] = xs[k]'(by omega) := by rw [List.getD_eq_getElem?_getD, hy]; rfl
  have h0 := a1.cell (j := 0) hx rfl
  rw [C_eq, Nat.mul_one, Nat.add_zero] at h0
  have ho := a3 k x _ hx hy
  refine ⟨g, x.1, x.2.1, x.2.2, rfl, g1, g2, h0, by rw [hd]; exact ho, fun w' y hg ho' => ⟨hs, ?_, by rw [List.length_set]; exact a2, fun i h z e1 e2 => ?_, a4⟩⟩
  · refine owS_turn a1 (Turn.of_grown hg) fun g' e1 e2 => ?_
    exact type_ne (own_type a1.1 e1) (own_type ho.1 e2) (by decide)
  · by_cases hik : i = k
    · subst hik
      rw [hx, Option.some.injEq] at e1
      subst e1
      rw [List.getElem?_set_self (by omega), Option.some.injEq] at e2
      subst e2
      exact ho'
    · rw [List.getElem?_set_ne (Ne.symm hik)] at e2
      exact owI_turn (a3 i h z e1 e2) (Turn.of_grown hg) fun g' e3 e4 => a4 i k h x g' e1 hx hik e3 e4
/-- A ROW STORED: a slice of the call's own that lies behind the others. -/
theorem OwL.put {g k hi' pk' : Nat} {pk : Option Addr} {nk ck : Nat} {y : List Int} (h : OwL w lo hi (some ⟨g, 0, none⟩) n c xs) (hk : k < n) (ho : Ow .i64 3 w pk' hi' pk nk ck y) (h1 : lo ≤ pk') (h2 : hi ≤ pk') (h3 : hi ≤ hi') (h4 : hi' ≤ w.heap.size) :
    OwL (w.setCell ⟨g, k, none⟩ (.slice pk nk ck)) lo hi' (some ⟨g, 0, none⟩) n c (xs.set k y) ∧ w.grownBy (w.setCell ⟨g, k, none⟩ (.slice pk nk ck)) (some g) := by
  obtain ⟨hs, a1, a2, a3, a4⟩ := h
  have hl := a1.len
  obtain ⟨b1, b2⟩ := a1.elem (i := k) hk (pk, nk, ck)
  have e : w.setCells g (k * E.C) (E.of (pk, nk, ck)) = w.setCell ⟨g, k, none⟩ (.slice pk nk ck) := by rw [C_eq, Nat.mul_one]; rfl
  rw [e] at b1 b2
  have hs0 : (w.setCell ⟨g, k, none⟩ (.slice pk nk ck)).heap.size = w.heap.size := by simp [World.setCell]
  have hT := a1.own
  refine ⟨⟨_, b1.wide (Nat.le_refl _) h3 (by rw [hs0]; exact h4), by rw [List.length_set]; exact a2, fun i h z e1 e2 => ?_, fun i j h h' g' e1 e2 hij e3 e4 => ?_⟩, b2⟩
  · by_cases hik : i = k
    · subst hik
      rw [List.getElem?_set_self (by omega), Option.some.injEq] at e1 e2
      subst e1 e2
      refine owI_turn (ho.wide h1 (Nat.le_refl _) h4) (Turn.of_grown b2) fun g' e3 e4 => ?_
      simp only [Option.some.injEq] at e4
      subst e4
      exact type_ne (own_type hT rfl) (own_type ho.1 e3) (by decide)
    · rw [List.getElem?_set_ne (Ne.symm hik)] at e1 e2
      refine owI_turn ((a3 i h z e1 e2).wide (Nat.le_refl _) h3 h4) (Turn.of_grown b2) fun g' e3 e4 => ?_
      simp only [Option.some.injEq] at e4
      subst e4
      exact type_ne (own_type hT rfl) (own_type (a3 i h z e1 e2).1 e3) (by decide)
  · have old : ∀ i h, hs[i]? = some h → ∀ g', (hv h).ownBlock = some g' → g' < hi := fun i h e1 g' e3 => by
      have hi2 : i < hs.length := (List.getElem?_eq_some_iff.1 e1).1
      have hi3 : i < xs.length := by rw [a2, ← hl]; exact hi2
      have hy : xs[i]? = some (xs[i]'hi3) := List.getElem?_eq_getElem _
      exact ((a3 i h _ e1 hy).far g' e3).2
    by_cases hik : i = k
    · subst hik
      rw [List.getElem?_set_self (by omega), Option.some.injEq] at e1
      rw [List.getElem?_set_ne hij] at e2
      subst e1
      have h5 := ho.far g' e3
      have h6 := old j h' e2 g' e4
      omega
    · rw [List.getElem?_set_ne (Ne.symm hik)] at e1
      by_cases hjk : j = k
      · subst hjk
        rw [List.getElem?_set_self (by omega), Option.some.injEq] at e2
        subst e2
        have h5 := ho.far g' e4
        have h6 := old i h e1 g' e3
        omega
      · rw [List.getElem?_set_ne (Ne.symm hjk)] at e2
        exact a4 i j h h' g' e1 e2 hij e3 e4
end
/-- The call answers a new slice of slices that reads as xs; what lay before is as it was. -/
def Makes (xs : List (List Int)) (w : World) (e : Ending) (w' : World) : Prop := ∃ p n c, e = .returned (.slice p n c) ∧ OwL w' w.heap.size w'.heap.size p n c xs ∧ Below w.heap.size w w'
/-- The call answers true; what lay before is as it was. -/
def Yes (w : World) (e : Ending) (w' : World) : Prop := e = .returned (.bool true) ∧ Below w.heap.size w w'

/-! ### a copy -/
def Mid (xs : List (List Int)) (n j : Nat) (w wr : World) : Prop := OwL wr w.heap.size wr.heap.size (some ⟨w.heap.size, 0, none⟩) n n (xs.take j ++ List.replicate (n - j) []) ∧ Below w.heap.size w wr
theorem Mid.start {xs : List (List Int)} {n : Nat} {w w1 : World} (hown : w1.ownsRow w.heap.size 25 1 (.slice (some ⟨w.heap.size, 0, none⟩) n n) n (madeCells (Value.cells (.slice none 0 0)) (n * 1)).toList) (hg : w.grownBy w1 none) : Mid xs n 0 w w1 := by
  have e := made_fl (E := E) (.slice none 0 0) (none, 0, 0) rfl n
  rw [C_eq] at e
  rw [e] at hown
  refine ⟨⟨_, OwS.of_row hown, by simp, fun i h x e1 e2 => ?_, fun i j h h' g e1 e2 _ e3 => ?_⟩, (Below.refl _ _).grown hg (Nat.le_refl _) (fun _ h => by cases h)⟩
  · have hi : i < n := by have := (List.getElem?_eq_some_iff.1 e1).1; simpa using this
    rw [List.getElem?_replicate, if_pos hi, Option.some.injEq] at e1
    simp only [List.take_zero, List.nil_append, Nat.sub_zero] at e2
    rw [List.getElem?_replicate, if_pos hi, Option.some.injEq] at e2
    subst e1 e2
    exact (Ow.nil_ .i64 3 w1 w.heap.size hg.size).wide (Nat.le_refl _) hg.size (Nat.le_refl _)
  · have hi : i < n := by have := (List.getElem?_eq_some_iff.1 e1).1; simpa using this
    rw [List.getElem?_replicate, if_pos hi, Option.some.injEq] at e1
    subst e1
    simp [hv, Value.ownBlock] at e3
theorem set_midL {xs : List (List Int)} {j : Nat} (h : j < xs.length) : (xs.take j ++ List.replicate (xs.length - j) []).set j (xs.getD j []) = xs.take (j + 1) ++ List.replicate (xs.length - (j + 1)) [] := by
  rw [List.getD_eq_getElem?_getD, List.getElem?_eq_getElem h]
  exact set_mid h
theorem Mid.next {xs : List (List Int)} {n j : Nat} {w wr w1 : World} {y : List Int} {pk : Option Addr} {nk ck : Nat} (h : Mid xs n j w wr) (hj : j < n) (hl : xs.length = n) (hx : xs.getD j [] = y) (ho : Ow .i64 3 w1 wr.heap.size w1.heap.size pk nk ck y) (hb : Below wr.heap.size wr w1) : Mid xs n (j + 1) w (w1.setCell ⟨w.heap.size, j, none⟩ (.slice pk nk ck)) := by
  subst hx hl
  obtain ⟨h3, h4⟩ := (h.1.below hb).put (k := j) hj ho h.2.size (Nat.le_refl _) hb.size (Nat.le_refl _)
  rw [set_midL hj] at h3
  refine ⟨h3.wide (Nat.le_refl _) h4.size (Nat.le_refl _), ?_⟩
  have hb2 := h.2.trans (hb.mono h.2.size)
  exact hb2.grown h4 hb2.size (fun k e => by cases e; exact Nat.le_refl _)
theorem Mid.done {xs : List (List Int)} {n : Nat} {w wr : World} (h : Mid xs n n w wr) (hl : xs.length = n) : Makes xs w (.returned (.slice (some ⟨w.heap.size, 0, none⟩) n n)) wr := by
  subst hl
  obtain ⟨h1, h2⟩ := h
  rw [List.take_length, Nat.sub_self, List.replicate_zero, List.append_nil] at h1
  exact ⟨_, _, _, rfl, h1, h2⟩
theorem owl_free {w : World} {lo hi g n c i : Nat} {xs : List (List Int)} (h : OwL w lo hi (some ⟨g, 0, none⟩) n c xs) : w.frozen? ⟨g, i, none⟩ = false := by
  obtain ⟨_, h, _⟩ := h
  exact h.free
theorem owl_cell {w : World} {lo hi g n c k : Nat} {xs : List (List Int)} (h : OwL w lo hi (some ⟨g, 0, none⟩) n c xs) (hk : k < n) : ∃ pk nk ck, w.cell? ⟨g, k, none⟩ = some (.slice pk nk ck) := by
  obtain ⟨g', pk, nk, ck, e, _, _, hc, _⟩ := h.row hk
  simp only [Option.some.injEq, Addr.mk.injEq, and_true] at e
  subst e
  exact ⟨_, _, _, hc⟩
set_option maxRecDepth 100000 in
set_option maxHeartbeats 2000000 in
theorem to_any (p : Option Addr) (n c : Nat) (xs : List (List Int)) (w : World) (hr : RdL w p n xs) (hn : n ≤ 1048576) (hq : ∀ k, k < n → (xs.getD k []).length ≤ 1048576) : Calls Try.prog 91 #[.slice p n c] w (Makes xs w) := by
  obtain ⟨i0, hi, hz0, hz1, hz2⟩ := info_parts info
  have HR := Lib.hid hr
  have HL := Lib.hid hr.len
  have HQ := Lib.hid hq
  clear hr hq
  go_enter Try.func91, Try.ntmps91
  go_wp2_with (refine wpList_make_full _ rfl _ _ 41 rfl w.heap.size 25 i0 _ 1 Try.underlying41 hi hz0 hz1 .i64 .i64 _ _ n rfl rfl rfl rfl (by rw [hz2]; omega) (by unfold maxLen; omega) (Nat.le_refl _) ?_; intro w1 hown1 hg1)
  have HM := Lib.hid (Mid.start (xs := xs) hown1 hg1)
  clear hown1 hg1
  go_loopw [4] (fun i wr => ∃ k : Nat, k ≤ n ∧ i = .int .i64 k ∧ Hid (Mid xs n k w wr)) (fun i _ => n - (intOf i).toNat)
  case atStart => exact ⟨0, Nat.zero_le _, rfl, HM⟩
  case round =>
    obtain ⟨k, hk, rfl, HK⟩ := hrel
    by_cases hlt : k < n
    · obtain ⟨b, o, pk, nk, ck, rfl, hb, hc, hrk⟩ := (HR.out.below HK.out.2).at_ hlt
      have hnk : nk ≤ 1048576 := by rw [← hrk.len]; exact HQ.out k hlt
      have HRK := Lib.hid hrk
      clear hrk
      go_wp2_with fail
      refine (SlI.to_any pk nk ck _ _ HRK.out (by omega)).mono ?_
      rintro e w2 ⟨p2, n2, c2, rfl, ho2, hb2⟩
      obtain ⟨pz, nz, cz, hd⟩ := owl_cell (HK.out.1.below hb2) hlt
      have hf := owl_free (i := k) (HK.out.1.below hb2)
      have HN := Lib.hid (HK.out.next hlt HL.out rfl ho2 hb2)
      clear ho2 hb2
      go_wp2_with fail
      go_roundw
      case rel => exact ⟨k + 1, by omega, by go_num, HN⟩
      case measure => simp [intOf]; omega
    · obtain rfl : k = n := by omega
      go_wp2_with fail
      go_ret
      exact HK.out.done HL.out
set_option maxRecDepth 100000 in
set_option maxHeartbeats 2000000 in
theorem eq_any (p p' : Option Addr) (n c c' : Nat) (xs : List (List Int)) (w : World) (hr : RdL w p n xs) (hr' : RdL w p' n xs) : Calls Try.prog 79 #[.slice p n c, .slice p' n c'] w (Yes w) := by
  have HR := Lib.hid hr
  have HR' := Lib.hid hr'
  have hle := hr.le
  clear hr hr'
  go_enter Try.func79, Try.ntmps79
  go_wp2_with fail
  go_loopw [5] (fun i wr => ∃ k : Nat, k ≤ n ∧ i = .int .i64 k ∧ Hid (Below w.heap.size w wr)) (fun i _ => n - (intOf i).toNat)
  case atStart => exact ⟨0, Nat.zero_le _, rfl, Below.refl _ _⟩
  case round =>
    obtain ⟨k, hk, rfl, HB⟩ := hrel
    by_cases hlt : k < n
    · obtain ⟨b, o, pk, nk, ck, rfl, hb, hc, hrk⟩ := (HR.out.below HB.out).at_ hlt
      obtain ⟨b', o', pk', nk', ck', rfl, hb', hc', hrk'⟩ := (HR'.out.below HB.out).at_ hlt
      obtain rfl : nk = nk' := hrk.len.symm.trans hrk'.len
      have HRK := Lib.hid hrk
      have HRK' := Lib.hid hrk'
      clear hrk hrk'
      have i1 : (0 : Int) ≤ (k : Int) := by omega
      have i2 : (k : Int) < (n : Int) := by omega
      go_wp2_with fail
      have HC : Hid (∀ w', Qt.Keeps (wr) w' → w'.cell? ⟨b, o + k, none⟩ = some (.slice pk nk ck) ∧ w'.cell? ⟨b', o' + k, none⟩ = some (.slice pk' nk ck')) := Lib.hid fun w' hw => ⟨(hw.cell hb).trans hc, (hw.cell hb').trans hc'⟩
      refine Qt.region (Qt.Keeps (wr)) (by kernel_rfl) (by kernel_rfl) (Qt.Keeps.drew _) ?_
      repeat (first
        | go_big_quiet_skip
        | (go_big_quiet_want
           refine Qt.val (v := ?_) (fun w hw => ?_) ?_
           rotate_left
           · obtain ⟨s0, s1⟩ := HC.out w hw
             go_simp
             rfl
           simp only [Act.put, List.setIfInBounds_toArray, List.set_cons_zero, List.set_cons_succ]
           go_big_quiet_on)
        | (go_big_quiet_want
           refine Qt.call (v := .bool true) (f := 31) (args := #[.slice pk nk ck, .slice pk' nk ck']) (fun w hw => ?_) (fun w hw => ?_) ?_
           · go_simp
           · refine (SlI.eq_any pk pk' nk ck ck' (xs.getD k []) _ (HRK.out.below hw) (HRK'.out.below hw)).mono ?_
             rintro e w1 ⟨rfl, hb1⟩
             exact ⟨rfl, hw.then hb1⟩
           simp only [Act.put, List.setIfInBounds_toArray, List.set_cons_zero, List.set_cons_succ]
           go_big_quiet_on))
      refine wpQuiet_nil ?_
      intro w2 hw2
      have HW2 := Lib.hid (below_on HB.out hw2)
      clear hw2
      go_wp2_with fail
      go_roundw
      case rel => exact ⟨k + 1, by omega, by go_num, HW2⟩
      case measure => simp [intOf]; omega
    · obtain rfl : k = n := by omega
      go_wp2_with fail
      go_ret
      exact ⟨rfl, HB.out⟩

/-! ### the measure -/
def tl (xs : List (List Int)) : Nat := (xs.map List.length).sum
theorem tl_take {xs : List (List Int)} {k : Nat} (h : k < xs.length) : tl (xs.take (k + 1)) = tl (xs.take k) + (xs.getD k []).length := by
  unfold tl
  rw [List.take_succ_eq_append_getElem h, List.map_append, List.sum_append, List.getD_eq_getElem?_getD, List.getElem?_eq_getElem h]
  simp
theorem tl_split (xs : List (List Int)) (k : Nat) : tl xs = tl (xs.take k) + tl (xs.drop k) := by unfold tl; rw [← List.sum_append, ← List.map_append, List.take_append_drop]
theorem tl_le (xs : List (List Int)) (k : Nat) : tl (xs.take k) ≤ tl xs := by have := tl_split xs k; omega
theorem tl_row {xs : List (List Int)} {k : Nat} (h : k < xs.length) : (xs.getD k []).length ≤ tl xs := by
  have := tl_take h
  have := tl_le xs (k + 1)
  omega
def szl (m left : Nat) : Int := if m ≤ left then (left : Int) - m else -1
theorem szl_fit {m left : Nat} (h : m ≤ left) : szl m left = (left : Int) - m := if_pos h
theorem szl_big {m left : Nat} (h : ¬ m ≤ left) : szl m left = -1 := if_neg h
theorem szI_any (q : Option Addr) (m d : Nat) (left : Nat) (w : World) (h1 : left ≤ 1048576) (hn : m ≤ 9223372036854775807) : Calls Try.prog 75 #[.slice q m d, .int .i64 left] w fun e w' => e = .returned (.int .i64 (szl m left)) ∧ w = w' := by
  by_cases h : m ≤ left
  · have HS := Lib.hid (szl_fit h)
    go_enter Try.func75, Try.ntmps75
    go_wp2_with fail
    go_ret
    exact ⟨by rw [HS.out]; rfl, rfl⟩
  · have h' : left < m := by omega
    have HS := Lib.hid (szl_big h)
    go_enter Try.func75, Try.ntmps75
    go_wp2_with fail
    go_ret
    exact ⟨by rw [HS.out]; rfl, rfl⟩
def szI (xs : List (List Int)) (left : Nat) : Int := if xs.length + tl xs ≤ left then (left : Int) - xs.length - tl xs else -1
set_option maxRecDepth 100000 in
set_option maxHeartbeats 2000000 in
theorem sz_any (p : Option Addr) (n c : Nat) (xs : List (List Int)) (left : Nat) (w : World) (hr : RdL w p n xs) (hleft : left ≤ 1048576) : Calls Try.prog 88 #[.slice p n c, .int .i64 left] w fun e w' => e = .returned (.int .i64 (szI xs left)) ∧ w = w' := by
  have HR := Lib.hid hr
  have hl := hr.len
  have hle := hr.le
  clear hr
  by_cases hbig : left < n
  · have HS : Hid (szI xs left = -1) := Lib.hid (if_neg (by omega))
    go_enter Try.func88, Try.ntmps88
    go_wp2_with fail
    go_ret
    exact ⟨by rw [HS.out]; rfl, rfl⟩
  have HL := Lib.hid hl
  clear hl
  go_enter Try.func88, Try.ntmps88
  go_wp2_with fail
  go_loop [1, 5] (fun v i => ∃ k t : Nat, k ≤ n ∧ i = .int .i64 k ∧ v = .int .i64 ((left - n - t : Nat) : Int) ∧ n + t ≤ left ∧ Hid (t = tl (xs.take k))) (fun _ i => n - (intOf i).toNat)
  case atStart => exact ⟨0, 0, Nat.zero_le _, rfl, by congr 1; omega, by omega, Lib.hid rfl⟩
  case round =>
    obtain ⟨k, t, hk, rfl, rfl, ht, HT⟩ := hrel
    by_cases hlt : k < n
    · obtain ⟨b, o, pk, nk, ck, rfl, hb, hc, hrk⟩ := HR.out.at_ hlt
      have hnk := hrk.len
      have hnx := tl_take (xs := xs) (k := k) (by rw [HL.out]; exact hlt)
      have hkl := hrk.le
      have HNK := Lib.hid hnk
      clear hrk hnk
      by_cases hfit : n + t + nk ≤ left
      · have HN : Hid (t + nk = tl (xs.take (k + 1))) := Lib.hid (by rw [hnx, HT.out, HNK.out])
        have HV : Hid (szl nk (left - n - t) = ((left - n - (t + nk) : Nat) : Int)) := Lib.hid (by rw [szl_fit (by omega)]; omega)
        clear hnx
        go_wp2_with fail
        refine (szI_any pk nk ck (left - n - t) _ (by omega) (by omega)).mono ?_
        rintro e w1 ⟨rfl, rfl⟩
        rw [HV.out]
        go_wp2_with fail
        go_round
        case rel => exact ⟨k + 1, t + nk, by omega, by go_num, rfl, by omega, HN⟩
        case measure => simp [intOf]; omega
      · have HS : Hid (szI xs left = -1) := Lib.hid (if_neg (by have h1 := tl_le xs (k + 1); have h2 := HT.out; have h3 := HL.out; have h4 := HNK.out; omega))
        have HV : Hid (szl nk (left - n - t) = -1) := Lib.hid (szl_big (by omega))
        clear hnx
        go_wp2_with fail
        refine (szI_any pk nk ck (left - n - t) _ (by omega) (by omega)).mono ?_
        rintro e w1 ⟨rfl, rfl⟩
        rw [HV.out]
        go_wp2_with fail
        go_ret
        exact ⟨by rw [HS.out]; rfl, rfl⟩
    · obtain rfl : k = n := by omega
      have HS : Hid (szI xs left = ((left - k - t : Nat) : Int)) := Lib.hid (by have h2 := HT.out; rw [List.take_of_length_le (by rw [HL.out]; exact Nat.le_refl _)] at h2; unfold szI; rw [if_pos (by have h3 := HL.out; omega), ← h2, HL.out]; omega)
      go_wp2_with fail
      go_ret
      exact ⟨by rw [HS.out]; rfl, rfl⟩

/-! ### marks -/
def mkL : Nat → List (List Int) → List (List Int)
  | _, [] => []
  | m, x :: r => marks intK m x.length :: mkL (m + x.length) r
theorem mkL_len : ∀ (m : Nat) (xs : List (List Int)), (mkL m xs).length = xs.length
  | _, [] => rfl
  | m, x :: r => by rw [mkL, List.length_cons, mkL_len, List.length_cons]
theorem mkL_app : ∀ (m : Nat) (xs ys : List (List Int)), mkL m (xs ++ ys) = mkL m xs ++ mkL (m + tl xs) ys
  | m, [], ys => by simp [mkL, tl]
  | m, x :: r, ys => by
    rw [List.cons_append, mkL, mkL_app, mkL, List.cons_append]
    congr 3
    simp [tl]
    omega
theorem mkL_set (m : Nat) (xs : List (List Int)) (k : Nat) (h : k < xs.length) : (mkL m (xs.take k) ++ xs.drop k).set k (marks intK ((m + tl (xs.take k) : Nat) : Int) (xs.getD k []).length) = mkL m (xs.take (k + 1)) ++ xs.drop (k + 1) := by
  have hk : (mkL m (xs.take k)).length = k := by rw [mkL_len, List.length_take]; omega
  have e : xs.drop k = xs[k] :: xs.drop (k + 1) := List.drop_eq_getElem_cons h
  rw [e, List.set_append_right _ _ (by omega), hk, Nat.sub_self, List.set_cons_zero, List.take_succ_eq_append_getElem h, mkL_app, List.append_assoc, List.getD_eq_getElem?_getD, List.getElem?_eq_getElem h]
  rfl
theorem mkL_at (m : Nat) (xs : List (List Int)) (k : Nat) (h : k < xs.length) : (mkL m xs).getD k [] = marks intK ((m + tl (xs.take k) : Nat) : Int) (xs.getD k []).length := by
  have e2 := mkL_app m (xs.take k) (xs.drop k)
  rw [List.take_append_drop, List.drop_eq_getElem_cons h, mkL] at e2
  have hk : (mkL m (xs.take k)).length = k := by rw [mkL_len, List.length_take]; omega
  rw [e2, List.getD_eq_getElem?_getD, List.getElem?_append_right (by omega), hk, Nat.sub_self, List.getElem?_cons_zero, List.getD_eq_getElem?_getD, List.getElem?_eq_getElem h]
  rfl
def MarkMid (lo hi : Nat) (p : Option Addr) (n c : Nat) (xs : List (List Int)) (m : Nat) (j : Nat) (w wr : World) : Prop :=
  OwL wr lo hi p n c (mkL m (xs.take j) ++ xs.drop j) ∧ Turn (fun i => lo ≤ i ∧ i < hi) w wr
/-- The call answers the next mark; the slices bear the marks; no block outside of lo .. hi has turned. -/
def Marked (lo hi : Nat) (p : Option Addr) (n c : Nat) (xs : List (List Int)) (m : Nat) (w : World) (e : Ending) (w' : World) : Prop := e = .returned (.int .i64 ((m + tl xs : Nat) : Int)) ∧ OwL w' lo hi p n c (mkL m xs) ∧ Turn (fun i => lo ≤ i ∧ i < hi) w w'
set_option maxRecDepth 100000 in
set_option maxHeartbeats 2000000 in
theorem mark_any (lo hi : Nat) (p : Option Addr) (n c : Nat) (xs : List (List Int)) (m : Nat) (w : World) (ho : OwL w lo hi p n c xs) (hm' : m + tl xs ≤ 1000000000) : Calls Try.prog 82 #[.slice p n c, .int .i64 m] w (Marked lo hi p n c xs m w) := by
  have HL := Lib.hid ho.len
  have hle := ho.rd.le
  have HM : Hid (MarkMid lo hi p n c xs m 0 w w) := ⟨ho, Turn.refl _ _⟩
  clear ho
  go_enter Try.func82, Try.ntmps82
  go_wp2_with fail
  go_loopw [1, 5] (fun x i wr => ∃ k t : Nat, k ≤ n ∧ i = .int .i64 k ∧ x = .int .i64 (t : Int) ∧ Hid (t = m + tl (xs.take k)) ∧ Hid (MarkMid lo hi p n c xs m k w wr)) (fun _ i _ => n - (intOf i).toNat)
  case atStart => exact ⟨0, m, Nat.zero_le _, rfl, rfl, Lib.hid rfl, HM⟩
  case round =>
    obtain ⟨k, t, hk, rfl, rfl, HT, HK⟩ := hrel
    by_cases hlt : k < n
    · obtain ⟨g, pk, nk, ck, rfl, hg1, hg2, hc, hro, hnext⟩ := HK.out.1.row hlt
      have hkx : k < xs.length := by rw [HL.out]; exact hlt
      have hget : (mkL m (xs.take k) ++ xs.drop k).getD k [] = xs.getD k [] := by
        have hk2 : (mkL m (xs.take k)).length = k := by rw [mkL_len, List.length_take]; omega
        rw [List.getD_eq_getElem?_getD, List.getElem?_append_right (by omega), hk2, Nat.sub_self, List.getElem?_drop, Nat.add_zero, List.getD_eq_getElem?_getD]
      rw [hget] at hro
      have hlen := hro.len
      have htk := tl_take hkx
      have hle2 := tl_le xs (k + 1)
      have ht : t + nk = m + tl (xs.take (k + 1)) := by rw [htk, HT.out, hlen]; omega
      have hb : t + nk ≤ 1000000000 := by omega
      have HT2 := Lib.hid ht
      have HRO := Lib.hid hro
      have HNX := Lib.hid hnext
      have HS := Lib.hid (mkL_set m xs k hkx)
      have HLN := Lib.hid hlen
      clear hro hnext hget htk hle2 ht hlen
      go_wp2_with fail
      refine (SlI.mark_any lo hi pk nk ck (xs.getD k []) (t : Int) _ HRO.out (by omega) (by omega)).mono ?_
      rintro e w1 ⟨rfl, h1, hg⟩
      have HN : Hid (MarkMid lo hi (some ⟨g, 0, none⟩) n c xs m (k + 1) w w1) := by
        refine Lib.hid ⟨?_, ?_⟩
        · have h2 := HNX.out w1 _ hg h1
          rw [← HLN.out, HT.out, HS.out] at h2
          exact h2
        · exact HK.out.2.trans ((Turn.of_grown hg).mono fun i e => HRO.out.far i e)
      clear h1 hg
      go_wp2_with fail
      go_roundw
      case rel => exact ⟨k + 1, t + nk, by omega, by go_num, by go_num, HT2, HN⟩
      case measure => simp [intOf]; omega
    · obtain rfl : k = n := by omega
      go_wp2_with fail
      go_ret
      have h1 := HK.out
      have ht := HT.out
      unfold MarkMid at h1
      rw [List.take_of_length_le (by rw [HL.out]; exact Nat.le_refl _), List.drop_of_length_le (by rw [HL.out]; exact Nat.le_refl _), List.append_nil] at h1
      rw [List.take_of_length_le (by rw [HL.out]; exact Nat.le_refl _)] at ht
      exact ⟨by rw [← ht]; rfl, h1⟩
set_option maxRecDepth 100000 in
set_option maxHeartbeats 2000000 in
theorem held_any (p : Option Addr) (n c : Nat) (xs : List (List Int)) (m : Nat) (w : World) (hr : RdL w p n (mkL m xs)) (hm' : m + tl xs ≤ 1000000000) : Calls Try.prog 86 #[.slice p n c, .int .i64 m] w fun e w' => e = .returned (.int .i64 ((m + tl xs : Nat) : Int)) ∧ w = w' := by
  have HL : Hid (xs.length = n) := Lib.hid (by rw [← mkL_len m xs]; exact hr.len)
  have hle := hr.le
  have HR := Lib.hid hr
  clear hr
  go_enter Try.func86, Try.ntmps86
  go_wp2_with fail
  go_loop [1, 5] (fun x i => ∃ k t : Nat, k ≤ n ∧ i = .int .i64 k ∧ x = .int .i64 (t : Int) ∧ Hid (t = m + tl (xs.take k))) (fun _ i => n - (intOf i).toNat)
  case atStart => exact ⟨0, m, Nat.zero_le _, rfl, rfl, Lib.hid rfl⟩
  case round =>
    obtain ⟨k, t, hk, rfl, rfl, HT⟩ := hrel
    by_cases hlt : k < n
    · obtain ⟨b, o, pk, nk, ck, rfl, hb, hc, hrk⟩ := HR.out.at_ hlt
      have hkx : k < xs.length := by rw [HL.out]; exact hlt
      have htk := tl_take hkx
      have hle2 := tl_le xs (k + 1)
      rw [mkL_at m xs k hkx] at hrk
      have hlen := hrk.len
      rw [marks_len] at hlen
      rw [hlen, ← HT.out] at hrk
      have ht : t + nk = m + tl (xs.take (k + 1)) := by rw [htk, HT.out, hlen]; omega
      have hb2 : t + nk ≤ 1000000000 := by omega
      have HT2 := Lib.hid ht
      have HRK := Lib.hid hrk
      have hnn : ¬ ((t : Int) + (nk : Int) < 0) := by omega
      clear hrk htk hle2 ht hlen
      go_wp2_with fail
      refine (SlI.held_any pk nk ck (t : Int) _ HRK.out (by omega) (by omega)).mono ?_
      rintro e w1 ⟨rfl, rfl⟩
      go_wp2_with fail
      go_round
      case rel => exact ⟨k + 1, t + nk, by omega, by go_num, by go_num, HT2⟩
      case measure => simp [intOf]; omega
    · obtain rfl : k = n := by omega
      go_wp2_with fail
      go_ret
      have ht := HT.out
      rw [List.take_of_length_le (by rw [HL.out]; exact Nat.le_refl _)] at ht
      exact ⟨by rw [show ((m : Int) + (tl xs : Int)) = (t : Int) by omega]; rfl, rfl⟩
end Go.Proofs.Ytjlckfbacphblaa.SlL
