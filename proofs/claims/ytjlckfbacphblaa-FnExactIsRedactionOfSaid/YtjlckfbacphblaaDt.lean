/- Documents of the call's own: what turns, copies (slices.Clone; the program's and the reference's), the laws' marks. -/
import Derived.Test.YtjlckfbacphblaaSlDoc
import Derived.Test.YtjlckfbacphblaaMk
import Derived.Lib.SliceRun
import Derived.Deep.RegionHeld3
namespace Go.Proofs.Ytjlckfbacphblaa.Dt
open Go.ChangeShapes Go.WideShapes Go.ChangeAt Go.RowKit Sl St Dm Dk SlDoc Mk

/-! ### what turns -/
/-- from w to w' new blocks may be made, and two of the blocks lo .. hi may turn -/
def Two (lo hi : Nat) (w w' : World) : Prop := ∃ (wm : World) (r s : Option Nat), w.grownBy wm r ∧ wm.grownBy w' s ∧ (∀ g, r = some g → lo ≤ g ∧ g < hi) ∧ (∀ g, s = some g → lo ≤ g ∧ g < hi)
theorem grown_pre {w w1 w2 : World} {r : Option Nat} (hb : Below w.heap.size w w1) (hg : w1.grownBy w2 r) : w.grownBy w2 r :=
  ⟨hg.os.trans hb.os, hg.tape.trans hb.tape, hg.output.trans hb.output, Nat.le_trans hb.size hg.size, fun i hi hne => (hg.block i (Nat.lt_of_lt_of_le hi hb.size) hne).trans (hb.block i hi)⟩
theorem Two.size {lo hi : Nat} {w w' : World} (h : Two lo hi w w') : w.heap.size ≤ w'.heap.size := by
  obtain ⟨_, _, _, g1, g2, _⟩ := h
  exact Nat.le_trans g1.size g2.size
theorem Two.below {lo hi B : Nat} {u w w' : World} (h : Two lo hi w w') (hb : Below B u w) (hB : B ≤ w.heap.size) (hlo : B ≤ lo) : Below B u w' := by
  obtain ⟨_, _, _, g1, g2, h1, h2⟩ := h
  exact (hb.grown g1 hB (fun g e => Nat.le_trans hlo (h1 g e).1)).grown g2 (Nat.le_trans hB g1.size) (fun g e => Nat.le_trans hlo (h2 g e).1)
theorem two_str {α : Type} {E : En α} {T : TypeId} {w w' : World} {lo hi l u n c : Nat} {p : Option Addr} {xs : List α} (h : OwS E T w l u p n c xs) (ht : Two lo hi w w') (hd : u ≤ lo ∨ hi ≤ l) : OwS E T w' l u p n c xs := by
  obtain ⟨_, _, _, g1, g2, h1, h2⟩ := ht
  exact (h.kept g1 (fun g e => by have := h1 g e; omega)).kept g2 (fun g e => by have := h2 g e; omega)
theorem two_int {k : IntKind} {T : TypeId} {w w' : World} {lo hi l u n c : Nat} {p : Option Addr} {xs : List Int} (h : Ow k T w l u p n c xs) (ht : Two lo hi w w') (hd : u ≤ lo ∨ hi ≤ l) : Ow k T w' l u p n c xs := by
  obtain ⟨_, _, _, g1, g2, h1, h2⟩ := ht
  exact (h.kept g1 (fun g e => by have := h1 g e; omega)).kept g2 (fun g e => by have := h2 g e; omega)
/-- one slice turns -/
theorem two_of {lo hi : Nat} {w w' : World} {r : Option Nat} (hg : w.grownBy w' r) (h : ∀ g, r = some g → lo ≤ g ∧ g < hi) : Two lo hi w w' :=
  ⟨w', r, none, hg, ⟨rfl, rfl, rfl, Nat.le_refl _, fun _ _ _ => rfl⟩, h, fun _ e => by cases e⟩

/-! ### a document of the call's own -/
/-- blocks of different types differ -/
theorem own_ne {w : World} {l1 l2 s1 s2 n1 n2 : Nat} {T1 T2 : TypeId} {v1 v2 : Value} {xs1 xs2 : List Value} (h1 : w.ownsRow l1 T1 s1 v1 n1 xs1) (h2 : w.ownsRow l2 T2 s2 v2 n2 xs2) (hT : T1 ≠ T2) : v1.ownBlock = none ∨ v1.ownBlock ≠ v2.ownBlock := by
  rcases h1.2 with ⟨rfl, _⟩ | ⟨g1, c1, cur1, rfl, _, hg1, _⟩
  · left; rfl
  · right
    rcases h2.2 with ⟨rfl, _⟩ | ⟨g2, c2, cur2, rfl, _, hg2, _⟩
    · simp [Value.ownBlock]
    · intro e
      simp only [Value.ownBlock, Option.some.injEq] at e
      subst e
      rw [hg1] at hg2
      simp only [Option.some.injEq, Obj.cells.injEq] at hg2
      exact hT hg2.2.1
section
variable {w w' : World} {lo hi n c m d : Nat} {p q : Option Addr} {parts : List ByteArray} {salts : List Int}
theorem ows_kept {α : Type} {E : En α} {T : TypeId} {xs : List α} {r : Option Nat} (h : OwS E T w lo hi p n c xs) (hg : w.grownBy w' r) (hne : (Value.slice p n c).ownBlock = none ∨ (Value.slice p n c).ownBlock ≠ r) : OwS E T w' lo hi p n c xs :=
  ⟨h.1.kept hg hne, h.2.1, Nat.le_trans h.2.2.1 hg.size, h.2.2.2⟩
theorem owi_kept {k : IntKind} {T : TypeId} {xs : List Int} {r : Option Nat} (h : Ow k T w lo hi p n c xs) (hg : w.grownBy w' r) (hne : (Value.slice p n c).ownBlock = none ∨ (Value.slice p n c).ownBlock ≠ r) : Ow k T w' lo hi p n c xs :=
  ⟨h.1.kept hg hne, h.2.1, Nat.le_trans h.2.2.1 hg.size, h.2.2.2⟩
end
/-- slices of the call's own in the blocks lo .. hi -/
def OwD (w : World) (lo hi : Nat) (p : Option Addr) (n c : Nat) (q : Option Addr) (m d : Nat) (parts : List ByteArray) (salts : List Int) : Prop :=
  lo ≤ hi ∧ OwS SlStr.E 9 w lo hi p n c parts ∧ Ow .i64 3 w lo hi q m d salts
section
variable {w w' : World} {lo hi n c m d : Nat} {p q : Option Addr} {parts : List ByteArray} {salts : List Int}
theorem OwD.rdS (h : OwD w lo hi p n c q m d parts salts) : RdS SlStr.E w p n parts := h.2.1.rd
theorem OwD.rdI (h : OwD w lo hi p n c q m d parts salts) : Rd .i64 w q m salts := h.2.2.rd
theorem OwD.size (h : OwD w lo hi p n c q m d parts salts) : lo ≤ hi ∧ hi ≤ w.heap.size := ⟨h.1, h.2.2.2.2.1⟩
theorem OwD.two {l u : Nat} (h : OwD w l u p n c q m d parts salts) (ht : Two lo hi w w') (hd : u ≤ lo ∨ hi ≤ l) : OwD w' l u p n c q m d parts salts :=
  ⟨h.1, two_str h.2.1 ht hd, two_int h.2.2 ht hd⟩
theorem OwD.kept {r : Option Nat} (h : OwD w lo hi p n c q m d parts salts) (hg : w.grownBy w' r) (hne : ∀ g, r = some g → g < lo ∨ hi ≤ g) : OwD w' lo hi p n c q m d parts salts :=
  ⟨h.1, h.2.1.kept hg hne, h.2.2.kept hg hne⟩
theorem OwD.below (h : OwD w lo hi p n c q m d parts salts) (hb : Below w.heap.size w w') : OwD w' lo hi p n c q m d parts salts := ⟨h.1, h.2.1.below hb, h.2.2.below hb⟩
theorem OwD.wide {l u : Nat} (h : OwD w lo hi p n c q m d parts salts) (h1 : l ≤ lo) (h2 : hi ≤ u) (h3 : u ≤ w.heap.size) : OwD w l u p n c q m d parts salts :=
  ⟨Nat.le_trans h1 (Nat.le_trans h.1 h2), h.2.1.wide h1 h2 h3, h.2.2.wide h1 h2 h3⟩
theorem OwD.none_ (w : World) (l : Nat) (h : l ≤ w.heap.size) : OwD w l l none 0 0 none 0 0 [] [] := ⟨Nat.le_refl _, OwS.nil_ _ _ _ _ h, Ow.nil_ _ _ _ _ h⟩
end
/-- The call answers a document with slices of its own; what lay before is as it was. -/
def GivesD (D : Dc) (w : World) (e : Ending) (w' : World) : Prop := ∃ (p : Option Addr) (n c : Nat) (q : Option Addr) (m d : Nat), e = .returned (.agg #[.int .i64 D.1, .slice p n c, .slice q m d]) ∧ OwD w' w.heap.size w'.heap.size p n c q m d D.2.1 D.2.2 ∧ Below w.heap.size w w'
/-- .. and b -/
def GivesDB (D : Dc) (b : Bool) (w : World) (e : Ending) (w' : World) : Prop := ∃ (p : Option Addr) (n c : Nat) (q : Option Addr) (m d : Nat), e = .returned (.tuple #[.agg #[.int .i64 D.1, .slice p n c, .slice q m d], .bool b]) ∧ OwD w' w.heap.size w'.heap.size p n c q m d D.2.1 D.2.2 ∧ Below w.heap.size w w'
theorem toD_any (t : Int) (p : Option Addr) (n c : Nat) (q : Option Addr) (m d : Nat) (parts : List ByteArray) (salts : List Int) (w : World) (hr : RdS SlStr.E w p n parts) (hs : Rd .i64 w q m salts) (hn : n ≤ 1048576) (hm : m ≤ 1048576) :
    Calls Try.prog 29 #[.agg #[.int .i64 t, .slice p n c, .slice q m d]] w (GivesD (t, parts, salts) w) := by
  refine (to2_any t p n c q m d parts salts w hr hs hn hm).mono ?_
  rintro e w' ⟨p1, n1, c1, q1, m1, d1, mid, rfl, h1, h2, h3, h4⟩
  exact ⟨p1, n1, c1, q1, m1, d1, rfl, ⟨h3.size, h1.wide (Nat.le_refl _) h1.2.2.1 (Nat.le_refl _), h2.wide h4 (Nat.le_refl _) (Nat.le_refl _)⟩, h3⟩

/-! ### marks -/
set_option maxRecDepth 100000 in
set_option maxHeartbeats 4000000 in
theorem markD_any (lo hi : Nat) (t : Int) (p : Option Addr) (n c : Nat) (q : Option Addr) (m d : Nat) (parts : List ByteArray) (salts : List Int) (k : Nat) (w : World) (ho : OwD w lo hi p n c q m d parts salts) (hk : 1 ≤ k) (hb : k + n + m ≤ 1000000000) :
    Calls Try.prog 34 #[.agg #[.int .i64 t, .slice p n c, .slice q m d], .int .i64 k] w fun e w' => e = .returned (.int .i64 ((k + n : Nat) + m)) ∧ OwD w' lo hi p n c q m d (tmarks k n) (marks Sl.intK ((k + n : Nat) : Int) m) ∧ Two lo hi w w' := by
  obtain ⟨l1, ho1, ho2⟩ := ho
  have HO1 := Lib.hid (ho1.alloc (.cells #[.int .i64 t, .slice p n c, .slice q m d] 27))
  have HO2 := Lib.hid (ho2.alloc (.cells #[.int .i64 t, .slice p n c, .slice q m d] 27))
  have HX := Lib.hid (Bx.new w 27 #[.int .i64 t, .slice p n c, .slice q m d])
  have HB := Lib.hid (box1 w (.cells #[.int .i64 t, .slice p n c, .slice q m d] 27))
  have hhi : hi ≤ w.heap.size := ho1.2.2.1
  clear ho1 ho2
  obtain ⟨x0, x1, x2⟩ := bx3 HX.out
  go_enter Try.func34, Try.ntmps34
  go_wp2_with fail
  refine (Mk.mark_any lo hi p n c parts k _ HO1.out hk (by omega)).mono ?_
  rintro e w1 ⟨rfl, h1, hg1⟩
  have HO1a := Lib.hid h1
  have HG1 := Lib.hid hg1
  have HO2a := Lib.hid (owi_kept HO2.out hg1 (own_ne HO2.out.1 HO1.out.1 (by decide)))
  have HXa := Lib.hid (HX.out.grown hg1 (fun e => by have := HO1.out.far _ e.symm; omega))
  clear h1 hg1 x0 x1 x2
  obtain ⟨x0, x1, x2⟩ := bx3 HXa.out
  rw [show ((k : Int) + (n : Int)) = ((k + n : Nat) : Int) by omega]
  go_wp2_with fail
  refine (SlI.mark_any lo hi q m d salts ((k + n : Nat) : Int) _ HO2a.out (by omega) (by omega)).mono ?_
  rintro e w2 ⟨rfl, h2, hg2⟩
  have HO2b := Lib.hid h2
  have HG2 := Lib.hid hg2
  have HO1b := Lib.hid (ows_kept HO1a.out hg2 (own_ne HO1a.out.1 HO2a.out.1 (by decide)))
  clear h2 hg2 x0 x1 x2
  go_wp2_with fail
  go_ret
  exact ⟨rfl, ⟨l1, HO1b.out, HO2b.out⟩, _, _, _, grown_pre HB.out HG1.out, HG2.out, HO1a.out.far, HO2b.out.far⟩
/-! ### copies -/
theorem emptyS (w : World) (lo : Nat) (h : lo ≤ w.heap.size) : OwS SlStr.E 9 (w.alloc (.cells #[] 9)) lo (w.alloc (.cells #[] 9)).heap.size (some ⟨w.heap.size, 0, none⟩) 0 0 [] :=
  lit_own SlStr.E 9 w lo [] #[] 0 rfl rfl (Nat.zero_le _) h
theorem emptyI (w : World) (lo : Nat) (h : lo ≤ w.heap.size) : Ow .i64 3 (w.alloc (.cells #[] 3)) lo (w.alloc (.cells #[] 3)).heap.size (some ⟨w.heap.size, 0, none⟩) 0 0 [] :=
  Ow.of_row (World.ownsRow_lit w #[] 0 h (by unfold maxLen; omega) rfl) (fun x hx => by cases hx)
/-- The call answers a new slice of ints; what lay before is as it was. -/
def MakesI (xs : List Int) (w : World) (e : Ending) (w' : World) : Prop := ∃ p n c, e = .returned (.slice p n c) ∧ Ow .i64 3 w' w.heap.size w'.heap.size p n c xs ∧ Below w.heap.size w w'
set_option maxRecDepth 100000 in
set_option maxHeartbeats 4000000 in
theorem cloneS_any (p : Option Addr) (n c : Nat) (xs : List ByteArray) (w : World) (hr : RdS SlStr.E w p n xs) (hn : n ≤ 1048576) : Calls Try.prog 50 #[.slice p n c] w (SlStr.Makes xs w) := by
  obtain ⟨i0, hi, hz0, hz1, hz2⟩ := info_parts SlStr.info
  have HR := Lib.hid hr
  have hl := hr.len
  have hle := hr.le
  have qT : ∀ (w : World) (a : Option Addr) (n c n' c' : Nat), (binOp .eql 24 (.slice a n c) (.slice none n' c')).run Try.prog w = .ok (.bool a.isNone) w := fun w a n c n' c' => Go.Lib.run_eql_slice_nil w _ _ a n c n' c' Try.underlying24
  rcases p with _ | p
  · have h0 : n = 0 := by
      rcases Nat.eq_zero_or_pos n with h0 | h0
      · exact h0
      · obtain ⟨_, _, e, _⟩ := hr.2.2 h0
        cases e
    subst h0
    have hx : xs = [] := List.eq_nil_of_length_eq_zero hl
    subst hx
    clear hr
    go_enter Try.func50, Try.ntmps50
    go_wp2_with fail
    go_ret
    exact ⟨none, 0, 0, rfl, OwS.nil_ _ _ _ _ (Nat.le_refl _), Below.refl _ _⟩
  · clear hr
    have HE := Lib.hid (emptyS w w.heap.size (Nat.le_refl _))
    go_enter Try.func50, Try.ntmps50
    go_wp2_with (at_builtin; refine wpList_appS rfl (.tmp 5) (.tmp 6) 24 rfl i0 _ 16 Try.underlying24 hi hz0 hz1 hz2 rfl rfl HE.out (some p) n c xs rfl (HR.out.alloc _) (by simp) (by omega) (by omega) ?_; intro p3 c3 w3 how3 hg3; rw [Nat.zero_add, List.nil_append] at how3; have HW3 := Lib.hid how3; have HG3 := Lib.hid hg3; clear how3 hg3)
    go_ret
    exact ⟨_, _, _, rfl, HW3.out, ((Below.refl w.heap.size w).alloc (Nat.le_refl _) _).trans (HE.out.below_row HG3.out (by simp))⟩
set_option maxRecDepth 100000 in
set_option maxHeartbeats 4000000 in
theorem cloneI_any (p : Option Addr) (n c : Nat) (xs : List Int) (w : World) (hr : Rd .i64 w p n xs) (hn : n ≤ 1048576) : Calls Try.prog 59 #[.slice p n c] w (MakesI xs w) := by
  obtain ⟨i0, hi, hz0, hz1, hz2⟩ := info_parts SlI.info
  have HR := Lib.hid hr
  have hl := hr.len
  have hle := hr.le
  have qT : ∀ (w : World) (a : Option Addr) (n c n' c' : Nat), (binOp .eql 25 (.slice a n c) (.slice none n' c')).run Try.prog w = .ok (.bool a.isNone) w := fun w a n c n' c' => Go.Lib.run_eql_slice_nil w _ _ a n c n' c' Try.underlying25
  rcases p with _ | p
  · have h0 : n = 0 := by
      rcases Nat.eq_zero_or_pos n with h0 | h0
      · exact h0
      · obtain ⟨_, _, e, _⟩ := hr.2.2.2 h0
        cases e
    subst h0
    have hx : xs = [] := List.eq_nil_of_length_eq_zero hl
    subst hx
    clear hr
    go_enter Try.func59, Try.ntmps59
    go_wp2_with fail
    go_ret
    exact ⟨none, 0, 0, rfl, Ow.nil_ _ _ _ _ (Nat.le_refl _), Below.refl _ _⟩
  · clear hr
    have HE := Lib.hid (emptyI w w.heap.size (Nat.le_refl _))
    go_enter Try.func59, Try.ntmps59
    go_wp2_with (at_builtin; refine wpList_appR rfl (.tmp 5) (.tmp 6) 25 rfl i0 _ 8 Try.underlying25 hi hz0 hz1 hz2 rfl rfl HE.out (some p) n c xs rfl (HR.out.alloc _) (by simp) (by omega) (by omega) ?_; intro p3 c3 w3 how3 hg3; rw [Nat.zero_add, List.nil_append] at how3; have HW3 := Lib.hid how3; have HG3 := Lib.hid hg3; clear how3 hg3)
    go_ret
    exact ⟨_, _, _, rfl, HW3.out, ((Below.refl w.heap.size w).alloc (Nat.le_refl _) _).trans (HE.out.below_row HG3.out (by simp))⟩
/-- the world behind a document's box and the result's -/
def cbx (t : Int) (p : Option Addr) (n c : Nat) (q : Option Addr) (m d : Nat) (w : World) : World := (w.alloc (.cells #[.int .i64 t, .slice p n c, .slice q m d] 27)).alloc (.cells #[.int .i64 0, .slice none 0 0, .slice none 0 0] 27)
theorem cbx_def (t : Int) (p : Option Addr) (n c : Nat) (q : Option Addr) (m d : Nat) (w : World) : (w.alloc (.cells #[.int .i64 t, .slice p n c, .slice q m d] 27)).alloc (.cells #[.int .i64 0, .slice none 0 0, .slice none 0 0] 27) = cbx t p n c q m d w := rfl
theorem cbx_at (t : Int) (p : Option Addr) (n c : Nat) (q : Option Addr) (m d : Nat) (w : World) : Bx (cbx t p n c q m d w) w.heap.size 27 #[.int .i64 t, .slice p n c, .slice q m d] ∧ Bx (cbx t p n c q m d w) (w.heap.size + 1) 27 #[.int .i64 0, .slice none 0 0, .slice none 0 0] ∧ Below w.heap.size w (cbx t p n c q m d w) ∧ (cbx t p n c q m d w).heap.size = w.heap.size + 2 := by
  have b0 := (Bx.new w 27 #[.int .i64 t, .slice p n c, .slice q m d]).alloc (.cells #[.int .i64 0, .slice none 0 0, .slice none 0 0] 27)
  have b1 := Bx.new (w.alloc (.cells #[.int .i64 t, .slice p n c, .slice q m d] 27)) 27 #[.int .i64 0, .slice none 0 0, .slice none 0 0]
  rw [World.size_alloc] at b1
  exact ⟨b0, b1, ((Below.refl w.heap.size w).alloc (Nat.le_refl _) _).alloc (by simp) _, by simp [cbx]⟩
/-- a box stored whole -/
theorem set3_grown (w : World) (g : Nat) (a b c : Value) : w.grownBy (((w.setCell ⟨g, 0, none⟩ a).setCell ⟨g, 1, none⟩ b).setCell ⟨g, 2, none⟩ c) (some g) :=
  grown_more (grown_more (grown_set g 0 a) rfl 1 b) rfl 2 c
theorem set3_box {w : World} {g : Nat} {T : TypeId} {x y z : Value} (h : Bx w g T #[x, y, z]) (a b c : Value) : Bx (((w.setCell ⟨g, 0, none⟩ a).setCell ⟨g, 1, none⟩ b).setCell ⟨g, 2, none⟩ c) g T #[a, b, c] := ((h.set_ 0 a).set_ 1 b).set_ 2 c
set_option maxRecDepth 100000 in
set_option maxHeartbeats 4000000 in
theorem copyD_any (t : Int) (p : Option Addr) (n c : Nat) (q : Option Addr) (m d : Nat) (parts : List ByteArray) (salts : List Int) (w : World) (hr : RdS SlStr.E w p n parts) (hs : Rd .i64 w q m salts) (hn : n ≤ 1048576) (hm : m ≤ 1048576) :
    Calls Try.prog 48 #[.agg #[.int .i64 t, .slice p n c, .slice q m d]] w (GivesD (t, parts, salts) w) := by
  obtain ⟨b0, b1, bb, bs⟩ := cbx_at t p n c q m d w
  have HP := Lib.hid hr
  have HQ := Lib.hid hs
  have HX := Lib.hid b0.drew1
  have HR := Lib.hid b1.drew1
  have HB : Hid (Below w.heap.size w (cbx t p n c q m d w).drew) := Lib.hid (below_drewN bb 1)
  clear hr hs b0 b1 bb
  obtain ⟨x0, x1, x2⟩ := bx3 HX.out
  go_enter Try.func48, Try.ntmps48
  go_wp2_with fail
  rw [cbx_def]
  go_region_held3 (fun w' => w'.cell? ⟨w.heap.size, 0, none⟩ = some (.int .i64 t) ∧ w'.cell? ⟨w.heap.size, 1, none⟩ = some (.slice p n c) ∧ w'.cell? ⟨w.heap.size, 2, none⟩ = some (.slice q m d)) (first | exact bx3 HX2.out | exact bx3 HX1.out | exact bx3 HX.out | go_keep) (first
    | (go_at_call 50; refine (cloneS_any _ _ _ parts _ (HP.out.below HB.out) hn).mono ?_; rintro e w1 ⟨p1, n1, c1, rfl, ho1, hb1⟩; have HO1 := Lib.hid ho1; have HB1 := Lib.hid (below_on HB.out hb1); have HX1 := Lib.hid (HX.out.below hb1); have HR1 := Lib.hid (HR.out.below hb1); have hs1 := hb1.size; clear hb1 ho1)
    | (go_at_call 59; refine (cloneI_any _ _ _ salts _ (HQ.out.below HB1.out) hm).mono ?_; rintro e w2 ⟨p2, n2, c2, rfl, ho2, hb2⟩; have HO2 := Lib.hid ho2; have HB2 := Lib.hid (below_on HB1.out hb2); have HR2 := Lib.hid (HR1.out.below hb2); have HX2 := Lib.hid (HX1.out.below hb2); have HO1a := Lib.hid (HO1.out.below hb2); have hs2 := hb2.size; clear hb2 ho2; have f0 := HR2.out.free 0; have f1 := HR2.out.free 1; have f2 := HR2.out.free 2; obtain ⟨z0, z1, z2⟩ := bx3 HR2.out))
  have hG := set3_grown w2 (w.heap.size + 1) (.int .i64 t) (.slice p1 n1 c1) (.slice p2 n2 c2)
  obtain ⟨r0, r1, r2⟩ := bx3 (set3_box HR2.out (.int .i64 t) (.slice p1 n1 c1) (.slice p2 n2 c2))
  have hs0 : (cbx t p n c q m d w).drew.heap.size = w.heap.size + 2 := bs
  have HF := Lib.hid (show OwD _ w.heap.size w2.heap.size p1 n1 c1 p2 n2 c2 parts salts from ⟨by omega, (HO1a.out.kept hG (fun g e => by cases e; omega)).wide (by omega) hs2 hG.size, (HO2.out.kept hG (fun g e => by cases e; omega)).wide (by omega) (Nat.le_refl _) hG.size⟩)
  have HFB := Lib.hid (HB2.out.grown hG HB2.out.size (fun g e => by cases e; omega))
  have hsz : w2.heap.size ≤ (((w2.setCell ⟨w.heap.size + 1, 0, none⟩ (.int .i64 t)).setCell ⟨w.heap.size + 1, 1, none⟩ (.slice p1 n1 c1)).setCell ⟨w.heap.size + 1, 2, none⟩ (.slice p2 n2 c2)).heap.size := hG.size
  clear hG z0 z1 z2 f0 f1 f2 x0 x1 x2
  go_wp2_with fail
  exact bodyPost_ret (v := .agg #[.int .i64 t, .slice p1 n1 c1, .slice p2 n2 c2]) (by simp [results, Try.results48, go_sem, r0, r1, r2]) rfl ⟨p1, n1, c1, p2, n2, c2, rfl, HF.out.wide (Nat.le_refl _) hsz (Nat.le_refl _), HFB.out⟩
end Go.Proofs.Ytjlckfbacphblaa.Dt
