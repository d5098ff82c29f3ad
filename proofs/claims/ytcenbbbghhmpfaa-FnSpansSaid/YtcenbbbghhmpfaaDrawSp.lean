/- The reference's draws of chapter 4: times, spans. -/
import Derived.Test.YtcenbbbghhmpfaaDrawBy
import Derived.Test.YtcenbbbghhmpfaaJo
namespace Go.Proofs.Ytcenbbbghhmpfaa.Cur
open Go.ChangeShapes Go.WideShapes Go.ChangeAt Go.RowKit Sl St Jn SlSpan Jo

set_option maxHeartbeats 1000000 in
theorem raw4_any (g : Nat) (w : World) (hc : Cur g w) : Calls Try.prog 72 #[.pointer (some ⟨g, 0, none⟩)] w (Gives g w isInt) := by
  have HC := Lib.hid hc
  clear hc
  go_enter Try.func72, Try.ntmps72
  go_wp2_with fail
  refine (once_any g 6 _ HC.out (by decide)).mono ?_
  rintro e w1 ⟨b, rfl, hc1, hg1⟩
  have HC1 := Lib.hid hc1
  have HG1 := Lib.hid hg1
  clear hc1 hg1
  cases b
  · go_wp2_with fail
    refine (below_any g 40 _ HC1.out (by decide)).mono ?_
    rintro e w3 ⟨y, rfl, ⟨y0, y1, _⟩, hc3, hg3⟩
    have HC3 := Lib.hid hc3
    have HG3 := Lib.hid hg3
    have y2 : y ≤ 39 := by omega
    clear hc3 hg3 y1
    go_wp2_with fail
    go_ret
    exact ⟨_, rfl, ⟨by omega, by omega⟩, HC3.out, only_trans HG1.out HG3.out⟩
  · go_wp2_with fail
    refine (int_lit g [-1, 0, 10000, 10001, 9223372036854775807, -9223372036854775808] _ HC1.out (by decide) (by decide)).mono ?_
    rintro e w3 ⟨x, rfl, hx, hc3, hg3⟩
    have HX := Lib.hid hx
    have HC3 := Lib.hid hc3
    have HG3 := Lib.hid hg3
    clear hx hc3 hg3
    go_wp2_with fail
    go_ret
    refine ⟨_, rfl, ?_, HC3.out, only_trans HG1.out HG3.out⟩
    have h := HX.out
    simp only [List.mem_cons, List.not_mem_nil, or_false] at h
    unfold isInt
    omega
/-- The call answers a span with both numbers in the range; the cursor's block alone has turned. -/
def GivesP (g : Nat) (w : World) (P : Int → Prop) (e : Ending) (w' : World) : Prop := ∃ x y : Int, e = .returned (.agg #[.int .i64 x, .int .i64 y]) ∧ P x ∧ P y ∧ Cur g w' ∧ w.grownBy w' (some g)
/-- the result's box is stored -/
theorem boxed {g G : Nat} {w w2 : World} (hc : Cur g w2) (hg : w.grownBy w2 (some g)) (hlt : g < G) (hG : w.heap.size ≤ G) (u v : Value) : Cur g ((w2.setCell ⟨G, 0, none⟩ u).setCell ⟨G, 1, none⟩ v) ∧ w.grownBy ((w2.setCell ⟨G, 0, none⟩ u).setCell ⟨G, 1, none⟩ v) (some g) :=
  ⟨hc.keep (grown_set2 (Below.refl _ _) G 0 1 u v) (fun k e => by cases e; exact hlt), only_setCell (only_setCell hg (Or.inr hG) u) (Or.inr hG) v⟩
set_option maxHeartbeats 1000000 in
theorem draw4_any (g : Nat) (w : World) (hc : Cur g w) : Calls Try.prog 99 #[.pointer (some ⟨g, 0, none⟩)] w (GivesP g w fun x => 0 ≤ x ∧ x ≤ 40) := by
  have hlt := hc.lt
  have HC := Lib.hid (hc.on (below_alloc w (.cells #[.int .i64 0, .int .i64 0] 28)))
  have HG := Lib.hid (only_alloc (only_refl w (some g)) (.cells #[.int .i64 0, .int .i64 0] 28))
  have HX := Lib.hid (Bx.new w 28 #[.int .i64 0, .int .i64 0])
  have hne : some w.heap.size ≠ some g := by simp; omega
  clear hc
  go_enter Try.func99, Try.ntmps99
  go_wp2_with fail
  refine (below_any g 30 _ HC.out (by decide)).mono ?_
  rintro e w1 ⟨x, rfl, ⟨x0, x1, _⟩, hc1, hg1⟩
  have HC1 := Lib.hid hc1
  have HG1 := Lib.hid (only_trans HG.out hg1)
  have HX1 := Lib.hid (HX.out.grown hg1 hne)
  have x2 : x ≤ 29 := by omega
  clear hc1 hg1 x1
  obtain ⟨q0, q1, q2, q3⟩ := HX1.out.two
  go_wp2_with fail
  refine (below_any g 12 _ HC1.out (by decide)).mono ?_
  rintro e w2 ⟨y, rfl, ⟨y0, y1, _⟩, hc2, hg2⟩
  have HC2 := Lib.hid hc2
  have HG2 := Lib.hid (only_trans HG1.out hg2)
  have HX2 := Lib.hid (HX1.out.grown hg2 hne)
  have y2 : y ≤ 11 := by omega
  clear hc2 hg2 y1 q0 q1 q2 q3
  obtain ⟨q0, q1, q2, q3⟩ := HX2.out.two
  go_wp2_with fail
  exact bodyPost_ret (v := .agg #[.int .i64 x, .int .i64 (x + y)]) (by simp [results, Try.results99, go_sem, q0, q1]) rfl ⟨_, _, rfl, ⟨by omega, by omega⟩, ⟨by omega, by omega⟩, boxed HC2.out HG2.out hlt (Nat.le_refl _) _ _⟩
set_option maxHeartbeats 1000000 in
theorem any4_any (g : Nat) (w : World) (hc : Cur g w) : Calls Try.prog 70 #[.pointer (some ⟨g, 0, none⟩)] w (GivesP g w isInt) := by
  have hlt := hc.lt
  have HC := Lib.hid (hc.on (below_alloc w (.cells #[.int .i64 0, .int .i64 0] 28)))
  have HG := Lib.hid (only_alloc (only_refl w (some g)) (.cells #[.int .i64 0, .int .i64 0] 28))
  have HX := Lib.hid (Bx.new w 28 #[.int .i64 0, .int .i64 0])
  have hne : some w.heap.size ≠ some g := by simp; omega
  clear hc
  go_enter Try.func70, Try.ntmps70
  go_wp2_with fail
  refine (draw4_any g _ HC.out).mono ?_
  rintro e w1 ⟨x, y, rfl, ⟨x0, x1⟩, ⟨y0, y1⟩, hc1, hg1⟩
  have HC1 := Lib.hid hc1
  have HG1 := Lib.hid (only_trans HG.out hg1)
  have HX1 := Lib.hid (HX.out.grown hg1 hne)
  clear hc1 hg1
  obtain ⟨q0, q1, q2, q3⟩ := HX1.out.two
  go_wp2_with fail
  have HC1a := Lib.hid (HC1.out.on (below_alloc w1 (.cells #[.int .i64 x, .int .i64 y] 28)))
  have HG1a := Lib.hid (only_alloc HG1.out (.cells #[.int .i64 x, .int .i64 y] 28))
  have HX1a := Lib.hid (HX1.out.alloc (.cells #[.int .i64 x, .int .i64 y] 28))
  have HZ1 := Lib.hid (Bx.new w1 28 #[.int .i64 x, .int .i64 y])
  have hlt1 : w.heap.size < w1.heap.size := HX1.out.lt
  have hne1 : some w1.heap.size ≠ some g := by simp; omega
  refine (below_any g 8 _ HC1a.out (by decide)).mono ?_
  rintro e w2 ⟨k, rfl, ⟨k0, k1, _⟩, hc2, hg2⟩
  have HC2 := Lib.hid hc2
  have HG2 := Lib.hid (only_trans HG1a.out hg2)
  have HX2 := Lib.hid (HX1a.out.grown hg2 hne)
  have HZ2 := Lib.hid (HZ1.out.grown hg2 hne1)
  clear hc2 hg2 k1 q0 q1 q2 q3
  rcases (show k = 0 ∨ k = 1 ∨ (k ≠ 0 ∧ k ≠ 1) by omega) with rfl | rfl | ⟨hk0, hk1⟩
  · go_wp2_with fail
    refine (raw4_any g _ HC2.out).mono ?_
    rintro e w3 ⟨r, rfl, hr, hc3, hg3⟩
    have HRr := Lib.hid hr
    have HC3 := Lib.hid hc3
    have HG3 := Lib.hid (only_trans HG2.out hg3)
    have HX3 := Lib.hid (HX2.out.grown hg3 hne)
    have HZ3 := Lib.hid (HZ2.out.grown hg3 hne1)
    have hne2 : w.heap.size ≠ w1.heap.size := by omega
    have HX4 := Lib.hid (HX3.out.far (q := ⟨w1.heap.size, 0, none⟩) hne2 (.int .i64 r))
    have HC4 := Lib.hid (HC3.out.keep (only_setCell (only_refl w3 (some w1.heap.size)) (p := ⟨w1.heap.size, 0, none⟩) (Or.inl rfl) (.int .i64 r)) (fun k e => by cases e; omega))
    have HG4 := Lib.hid (only_setCell HG3.out (p := ⟨w1.heap.size, 0, none⟩) (Or.inr (Nat.le_of_lt hlt1)) (.int .i64 r))
    clear hr hc3 hg3
    obtain ⟨q0, q1, q2, q3⟩ := HX3.out.two
    obtain ⟨z0, z1, z2, z3⟩ := HZ3.out.two
    go_wp2_with fail
    exact bodyPost_ret (v := .agg #[.int .i64 r, .int .i64 y]) (by simp [results, Try.results70, go_sem, q0, q1]) rfl ⟨_, _, rfl, HRr.out, ⟨by omega, by omega⟩, boxed HC4.out HG4.out hlt (Nat.le_refl _) _ _⟩
  · go_wp2_with fail
    refine (raw4_any g _ HC2.out).mono ?_
    rintro e w3 ⟨r, rfl, hr, hc3, hg3⟩
    have HRr := Lib.hid hr
    have HC3 := Lib.hid hc3
    have HG3 := Lib.hid (only_trans HG2.out hg3)
    have HX3 := Lib.hid (HX2.out.grown hg3 hne)
    have HZ3 := Lib.hid (HZ2.out.grown hg3 hne1)
    have hne2 : w.heap.size ≠ w1.heap.size := by omega
    have HX4 := Lib.hid (HX3.out.far (q := ⟨w1.heap.size, 1, none⟩) hne2 (.int .i64 r))
    have HC4 := Lib.hid (HC3.out.keep (only_setCell (only_refl w3 (some w1.heap.size)) (p := ⟨w1.heap.size, 1, none⟩) (Or.inl rfl) (.int .i64 r)) (fun k e => by cases e; omega))
    have HG4 := Lib.hid (only_setCell HG3.out (p := ⟨w1.heap.size, 1, none⟩) (Or.inr (Nat.le_of_lt hlt1)) (.int .i64 r))
    clear hr hc3 hg3
    obtain ⟨q0, q1, q2, q3⟩ := HX3.out.two
    obtain ⟨z0, z1, z2, z3⟩ := HZ3.out.two
    go_wp2_with fail
    exact bodyPost_ret (v := .agg #[.int .i64 x, .int .i64 r]) (by simp [results, Try.results70, go_sem, q0, q1]) rfl ⟨_, _, rfl, ⟨by omega, by omega⟩, HRr.out, boxed HC4.out HG4.out hlt (Nat.le_refl _) _ _⟩
  · obtain ⟨q0, q1, q2, q3⟩ := HX2.out.two
    obtain ⟨z0, z1, z2, z3⟩ := HZ2.out.two
    go_wp2_with fail
    exact bodyPost_ret (v := .agg #[.int .i64 x, .int .i64 y]) (by simp [results, Try.results70, go_sem, q0, q1]) rfl ⟨_, _, rfl, ⟨by omega, by omega⟩, ⟨by omega, by omega⟩, boxed HC2.out HG2.out hlt (Nat.le_refl _) _ _⟩
/-- on the way: some spans -/
def SpMid (g m : Nat) (p : Option Addr) (c : Nat) (w wr : World) : Prop :=
  ∃ zs, OwS E 28 wr w.heap.size wr.heap.size p m c zs ∧ (∀ z ∈ zs, isInt z.1 ∧ isInt z.2) ∧ Cur g wr ∧ w.grownBy wr (some g)
theorem SpMid.word {g m c : Nat} {p : Option Addr} {w wr w1 : World} (h : SpMid g m p c w wr) (hlt : g < w.heap.size) (hc : Cur g w1) (hg : wr.grownBy w1 (some g)) : SpMid g m p c w w1 := by
  obtain ⟨zs, ho, hz, _, h1⟩ := h
  exact ⟨zs, (ho.kept hg (fun k e => by cases e; exact Or.inl hlt)).wide (Nat.le_refl _) hg.size (Nat.le_refl _), hz, hc, only_trans h1 hg⟩
theorem SpMid.app {g m c c2 : Nat} {p p2 : Option Addr} {zs : List Sp} {x : Sp} {w wr w2 : World} {o : Obj} (ho : OwS E 28 wr w.heap.size wr.heap.size p m c zs) (hz : ∀ z ∈ zs, isInt z.1 ∧ isInt z.2) (hx : isInt x.1 ∧ isInt x.2) (h : Cur g wr) (hg : w.grownBy wr (some g)) (hlt : g < w.heap.size)
    (how : OwS E 28 w2 w.heap.size w2.heap.size p2 (m + 1) c2 (zs ++ [x])) (hg2 : (wr.alloc o).grownBy w2 (Value.slice p m c).ownBlock) : SpMid g (m + 1) p2 c2 w w2 := by
  have hfar := ho.far
  refine ⟨zs ++ [x], how, fun z hz' => ?_, (h.keep (only_alloc (only_refl _ none) o) (fun _ e => by cases e)).keep hg2 (fun k e => by have := hfar k e; omega), only_far (only_alloc hg o) hg2 (fun k e => (hfar k e).1)⟩
  rcases List.mem_append.1 hz' with h1 | h1
  · exact hz z h1
  · rw [List.mem_singleton] at h1
    rw [h1]
    exact hx
/-- The call answers at most four spans of its own; the cursor stands on; its block alone has turned. -/
def GivesSs (g : Nat) (w : World) (e : Ending) (w' : World) : Prop :=
  ∃ p n c zs, e = .returned (.slice p n c) ∧ OwS E 28 w' w.heap.size w'.heap.size p n c zs ∧ n ≤ 4 ∧ (∀ z ∈ zs, isInt z.1 ∧ isInt z.2) ∧ Cur g w' ∧ w.grownBy w' (some g)
set_option maxHeartbeats 1000000 in
theorem list4_any (g : Nat) (w : World) (hc : Cur g w) : Calls Try.prog 60 #[.pointer (some ⟨g, 0, none⟩)] w (GivesSs g w) := by
  obtain ⟨i0, hi, hz0, hz1, hz2⟩ := info_parts info
  have hlt := hc.lt
  have HC := Lib.hid (hc.keep (only_alloc (only_refl _ none) (.cells #[] 28)) (fun _ e => by cases e))
  clear hc
  go_enter Try.func60, Try.ntmps60
  go_wp2_with fail
  refine (below_any g 5 _ HC.out (by decide)).mono ?_
  rintro e w1 ⟨x, rfl, ⟨x0, x1, _⟩, hc1, hg1⟩
  obtain ⟨k, rfl⟩ := Int.eq_ofNat_of_zero_le x0
  have hk : k ≤ 4 := by omega
  have HM : Hid (SpMid g 0 (some ⟨w.heap.size, 0, none⟩) 0 w w1) := Lib.hid ⟨[], ((empty_own 28 w w.heap.size (Nat.le_refl _)).kept hg1 (fun k e => by cases e; exact Or.inl hlt)).wide (Nat.le_refl _) hg1.size (Nat.le_refl _), fun _ h => (by cases h), hc1, only_trans (only_alloc (only_refl w _) _) hg1⟩
  clear hc1 hg1 x1
  go_wp2_with fail
  go_loopw [3, 4] (fun b i wr => ∃ (j m c' : Nat) (p' : Option Addr), j + m ≤ 4 ∧ i = .int .i64 j ∧ b = .slice p' m c' ∧ Hid (SpMid g m p' c' w wr)) (fun _ i _ => (intOf i).toNat)
  case atStart => exact ⟨k, 0, _, _, by omega, rfl, rfl, HM⟩
  case round =>
    obtain ⟨j, m, c', p', hj, rfl, rfl, HK⟩ := hrel
    by_cases hj0 : 0 < j
    · obtain ⟨_, _, _, hcur, _⟩ := HK.out
      have HCr := Lib.hid hcur
      clear hcur
      go_wp2_with fail
      refine (any4_any _ _ HCr.out).mono ?_
      rintro e w2 ⟨x, y, rfl, hx, hy, hc2, hg2⟩
      have HK2 := Lib.hid (HK.out.word hlt hc2 hg2)
      clear hc2 hg2
      obtain ⟨zs, ho, hz, hc3, hg3⟩ := HK2.out
      have HO := Lib.hid ho
      have HZ := Lib.hid hz
      have HC3 := Lib.hid hc3
      have HG3 := Lib.hid hg3
      have hs3 := hg3.size
      have HX : Hid (isInt (x, y).1 ∧ isInt (x, y).2) := Lib.hid ⟨hx, hy⟩
      clear ho hz hc3 hg3 hx hy
      go_wp2_with (at_builtin; refine wpList_appS rfl (.tmp 12) (.tmp 15) 24 rfl i0 _ 16 Try.underlying24 hi hz0 hz1 hz2 rfl rfl (HO.out.alloc _) (some ⟨w2.heap.size, 0, none⟩) 1 1 [(x, y)] rfl (one_own _ w2 0 (x, y) (Nat.zero_le _)).rd (by simp; omega) (by omega) (by omega) ?_; intro p4 c4 w4 how4 hg4; have HK4 := Lib.hid (SpMid.app HO.out HZ.out HX.out HC3.out HG3.out hlt how4 hg4); clear how4 hg4)
      refine ⟨⟨j - 1, m + 1, _, _, by omega, by go_num, rfl, HK4⟩, by simp [intOf]; omega⟩
    · go_wp2_with fail
      go_ret
      obtain ⟨zs, ho, hz, hc, hg⟩ := HK.out
      exact ⟨_, _, _, _, rfl, ho, by omega, hz, hc, hg⟩
/-- a drawn list -/
def SpL (zs : List Sp) (n : Nat) : Prop := n ≤ 4 ∧ ∀ z ∈ zs, isInt z.1 ∧ isInt z.2
set_option maxHeartbeats 1000000 in
theorem drawJoin_any (v : Value) (n : Nat) (w : World) (hc : Code v n w) : Calls Try.prog 15 #[v] w fun e w' => ∃ p m c zs, e = .returned (.slice p m c) ∧ RdS E w' p m zs ∧ SpL zs m ∧ Below w.heap.size w w' := by
  have HC := Lib.hid hc
  clear hc
  go_enter Try.func15, Try.ntmps15
  go_wp2_with fail
  refine (new_any v n _ HC.out).mono ?_
  rintro e w1 ⟨rfl, hc1, hb1⟩
  have HC1 := Lib.hid hc1
  have HB1 := Lib.hid hb1
  clear hc1 hb1
  go_wp2_with fail
  refine (list4_any _ _ HC1.out).mono ?_
  rintro e w2 ⟨p2, n2, c2, zs2, rfl, ho, hn2, hz, hc, hg⟩
  have HO2 := Lib.hid ho.rd
  have HZ2 := Lib.hid hz
  have HC2 := Lib.hid hc
  have HB2 := Lib.hid (below_g HB1.out hg)
  have HG2 := Lib.hid hg
  have HF2 := Lib.hid ho.form
  have hl2 := HC1.out.lt
  have hs2 := HB1.out.size
  clear ho hz hc hg
  go_wp2_with fail
  go_ret
  exact ⟨_, _, _, _, rfl, HO2.out, ⟨hn2, HZ2.out⟩, HB2.out⟩
set_option maxHeartbeats 1000000 in
theorem drawMeet_any (v : Value) (n : Nat) (w : World) (hc : Code v n w) : Calls Try.prog 20 #[v] w fun e w' => ∃ p m c zs p' m' c' zs', e = .returned (.tuple #[.slice p m c, .slice p' m' c']) ∧ RdS E w' p m zs ∧ RdS E w' p' m' zs' ∧ SpL zs m ∧ SpL zs' m' ∧ Below w.heap.size w w' := by
  have HC := Lib.hid hc
  clear hc
  go_enter Try.func20, Try.ntmps20
  go_wp2_with fail
  refine (new_any v n _ HC.out).mono ?_
  rintro e w1 ⟨rfl, hc1, hb1⟩
  have HC1 := Lib.hid hc1
  have HB1 := Lib.hid hb1
  clear hc1 hb1
  go_wp2_with fail
  refine (list4_any _ _ HC1.out).mono ?_
  rintro e w2 ⟨p2, n2, c2, zs2, rfl, ho, hn2, hz, hc, hg⟩
  have HO2 := Lib.hid ho.rd
  have HZ2 := Lib.hid hz
  have HC2 := Lib.hid hc
  have HB2 := Lib.hid (below_g HB1.out hg)
  have HG2 := Lib.hid hg
  have HF2 := Lib.hid ho.form
  have hl2 := HC1.out.lt
  have hs2 := HB1.out.size
  clear ho hz hc hg
  go_wp2_with fail
  refine (list4_any _ _ HC2.out).mono ?_
  rintro e w3 ⟨p3, n3, c3, zs3, rfl, ho, hn3, hz, hc, hg⟩
  have HO3 := Lib.hid ho.rd
  have HZ3 := Lib.hid hz
  have HC3 := Lib.hid hc
  have HB3 := Lib.hid (below_g HB2.out hg)
  have HG3 := Lib.hid hg
  have hs3 := HB2.out.size
  clear ho hz hc hg
  go_wp2_with fail
  go_ret2
  refine ⟨_, _, _, _, _, _, _, _, rfl, HO2.out.grown HG3.out (fun b o e hh => ?_), HO3.out, ⟨hn2, HZ2.out⟩, ⟨hn3, HZ3.out⟩, HB3.out⟩
  rcases HF2.out with ⟨h1, _⟩ | ⟨g', h1, h2, _⟩
  · rw [h1] at e; cases e
  · rw [h1] at e
    simp only [Option.some.injEq, Addr.mk.injEq, and_true] at e hh
    omega
set_option maxHeartbeats 1000000 in
theorem drawMake_any (v : Value) (n : Nat) (w : World) (hc : Code v n w) : Calls Try.prog 26 #[v] w fun e w' => ∃ x y : Int, e = .returned (.tuple #[.int .i64 x, .int .i64 y]) ∧ isInt x ∧ isInt y ∧ Below w.heap.size w w' := by
  have HC := Lib.hid hc
  clear hc
  go_enter Try.func26, Try.ntmps26
  go_wp2_with fail
  refine (new_any v n _ HC.out).mono ?_
  rintro e w1 ⟨rfl, hc1, hb1⟩
  have HC1 := Lib.hid hc1
  have HB1 := Lib.hid hb1
  clear hc1 hb1
  go_wp2_with fail
  refine (raw4_any _ _ HC1.out).mono ?_
  rintro e w2 ⟨x2, rfl, hx, hc, hg⟩
  have HX2 := Lib.hid hx
  have HC2 := Lib.hid hc
  have HB2 := Lib.hid (below_g HB1.out hg)
  clear hx hc hg
  go_wp2_with fail
  refine (raw4_any _ _ HC2.out).mono ?_
  rintro e w3 ⟨x3, rfl, hx, hc, hg⟩
  have HX3 := Lib.hid hx
  have HC3 := Lib.hid hc
  have HB3 := Lib.hid (below_g HB2.out hg)
  clear hx hc hg
  go_wp2_with fail
  go_ret2
  exact ⟨_, _, rfl, HX2.out, HX3.out, HB3.out⟩
end Go.Proofs.Ytcenbbbghhmpfaa.Cur
