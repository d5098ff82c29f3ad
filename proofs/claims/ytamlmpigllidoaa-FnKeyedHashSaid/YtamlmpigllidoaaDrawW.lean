/- The reference's draws of chapter 3: keys, texts, lists of numbers. -/
import Derived.Test.YtamlmpigllidoaaDrawBy
import Derived.Test.YtamlmpigllidoaaSlI
namespace Go.Proofs.Ytamlmpigllidoaa.Cur
open Go.ChangeShapes Go.WideShapes Go.ChangeAt Go.RowKit Sl

/-- a number that a key or a value can be: far from the ends of int -/
def isWord (x : Int) : Prop := -1 ≤ x ∧ x ≤ 2147483648
theorem isWord.isInt {x : Int} (h : isWord x) : isInt x := ⟨by have := h.1; omega, by have := h.2; omega⟩
set_option maxHeartbeats 1000000 in
theorem word_any (g : Nat) (w : World) (hc : Cur g w) : Calls Try.prog 55 #[.pointer (some ⟨g, 0, none⟩)] w (Gives g w isWord) := by
  have HC := Lib.hid hc
  clear hc
  go_enter Try.func55, Try.ntmps55
  go_wp2_with fail
  refine (once_any g 10 _ HC.out (by decide)).mono ?_
  rintro e w1 ⟨b, rfl, hc1, hg1⟩
  have HC1 := Lib.hid hc1
  have HG1 := Lib.hid hg1
  clear hc1 hg1
  cases b
  · go_wp2_with fail
    refine (once_any g 4 _ HC1.out (by decide)).mono ?_
    rintro e w2 ⟨b, rfl, hc2, hg2⟩
    have HC2 := Lib.hid hc2
    have HG2 := Lib.hid (only_trans HG1.out hg2)
    clear hc2 hg2
    cases b
    · go_wp2_with fail
      refine (below_any g 1000000 _ HC2.out (by decide)).mono ?_
      rintro e w3 ⟨y, rfl, ⟨y0, y1, _⟩, hc3, hg3⟩
      have HC3 := Lib.hid hc3
      have HG3 := Lib.hid hg3
      have y2 : y ≤ 999999 := by omega
      clear hc3 hg3 y1
      go_wp2_with fail
      refine (below_any g 2000 _ HC3.out (by decide)).mono ?_
      rintro e w4 ⟨z, rfl, ⟨z0, z1, _⟩, hc4, hg4⟩
      have HC4 := Lib.hid hc4
      have HG4 := Lib.hid hg4
      have z2 : z ≤ 1999 := by omega
      have p0 : 0 ≤ y * z := Int.mul_nonneg y0 z0
      have p1 : y * z ≤ 999999 * 1999 := Int.mul_le_mul y2 z2 z0 (by omega)
      clear hc4 hg4 z1
      go_wp2_with fail
      go_ret
      exact ⟨_, rfl, ⟨by omega, by omega⟩, HC4.out, only_trans HG2.out (only_trans HG3.out HG4.out)⟩
    · go_wp2_with fail
      refine (int_lit g [0, 1, 2147483646] _ HC2.out (by decide) (by decide)).mono ?_
      rintro e w3 ⟨x, rfl, hx, hc3, hg3⟩
      have HX := Lib.hid hx
      have HC3 := Lib.hid hc3
      have HG3 := Lib.hid hg3
      clear hx hc3 hg3
      go_wp2_with fail
      go_ret
      refine ⟨_, rfl, ?_, HC3.out, only_trans HG2.out HG3.out⟩
      have h := HX.out
      simp only [List.mem_cons, List.not_mem_nil, or_false] at h
      unfold isWord
      omega
  · go_wp2_with fail
    refine (int_lit g [-1, 2147483647, 2147483648] _ HC1.out (by decide) (by decide)).mono ?_
    rintro e w3 ⟨x, rfl, hx, hc3, hg3⟩
    have HX := Lib.hid hx
    have HC3 := Lib.hid hc3
    have HG3 := Lib.hid hg3
    clear hx hc3 hg3
    go_wp2_with fail
    go_ret
    refine ⟨_, rfl, ?_, HC3.out, only_trans HG1.out HG3.out⟩
    have h := HX.out
    simp only [List.mem_cons, List.not_mem_nil, or_false] at h
    unfold isWord
    omega
/-- The call answers a key and at most m bytes, readable; what lay before is as it was. -/
def GivesWB (m : Nat) (w : World) (e : Ending) (w' : World) : Prop :=
  ∃ p n c zs x, e = .returned (.tuple #[.int .i64 x, .slice p n c]) ∧ Rd .u8 w' p n zs ∧ n ≤ m ∧ isWord x ∧ Below w.heap.size w w'
set_option maxHeartbeats 1000000 in
theorem drawEncrypt_any (v : Value) (n : Nat) (w : World) (hc : Code v n w) : Calls Try.prog 13 #[v] w (GivesWB 7 w) := by
  have HC := Lib.hid hc
  clear hc
  go_enter Try.func13, Try.ntmps13
  go_wp2_with fail
  refine (new_any v n _ HC.out).mono ?_
  rintro e w1 ⟨rfl, hc1, hb1⟩
  have HC1 := Lib.hid hc1
  have HB1 := Lib.hid hb1
  clear hc1 hb1
  go_wp2_with fail
  refine (word_any _ _ HC1.out).mono ?_
  rintro e w2 ⟨x, rfl, hx, hc2, hg2⟩
  have HX := Lib.hid hx
  have HC2 := Lib.hid hc2
  have HB2 := Lib.hid (below_g HB1.out hg2)
  clear hx hc2 hg2
  go_wp2_with fail
  refine (below_any _ 8 _ HC2.out (by decide)).mono ?_
  rintro e w3 ⟨y, rfl, ⟨y0, y1, _⟩, hc3, hg3⟩
  obtain ⟨k, rfl⟩ := Int.eq_ofNat_of_zero_le y0
  have HC3 := Lib.hid hc3
  have HB3 := Lib.hid (below_g HB2.out hg3)
  have hk : k ≤ 7 := by omega
  clear hc3 hg3 y1
  go_wp2_with fail
  refine (bytes_any _ k _ HC3.out (by omega)).mono ?_
  rintro e w4 ⟨p4, c4, zs4, rfl, ho4, hc4, hg4⟩
  have HO4 := Lib.hid ho4
  have HB4 := Lib.hid (below_g HB3.out hg4)
  clear ho4 hc4 hg4
  go_wp2_with fail
  go_ret2
  exact ⟨_, _, _, _, _, rfl, HO4.out.rd, by omega, HX.out, HB4.out⟩
/-- on the way: some words -/
def WordsMid (g m : Nat) (p : Option Addr) (c : Nat) (w wr : World) : Prop :=
  ∃ zs, Ow .i64 3 wr w.heap.size wr.heap.size p m c zs ∧ (∀ z ∈ zs, isWord z) ∧ Cur g wr ∧ w.grownBy wr (some g)
theorem WordsMid.word {g m c : Nat} {p : Option Addr} {w wr w1 : World} (h : WordsMid g m p c w wr) (hlt : g < w.heap.size) (hc : Cur g w1) (hg : wr.grownBy w1 (some g)) : WordsMid g m p c w w1 := by
  obtain ⟨zs, ho, hz, _, h1⟩ := h
  exact ⟨zs, (ho.kept hg (fun k e => by cases e; exact Or.inl hlt)).wide (Nat.le_refl _) hg.size (Nat.le_refl _), hz, hc, only_trans h1 hg⟩
theorem WordsMid.app {g m c c2 : Nat} {p p2 : Option Addr} {zs : List Int} {x : Int} {w wr w2 : World} {o : Obj} (ho : Ow .i64 3 wr w.heap.size wr.heap.size p m c zs) (hz : ∀ z ∈ zs, isWord z) (hx : isWord x) (h : Cur g wr) (hg : w.grownBy wr (some g)) (hlt : g < w.heap.size)
    (how : Ow .i64 3 w2 w.heap.size w2.heap.size p2 (m + 1) c2 (zs ++ [x])) (hg2 : (wr.alloc o).grownBy w2 (Value.slice p m c).ownBlock) : WordsMid g (m + 1) p2 c2 w w2 := by
  have hfar := ho.far
  refine ⟨zs ++ [x], how, fun z hz' => ?_, (h.keep (only_alloc (only_refl _ none) o) (fun _ e => by cases e)).keep hg2 (fun k e => by have := hfar k e; omega), only_far (only_alloc hg o) hg2 (fun k e => (hfar k e).1)⟩
  rcases List.mem_append.1 hz' with h1 | h1
  · exact hz z h1
  · rw [List.mem_singleton] at h1
    rw [h1]
    exact hx
/-- The call answers at most four words of its own; the cursor stands on; its block alone has turned. -/
def GivesWs (g : Nat) (w : World) (e : Ending) (w' : World) : Prop :=
  ∃ p n c zs, e = .returned (.slice p n c) ∧ Ow .i64 3 w' w.heap.size w'.heap.size p n c zs ∧ n ≤ 4 ∧ (∀ z ∈ zs, isWord z) ∧ Cur g w' ∧ w.grownBy w' (some g)
theorem emptyI (w : World) (lo : Nat) (h : lo ≤ w.heap.size) : Ow .i64 3 (w.alloc (.cells #[] 3)) lo (w.alloc (.cells #[] 3)).heap.size (some ⟨w.heap.size, 0, none⟩) 0 0 [] :=
  Ow.of_row (World.ownsRow_lit w #[] 0 h (Nat.zero_le _) rfl) (allK_nil _)
set_option maxHeartbeats 1000000 in
theorem words_any (g : Nat) (w : World) (hc : Cur g w) : Calls Try.prog 59 #[.pointer (some ⟨g, 0, none⟩)] w (GivesWs g w) := by
  obtain ⟨i0, hi, hz0, hz1, hz2⟩ := info_parts SlI.info
  have hlt := hc.lt
  have HC := Lib.hid (hc.keep (only_alloc (only_refl _ none) (.cells #[] 3)) (fun _ e => by cases e))
  clear hc
  go_enter Try.func59, Try.ntmps59
  go_wp2_with fail
  refine (below_any g 5 _ HC.out (by decide)).mono ?_
  rintro e w1 ⟨x, rfl, ⟨x0, x1, _⟩, hc1, hg1⟩
  obtain ⟨k, rfl⟩ := Int.eq_ofNat_of_zero_le x0
  have hk : k ≤ 4 := by omega
  have HM : Hid (WordsMid g 0 (some ⟨w.heap.size, 0, none⟩) 0 w w1) := Lib.hid ⟨[], ((emptyI w w.heap.size (Nat.le_refl _)).kept hg1 (fun k e => by cases e; exact Or.inl hlt)).wide (Nat.le_refl _) hg1.size (Nat.le_refl _), fun _ h => (by cases h), hc1, only_trans (only_alloc (only_refl w _) _) hg1⟩
  clear hc1 hg1 x1
  go_wp2_with fail
  go_loopw [3, 4] (fun b i wr => ∃ (j m c' : Nat) (p' : Option Addr), j + m ≤ 4 ∧ i = .int .i64 j ∧ b = .slice p' m c' ∧ Hid (WordsMid g m p' c' w wr)) (fun _ i _ => (intOf i).toNat)
  case atStart => exact ⟨k, 0, _, _, by omega, rfl, rfl, HM⟩
  case round =>
    obtain ⟨j, m, c', p', hj, rfl, rfl, HK⟩ := hrel
    by_cases hj0 : 0 < j
    · obtain ⟨_, _, _, hcur, _⟩ := HK.out
      have HCr := Lib.hid hcur
      clear hcur
      go_wp2_with fail
      refine (word_any _ _ HCr.out).mono ?_
      rintro e w2 ⟨x, rfl, hx, hc2, hg2⟩
      have HK2 := Lib.hid (HK.out.word hlt hc2 hg2)
      clear hc2 hg2
      obtain ⟨zs, ho, hz, hc3, hg3⟩ := HK2.out
      have HO := Lib.hid ho
      have HZ := Lib.hid hz
      have HC3 := Lib.hid hc3
      have HG3 := Lib.hid hg3
      have hs3 := hg3.size
      have HX := Lib.hid hx
      have hxi := hx.isInt
      obtain ⟨hx1, hx2⟩ := hxi
      clear ho hz hc3 hg3 hx
      go_wp2_with (at_builtin; refine wpList_app1 rfl (.tmp 12) (.tmp 15) 28 rfl i0 _ 8 Try.underlying28 hi hz0 hz1 hz2 rfl rfl (HO.out.alloc _) w2.heap.size 1 x rfl (by go_simp) ⟨hx1, hx2⟩ (by simp; omega) (by omega) (by omega) ?_; intro p4 c4 w4 how4 hg4; have HK4 := Lib.hid (WordsMid.app HO.out HZ.out HX.out HC3.out HG3.out hlt how4 hg4); clear how4 hg4)
      refine ⟨⟨j - 1, m + 1, _, _, by omega, by go_num, rfl, HK4⟩, by simp [intOf]; omega⟩
    · go_wp2_with fail
      go_ret
      obtain ⟨zs, ho, hz, hc, hg⟩ := HK.out
      exact ⟨_, _, _, _, rfl, ho, by omega, hz, hc, hg⟩
/-- The call answers a key and at most four words; what lay before is as it was. -/
def GivesWI (w : World) (e : Ending) (w' : World) : Prop :=
  ∃ p n c zs x, e = .returned (.tuple #[.int .i64 x, .slice p n c]) ∧ Rd .i64 w' p n zs ∧ n ≤ 4 ∧ (∀ z ∈ zs, isWord z) ∧ isWord x ∧ Below w.heap.size w w'
set_option maxHeartbeats 1000000 in
theorem drawKeyed_any (v : Value) (n : Nat) (w : World) (hc : Code v n w) : Calls Try.prog 17 #[v] w (GivesWI w) := by
  have HC := Lib.hid hc
  clear hc
  go_enter Try.func17, Try.ntmps17
  go_wp2_with fail
  refine (new_any v n _ HC.out).mono ?_
  rintro e w1 ⟨rfl, hc1, hb1⟩
  have HC1 := Lib.hid hc1
  have HB1 := Lib.hid hb1
  clear hc1 hb1
  go_wp2_with fail
  refine (word_any _ _ HC1.out).mono ?_
  rintro e w2 ⟨x, rfl, hx, hc2, hg2⟩
  have HX := Lib.hid hx
  have HC2 := Lib.hid hc2
  have HB2 := Lib.hid (below_g HB1.out hg2)
  clear hx hc2 hg2
  go_wp2_with fail
  refine (words_any _ _ HC2.out).mono ?_
  rintro e w3 ⟨p3, n3, c3, zs, rfl, ho, hn, hz, hc3, hg3⟩
  have HO := Lib.hid ho
  have HZ := Lib.hid hz
  have HB3 := Lib.hid (below_g HB2.out hg3)
  clear ho hz hc3 hg3
  go_wp2_with fail
  go_ret2
  exact ⟨_, _, _, _, _, rfl, HO.out.rd, hn, HZ.out, HX.out, HB3.out⟩
/-- The call answers a key and a short text; what lay before is as it was. -/
def GivesWS (w : World) (e : Ending) (w' : World) : Prop :=
  ∃ (x : Int) (s : ByteArray), e = .returned (.tuple #[.int .i64 x, .string s]) ∧ s.size ≤ 4 ∧ isWord x ∧ Below w.heap.size w w'
set_option maxHeartbeats 1000000 in
theorem drawDerive_any (v : Value) (n : Nat) (w : World) (hc : Code v n w) : Calls Try.prog 22 #[v] w (GivesWS w) := by
  have HC := Lib.hid hc
  clear hc
  go_enter Try.func22, Try.ntmps22
  go_wp2_with fail
  refine (new_any v n _ HC.out).mono ?_
  rintro e w1 ⟨rfl, hc1, hb1⟩
  have HC1 := Lib.hid hc1
  have HB1 := Lib.hid hb1
  clear hc1 hb1
  go_wp2_with fail
  refine (word_any _ _ HC1.out).mono ?_
  rintro e w2 ⟨x, rfl, hx, hc2, hg2⟩
  have HX := Lib.hid hx
  have HC2 := Lib.hid hc2
  have HB2 := Lib.hid (below_g HB1.out hg2)
  clear hx hc2 hg2
  go_wp2_with fail
  refine (str_lit _ [⟨#[]⟩, ⟨#[97]⟩, ⟨#[98]⟩, ⟨#[97, 98]⟩, ⟨#[110, 101, 119, 115]⟩, ⟨#[120]⟩] _ HC2.out (by decide) (by decide)).mono ?_
  rintro e w3 ⟨s, rfl, hs, hc3, hg3⟩
  have HS : Hid (s.size ≤ 4) := Lib.hid (by
    simp only [List.mem_cons, List.not_mem_nil, or_false] at hs
    rcases hs with rfl | rfl | rfl | rfl | rfl | rfl <;> decide)
  have HB3 := Lib.hid (below_g HB2.out hg3)
  clear hs hc3 hg3
  go_wp2_with fail
  go_ret2
  exact ⟨_, _, rfl, HS.out, HX.out, HB3.out⟩
end Go.Proofs.Ytamlmpigllidoaa.Cur
