/- The reference's draws of chapter 3: keys, texts, lists of numbers. -/
import Derived.Test.YtamlmpigllidoaaDrawBy
import Derived.Test.YtamlmpigllidoaaSlI
namespace Go.Proofs.Ytamlmpigllidoaa.Cur
open Go.ChangeShapes Go.WideShapes Go.ChangeAt Go.RowKit Sl

/-- a number that a key or a value can be: far from the ends of int -/
def isWord (x : Int) : Prop := -1 ≤ x ∧ x ≤ 2147483648
theorem isWord.isInt {x : Int} (h : isWord x) : isInt x := ⟨by have := h.1; omega, by have := h.2; omega⟩
set_option maxHeartbeats 1000000 in
theorem word_any (g : Nat) (w : World) (hc : Cur g w) : Calls Try.prog 55 #[.pointer (some ⟨g, 0, none⟩)] w (Gives g w isWord) := by
  have HC := Lib.hid hc
  clear hc
  go_enter Try.func55, Try.ntmps55
  go_wp2_with fail
  refine (once_any g 10 _ HC.out (by decide)).mono ?_
  rintro e w1 ⟨b, rfl, hc1, hg1⟩
  have HC1 := Lib.hid hc1
  have HG1 := Lib.hid hg1
  clear hc1 hg1
  cases b
  · go_wp2_with fail
    refine (once_any g 4 _ HC1.out (by decide)).mono ?_
    rintro e w2 ⟨b, rfl, hc2, hg2⟩
    have HC2 := Lib.hid hc2
    have HG2 := Lib.hid (only_trans HG1.out hg2)
    clear hc2 hg2
    cases b
    · go_wp2_with fail
      refine (below_any g 1000000 _ HC2.out (by decide)).mono ?_
      rintro e w3 ⟨y, rfl, ⟨y0, y1, _⟩, hc3, hg3⟩
      have HC3 := Lib.hid hc3
      have HG3 := Lib.hid hg3
      have y2 : y ≤ 999999 := by omega
      clear hc3 hg3 y1
      go_wp2_with fail
      refine (below_any g 2000 _ HC3.out (by decide)).mono ?_
      rintro e w4 ⟨z, rfl, ⟨z0, z1, _⟩, hc4, hg4⟩
      have HC4 := Lib.hid hc4
      have HG4 := Lib.hid hg4
      have z2 : z ≤ 1999 := by omega
      have p0 : 0 ≤ y * z := Int.mul_nonneg y0 z0
      have p1 : y * z ≤ 999999 * 1999 := Int.mul_le_mul y2 z2 z0 (by omega)
      clear hc4 hg4 z1
      go_wp2_with fail
      go_ret
      exact ⟨_, rfl, ⟨by omega, by omega⟩, HC4.out, only_trans HG2.out (only_trans HG3.out HG4.out)⟩
    · go_wp2_with fail
      refine (int_lit g [0, 1, 2147483646] _ HC2.out (by decide) (by decide)).mono ?_
      rintro e w3 ⟨x, rfl, hx, hc3, hg3⟩
      have HX := Lib.hid hx
      have HC3 := Lib.hid hc3
      have HG3 := Lib.hid hg3
      clear hx hc3 hg3
      go_wp2_with fail
      go_ret
      refine ⟨_, rfl, ?_, HC3.out, only_trans HG2.out HG3.out⟩
      have h := HX.out
      simp only [List.mem_cons, List.not_mem_nil, or_false] at h
      unfold isWord
      omega
  · go_wp2_with fail
    refine (int_lit g [-1, 2147483647, 2147483648] _ HC1.out (by decide) (by decide)).mono ?_
    rintro e w3 ⟨x, rfl, hx, hc3, hg3⟩
    have HX := Lib.hid hx
    have HC3 := Lib.hid hc3
    have HG3 := Lib.hid hg3
    clear hx hc3 hg3
    go_wp2_with fail
    go_ret
    refine ⟨_, rfl, ?_, HC3.out, only_trans HG1.out HG3.out⟩
    have h := HX.out
    simp only [List.mem_cons, List.not_mem_nil, or_false] at h
    unfold isWord
    omega
/-- The call answers a key and at most m bytes, readable; what lay before is as it was. -/
def GivesWB (m : Nat) (w : World) (e : Ending) (w' : World) : Prop :=
  ∃ p n c zs x, e = .returned (.tuple #[.int .i64 x, .slice p n c]) ∧ Rd .u8 w' p n zs ∧ n ≤ m ∧ isWord x ∧ Below w.heap.size w w'
set_option maxHeartbeats 1000000 in
theorem drawEncrypt_any (v : Value) (n : Nat) (w : World) (hc : Code v n w) : Calls Try.prog 13 #[v] w (GivesWB 7 w) := by
  have HC := Lib.hid hc
  clear hc
  go_enter Try.func13, Try.ntmps13
  go_wp2_with fail
  refine (new_any v n _ HC.out).mono ?_
  rintro e w1 ⟨rfl, hc1, hb1⟩
  have HC1 := Lib.hid hc1
  have HB1 := Lib.hid hb1
  clear hc1 hb1
  go_wp2_with fail
  refine (word_any _ _ HC1.out).mono ?_
  rintro e w2 ⟨x, rfl, hx, hc2, hg2⟩
  have HX := Lib.hid hx
  have HC2 := Lib.hid hc2
  have HB2 := Lib.hid (below_g HB1.out hg2)
  clear hx hc2 hg2
  go_wp2_with fail
  refine (below_any _ 8 _ HC2.out (by decide)).mono ?_
  rintro e w3 ⟨y, rfl, ⟨y0, y1, _⟩, hc3, hg3⟩
  obtain ⟨k, rfl⟩ := Int.eq_ofNat_of_zero_le y0
  have HC3 := Lib.hid hc3
  have HB3 := Lib.hid (below_g HB2.out hg3)
  have hk : k ≤ 7 := by omega
  clear hc3 hg3 y1
  go_wp2_with fail
  refine (bytes_any _ k _ HC3.out (by omega)).mono ?_
  rintro e w4 ⟨p4, c4, zs4, rfl, ho4, hc4, hg4⟩
  have HO4 := Lib.hid ho4
  have HB4 := Lib.hid (below_g HB3.out hg4)
  clear ho4 hc4 hg4
  go_wp2_with fail
  go_ret2
  exact ⟨_, _, _, _, _, rfl, HO4.out.rd, by omega, HX.out, HB4.out⟩
end Go.Proofs.Ytamlmpigllidoaa.Cur
