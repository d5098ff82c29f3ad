/- Contracts of the reference's draws of chapter 1: some int, two ints, some short string. -/
import Derived.Test.YtgdpbohmnnncjaaDoorDrawOne
namespace Go.Proofs.YtgdpbohmnnncjaaDoor.Cur
open Go.ChangeShapes Go.WideShapes Go.ChangeAt Go.RowKit

theorem below_only {w w1 w2 : World} (hb : Below w.heap.size w w1) (hg : w1.grownBy w2 (some w.heap.size)) : Below w.heap.size w w2 :=
  hb.grown hg hb.size (fun _ h => by cases h; exact Nat.le_refl _)
/-- The call answers an int of which P holds; what lay before is as it was. -/
def GivesI (w : World) (P : Int → Prop) (e : Ending) (w' : World) : Prop := ∃ x : Int, e = .returned (.int .i64 x) ∧ P x ∧ Below w.heap.size w w'
def GivesI2 (w : World) (P : Int → Prop) (e : Ending) (w' : World) : Prop := ∃ x y : Int, e = .returned (.tuple #[.int .i64 x, .int .i64 y]) ∧ P x ∧ P y ∧ Below w.heap.size w w'
def GivesT (w : World) (P : ByteArray → Prop) (e : Ending) (w' : World) : Prop := ∃ s : ByteArray, e = .returned (.string s) ∧ P s ∧ Below w.heap.size w w'

set_option maxHeartbeats 400000 in
theorem drawFormat_any (v : Value) (n : Nat) (w : World) (hc : Code v n w) : Calls Tryd.prog 8 #[v] w (GivesI w isInt) := by
  have HC := Lib.hid hc
  clear hc
  go_enter Tryd.func8, Tryd.ntmps8
  go_wp2_with fail
  refine (new_any v n _ HC.out).mono ?_
  rintro e w1 ⟨rfl, hc1, hb1⟩
  have HC1 := Lib.hid hc1
  have HB1 := Lib.hid hb1
  clear hc1 hb1
  go_wp2_with fail
  refine (one_any _ _ HC1.out).mono ?_
  rintro e w2 ⟨x, rfl, hx, _, hg2⟩
  have HX := Lib.hid hx
  have HG2 := Lib.hid hg2
  clear hx hg2
  go_wp2_with fail
  go_ret
  exact ⟨_, rfl, HX.out, below_only HB1.out HG2.out⟩
set_option maxHeartbeats 400000 in
theorem drawCeil_any (v : Value) (n : Nat) (w : World) (hc : Code v n w) : Calls Tryd.prog 10 #[v] w (GivesI2 w isInt) := by
  have HC := Lib.hid hc
  clear hc
  go_enter Tryd.func10, Tryd.ntmps10
  go_wp2_with fail
  refine (new_any v n _ HC.out).mono ?_
  rintro e w1 ⟨rfl, hc1, hb1⟩
  have HC1 := Lib.hid hc1
  have HB1 := Lib.hid hb1
  clear hc1 hb1
  go_wp2_with fail
  refine (one_any _ _ HC1.out).mono ?_
  rintro e w2 ⟨x, rfl, hx, hc2, hg2⟩
  have HX := Lib.hid hx
  have HC2 := Lib.hid hc2
  have HG2 := Lib.hid hg2
  clear hx hc2 hg2
  go_wp2_with fail
  refine (one_any _ _ HC2.out).mono ?_
  rintro e w3 ⟨y, rfl, hy, _, hg3⟩
  have HY := Lib.hid hy
  have HG3 := Lib.hid hg3
  clear hy hg3
  go_wp2_with fail
  go_ret2
  exact ⟨_, _, rfl, HX.out, HY.out, below_only HB1.out (only_trans HG2.out HG3.out)⟩
set_option maxHeartbeats 400000 in
theorem drawParse_any (v : Value) (n : Nat) (w : World) (hc : Code v n w) : Calls Tryd.prog 6 #[v] w (GivesT w fun s => s.size ≤ 100) := by
  have HC := Lib.hid hc
  clear hc
  go_enter Tryd.func6, Tryd.ntmps6
  go_wp2_with fail
  refine (new_any v n _ HC.out).mono ?_
  rintro e w1 ⟨rfl, hc1, hb1⟩
  have HC1 := Lib.hid hc1
  have HB1 := Lib.hid hb1
  clear hc1 hb1
  go_wp2_with fail
  refine (once_any _ 2 _ HC1.out (by decide)).mono ?_
  rintro e w2 ⟨b, rfl, hc2, hg2⟩
  have HC2 := Lib.hid hc2
  have HG2 := Lib.hid hg2
  clear hc2 hg2
  cases b
  · go_wp2_with fail
    refine (num_any _ _ HC2.out).mono ?_
    rintro e w3 ⟨x, rfl, hx, hc3, hg3⟩
    have HX := Lib.hid hx
    have HG3 := Lib.hid hg3
    clear hx hc3 hg3
    go_wp2_with fail
    refine (Ints.spec_format_any x _ (by have := HX.out.1; omega) (by have := HX.out.2; omega)).mono ?_
    rintro e w4 ⟨rfl, hb4⟩
    have HB4 := Lib.hid hb4
    clear hb4
    go_wp2_with fail
    go_ret
    refine ⟨_, rfl, ?_, ?_⟩
    · have h := Lib.itoa_length_le x (by have := HX.out.1; omega) (by have := HX.out.2; omega)
      show (Lib.itoa x).toArray.size ≤ 100
      rw [List.size_toArray]
      omega
    · have hb3 := below_only HB1.out (only_trans HG2.out HG3.out)
      exact hb3.trans (HB4.out.mono hb3.size)
  · go_wp2_with fail
    refine (str_lit _ [⟨#[]⟩, ⟨#[48]⟩, ⟨#[48, 48]⟩, ⟨#[45, 49]⟩, ⟨#[48, 49]⟩, ⟨#[55]⟩, ⟨#[49, 48, 48, 48, 48, 48, 48, 48, 48, 48, 48, 48, 48]⟩, ⟨#[49, 48, 48, 48, 48, 48, 48, 48, 48, 48, 48, 48, 49]⟩, ⟨#[57, 57, 57, 57, 57, 57, 57, 57, 57, 57, 57, 57, 57, 57]⟩, ⟨#[49, 120]⟩, ⟨#[32, 49]⟩] _ HC2.out (by decide) (by decide)).mono ?_
    rintro e w3 ⟨s, rfl, hs, hc3, hg3⟩
    have HS := Lib.hid hs
    have HG3 := Lib.hid hg3
    clear hs hc3 hg3
    go_wp2_with fail
    go_ret
    refine ⟨_, rfl, ?_, below_only HB1.out (only_trans HG2.out HG3.out)⟩
    have h := HS.out
    revert h
    generalize s = t
    intro h
    simp only [List.mem_cons, List.not_mem_nil, or_false] at h
    rcases h with rfl | rfl | rfl | rfl | rfl | rfl | rfl | rfl | rfl | rfl | rfl <;> decide
end Go.Proofs.YtgdpbohmnnncjaaDoor.Cur
