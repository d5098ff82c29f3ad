/- Contracts of the small functions of chapter 1 (integers), over whatever seat: plain numbers in, plain numbers out, the world stays. -/
import Derived.Test.YtfojilogcecphaaGreatRows
import Derived.WalkKit
import Derived.ProofKit
import Derived.Lib.Hide
namespace Go.Proofs.YtfojilogcecphaaGreat.Ints
open Go.ChangeShapes Go.WideShapes Go.ChangeAt Go.RowKit

theorem ret_int {k : IntKind} {a b : Int} (h : a = b) : Ending.returned (.int k a) = .returned (.int k b) := by rw [h]
theorem ret_bool {a b : Bool} (h : a = b) : Ending.returned (.bool a) = .returned (.bool b) := by rw [h]
def modI (a b : Int) : Int := if 1 ≤ b ∧ b ≤ 1000000000000 then a % b else 0
def ceilI (a b : Int) : Int := if (0 ≤ a ∧ a ≤ 1000000000000) ∧ (1 ≤ b ∧ b ≤ 1000000000000) then (a + b - 1) / b else 0
theorem modI_in (a b : Int) (h : 1 ≤ b ∧ b ≤ 1000000000000) : modI a b = a % b := if_pos h
theorem modI_out (a b : Int) (h : ¬ (1 ≤ b ∧ b ≤ 1000000000000)) : modI a b = 0 := if_neg h
theorem ceilI_in (a b : Int) (h : (0 ≤ a ∧ a ≤ 1000000000000) ∧ (1 ≤ b ∧ b ≤ 1000000000000)) : ceilI a b = (a + b - 1) / b := if_pos h
theorem ceilI_out (a b : Int) (h : ¬ ((0 ≤ a ∧ a ≤ 1000000000000) ∧ (1 ≤ b ∧ b ≤ 1000000000000))) : ceilI a b = 0 := if_neg h
theorem tmod_bounds (a b : Int) (h : 1 ≤ b) : -b < a.tmod b ∧ a.tmod b < b := by
  constructor
  · exact Int.lt_tmod_of_pos a (by omega)
  · exact Int.tmod_lt_of_pos a (by omega)
theorem emod_of_tmod (a b : Int) (h : 1 ≤ b) : a % b = if a.tmod b < 0 then a.tmod b + b else a.tmod b := by
  have hb := tmod_bounds a b h
  have e := Int.mul_tdiv_add_tmod a b
  split
  · rw [show a = (a.tmod b + b) + b * (a.tdiv b - 1) from by rw [Int.mul_sub]; omega, Int.add_mul_emod_self_left]
    rw [show (a.tmod b + b + b * (a.tdiv b - 1)) = a from by rw [Int.mul_sub]; omega]
    exact Int.emod_eq_of_lt (by omega) (by omega)
  · rw [show a = a.tmod b + b * (a.tdiv b) from by omega, Int.add_mul_emod_self_left]
    rw [show (a.tmod b + b * (a.tdiv b)) = a from by omega]
    exact Int.emod_eq_of_lt (by omega) (by omega)
theorem inRange_any (n lo hi : Int) (b : Bool) (hb : decide (lo ≤ n ∧ n ≤ hi) = b) (w : World) : Calls Tryz.prog 106 #[.int .i64 n, .int .i64 lo, .int .i64 hi] w fun e w' => e = .returned (.bool b) ∧ w = w' := by
  subst hb
  by_cases h1 : lo ≤ n <;> by_cases h2 : n ≤ hi
  all_goals
    go_enter Tryz.func106, Tryz.ntmps106
    go_wp2
    go_ret
    exact ⟨ret_bool (by simp [h1, h2]), rfl⟩
theorem l1In_any (n lo hi : Int) (b : Bool) (hb : decide (lo ≤ n ∧ n ≤ hi) = b) (w : World) : Calls Tryz.prog 96 #[.int .i64 n, .int .i64 lo, .int .i64 hi] w fun e w' => e = .returned (.bool b) ∧ w = w' := by
  subst hb
  by_cases h1 : lo ≤ n <;> by_cases h2 : n ≤ hi
  all_goals
    go_enter Tryz.func96, Tryz.ntmps96
    go_wp2
    go_ret
    exact ⟨ret_bool (by simp [h1, h2]), rfl⟩
set_option maxHeartbeats 400000 in
theorem mod_any (a b : Int) (w : World) : Calls Tryz.prog 186 #[.int .i64 a, .int .i64 b] w fun e w' => e = .returned (.int .i64 (modI a b)) ∧ w = w' := by
  by_cases h : 1 ≤ b ∧ b ≤ 1000000000000
  · have HM := Lib.hid (modI_in a b h)
    have hb := tmod_bounds a b h.1
    have HE := Lib.hid (emod_of_tmod a b h.1)
    obtain ⟨h1, h2⟩ := h
    obtain ⟨hb1, hb2⟩ := hb
    by_cases hr : a.tmod b < 0
    all_goals
      go_enter Tryz.func186, Tryz.ntmps186
      go_wp2_with (go_at_call 106; refine (inRange_any _ _ _ true (by simp; omega) _).mono ?_; rintro e w' ⟨rfl, rfl⟩)
      go_ret
      exact ⟨ret_int (by rw [HM.out, HE.out]; first | rw [if_pos hr] | rw [if_neg hr] | (rw [if_neg (by omega)])), rfl⟩
  · have HM := Lib.hid (modI_out a b h)
    go_enter Tryz.func186, Tryz.ntmps186
    go_wp2_with (go_at_call 106; refine (inRange_any _ _ _ false (by simp; omega) _).mono ?_; rintro e w' ⟨rfl, rfl⟩)
    go_ret
    exact ⟨ret_int (by rw [HM.out]), rfl⟩
set_option maxHeartbeats 400000 in
theorem spec_mod_any (a b : Int) (w : World) : Calls Tryz.prog 178 #[.int .i64 a, .int .i64 b] w fun e w' => e = .returned (.int .i64 (modI a b)) ∧ w = w' := by
  by_cases h : 1 ≤ b ∧ b ≤ 1000000000000
  · have HM := Lib.hid (modI_in a b h)
    have hb := tmod_bounds a b h.1
    have HE := Lib.hid (emod_of_tmod a b h.1)
    obtain ⟨h1, h2⟩ := h
    obtain ⟨hb1, hb2⟩ := hb
    go_enter Tryz.func178, Tryz.ntmps178
    go_wp2_with (go_at_call 96; refine (l1In_any _ _ _ true (by simp; omega) _).mono ?_; rintro e w' ⟨rfl, rfl⟩)
    go_ret
    refine ⟨ret_int ?_, rfl⟩
    rw [HM.out, HE.out]
    split
    · rw [Int.emod_eq_of_lt (by omega) (by omega)]
    · rw [Int.add_emod_right, Int.emod_eq_of_lt (by omega) (by omega)]
  · have HM := Lib.hid (modI_out a b h)
    go_enter Tryz.func178, Tryz.ntmps178
    go_wp2_with (go_at_call 96; refine (l1In_any _ _ _ false (by simp; omega) _).mono ?_; rintro e w' ⟨rfl, rfl⟩)
    go_ret
    exact ⟨ret_int (by rw [HM.out]), rfl⟩
end Go.Proofs.YtfojilogcecphaaGreat.Ints
