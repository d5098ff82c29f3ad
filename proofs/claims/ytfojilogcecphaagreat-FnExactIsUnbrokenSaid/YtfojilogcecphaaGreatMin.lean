/- Contracts of Min and Max (they share a variadic helper that takes a function value): the smaller and the larger number; the world keeps all that it held. -/
import Derived.Test.YtfojilogcecphaaGreatInt
import Derived.Below
import Derived.LoopTactic
namespace Go.Proofs.YtfojilogcecphaaGreat.Ints
open Go.ChangeShapes Go.WideShapes Go.ChangeAt Go.RowKit
def minI (a b : Int) : Int := if b < a then b else a
def maxI (a b : Int) : Int := if a < b then b else a
theorem minI_lt {a b : Int} (h : b < a) : minI a b = b := if_pos h
theorem minI_ge {a b : Int} (h : ¬ b < a) : minI a b = a := if_neg h
theorem maxI_lt {a b : Int} (h : a < b) : maxI a b = b := if_pos h
theorem maxI_ge {a b : Int} (h : ¬ a < b) : maxI a b = a := if_neg h
set_option maxHeartbeats 400000 in
theorem extreme_less (a b : Int) (w : World) (bl : Nat) (hc : w.cell? ⟨bl, 0, none⟩ = some (.int .i64 b)) : Calls Tryz.prog 80 #[.func (.func 81) #[] #[], .int .i64 a, .slice (some ⟨bl, 0, none⟩) 1 1] w fun e w' => e = .returned (.int .i64 (minI a b)) ∧ w = w' := by
  by_cases h : b < a
  all_goals
    first | (have HM := Lib.hid (minI_lt h)) | (have HM := Lib.hid (minI_ge h))
    go_enter Tryz.func80, Tryz.ntmps80
    go_wp2
    go_loop [7, 9, 13] (fun x _ i => (i = .int .i64 0 ∧ x = .int .i64 a) ∨ (i = .int .i64 1 ∧ x = .int .i64 (minI a b))) (fun _ _ i => 1 - (intOf i).toNat)
    case atStart => exact Or.inl ⟨rfl, rfl⟩
    case round =>
      rcases hrel with ⟨rfl, rfl⟩ | ⟨rfl, rfl⟩
      · go_wp2
        go_round
        case rel => exact Or.inr ⟨rfl, by rw [HM.out]⟩
        case measure => simp [intOf]
      · go_wp2
        go_ret
        exact ⟨rfl, rfl⟩
theorem min_any (a b : Int) (w : World) : Calls Tryz.prog 47 #[.int .i64 a, .int .i64 b] w fun e w' => e = .returned (.int .i64 (minI a b)) ∧ w' = w.alloc (.cells #[.int .i64 b] 3) := by
  go_enter Tryz.func47, Tryz.ntmps47
  go_wp2_with fail
  refine (extreme_less _ b _ _ (by go_simp)).mono ?_
  rintro e w' ⟨rfl, rfl⟩
  go_wp2
  go_ret
  exact ⟨rfl, rfl⟩
theorem spec_min_any (a b : Int) (w : World) : Calls Tryz.prog 54 #[.int .i64 a, .int .i64 b] w fun e w' => e = .returned (.int .i64 (minI a b)) ∧ w = w' := by
  by_cases h : b < a
  all_goals
    first | (have HM := Lib.hid (minI_lt h)) | (have HM := Lib.hid (minI_ge h))
    go_enter Tryz.func54, Tryz.ntmps54
    go_wp2
    go_ret
    exact ⟨ret_int (by rw [HM.out]), rfl⟩
set_option maxHeartbeats 400000 in
theorem extreme_greater (a b : Int) (w : World) (bl : Nat) (hc : w.cell? ⟨bl, 0, none⟩ = some (.int .i64 b)) : Calls Tryz.prog 80 #[.func (.func 191) #[] #[], .int .i64 a, .slice (some ⟨bl, 0, none⟩) 1 1] w fun e w' => e = .returned (.int .i64 (maxI a b)) ∧ w = w' := by
  by_cases h : a < b
  all_goals
    first | (have HM := Lib.hid (maxI_lt h)) | (have HM := Lib.hid (maxI_ge h))
    go_enter Tryz.func80, Tryz.ntmps80
    go_wp2
    go_loop [7, 9, 13] (fun x _ i => (i = .int .i64 0 ∧ x = .int .i64 a) ∨ (i = .int .i64 1 ∧ x = .int .i64 (maxI a b))) (fun _ _ i => 1 - (intOf i).toNat)
    case atStart => exact Or.inl ⟨rfl, rfl⟩
    case round =>
      rcases hrel with ⟨rfl, rfl⟩ | ⟨rfl, rfl⟩
      · go_wp2
        go_round
        case rel => exact Or.inr ⟨rfl, by rw [HM.out]⟩
        case measure => simp [intOf]
      · go_wp2
        go_ret
        exact ⟨rfl, rfl⟩
theorem max_any (a b : Int) (w : World) : Calls Tryz.prog 180 #[.int .i64 a, .int .i64 b] w fun e w' => e = .returned (.int .i64 (maxI a b)) ∧ w' = w.alloc (.cells #[.int .i64 b] 3) := by
  go_enter Tryz.func180, Tryz.ntmps180
  go_wp2_with fail
  refine (extreme_greater _ b _ _ (by go_simp)).mono ?_
  rintro e w' ⟨rfl, rfl⟩
  go_wp2
  go_ret
  exact ⟨rfl, rfl⟩
theorem spec_max_any (a b : Int) (w : World) : Calls Tryz.prog 120 #[.int .i64 a, .int .i64 b] w fun e w' => e = .returned (.int .i64 (maxI a b)) ∧ w = w' := by
  by_cases h : a < b
  all_goals
    first | (have HM := Lib.hid (maxI_lt h)) | (have HM := Lib.hid (maxI_ge h))
    go_enter Tryz.func120, Tryz.ntmps120
    go_wp2
    go_ret
    exact ⟨ret_int (by rw [HM.out]), rfl⟩
end Go.Proofs.YtfojilogcecphaaGreat.Ints
