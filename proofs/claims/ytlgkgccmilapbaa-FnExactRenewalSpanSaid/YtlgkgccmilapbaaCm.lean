/- cmp.Compare of two numbers, as the library's own words have it. -/
import Derived.Test.YtlgkgccmilapbaaJs
import Derived.LoopTactic
import Derived.Shelf.SlSortCmp.NoneTotal
namespace Go.Proofs.Ytlgkgccmilapbaa.Cm
open Go.ChangeShapes Go.WideShapes Go.ChangeAt Go.RowKit Sl
theorem ci_lt {a b : Int} (h : a < b) : Go.Lib.compareInt a b = -1 := by simp [Go.Lib.compareInt, h]
theorem ci_gt {a b : Int} (h : b < a) : Go.Lib.compareInt a b = 1 := by unfold Go.Lib.compareInt; rw [if_neg (by omega), if_pos h]
theorem ci_eq (a : Int) : Go.Lib.compareInt a a = 0 := by simp [Go.Lib.compareInt]
theorem nan_any (x : Int) (w : World) : Calls Try.prog 138 #[.int .i64 x] w fun e w' => e = .returned (.bool false) ∧ w = w' := by
  go_enter Try.func138, Try.ntmps138
  go_wp2_with fail
  go_ret
  exact ⟨by simp, rfl⟩
theorem cmp_any (a b : Int) (w : World) : Calls Try.prog 122 #[.int .i64 a, .int .i64 b] w fun e w' => e = .returned (.int .i64 (Go.Lib.compareInt a b)) ∧ w = w' := by
  rcases (by omega : a < b ∨ b < a ∨ a = b) with h | h | h
  · have HE := Lib.hid (ci_lt h)
    go_enter Try.func122, Try.ntmps122
    go_wp2_with fail
    refine (nan_any _ _).mono ?_
    rintro e w1 ⟨rfl, rfl⟩
    go_wp2_with fail
    refine (nan_any _ _).mono ?_
    rintro e w1 ⟨rfl, rfl⟩
    go_wp2_with fail
    go_ret
    exact ⟨by rw [HE.out]; rfl, rfl⟩
  · have HE := Lib.hid (ci_gt h)
    have h' : ¬ a < b := by omega
    go_enter Try.func122, Try.ntmps122
    go_wp2_with fail
    refine (nan_any _ _).mono ?_
    rintro e w1 ⟨rfl, rfl⟩
    go_wp2_with fail
    refine (nan_any _ _).mono ?_
    rintro e w1 ⟨rfl, rfl⟩
    go_wp2_with fail
    go_ret
    exact ⟨by rw [HE.out]; rfl, rfl⟩
  · subst h
    have HE := Lib.hid (ci_eq a)
    go_enter Try.func122, Try.ntmps122
    go_wp2_with fail
    refine (nan_any _ _).mono ?_
    rintro e w1 ⟨rfl, rfl⟩
    go_wp2_with fail
    refine (nan_any _ _).mono ?_
    rintro e w1 ⟨rfl, rfl⟩
    go_wp2_with fail
    go_ret
    exact ⟨by rw [HE.out]; rfl, rfl⟩
end Go.Proofs.Ytlgkgccmilapbaa.Cm
