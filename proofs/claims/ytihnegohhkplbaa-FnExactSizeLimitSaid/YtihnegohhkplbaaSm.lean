/- The limit of sizes. -/
import Derived.Test.YtihnegohhkplbaaRz
import Derived.Test.YtihnegohhkplbaaLv
import Derived.Outline
namespace Go.Proofs.Ytihnegohhkplbaa.Sm
open Go.ChangeShapes Go.WideShapes Go.ChangeAt Go.RowKit Sl St Ed Dz Ints Lw Lv Rz
theorem lv_in (n : Int) : 0 ≤ lv n ∧ lv n ≤ 4 := by
  unfold lv
  repeat' split
  all_goals omega
def slim (n s : Int) : Int := if (1 ≤ n ∧ n ≤ 16) ∧ (0 ≤ s ∧ s ≤ 6) then 3 + 2 * lv n + 6 * s else 0
set_option maxRecDepth 100000 in
set_option maxHeartbeats 4000000 in
theorem limit_any (n s : Int) (w : World) : Calls Try.prog 27 #[.int .i64 n, .int .i64 s] w (Dz.Val (.int .i64 (slim n s)) w) := by
  by_cases ha : 1 ≤ n ∧ n ≤ 16
  rotate_left
  · have HA := Lib.hid (decide_eq_false ha)
    have HS : Hid (slim n s = 0) := Lib.hid (if_neg (fun h => ha h.1))
    clear ha
    go_enter Try.func27, Try.ntmps27
    go_wp2_with fail
    refine (inRange_any _ _ _ false HA.out _).mono ?_
    rintro e w1 ⟨rfl, rfl⟩
    go_wp2_with fail
    go_ret
    exact val_of (by rw [HS.out]; rfl) (Below.refl _ _)
  by_cases hb : 0 ≤ s ∧ s ≤ 6
  rotate_left
  · have HA := Lib.hid (decide_eq_true ha)
    have HB := Lib.hid (decide_eq_false hb)
    have HS : Hid (slim n s = 0) := Lib.hid (if_neg (fun h => hb h.2))
    clear ha hb
    go_enter Try.func27, Try.ntmps27
    go_wp2_with fail
    refine (inRange_any _ _ _ true HA.out _).mono ?_
    rintro e w1 ⟨rfl, rfl⟩
    go_wp2_with fail
    refine (inRange_any _ _ _ false HB.out _).mono ?_
    rintro e w1 ⟨rfl, rfl⟩
    go_wp2_with fail
    go_ret
    exact val_of (by rw [HS.out]; rfl) (Below.refl _ _)
  have HA := Lib.hid (decide_eq_true ha)
  have HB := Lib.hid (decide_eq_true hb)
  have HS : Hid (slim n s = 3 + 2 * lv n + 6 * s) := Lib.hid (if_pos ⟨ha, hb⟩)
  obtain ⟨l1, l2⟩ := lv_in n
  have hs := hb
  obtain ⟨s1, s2⟩ := hs
  clear ha hb
  go_enter Try.func27, Try.ntmps27
  go_wp2_with fail
  refine (inRange_any _ _ _ true HA.out _).mono ?_
  rintro e w1 ⟨rfl, rfl⟩
  go_wp2_with fail
  refine (inRange_any _ _ _ true HB.out _).mono ?_
  rintro e w1 ⟨rfl, rfl⟩
  go_wp2_with fail
  refine (levels_any _ _).mono ?_
  rintro e w2 ⟨rfl, hb⟩
  have HW := Lib.hid hb
  clear hb
  generalize lv n = v at l1 l2 HS ⊢
  go_wp2_with fail
  refine (Rz.size_any _ _ _ _ _ _ ⟨by omega, by omega⟩ ⟨by omega, by omega⟩ ⟨by omega, by omega⟩ ⟨by omega, by omega⟩ ⟨by omega, by omega⟩).mono ?_
  rintro e w3 ⟨rfl, hb⟩
  replace HW := Lib.hid (below_on HW.out hb)
  clear hb
  go_wp2_with fail
  go_ret
  refine val_of ?_ HW.out
  rw [HS.out]
  show Value.int .i64 (1 * 3 + v * 2 + s * 6 + 0 * 2 + 0) = _
  congr 1
  omega
set_option maxRecDepth 100000 in
set_option maxHeartbeats 4000000 in
theorem spec_limit_any (n s : Int) (w : World) : Calls Try.prog 26 #[.int .i64 n, .int .i64 s] w (Dz.Val (.int .i64 (slim n s)) w) := by
  by_cases ha : 0 ≤ s ∧ s ≤ 6
  rotate_left
  · have HA := Lib.hid (decide_eq_false ha)
    have HS : Hid (slim n s = 0) := Lib.hid (if_neg (fun h => ha h.2))
    clear ha
    go_enter Try.func26, Try.ntmps26
    go_wp2_with fail
    refine (l1In_any _ _ _ false HA.out _).mono ?_
    rintro e w1 ⟨rfl, rfl⟩
    go_wp2_with fail
    go_ret
    exact val_of (by rw [HS.out]; rfl) (Below.refl _ _)
  by_cases hb : 1 ≤ n ∧ n ≤ 16
  rotate_left
  · have HA := Lib.hid (decide_eq_true ha)
    have HB := Lib.hid (decide_eq_false hb)
    have HS : Hid (slim n s = 0) := Lib.hid (if_neg (fun h => hb h.1))
    clear ha hb
    go_enter Try.func26, Try.ntmps26
    go_wp2_with fail
    refine (l1In_any _ _ _ true HA.out _).mono ?_
    rintro e w1 ⟨rfl, rfl⟩
    go_wp2_with fail
    refine (l1In_any _ _ _ false HB.out _).mono ?_
    rintro e w1 ⟨rfl, rfl⟩
    go_wp2_with fail
    go_ret
    exact val_of (by rw [HS.out]; rfl) (Below.refl _ _)
  have HA := Lib.hid (decide_eq_true ha)
  have HB := Lib.hid (decide_eq_true hb)
  have HS : Hid (slim n s = 3 + 2 * lv n + 6 * s) := Lib.hid (if_pos ⟨hb, ha⟩)
  obtain ⟨l1, l2⟩ := lv_in n
  have hs := ha
  obtain ⟨s1, s2⟩ := hs
  clear ha hb
  go_enter Try.func26, Try.ntmps26
  go_wp2_with fail
  refine (l1In_any _ _ _ true HA.out _).mono ?_
  rintro e w1 ⟨rfl, rfl⟩
  go_wp2_with fail
  refine (l1In_any _ _ _ true HB.out _).mono ?_
  rintro e w1 ⟨rfl, rfl⟩
  go_wp2_with fail
  refine (spec_levels_any _ _).mono ?_
  rintro e w2 ⟨rfl, hb⟩
  have HW := Lib.hid hb
  clear hb
  generalize lv n = v at l1 l2 HS ⊢
  go_wp2_with fail
  go_ret
  refine val_of ?_ HW.out
  rw [HS.out]
  show Value.int .i64 (3 + 2 * v + 6 * s) = _
  rfl
end Go.Proofs.Ytihnegohhkplbaa.Sm
