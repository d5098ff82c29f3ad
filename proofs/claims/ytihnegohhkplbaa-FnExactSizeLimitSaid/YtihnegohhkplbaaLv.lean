/- Contracts of the number of levels of a tree: the rest. -/
import Derived.Test.YtihnegohhkplbaaLw
namespace Go.Proofs.Ytihnegohhkplbaa.Lv
open Go.ChangeShapes Go.WideShapes Go.ChangeAt Go.RowKit Sl Ints Lw
set_option maxRecDepth 100000 in
set_option maxHeartbeats 4000000 in
theorem len_any (x : Int) (h0 : 0 ≤ x) (h1 : x ≤ 15) (w : World) : Calls Try.prog 84 #[.int .u64 x] w (Val (.int .i64 (lv (x + 1))) w) := by
  go_enter Try.func84, Try.ntmps84
  go_wp2_with fail
  refine (len64_any x h0 h1 _).mono ?_
  rintro e w1 ⟨rfl, hb⟩
  have HB := Lib.hid hb
  clear hb
  go_wp2_with fail
  go_ret
  exact ⟨rfl, HB.out⟩
set_option maxRecDepth 100000 in
set_option maxHeartbeats 4000000 in
theorem levels_any (n : Int) (w : World) : Calls Try.prog 59 #[.int .i64 n] w (Val (.int .i64 (lv n)) w) := by
  by_cases hin : 1 ≤ n ∧ n ≤ 16
  · have h1 : 0 ≤ n - 1 := by omega
    have h2 : n - 1 ≤ 15 := by omega
    have HT : Hid (decide ((1 : Int) ≤ n ∧ n ≤ 16) = true) := Lib.hid (decide_eq_true hin)
    have HE : Hid (lv (n - 1 + 1) = lv n) := Lib.hid (by congr 1; omega)
    have h3 : 1 ≤ n := hin.1
    have h4 : n ≤ 16 := hin.2
    clear hin
    go_enter Try.func59, Try.ntmps59
    go_wp2_with fail
    refine (inRange_any _ _ _ true HT.out _).mono ?_
    rintro e w1 ⟨rfl, rfl⟩
    go_wp2_with fail
    refine (len_any (n - 1) h1 h2 _).mono ?_
    rintro e w1 ⟨rfl, hb⟩
    have HB := Lib.hid hb
    clear hb
    go_wp2_with fail
    go_ret
    exact ⟨by first | rfl | (rw [HE.out]; rfl), HB.out⟩
  · have HF : Hid (decide ((1 : Int) ≤ n ∧ n ≤ 16) = false) := Lib.hid (decide_eq_false hin)
    have HO := Lib.hid (lv_out (n := n) (by omega))
    clear hin
    go_enter Try.func59, Try.ntmps59
    go_wp2_with fail
    refine (inRange_any _ _ _ false HF.out _).mono ?_
    rintro e w1 ⟨rfl, rfl⟩
    go_wp2_with fail
    go_ret
    exact says (by rw [HO.out]; rfl)
set_option maxRecDepth 100000 in
set_option maxHeartbeats 4000000 in
theorem spec_levels_any (n : Int) (w : World) : Calls Try.prog 57 #[.int .i64 n] w (Val (.int .i64 (lv n)) w) := by
  by_cases hin : 1 ≤ n ∧ n ≤ 16
  · have HT : Hid (decide ((1 : Int) ≤ n ∧ n ≤ 16) = true) := Lib.hid (decide_eq_true hin)
    have h3 : 1 ≤ n := hin.1
    have h4 : n ≤ 16 := hin.2
    clear hin
    go_enter Try.func57, Try.ntmps57
    go_wp2_with fail
    refine (l1In_any _ _ _ true HT.out _).mono ?_
    rintro e w1 ⟨rfl, rfl⟩
    go_wp2_with fail
    go_loop [3, 4] (fun k m => ∃ a b : Int, k = .int .i64 a ∧ m = .int .i64 b ∧ ((a = 0 ∧ b = 1) ∨ (a = 1 ∧ b = 2 ∧ 1 < n) ∨ (a = 2 ∧ b = 4 ∧ 2 < n) ∨ (a = 3 ∧ b = 8 ∧ 4 < n) ∨ (a = 4 ∧ b = 16 ∧ 8 < n))) (fun _ m => 100 - (intOf m).toNat)
    case atStart => exact ⟨0, 1, rfl, rfl, Or.inl ⟨rfl, rfl⟩⟩
    case round =>
      obtain ⟨a, b, rfl, rfl, hc⟩ := hrel
      rcases hc with ⟨rfl, rfl⟩ | ⟨rfl, rfl, h5⟩ | ⟨rfl, rfl, h5⟩ | ⟨rfl, rfl, h5⟩ | ⟨rfl, rfl, h5⟩
      · by_cases hl : 1 < n
        · go_wp2_with fail
          go_round
          case rel => exact ⟨1, 2, rfl, rfl, Or.inr (Or.inl ⟨rfl, rfl, hl⟩)⟩
          case measure => simp [intOf]
        · have HL : Hid (lv n = 0) := Lib.hid (by unfold lv; rw [if_pos (by omega)])
          go_wp2_with fail
          go_ret
          exact says (by rw [HL.out]; rfl)
      · by_cases hl : 2 < n
        · go_wp2_with fail
          go_round
          case rel => exact ⟨2, 4, rfl, rfl, Or.inr (Or.inr (Or.inl ⟨rfl, rfl, hl⟩))⟩
          case measure => simp [intOf]
        · have HL : Hid (lv n = 1) := Lib.hid (by unfold lv; rw [if_neg (by omega), if_pos (by omega)])
          go_wp2_with fail
          go_ret
          exact says (by rw [HL.out]; rfl)
      · by_cases hl : 4 < n
        · go_wp2_with fail
          go_round
          case rel => exact ⟨3, 8, rfl, rfl, Or.inr (Or.inr (Or.inr (Or.inl ⟨rfl, rfl, hl⟩)))⟩
          case measure => simp [intOf]
        · have HL : Hid (lv n = 2) := Lib.hid (by unfold lv; rw [if_neg (by omega), if_neg (by omega), if_pos (by omega)])
          go_wp2_with fail
          go_ret
          exact says (by rw [HL.out]; rfl)
      · by_cases hl : 8 < n
        · go_wp2_with fail
          go_round
          case rel => exact ⟨4, 16, rfl, rfl, Or.inr (Or.inr (Or.inr (Or.inr ⟨rfl, rfl, hl⟩)))⟩
          case measure => simp [intOf]
        · have HL : Hid (lv n = 3) := Lib.hid (by unfold lv; rw [if_neg (by omega), if_neg (by omega), if_neg (by omega), if_pos (by omega)])
          go_wp2_with fail
          go_ret
          exact says (by rw [HL.out]; rfl)
      · have hl : ¬ 16 < n := by omega
        have HL : Hid (lv n = 4) := Lib.hid (by unfold lv; rw [if_neg (by omega), if_neg (by omega), if_neg (by omega), if_neg (by omega), if_pos (by omega)])
        go_wp2_with fail
        go_ret
        exact says (by rw [HL.out]; rfl)
  · have HF : Hid (decide ((1 : Int) ≤ n ∧ n ≤ 16) = false) := Lib.hid (decide_eq_false hin)
    have HO := Lib.hid (lv_out (n := n) (by omega))
    clear hin
    go_enter Try.func57, Try.ntmps57
    go_wp2_with fail
    refine (l1In_any _ _ _ false HF.out _).mono ?_
    rintro e w1 ⟨rfl, rfl⟩
    go_wp2_with fail
    go_ret
    exact says (by rw [HO.out]; rfl)
end Go.Proofs.Ytihnegohhkplbaa.Lv
