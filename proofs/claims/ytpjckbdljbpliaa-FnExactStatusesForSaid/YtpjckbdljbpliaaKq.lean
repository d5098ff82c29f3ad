/- The kind of a piece, in the reference. -/
import Derived.Test.YtpjckbdljbpliaaEd
import Derived.Test.YtpjckbdljbpliaaDz
import Derived.Test.YtpjckbdljbpliaaKd
import Derived.Test.YtpjckbdljbpliaaInt
import Derived.RegionTactic
import Derived.Outline
namespace Go.Proofs.Ytpjckbdljbpliaa.Kq
open Go.ChangeShapes Go.WideShapes Go.ChangeAt Go.RowKit Sl St Ed Dz Ints Kd
set_option maxRecDepth 100000 in
set_option maxHeartbeats 8000000 in
theorem spec_kind_any (k : Int) (p : Option Addr) (n c : Nat) (m : Int) (zs : List Int) (w : World) (hr : Rd .i64 w p n zs) : Calls Try.prog 55 #[.agg #[.int .i64 k, .slice p n c, .int .i64 m]] w (Val (.int .i64 (kind n (zs.getD 0 0))) w) := by
  have hle := hr.le
  rcases Nat.eq_zero_or_pos n with rfl | hpos
  · have HB := Lib.hid (box1 w (.cells #[.int .i64 k, .slice p 0 c, .int .i64 m] 75))
    have HK : Hid (kind 0 (zs.getD 0 0) = 0) := Lib.hid kind_nil
    clear hr
    go_enter Try.func55, Try.ntmps55
    go_wp2_with fail
    go_ret
    exact val_of (by rw [HK.out]; rfl) HB.out
  obtain ⟨b, o, rfl, hb, hz⟩ := first_at hr hpos
  generalize zs.getD 0 0 = z at hz ⊢
  have en1 : ((n : Int) == 0) = false := beq_eq_false_iff_ne.2 (by omega)
  have HX := Lib.hid (Bx.new w 75 #[.int .i64 k, .slice (some ⟨b, o, none⟩) n c, .int .i64 m])
  have HB := Lib.hid (box1 w (.cells #[.int .i64 k, .slice (some ⟨b, o, none⟩) n c, .int .i64 m] 75))
  have hz1 : (w.alloc (.cells #[.int .i64 k, .slice (some ⟨b, o, none⟩) n c, .int .i64 m] 75)).cell? ⟨b, o, none⟩ = some (.int .i64 z) := (HB.out.cell (p := ⟨b, o, none⟩) hb).trans hz
  have hbw : b < (w.alloc (.cells #[.int .i64 k, .slice (some ⟨b, o, none⟩) n c, .int .i64 m] 75)).heap.size := by simp; omega
  have hne : b ≠ w.heap.size := by omega
  clear hr hz
  by_cases hin : 101 ≤ z ∧ z ≤ 105
  rotate_left
  · have HR : Hid (decide (101 ≤ z ∧ z ≤ 105) = false) := Lib.hid (decide_eq_false hin)
    have HK : Hid (kind n z = 0) := Lib.hid (kind_out hin)
    clear hin
    go_enter Try.func55, Try.ntmps55
    go_wp2_with fail
    refine (l1In_any z 101 105 _ HR.out _).mono ?_
    rintro e w1 ⟨rfl, rfl⟩
    go_wp2_with fail
    go_ret
    exact val_of (by rw [HK.out]; rfl) HB.out
  rcases (by omega : z = 101 ∨ z = 102 ∨ z = 103 ∨ z = 104 ∨ z = 105) with rfl | rfl | rfl | rfl | rfl
  · clear hin
    have HR : Hid (decide ((101 : Int) ≤ 101 ∧ (101 : Int) ≤ 105) = true) := Lib.hid (by decide)
    have hz2 := (((box1 (w.alloc (.cells #[.int .i64 k, .slice (some ⟨b, o, none⟩) n c, .int .i64 m] 75)) (.cells #[.int .i64 7, .int .i64 5, .int .i64 5, .int .i64 9, .int .i64 6] 3))).cell (p := ⟨b, o, none⟩) hbw).trans hz1
    have HB2 := Lib.hid (HB.out.alloc HB.out.size (.cells #[.int .i64 7, .int .i64 5, .int .i64 5, .int .i64 9, .int .i64 6] 3))
    by_cases hn : n = 7
    · subst hn
      have HK : Hid (kind 7 101 = 101) := Lib.hid (by decide)
      go_enter Try.func55, Try.ntmps55
      go_wp2_with fail
      refine (l1In_any 101 101 105 _ HR.out _).mono ?_
      rintro e w1 ⟨rfl, rfl⟩
      go_wp2_with fail
      go_region
      go_wp2_with fail
      go_ret
      exact val_of (by rw [HK.out]; rfl) (below_drewN HB2.out 1)
    · have HK : Hid (kind n 101 = 0) := Lib.hid (by unfold kind; repeat (first | rw [if_neg (by omega)] | rfl))
      have e1 : ((n : Int) != 7) = true := bne_iff_ne.2 (by omega)
      have e2 : ((n : Int) == 7) = false := beq_eq_false_iff_ne.2 (by omega)
      clear hn
      go_enter Try.func55, Try.ntmps55
      go_wp2_with fail
      refine (l1In_any 101 101 105 _ HR.out _).mono ?_
      rintro e w1 ⟨rfl, rfl⟩
      go_wp2_with fail
      go_region
      go_wp2_with fail
      go_ret
      exact val_of (by rw [HK.out]; rfl) (below_drewN HB2.out 1)
  · clear hin
    have HR : Hid (decide ((101 : Int) ≤ 102 ∧ (102 : Int) ≤ 105) = true) := Lib.hid (by decide)
    have hz2 := (((box1 (w.alloc (.cells #[.int .i64 k, .slice (some ⟨b, o, none⟩) n c, .int .i64 m] 75)) (.cells #[.int .i64 7, .int .i64 5, .int .i64 5, .int .i64 9, .int .i64 6] 3))).cell (p := ⟨b, o, none⟩) hbw).trans hz1
    have HB2 := Lib.hid (HB.out.alloc HB.out.size (.cells #[.int .i64 7, .int .i64 5, .int .i64 5, .int .i64 9, .int .i64 6] 3))
    by_cases hn : n = 5
    · subst hn
      have HK : Hid (kind 5 102 = 102) := Lib.hid (by decide)
      go_enter Try.func55, Try.ntmps55
      go_wp2_with fail
      refine (l1In_any 102 101 105 _ HR.out _).mono ?_
      rintro e w1 ⟨rfl, rfl⟩
      go_wp2_with fail
      go_region
      go_wp2_with fail
      go_ret
      exact val_of (by rw [HK.out]; rfl) (below_drewN HB2.out 1)
    · have HK : Hid (kind n 102 = 0) := Lib.hid (by unfold kind; repeat (first | rw [if_neg (by omega)] | rfl))
      have e1 : ((n : Int) != 5) = true := bne_iff_ne.2 (by omega)
      have e2 : ((n : Int) == 5) = false := beq_eq_false_iff_ne.2 (by omega)
      clear hn
      go_enter Try.func55, Try.ntmps55
      go_wp2_with fail
      refine (l1In_any 102 101 105 _ HR.out _).mono ?_
      rintro e w1 ⟨rfl, rfl⟩
      go_wp2_with fail
      go_region
      go_wp2_with fail
      go_ret
      exact val_of (by rw [HK.out]; rfl) (below_drewN HB2.out 1)
  · clear hin
    have HR : Hid (decide ((101 : Int) ≤ 103 ∧ (103 : Int) ≤ 105) = true) := Lib.hid (by decide)
    have hz2 := (((box1 (w.alloc (.cells #[.int .i64 k, .slice (some ⟨b, o, none⟩) n c, .int .i64 m] 75)) (.cells #[.int .i64 7, .int .i64 5, .int .i64 5, .int .i64 9, .int .i64 6] 3))).cell (p := ⟨b, o, none⟩) hbw).trans hz1
    have HB2 := Lib.hid (HB.out.alloc HB.out.size (.cells #[.int .i64 7, .int .i64 5, .int .i64 5, .int .i64 9, .int .i64 6] 3))
    by_cases hn : n = 5
    · subst hn
      have HK : Hid (kind 5 103 = 103) := Lib.hid (by decide)
      go_enter Try.func55, Try.ntmps55
      go_wp2_with fail
      refine (l1In_any 103 101 105 _ HR.out _).mono ?_
      rintro e w1 ⟨rfl, rfl⟩
      go_wp2_with fail
      go_region
      go_wp2_with fail
      go_ret
      exact val_of (by rw [HK.out]; rfl) (below_drewN HB2.out 1)
    · have HK : Hid (kind n 103 = 0) := Lib.hid (by unfold kind; repeat (first | rw [if_neg (by omega)] | rfl))
      have e1 : ((n : Int) != 5) = true := bne_iff_ne.2 (by omega)
      have e2 : ((n : Int) == 5) = false := beq_eq_false_iff_ne.2 (by omega)
      clear hn
      go_enter Try.func55, Try.ntmps55
      go_wp2_with fail
      refine (l1In_any 103 101 105 _ HR.out _).mono ?_
      rintro e w1 ⟨rfl, rfl⟩
      go_wp2_with fail
      go_region
      go_wp2_with fail
      go_ret
      exact val_of (by rw [HK.out]; rfl) (below_drewN HB2.out 1)
  · clear hin
    have HR : Hid (decide ((101 : Int) ≤ 104 ∧ (104 : Int) ≤ 105) = true) := Lib.hid (by decide)
    have hz2 := (((box1 (w.alloc (.cells #[.int .i64 k, .slice (some ⟨b, o, none⟩) n c, .int .i64 m] 75)) (.cells #[.int .i64 7, .int .i64 5, .int .i64 5, .int .i64 9, .int .i64 6] 3))).cell (p := ⟨b, o, none⟩) hbw).trans hz1
    have HB2 := Lib.hid (HB.out.alloc HB.out.size (.cells #[.int .i64 7, .int .i64 5, .int .i64 5, .int .i64 9, .int .i64 6] 3))
    by_cases hn : n = 9
    · subst hn
      have HK : Hid (kind 9 104 = 104) := Lib.hid (by decide)
      go_enter Try.func55, Try.ntmps55
      go_wp2_with fail
      refine (l1In_any 104 101 105 _ HR.out _).mono ?_
      rintro e w1 ⟨rfl, rfl⟩
      go_wp2_with fail
      go_region
      go_wp2_with fail
      go_ret
      exact val_of (by rw [HK.out]; rfl) (below_drewN HB2.out 1)
    · have HK : Hid (kind n 104 = 0) := Lib.hid (by unfold kind; repeat (first | rw [if_neg (by omega)] | rfl))
      have e1 : ((n : Int) != 9) = true := bne_iff_ne.2 (by omega)
      have e2 : ((n : Int) == 9) = false := beq_eq_false_iff_ne.2 (by omega)
      clear hn
      go_enter Try.func55, Try.ntmps55
      go_wp2_with fail
      refine (l1In_any 104 101 105 _ HR.out _).mono ?_
      rintro e w1 ⟨rfl, rfl⟩
      go_wp2_with fail
      go_region
      go_wp2_with fail
      go_ret
      exact val_of (by rw [HK.out]; rfl) (below_drewN HB2.out 1)
  · clear hin
    have HR : Hid (decide ((101 : Int) ≤ 105 ∧ (105 : Int) ≤ 105) = true) := Lib.hid (by decide)
    have hz2 := (((box1 (w.alloc (.cells #[.int .i64 k, .slice (some ⟨b, o, none⟩) n c, .int .i64 m] 75)) (.cells #[.int .i64 7, .int .i64 5, .int .i64 5, .int .i64 9, .int .i64 6] 3))).cell (p := ⟨b, o, none⟩) hbw).trans hz1
    have HB2 := Lib.hid (HB.out.alloc HB.out.size (.cells #[.int .i64 7, .int .i64 5, .int .i64 5, .int .i64 9, .int .i64 6] 3))
    by_cases hn : n = 6
    · subst hn
      have HK : Hid (kind 6 105 = 105) := Lib.hid (by decide)
      go_enter Try.func55, Try.ntmps55
      go_wp2_with fail
      refine (l1In_any 105 101 105 _ HR.out _).mono ?_
      rintro e w1 ⟨rfl, rfl⟩
      go_wp2_with fail
      go_region
      go_wp2_with fail
      go_ret
      exact val_of (by rw [HK.out]; rfl) (below_drewN HB2.out 1)
    · have HK : Hid (kind n 105 = 0) := Lib.hid (by unfold kind; repeat (first | rw [if_neg (by omega)] | rfl))
      have e1 : ((n : Int) != 6) = true := bne_iff_ne.2 (by omega)
      have e2 : ((n : Int) == 6) = false := beq_eq_false_iff_ne.2 (by omega)
      clear hn
      go_enter Try.func55, Try.ntmps55
      go_wp2_with fail
      refine (l1In_any 105 101 105 _ HR.out _).mono ?_
      rintro e w1 ⟨rfl, rfl⟩
      go_wp2_with fail
      go_region
      go_wp2_with fail
      go_ret
      exact val_of (by rw [HK.out]; rfl) (below_drewN HB2.out 1)
end Go.Proofs.Ytpjckbdljbpliaa.Kq
