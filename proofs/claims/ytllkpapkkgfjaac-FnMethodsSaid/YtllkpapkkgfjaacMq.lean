/- Contracts of lists of methods: valid or not, the place, the break and the life of an Id; in the program and in the reference. -/
import Derived.Test.YtllkpapkkgfjaacMb
import Derived.Deep.RegionHeld3
import Derived.Deep.QuietTactic
import Derived.BigQuiet
import Derived.LoopTactic
import Derived.Outline
namespace Go.Proofs.Ytllkpapkkgfjaac.Mq
open Go.ChangeShapes Go.WideShapes Go.ChangeAt Go.RowKit Sl St Mn SlMethod Mm Mb Ints

theorem zero_z4 : SlMethod.zero = z4 := rfl
theorem from_any (t a b : Int) (β : Bool) (h : (decide (a ≤ t) && decide (t < b)) = β) (w : World) : Calls Try.prog 135 #[.int .i64 t, .int .i64 a, .int .i64 b] w fun e w' => e = .returned (.bool β) ∧ w = w' := by
  subst h
  by_cases h1 : a ≤ t <;> by_cases h2 : t < b
  all_goals
    go_enter Try.func135, Try.ntmps135
    go_wp2
    go_ret
    exact ⟨ret_bool (by simp [h1, h2]), rfl⟩
theorem q_from (t a b : Int) (β : Bool) (h : (decide (a ≤ t) && decide (t < b)) = β) (w : World) (n : Nat) : Calls Try.prog 135 #[.int .i64 t, .int .i64 a, .int .i64 b] (w.drewN n) fun e w'' => e = .returned (.bool β) ∧ ∃ m, w'' = w.drewN m :=
  Calls.quiet_of_same ((from_any t a b β h _).mono fun _ _ h => ⟨h.1, h.2.symm⟩)

/-! ### the break -/
set_option maxHeartbeats 1000000 in
theorem brk_any (p : Option Addr) (n c : Nat) (xs : List Me) (hR : ∀ x ∈ xs, InR x) (id : Int) (hid : -9223372036854775808 ≤ id ∧ id ≤ 9223372036854775807) (w : World) (hr : RdS E w p n xs) : Calls Try.prog 77 #[.slice p n c, .int .i64 id] w (Val (.int .i64 (brk xs id)) w) := by
  have hl := hr.len
  have hle := hr.le
  rcases fnd_in xs id with hf | ⟨k, hk, hf⟩
  · have HF := Lib.hid hf
    have HS := Lib.hid (brk_none hf)
    clear hf
    go_enter Try.func77, Try.ntmps77
    go_wp2_with fail
    refine (find_any p n c xs hR id hid _ hr).mono ?_
    rintro e w1 ⟨rfl, hb⟩
    rw [HF.out]
    go_wp2_with fail
    go_ret
    exact ⟨by rw [HS.out]; rfl, hb⟩
  · have HF := Lib.hid hf
    have HS := Lib.hid (brk_at hf)
    rw [hl] at hk
    clear hf hl
    go_enter Try.func77, Try.ntmps77
    go_wp2_with fail
    refine (find_any p n c xs hR id hid _ hr).mono ?_
    rintro e w1 ⟨rfl, hb⟩
    rw [HF.out]
    obtain ⟨b, o, rfl, _, hat⟩ := rd_at (hr.below hb) hk
    rw [zero_z4] at hat
    obtain ⟨_, _, _, h3⟩ := hat
    rw [← HS.out] at h3
    have HB := Lib.hid hb
    clear hb hr
    go_wp2_with fail
    go_ret
    exact ⟨rfl, HB.out⟩
/-! ### alive or not -/
set_option maxHeartbeats 2000000 in
theorem alive_any (p : Option Addr) (n c : Nat) (xs : List Me) (hR : ∀ x ∈ xs, InR x) (id : Int) (hid : -9223372036854775808 ≤ id ∧ id ≤ 9223372036854775807) (t : Int) (w : World) (hr : RdS E w p n xs) : Calls Try.prog 76 #[.slice p n c, .int .i64 id, .int .i64 t] w (Tells (alive xs id t) w) := by
  have hl := hr.len
  have hle := hr.le
  rcases fnd_in xs id with hf | ⟨k, hk, hf⟩
  · have HF := Lib.hid hf
    have HS := Lib.hid (alive_none t hf)
    clear hf
    go_enter Try.func76, Try.ntmps76
    go_wp2_with fail
    refine (find_any p n c xs hR id hid _ hr).mono ?_
    rintro e w1 ⟨rfl, hb⟩
    rw [HF.out]
    go_wp2_with fail
    go_quiet (fail)
    go_wp2_with fail
    go_ret
    exact tells (by rw [HS.out]) (below_drewN hb _)
  · have HF := Lib.hid hf
    have HS := Lib.hid (alive_at t hf)
    rw [hl] at hk
    clear hf hl
    go_enter Try.func76, Try.ntmps76
    go_wp2_with fail
    refine (find_any p n c xs hR id hid _ hr).mono ?_
    rintro e w1 ⟨rfl, hb⟩
    rw [HF.out]
    obtain ⟨b, o, rfl, _, hat⟩ := rd_at (hr.below hb) hk
    rw [zero_z4] at hat
    generalize hx : xs.getD k z4 = x at hat
    have HX := Lib.hid hx
    clear hx
    obtain ⟨_, h1, _, h3⟩ := hat
    generalize hy : x.2.1 = y at h1
    generalize hz : x.2.2.2 = z at h3
    obtain ⟨β, hβ⟩ : ∃ β, (decide (y ≤ t) && decide (t < z)) = β := ⟨_, rfl⟩
    have HS2 : Hid (alive xs id t = β) := Lib.hid (by rw [HS.out, HX.out, hy, hz, hβ])
    have HQ := Lib.hid hβ
    have HB := Lib.hid hb
    have i1 : (0 : Int) ≤ (k : Int) := by omega
    have i2 : (k : Int) < (n : Int) := by omega
    clear hb hr hβ hy hz
    go_wp2_with fail
    go_quiet (first | (go_at_call 135; with_reducible exact q_from t y z _ HQ.out _ _))
    go_wp2_with fail
    go_ret
    exact tells (by rw [HS2.out]) (below_drewN HB.out _)
end Go.Proofs.Ytllkpapkkgfjaac.Mq
