/- Contracts of lists of methods: valid or not, the place, the break and the life of an Id; in the program and in the reference. -/
import Derived.Test.YtlipcnaimpplpaaMb
import Derived.Deep.RegionHeld3
import Derived.Deep.QuietTactic
import Derived.BigQuiet
import Derived.LoopTactic
import Derived.Outline
namespace Go.Proofs.Ytlipcnaimpplpaa.Mq
open Go.ChangeShapes Go.WideShapes Go.ChangeAt Go.RowKit Sl St Mn SlMethod Mm Mb Ints

theorem zero_z4 : SlMethod.zero = z4 := rfl
theorem from_any (t a b : Int) (β : Bool) (h : (decide (a ≤ t) && decide (t < b)) = β) (w : World) : Calls Try.prog 56 #[.int .i64 t, .int .i64 a, .int .i64 b] w fun e w' => e = .returned (.bool β) ∧ w = w' := by
  subst h
  by_cases h1 : a ≤ t <;> by_cases h2 : t < b
  all_goals
    go_enter Try.func56, Try.ntmps56
    go_wp2
    go_ret
    exact ⟨ret_bool (by simp [h1, h2]), rfl⟩
theorem q_from (t a b : Int) (β : Bool) (h : (decide (a ≤ t) && decide (t < b)) = β) (w : World) (n : Nat) : Calls Try.prog 56 #[.int .i64 t, .int .i64 a, .int .i64 b] (w.drewN n) fun e w'' => e = .returned (.bool β) ∧ ∃ m, w'' = w.drewN m :=
  Calls.quiet_of_same ((from_any t a b β h _).mono fun _ _ h => ⟨h.1, h.2.symm⟩)

/-! ### the break -/
set_option maxHeartbeats 1000000 in
theorem spec_find_any (p : Option Addr) (n c : Nat) (xs : List Me) (id : Int) (w : World) (hr : RdS E w p n xs) : Calls Try.prog 51 #[.slice p n c, .int .i64 id] w (Val (.int .i64 (fnd xs id)) w) := by
  have HR := Lib.hid hr
  have HL := Lib.hid hr.len
  have hle := hr.le
  clear hr
  go_enter Try.func51, Try.ntmps51
  go_wp2_with fail
  go_loop [5] (fun i => ∃ k : Nat, k ≤ n ∧ i = .int .i64 k ∧ Hid (∀ j, j < k → (xs.getD j z4).1 ≠ id)) (fun i => n - (intOf i).toNat)
  case atStart => exact ⟨0, Nat.zero_le _, rfl, Lib.hid fun j h => by omega⟩
  case round =>
    obtain ⟨k, hk, rfl, HK⟩ := hrel
    by_cases hlt : k < n
    · obtain ⟨b, o, rfl, hb, hat⟩ := rd_at HR.out hlt
      rw [zero_z4] at hat
      generalize hx : xs.getD k z4 = x at hat
      have HX := Lib.hid hx
      clear hx
      obtain ⟨h0, _, _, _⟩ := hat
      generalize hy : x.1 = y at h0
      have HY := Lib.hid hy
      clear hy
      by_cases he : y = id
      · have HE := Lib.hid (fnd_at (l := xs) (id := id) (k := k) (by rw [HL.out]; exact hlt) (by rw [HX.out, HY.out]; exact he) HK.out)
        go_wp2_with fail
        go_ret
        exact ⟨by rw [HE.out]; rfl, Below.refl _ _⟩
      · have HN : Hid (∀ j, j < k + 1 → (xs.getD j z4).1 ≠ id) := Lib.hid fun j hj => by
          rcases Nat.lt_succ_iff_lt_or_eq.1 hj with h | rfl
          · exact HK.out j h
          · rw [HX.out, HY.out]; exact he
        go_wp2_with fail
        go_round
        case rel => exact ⟨k + 1, by omega, by go_num, HN⟩
        case measure => simp [intOf]; omega
    · obtain rfl : k = n := by omega
      have HE := Lib.hid (fnd_none (l := xs) (id := id) (by rw [HL.out]; exact HK.out))
      go_wp2_with fail
      go_ret
      exact ⟨by rw [HE.out]; rfl, Below.refl _ _⟩
/-! ### alive or not -/
set_option maxHeartbeats 2000000 in
theorem alive_any (p : Option Addr) (n c : Nat) (xs : List Me) (hR : ∀ x ∈ xs, InR x) (id : Int) (hid : -9223372036854775808 ≤ id ∧ id ≤ 9223372036854775807) (t : Int) (w : World) (hr : RdS E w p n xs) : Calls Try.prog 36 #[.slice p n c, .int .i64 id, .int .i64 t] w (Tells (alive xs id t) w) := by
  have hl := hr.len
  have hle := hr.le
  rcases fnd_in xs id with hf | ⟨k, hk, hf⟩
  · have HF := Lib.hid hf
    have HS := Lib.hid (alive_none t hf)
    clear hf
    go_enter Try.func36, Try.ntmps36
    go_wp2_with fail
    refine (find_any p n c xs hR id hid _ hr).mono ?_
    rintro e w1 ⟨rfl, hb⟩
    rw [HF.out]
    go_wp2_with fail
    go_quiet (fail)
    go_wp2_with fail
    go_ret
    exact tells (by rw [HS.out]) (below_drewN hb _)
  · have HF := Lib.hid hf
    have HS := Lib.hid (alive_at t hf)
    rw [hl] at hk
    clear hf hl
    go_enter Try.func36, Try.ntmps36
    go_wp2_with fail
    refine (find_any p n c xs hR id hid _ hr).mono ?_
    rintro e w1 ⟨rfl, hb⟩
    rw [HF.out]
    obtain ⟨b, o, rfl, _, hat⟩ := rd_at (hr.below hb) hk
    rw [zero_z4] at hat
    generalize hx : xs.getD k z4 = x at hat
    have HX := Lib.hid hx
    clear hx
    obtain ⟨_, h1, _, h3⟩ := hat
    generalize hy : x.2.1 = y at h1
    generalize hz : x.2.2.2 = z at h3
    obtain ⟨β, hβ⟩ : ∃ β, (decide (y ≤ t) && decide (t < z)) = β := ⟨_, rfl⟩
    have HS2 : Hid (alive xs id t = β) := Lib.hid (by rw [HS.out, HX.out, hy, hz, hβ])
    have HQ := Lib.hid hβ
    have HB := Lib.hid hb
    have i1 : (0 : Int) ≤ (k : Int) := by omega
    have i2 : (k : Int) < (n : Int) := by omega
    clear hb hr hβ hy hz
    go_wp2_with fail
    go_quiet (first | (go_at_call 56; with_reducible exact q_from t y z _ HQ.out _ _))
    go_wp2_with fail
    go_ret
    exact tells (by rw [HS2.out]) (below_drewN HB.out _)
set_option maxHeartbeats 2000000 in
theorem spec_alive_any (p : Option Addr) (n c : Nat) (xs : List Me) (id : Int) (t : Int) (w : World) (hr : RdS E w p n xs) : Calls Try.prog 30 #[.slice p n c, .int .i64 id, .int .i64 t] w (Tells (alive xs id t) w) := by
  have hl := hr.len
  have hle := hr.le
  rcases fnd_in xs id with hf | ⟨k, hk, hf⟩
  · have HF := Lib.hid hf
    have HS := Lib.hid (alive_none t hf)
    clear hf
    go_enter Try.func30, Try.ntmps30
    go_wp2_with fail
    refine (spec_find_any p n c xs id _ hr).mono ?_
    rintro e w1 ⟨rfl, hb⟩
    rw [HF.out]
    go_wp2_with fail
    go_ret
    exact tells (by rw [HS.out]) hb
  · have HF := Lib.hid hf
    have HS := Lib.hid (alive_at t hf)
    rw [hl] at hk
    clear hf hl
    go_enter Try.func30, Try.ntmps30
    go_wp2_with fail
    refine (spec_find_any p n c xs id _ hr).mono ?_
    rintro e w1 ⟨rfl, hb⟩
    rw [HF.out]
    obtain ⟨b, o, rfl, _, hat⟩ := rd_at (hr.below hb) hk
    rw [zero_z4] at hat
    generalize hx : xs.getD k z4 = x at hat
    have HX := Lib.hid hx
    clear hx
    obtain ⟨_, h1, _, h3⟩ := hat
    generalize hy : x.2.1 = y at h1
    generalize hz : x.2.2.2 = z at h3
    have HS2 : Hid (alive xs id t = (decide (y ≤ t) && decide (t < z))) := Lib.hid (by rw [HS.out, HX.out, hy, hz])
    have HB := Lib.hid hb
    clear hb hr hy hz
    by_cases g1 : y ≤ t <;> by_cases g2 : t < z
    all_goals
      go_wp2_with fail
      go_ret
      exact tells (by rw [HS2.out]; simp [*]) HB.out
end Go.Proofs.Ytlipcnaimpplpaa.Mq
