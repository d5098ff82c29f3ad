/- Contracts of lists of methods: valid or not, the place, the break and the life of an Id; in the program and in the reference. -/
import Derived.Test.YtmfnpgeifkcjkaaMb
import Derived.Deep.RegionHeld3
import Derived.Deep.QuietTactic
import Derived.BigQuiet
import Derived.LoopTactic
import Derived.Outline
namespace Go.Proofs.Ytmfnpgeifkcjkaa.Mq
open Go.ChangeShapes Go.WideShapes Go.ChangeAt Go.RowKit Sl St Mn SlMethod Mm Mb Ints

theorem zero_z4 : SlMethod.zero = z4 := rfl
/-! ### the break -/
set_option maxHeartbeats 1000000 in
theorem brk_any (p : Option Addr) (n c : Nat) (xs : List Me) (hR : ∀ x ∈ xs, InR x) (id : Int) (hid : -9223372036854775808 ≤ id ∧ id ≤ 9223372036854775807) (w : World) (hr : RdS E w p n xs) : Calls Try.prog 52 #[.slice p n c, .int .i64 id] w (Val (.int .i64 (brk xs id)) w) := by
  have hl := hr.len
  have hle := hr.le
  rcases fnd_in xs id with hf | ⟨k, hk, hf⟩
  · have HF := Lib.hid hf
    have HS := Lib.hid (brk_none hf)
    clear hf
    go_enter Try.func52, Try.ntmps52
    go_wp2_with fail
    refine (find_any p n c xs hR id hid _ hr).mono ?_
    rintro e w1 ⟨rfl, hb⟩
    rw [HF.out]
    go_wp2_with fail
    go_ret
    exact ⟨by rw [HS.out]; rfl, hb⟩
  · have HF := Lib.hid hf
    have HS := Lib.hid (brk_at hf)
    rw [hl] at hk
    clear hf hl
    go_enter Try.func52, Try.ntmps52
    go_wp2_with fail
    refine (find_any p n c xs hR id hid _ hr).mono ?_
    rintro e w1 ⟨rfl, hb⟩
    rw [HF.out]
    obtain ⟨b, o, rfl, _, hat⟩ := rd_at (hr.below hb) hk
    rw [zero_z4] at hat
    obtain ⟨_, _, _, h3⟩ := hat
    rw [← HS.out] at h3
    have HB := Lib.hid hb
    clear hb hr
    go_wp2_with fail
    go_ret
    exact ⟨rfl, HB.out⟩
set_option maxHeartbeats 1000000 in
theorem spec_find_any (p : Option Addr) (n c : Nat) (xs : List Me) (id : Int) (w : World) (hr : RdS E w p n xs) : Calls Try.prog 75 #[.slice p n c, .int .i64 id] w (Val (.int .i64 (fnd xs id)) w) := by
  have HR := Lib.hid hr
  have HL := Lib.hid hr.len
  have hle := hr.le
  clear hr
  go_enter Try.func75, Try.ntmps75
  go_wp2_with fail
  go_loop [5] (fun i => ∃ k : Nat, k ≤ n ∧ i = .int .i64 k ∧ Hid (∀ j, j < k → (xs.getD j z4).1 ≠ id)) (fun i => n - (intOf i).toNat)
  case atStart => exact ⟨0, Nat.zero_le _, rfl, Lib.hid fun j h => by omega⟩
  case round =>
    obtain ⟨k, hk, rfl, HK⟩ := hrel
    by_cases hlt : k < n
    · obtain ⟨b, o, rfl, hb, hat⟩ := rd_at HR.out hlt
      rw [zero_z4] at hat
      generalize hx : xs.getD k z4 = x at hat
      have HX := Lib.hid hx
      clear hx
      obtain ⟨h0, _, _, _⟩ := hat
      generalize hy : x.1 = y at h0
      have HY := Lib.hid hy
      clear hy
      by_cases he : y = id
      · have HE := Lib.hid (fnd_at (l := xs) (id := id) (k := k) (by rw [HL.out]; exact hlt) (by rw [HX.out, HY.out]; exact he) HK.out)
        go_wp2_with fail
        go_ret
        exact ⟨by rw [HE.out]; rfl, Below.refl _ _⟩
      · have HN : Hid (∀ j, j < k + 1 → (xs.getD j z4).1 ≠ id) := Lib.hid fun j hj => by
          rcases Nat.lt_succ_iff_lt_or_eq.1 hj with h | rfl
          · exact HK.out j h
          · rw [HX.out, HY.out]; exact he
        go_wp2_with fail
        go_round
        case rel => exact ⟨k + 1, by omega, by go_num, HN⟩
        case measure => simp [intOf]; omega
    · obtain rfl : k = n := by omega
      have HE := Lib.hid (fnd_none (l := xs) (id := id) (by rw [HL.out]; exact HK.out))
      go_wp2_with fail
      go_ret
      exact ⟨by rw [HE.out]; rfl, Below.refl _ _⟩
set_option maxHeartbeats 1000000 in
theorem spec_brk_any (p : Option Addr) (n c : Nat) (xs : List Me) (id : Int) (w : World) (hr : RdS E w p n xs) : Calls Try.prog 41 #[.slice p n c, .int .i64 id] w (Val (.int .i64 (brk xs id)) w) := by
  have hl := hr.len
  have hle := hr.le
  rcases fnd_in xs id with hf | ⟨k, hk, hf⟩
  · have HF := Lib.hid hf
    have HS := Lib.hid (brk_none hf)
    clear hf
    go_enter Try.func41, Try.ntmps41
    go_wp2_with fail
    refine (spec_find_any p n c xs id _ hr).mono ?_
    rintro e w1 ⟨rfl, hb⟩
    rw [HF.out]
    go_wp2_with fail
    go_ret
    exact ⟨by rw [HS.out]; rfl, hb⟩
  · have HF := Lib.hid hf
    have HS := Lib.hid (brk_at hf)
    rw [hl] at hk
    clear hf hl
    go_enter Try.func41, Try.ntmps41
    go_wp2_with fail
    refine (spec_find_any p n c xs id _ hr).mono ?_
    rintro e w1 ⟨rfl, hb⟩
    rw [HF.out]
    obtain ⟨b, o, rfl, _, hat⟩ := rd_at (hr.below hb) hk
    rw [zero_z4] at hat
    obtain ⟨_, _, _, h3⟩ := hat
    rw [← HS.out] at h3
    have HB := Lib.hid hb
    clear hb hr
    go_wp2_with fail
    go_ret
    exact ⟨rfl, HB.out⟩

/-! ### alive or not -/
end Go.Proofs.Ytmfnpgeifkcjkaa.Mq
