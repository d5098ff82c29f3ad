/- Contracts: the first Key with a number; in the program (slices.IndexFunc with a closure) and in the reference. -/
import Derived.Test.YtlfmpjmodhlciaaGreatSlKey
import Derived.Test.YtlfmpjmodhlciaaGreatFnd
import Derived.Test.YtlfmpjmodhlciaaGreatShelfG
import Derived.Shelf.SlicesQ.IndexFunc
import Derived.LoopTactic
import Derived.Deep.QuietTactic
import Derived.BigQuiet
import Derived.Outline
namespace Go.Proofs.YtlfmpjmodhlciaaGreat.FKey
open Go.ChangeShapes Go.WideShapes Go.ChangeAt Go.RowKit Go.Shelf Sl St Fnd SlKey

set_option maxHeartbeats 1000000 in
theorem spec_find_any (p : Option Addr) (n c : Nat) (xs : List I5) (id : Int) (w : World) (hr : RdS E w p n xs) : Calls Tryz.prog 60 #[.slice p n c, .int .i64 id] w fun e w' => e = .returned (.int .i64 (find xs id)) ∧ w = w' := by
  have HR := Lib.hid hr
  have HL := Lib.hid hr.len
  have hle := hr.le
  clear hr
  go_enter Tryz.func60, Tryz.ntmps60
  go_wp2_with fail
  go_loop [5] (fun i => ∃ k : Nat, k ≤ n ∧ i = .int .i64 k ∧ Hid (∀ j, j < k → (xs.getD j zero).1 ≠ id)) (fun i => n - (intOf i).toNat)
  case atStart => exact ⟨0, Nat.zero_le _, rfl, Lib.hid fun j h => by omega⟩
  case round =>
    obtain ⟨k, hk, rfl, HK⟩ := hrel
    by_cases hlt : k < n
    · obtain ⟨b, o, rfl, hb, hat⟩ := rd_at HR.out hlt
      generalize hx : xs.getD k zero = x at hat
      have HX := Lib.hid hx
      clear hx
      have h0 := hat.1
      clear hat
      generalize hy : x.1 = y at h0
      have HY := Lib.hid hy
      clear hy
      by_cases he : y = id
      · have HE := Lib.hid (find_at (z := zero) (l := xs) (n := id) (k := k) (by rw [HL.out]; exact hlt) (by rw [HX.out, HY.out]; exact he) HK.out)
        go_wp2_with fail
        go_ret
        exact ⟨by rw [HE.out]; rfl, rfl⟩
      · have HN : Hid (∀ j, j < k + 1 → (xs.getD j zero).1 ≠ id) := Lib.hid fun j hj => by
          rcases Nat.lt_succ_iff_lt_or_eq.1 hj with h | rfl
          · exact HK.out j h
          · rw [HX.out, HY.out]; exact he
        go_wp2_with fail
        go_round
        case rel => exact ⟨k + 1, by omega, by go_num, HN⟩
        case measure => simp [intOf]; omega
    · obtain rfl : k = n := by omega
      have HE := Lib.hid (find_none (z := zero) (l := xs) (n := id) (by rw [HL.out]; exact HK.out))
      go_wp2_with fail
      go_ret
      exact ⟨by rw [HE.out]; rfl, rfl⟩
theorem spec_find_val (p : Option Addr) (n c : Nat) (xs : List I5) (id : Int) (w : World) (hr : RdS E w p n xs) : Calls Tryz.prog 60 #[.slice p n c, .int .i64 id] w (Val (.int .i64 (find xs id)) w) :=
  (spec_find_any p n c xs id w hr).mono fun _ _ ⟨he, hw⟩ => ⟨he, by rw [hw]; exact Below.refl _ _⟩
theorem nth_at {xs : List I5} {j : Nat} (h : j < xs.length) : xs[j]? = some xs[j]! := by
  rw [List.getElem?_eq_getElem h]
  simp [h]
end Go.Proofs.YtlfmpjmodhlciaaGreat.FKey
