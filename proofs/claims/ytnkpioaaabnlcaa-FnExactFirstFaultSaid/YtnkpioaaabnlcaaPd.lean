/- Contracts of the digest above two others; in the program and in the reference. -/
import Derived.Test.YtnkpioaaabnlcaaDg
import Derived.Test.YtnkpioaaabnlcaaSr
import Derived.LoopTactic
import Derived.Outline
namespace Go.Proofs.Ytnkpioaaabnlcaa.Pd
open Go.ChangeShapes Go.WideShapes Go.ChangeAt Go.RowKit Sl Hs Dg
def Val (v : Value) (w : World) (e : Ending) (w' : World) : Prop := e = .returned v ∧ Below w.heap.size w w'
set_option maxRecDepth 100000 in
set_option maxHeartbeats 4000000 in
theorem pair_any (m a b : Int) (_hm : -9223372036854775808 ≤ m ∧ m ≤ 9223372036854775807) (ha : -9223372036854775808 ≤ a ∧ a ≤ 9223372036854775807) (hb' : -9223372036854775808 ≤ b ∧ b ≤ 9223372036854775807) (w : World) : Calls Try.prog 68 #[.int .i64 m, .int .i64 a, .int .i64 b] w (Val (.int .i64 (dig m [1, a, b])) w) := by
  have HO := Lib.hid (litN_own 3 w w.heap.size [1, a, b] (allK_cons ⟨by omega, by omega⟩ (allK_cons ha (allK_cons hb' (allK_nil _)))) (Nat.le_refl _) (by simp))
  have HB : Hid (Below w.heap.size w (w.alloc (.cells #[.int .i64 1, .int .i64 a, .int .i64 b] 3))) := Lib.hid ((Below.refl _ _).alloc (Nat.le_refl _) _)
  clear ha hb'
  go_enter Try.func68, Try.ntmps68
  go_wp2_with fail
  refine (dig_any _ _ _ _ _ _ HO.out.rd).mono ?_
  rintro e w1 ⟨rfl, rfl⟩
  go_wp2_with fail
  go_ret
  exact ⟨rfl, HB.out⟩
set_option maxRecDepth 100000 in
set_option maxHeartbeats 4000000 in
theorem spec_pair_any (m a b : Int) (hm : -9223372036854775808 ≤ m ∧ m ≤ 9223372036854775807) (ha : -9223372036854775808 ≤ a ∧ a ≤ 9223372036854775807) (hb' : -9223372036854775808 ≤ b ∧ b ≤ 9223372036854775807) (w : World) : Calls Try.prog 64 #[.int .i64 m, .int .i64 a, .int .i64 b] w (Val (.int .i64 (dig m [1, a, b])) w) := by
  have HO := Lib.hid (litN_own 3 w w.heap.size [1, a, b] (allK_cons ⟨by omega, by omega⟩ (allK_cons ha (allK_cons hb' (allK_nil _)))) (Nat.le_refl _) (by simp))
  have HB : Hid (Below w.heap.size w (w.alloc (.cells #[.int .i64 1, .int .i64 a, .int .i64 b] 3))) := Lib.hid ((Below.refl _ _).alloc (Nat.le_refl _) _)
  clear ha hb'
  go_enter Try.func64, Try.ntmps64
  go_wp2_with fail
  refine (spec_dig_any _ _ _ _ _ _ HO.out.rd ⟨hm.1, hm.2⟩ (by simp)).mono ?_
  rintro e w1 ⟨rfl, hb⟩
  replace HB := Lib.hid (below_on HB.out hb)
  clear hb
  go_wp2_with fail
  go_ret
  exact ⟨rfl, HB.out⟩
end Go.Proofs.Ytnkpioaaabnlcaa.Pd
