/- Contracts of what is marked in a succession; in the program and in the reference. -/
import Derived.Test.YtlipcnaimpplpaaSlSuccession
import Derived.Test.YtlipcnaimpplpaaKi
import Derived.Test.YtlipcnaimpplpaaSr
import Derived.LoopTactic
import Derived.Outline
namespace Go.Proofs.Ytlipcnaimpplpaa.Yi
open Go.ChangeShapes Go.WideShapes Go.ChangeAt Go.RowKit Sl St Fnd SlSuccession Ki
set_option maxRecDepth 100000 in
set_option maxHeartbeats 2000000 in
theorem succInts_any (x0 x1 x2 x3 : Int) (w : World) (_h0 : -9223372036854775808 ≤ x0 ∧ x0 ≤ 9223372036854775807) (_h1 : -9223372036854775808 ≤ x1 ∧ x1 ≤ 9223372036854775807) (_h2 : -9223372036854775808 ≤ x2 ∧ x2 ≤ 9223372036854775807) (_h3 : -9223372036854775808 ≤ x3 ∧ x3 ≤ 9223372036854775807) : Calls Try.prog 78 #[.agg #[.int .i64 x0, .int .i64 x1, .int .i64 x2, .int .i64 x3]] w (SlI.Makes [106, x0, x1, x2] w) := by
  have HO := Lib.hid (litN_at 3 (w.alloc (.cells #[.int .i64 x0, .int .i64 x1, .int .i64 x2, .int .i64 x3] 76)) w.heap.size (w.heap.size + 1) [106, x0, x1, x2] (allK_cons ⟨by omega, by omega⟩ (allK_cons _h0 (allK_cons _h1 (allK_cons _h2 (allK_nil _))))) (by simp) (by simp) (by simp))
  have HB := Lib.hid ((box1 w (.cells #[.int .i64 x0, .int .i64 x1, .int .i64 x2, .int .i64 x3] 76)).alloc (by simp) (.cells #[.int .i64 106, .int .i64 x0, .int .i64 x1, .int .i64 x2] 3))
  go_enter Try.func78, Try.ntmps78
  go_wp2_with fail
  go_ret
  exact ⟨_, _, _, rfl, HO.out, HB.out⟩
set_option maxRecDepth 100000 in
set_option maxHeartbeats 2000000 in
theorem spec_succInts_any (x0 x1 x2 x3 : Int) (w : World) (_h0 : -9223372036854775808 ≤ x0 ∧ x0 ≤ 9223372036854775807) (_h1 : -9223372036854775808 ≤ x1 ∧ x1 ≤ 9223372036854775807) (_h2 : -9223372036854775808 ≤ x2 ∧ x2 ≤ 9223372036854775807) (_h3 : -9223372036854775808 ≤ x3 ∧ x3 ≤ 9223372036854775807) : Calls Try.prog 76 #[.agg #[.int .i64 x0, .int .i64 x1, .int .i64 x2, .int .i64 x3]] w (SlI.Makes [106, x0, x1, x2] w) := by
  have HO := Lib.hid (litN_at 3 (w.alloc (.cells #[.int .i64 x0, .int .i64 x1, .int .i64 x2, .int .i64 x3] 76)) w.heap.size (w.heap.size + 1) [106, x0, x1, x2] (allK_cons ⟨by omega, by omega⟩ (allK_cons _h0 (allK_cons _h1 (allK_cons _h2 (allK_nil _))))) (by simp) (by simp) (by simp))
  have HB := Lib.hid ((box1 w (.cells #[.int .i64 x0, .int .i64 x1, .int .i64 x2, .int .i64 x3] 76)).alloc (by simp) (.cells #[.int .i64 106, .int .i64 x0, .int .i64 x1, .int .i64 x2] 3))
  go_enter Try.func76, Try.ntmps76
  go_wp2_with fail
  go_ret
  exact ⟨_, _, _, rfl, HO.out, HB.out⟩
end Go.Proofs.Ytlipcnaimpplpaa.Yi
