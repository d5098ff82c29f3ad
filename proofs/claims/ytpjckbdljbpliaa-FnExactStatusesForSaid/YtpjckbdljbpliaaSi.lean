/- Contracts of answers about certificates: valid or not, what is marked; in the program and in the reference. -/
import Derived.Test.YtpjckbdljbpliaaSlStatus
import Derived.Test.YtpjckbdljbpliaaKi
import Derived.Test.YtpjckbdljbpliaaSr
import Derived.LoopTactic
import Derived.Outline
namespace Go.Proofs.Ytpjckbdljbpliaa.Si
open Go.ChangeShapes Go.WideShapes Go.ChangeAt Go.RowKit Sl St Fnd SlStatus Ki
theorem says {b b' : Bool} {w w' : World} (h : b' = b) (hb : Below w.heap.size w w') : SlStatus.Val (.bool b) w (.returned (.bool b')) w' := ⟨by rw [h], hb⟩
def okS (x : I5) : Bool := inB x.1 1 999 && (inB x.2.1 0 10000 && (inB x.2.2.1 (-1) (x.2.1 + 1) && inB x.2.2.2.1 1 99))
set_option maxRecDepth 100000 in
set_option maxHeartbeats 2000000 in
theorem statusInts_any (x0 x1 x2 x3 x4 : Int) (w : World) (_h0 : -9223372036854775808 ≤ x0 ∧ x0 ≤ 9223372036854775807) (_h1 : -9223372036854775808 ≤ x1 ∧ x1 ≤ 9223372036854775807) (_h2 : -9223372036854775808 ≤ x2 ∧ x2 ≤ 9223372036854775807) (_h3 : -9223372036854775808 ≤ x3 ∧ x3 ≤ 9223372036854775807) (_h4 : -9223372036854775808 ≤ x4 ∧ x4 ≤ 9223372036854775807) : Calls Try.prog 133 #[.agg #[.int .i64 x0, .int .i64 x1, .int .i64 x2, .int .i64 x3, .int .i64 x4]] w (SlI.Makes [102, x0, x1, x2, x3] w) := by
  have HO := Lib.hid (litN_at 3 (w.alloc (.cells #[.int .i64 x0, .int .i64 x1, .int .i64 x2, .int .i64 x3, .int .i64 x4] 80)) w.heap.size (w.heap.size + 1) [102, x0, x1, x2, x3] (allK_cons ⟨by omega, by omega⟩ (allK_cons _h0 (allK_cons _h1 (allK_cons _h2 (allK_cons _h3 (allK_nil _)))))) (by simp) (by simp) (by simp))
  have HB := Lib.hid ((box1 w (.cells #[.int .i64 x0, .int .i64 x1, .int .i64 x2, .int .i64 x3, .int .i64 x4] 80)).alloc (by simp) (.cells #[.int .i64 102, .int .i64 x0, .int .i64 x1, .int .i64 x2, .int .i64 x3] 3))
  go_enter Try.func133, Try.ntmps133
  go_wp2_with fail
  go_ret
  exact ⟨_, _, _, rfl, HO.out, HB.out⟩
end Go.Proofs.Ytpjckbdljbpliaa.Si
