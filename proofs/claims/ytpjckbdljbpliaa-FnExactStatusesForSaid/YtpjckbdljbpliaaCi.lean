/- Contracts of certificates: valid or not, what is marked, their span; in the program and in the reference. -/
import Derived.Test.YtpjckbdljbpliaaSlCert
import Derived.Test.YtpjckbdljbpliaaKi
import Derived.Test.YtpjckbdljbpliaaSp
import Derived.Test.YtpjckbdljbpliaaSr
import Derived.LoopTactic
import Derived.Outline
namespace Go.Proofs.Ytpjckbdljbpliaa.Ci
open Go.ChangeShapes Go.WideShapes Go.ChangeAt Go.RowKit Sl St Fnd SlCert Ki Jn Sps
theorem says {b b' : Bool} {w w' : World} (h : b' = b) (hb : Below w.heap.size w w') : Val (.bool b) w (.returned (.bool b')) w' := ⟨by rw [h], hb⟩
def okC (x : I7) : Bool := inB x.1 1 999 && (inB x.2.1 1 99 && (inB x.2.2.2.2.2.1 1 99 && (decide (x.2.1 ≠ x.2.2.2.2.2.1) && (inB x.2.2.1 0 99 && okB (x.2.2.2.1, x.2.2.2.2.1)))))
set_option maxRecDepth 100000 in
set_option maxHeartbeats 2000000 in
theorem certInts_any (x0 x1 x2 x3 x4 x5 x6 : Int) (w : World) (_h0 : -9223372036854775808 ≤ x0 ∧ x0 ≤ 9223372036854775807) (_h1 : -9223372036854775808 ≤ x1 ∧ x1 ≤ 9223372036854775807) (_h2 : -9223372036854775808 ≤ x2 ∧ x2 ≤ 9223372036854775807) (_h3 : -9223372036854775808 ≤ x3 ∧ x3 ≤ 9223372036854775807) (_h4 : -9223372036854775808 ≤ x4 ∧ x4 ≤ 9223372036854775807) (_h5 : -9223372036854775808 ≤ x5 ∧ x5 ≤ 9223372036854775807) (_h6 : -9223372036854775808 ≤ x6 ∧ x6 ≤ 9223372036854775807) : Calls Try.prog 124 #[.agg #[.int .i64 x0, .int .i64 x1, .int .i64 x2, .int .i64 x3, .int .i64 x4, .int .i64 x5, .int .i64 x6]] w (SlI.Makes [101, x0, x1, x2, x3, x4, x5] w) := by
  have HO := Lib.hid (litN_at 3 (w.alloc (.cells #[.int .i64 x0, .int .i64 x1, .int .i64 x2, .int .i64 x3, .int .i64 x4, .int .i64 x5, .int .i64 x6] 37)) w.heap.size (w.heap.size + 1) [101, x0, x1, x2, x3, x4, x5] (allK_cons ⟨by omega, by omega⟩ (allK_cons _h0 (allK_cons _h1 (allK_cons _h2 (allK_cons _h3 (allK_cons _h4 (allK_cons _h5 (allK_nil _)))))))) (by simp) (by simp) (by simp))
  have HB := Lib.hid ((box1 w (.cells #[.int .i64 x0, .int .i64 x1, .int .i64 x2, .int .i64 x3, .int .i64 x4, .int .i64 x5, .int .i64 x6] 37)).alloc (by simp) (.cells #[.int .i64 101, .int .i64 x0, .int .i64 x1, .int .i64 x2, .int .i64 x3, .int .i64 x4, .int .i64 x5] 3))
  go_enter Try.func124, Try.ntmps124
  go_wp2_with fail
  go_ret
  exact ⟨_, _, _, rfl, HO.out, HB.out⟩
end Go.Proofs.Ytpjckbdljbpliaa.Ci
