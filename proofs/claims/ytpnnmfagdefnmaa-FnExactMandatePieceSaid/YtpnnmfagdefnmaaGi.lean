/- Contracts of signatures: valid or not, what is marked (the reference); in the program and in the reference. -/
import Derived.Test.YtpnnmfagdefnmaaSlSignature
import Derived.Test.YtpnnmfagdefnmaaKi
import Derived.Test.YtpnnmfagdefnmaaSr
import Derived.LoopTactic
import Derived.Outline
namespace Go.Proofs.Ytpnnmfagdefnmaa.Gi
open Go.ChangeShapes Go.WideShapes Go.ChangeAt Go.RowKit Sl St Fnd SlSignature Ki
theorem says {b b' : Bool} {w w' : World} (h : b' = b) (hb : Below w.heap.size w w') : SlSignature.Val (.bool b) w (.returned (.bool b')) w' := ⟨by rw [h], hb⟩
def okG (x : I9) : Bool := inB x.1 1 99 && (inB x.2.1 1 999 && (inB x.2.2.1 0 99 && (inB x.2.2.2.2.2.1 0 99 && (inB x.2.2.2.2.1 1 3 && (inB x.2.2.2.1 0 1000000000000 && (inB x.2.2.2.2.2.2.1 0 1000000000000 && inB x.2.2.2.2.2.2.2.1 0 1000000000000))))))
set_option maxRecDepth 100000 in
set_option maxHeartbeats 2000000 in
theorem spec_signatureInts_any (x0 x1 x2 x3 x4 x5 x6 x7 x8 : Int) (w : World) (_h0 : -9223372036854775808 ≤ x0 ∧ x0 ≤ 9223372036854775807) (_h1 : -9223372036854775808 ≤ x1 ∧ x1 ≤ 9223372036854775807) (_h2 : -9223372036854775808 ≤ x2 ∧ x2 ≤ 9223372036854775807) (_h3 : -9223372036854775808 ≤ x3 ∧ x3 ≤ 9223372036854775807) (_h4 : -9223372036854775808 ≤ x4 ∧ x4 ≤ 9223372036854775807) (_h5 : -9223372036854775808 ≤ x5 ∧ x5 ≤ 9223372036854775807) (_h6 : -9223372036854775808 ≤ x6 ∧ x6 ≤ 9223372036854775807) (_h7 : -9223372036854775808 ≤ x7 ∧ x7 ≤ 9223372036854775807) (_h8 : -9223372036854775808 ≤ x8 ∧ x8 ≤ 9223372036854775807) : Calls Try.prog 70 #[.agg #[.int .i64 x0, .int .i64 x1, .int .i64 x2, .int .i64 x3, .int .i64 x4, .int .i64 x5, .int .i64 x6, .int .i64 x7, .int .i64 x8]] w (SlI.Makes [104, x0, x1, x2, x3, x4, x5, x6, x7] w) := by
  have HO := Lib.hid (litN_at 3 (w.alloc (.cells #[.int .i64 x0, .int .i64 x1, .int .i64 x2, .int .i64 x3, .int .i64 x4, .int .i64 x5, .int .i64 x6, .int .i64 x7, .int .i64 x8] 53)) w.heap.size (w.heap.size + 1) [104, x0, x1, x2, x3, x4, x5, x6, x7] (allK_cons ⟨by omega, by omega⟩ (allK_cons _h0 (allK_cons _h1 (allK_cons _h2 (allK_cons _h3 (allK_cons _h4 (allK_cons _h5 (allK_cons _h6 (allK_cons _h7 (allK_nil _)))))))))) (by simp) (by simp) (by simp))
  have HB := Lib.hid ((box1 w (.cells #[.int .i64 x0, .int .i64 x1, .int .i64 x2, .int .i64 x3, .int .i64 x4, .int .i64 x5, .int .i64 x6, .int .i64 x7, .int .i64 x8] 53)).alloc (by simp) (.cells #[.int .i64 104, .int .i64 x0, .int .i64 x1, .int .i64 x2, .int .i64 x3, .int .i64 x4, .int .i64 x5, .int .i64 x6, .int .i64 x7] 3))
  go_enter Try.func70, Try.ntmps70
  go_wp2_with fail
  go_ret
  exact ⟨_, _, _, rfl, HO.out, HB.out⟩
end Go.Proofs.Ytpnnmfagdefnmaa.Gi
