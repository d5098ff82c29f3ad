/- Contracts of certificates: valid or not, what is marked, their span; in the program and in the reference. Contracts of answers about certificates: valid or not, what is marked; in the program and in the reference. Contracts of what is marked in stamps; in the program and in the reference. Contracts of signatures: valid or not, what is marked (the reference); in the program and in the reference. Contracts of mandates: valid or not, what is marked (the reference), their span; in the program and in the reference. -/
import Derived.Test.YtgmoldianhkifaaSlAll
import Derived.Test.YtgmoldianhkifaaKi
import Derived.Test.YtgmoldianhkifaaSp
import Derived.Test.YtgmoldianhkifaaSr
import Derived.LoopTactic
import Derived.Outline
namespace Go.Proofs.Ytgmoldianhkifaa.Ci
open Go.ChangeShapes Go.WideShapes Go.ChangeAt Go.RowKit Sl St Fnd SlCert Ki Jn Sps
theorem says {b b' : Bool} {w w' : World} (h : b' = b) (hb : Below w.heap.size w w') : Val (.bool b) w (.returned (.bool b')) w' := ⟨by rw [h], hb⟩
def okC (x : I7) : Bool := inB x.1 1 999 && (inB x.2.1 1 99 && (inB x.2.2.2.2.2.1 1 99 && (decide (x.2.1 ≠ x.2.2.2.2.2.1) && (inB x.2.2.1 0 99 && okB (x.2.2.2.1, x.2.2.2.2.1)))))
set_option maxRecDepth 100000 in
set_option maxHeartbeats 2000000 in
theorem certInts_any (x0 x1 x2 x3 x4 x5 x6 : Int) (w : World) (_h0 : -9223372036854775808 ≤ x0 ∧ x0 ≤ 9223372036854775807) (_h1 : -9223372036854775808 ≤ x1 ∧ x1 ≤ 9223372036854775807) (_h2 : -9223372036854775808 ≤ x2 ∧ x2 ≤ 9223372036854775807) (_h3 : -9223372036854775808 ≤ x3 ∧ x3 ≤ 9223372036854775807) (_h4 : -9223372036854775808 ≤ x4 ∧ x4 ≤ 9223372036854775807) (_h5 : -9223372036854775808 ≤ x5 ∧ x5 ≤ 9223372036854775807) (_h6 : -9223372036854775808 ≤ x6 ∧ x6 ≤ 9223372036854775807) : Calls Try.prog 106 #[.agg #[.int .i64 x0, .int .i64 x1, .int .i64 x2, .int .i64 x3, .int .i64 x4, .int .i64 x5, .int .i64 x6]] w (SlI.Makes [101, x0, x1, x2, x3, x4, x5] w) := by
  have HO := Lib.hid (litN_at 3 (w.alloc (.cells #[.int .i64 x0, .int .i64 x1, .int .i64 x2, .int .i64 x3, .int .i64 x4, .int .i64 x5, .int .i64 x6] 37)) w.heap.size (w.heap.size + 1) [101, x0, x1, x2, x3, x4, x5] (allK_cons ⟨by omega, by omega⟩ (allK_cons _h0 (allK_cons _h1 (allK_cons _h2 (allK_cons _h3 (allK_cons _h4 (allK_cons _h5 (allK_nil _)))))))) (by simp) (by simp) (by simp))
  have HB := Lib.hid ((box1 w (.cells #[.int .i64 x0, .int .i64 x1, .int .i64 x2, .int .i64 x3, .int .i64 x4, .int .i64 x5, .int .i64 x6] 37)).alloc (by simp) (.cells #[.int .i64 101, .int .i64 x0, .int .i64 x1, .int .i64 x2, .int .i64 x3, .int .i64 x4, .int .i64 x5] 3))
  go_enter Try.func106, Try.ntmps106
  go_wp2_with fail
  go_ret
  exact ⟨_, _, _, rfl, HO.out, HB.out⟩
end Go.Proofs.Ytgmoldianhkifaa.Ci

namespace Go.Proofs.Ytgmoldianhkifaa.Si
open Go.ChangeShapes Go.WideShapes Go.ChangeAt Go.RowKit Sl St Fnd SlStatus Ki
theorem says {b b' : Bool} {w w' : World} (h : b' = b) (hb : Below w.heap.size w w') : SlStatus.Val (.bool b) w (.returned (.bool b')) w' := ⟨by rw [h], hb⟩
def okS (x : I5) : Bool := inB x.1 1 999 && (inB x.2.1 0 10000 && (inB x.2.2.1 (-1) (x.2.1 + 1) && inB x.2.2.2.1 1 99))
set_option maxRecDepth 100000 in
set_option maxHeartbeats 2000000 in
theorem statusInts_any (x0 x1 x2 x3 x4 : Int) (w : World) (_h0 : -9223372036854775808 ≤ x0 ∧ x0 ≤ 9223372036854775807) (_h1 : -9223372036854775808 ≤ x1 ∧ x1 ≤ 9223372036854775807) (_h2 : -9223372036854775808 ≤ x2 ∧ x2 ≤ 9223372036854775807) (_h3 : -9223372036854775808 ≤ x3 ∧ x3 ≤ 9223372036854775807) (_h4 : -9223372036854775808 ≤ x4 ∧ x4 ≤ 9223372036854775807) : Calls Try.prog 108 #[.agg #[.int .i64 x0, .int .i64 x1, .int .i64 x2, .int .i64 x3, .int .i64 x4]] w (SlI.Makes [102, x0, x1, x2, x3] w) := by
  have HO := Lib.hid (litN_at 3 (w.alloc (.cells #[.int .i64 x0, .int .i64 x1, .int .i64 x2, .int .i64 x3, .int .i64 x4] 43)) w.heap.size (w.heap.size + 1) [102, x0, x1, x2, x3] (allK_cons ⟨by omega, by omega⟩ (allK_cons _h0 (allK_cons _h1 (allK_cons _h2 (allK_cons _h3 (allK_nil _)))))) (by simp) (by simp) (by simp))
  have HB := Lib.hid ((box1 w (.cells #[.int .i64 x0, .int .i64 x1, .int .i64 x2, .int .i64 x3, .int .i64 x4] 43)).alloc (by simp) (.cells #[.int .i64 102, .int .i64 x0, .int .i64 x1, .int .i64 x2, .int .i64 x3] 3))
  go_enter Try.func108, Try.ntmps108
  go_wp2_with fail
  go_ret
  exact ⟨_, _, _, rfl, HO.out, HB.out⟩
end Go.Proofs.Ytgmoldianhkifaa.Si

namespace Go.Proofs.Ytgmoldianhkifaa.Ti
open Go.ChangeShapes Go.WideShapes Go.ChangeAt Go.RowKit Sl St Fnd SlStamp Ki
set_option maxRecDepth 100000 in
set_option maxHeartbeats 2000000 in
theorem stampInts_any (x0 x1 x2 x3 x4 : Int) (w : World) (_h0 : -9223372036854775808 ≤ x0 ∧ x0 ≤ 9223372036854775807) (_h1 : -9223372036854775808 ≤ x1 ∧ x1 ≤ 9223372036854775807) (_h2 : -9223372036854775808 ≤ x2 ∧ x2 ≤ 9223372036854775807) (_h3 : -9223372036854775808 ≤ x3 ∧ x3 ≤ 9223372036854775807) (_h4 : -9223372036854775808 ≤ x4 ∧ x4 ≤ 9223372036854775807) : Calls Try.prog 117 #[.agg #[.int .i64 x0, .int .i64 x1, .int .i64 x2, .int .i64 x3, .int .i64 x4]] w (SlI.Makes [103, x0, x1, x2, x3] w) := by
  have HO := Lib.hid (litN_at 3 (w.alloc (.cells #[.int .i64 x0, .int .i64 x1, .int .i64 x2, .int .i64 x3, .int .i64 x4] 48)) w.heap.size (w.heap.size + 1) [103, x0, x1, x2, x3] (allK_cons ⟨by omega, by omega⟩ (allK_cons _h0 (allK_cons _h1 (allK_cons _h2 (allK_cons _h3 (allK_nil _)))))) (by simp) (by simp) (by simp))
  have HB := Lib.hid ((box1 w (.cells #[.int .i64 x0, .int .i64 x1, .int .i64 x2, .int .i64 x3, .int .i64 x4] 48)).alloc (by simp) (.cells #[.int .i64 103, .int .i64 x0, .int .i64 x1, .int .i64 x2, .int .i64 x3] 3))
  go_enter Try.func117, Try.ntmps117
  go_wp2_with fail
  go_ret
  exact ⟨_, _, _, rfl, HO.out, HB.out⟩
end Go.Proofs.Ytgmoldianhkifaa.Ti

namespace Go.Proofs.Ytgmoldianhkifaa.Gi
open Go.ChangeShapes Go.WideShapes Go.ChangeAt Go.RowKit Sl St Fnd SlSignature Ki
theorem says {b b' : Bool} {w w' : World} (h : b' = b) (hb : Below w.heap.size w w') : SlSignature.Val (.bool b) w (.returned (.bool b')) w' := ⟨by rw [h], hb⟩
def okG (x : I9) : Bool := inB x.1 1 99 && (inB x.2.1 1 999 && (inB x.2.2.1 0 99 && (inB x.2.2.2.2.2.1 0 99 && (inB x.2.2.2.2.1 1 3 && (inB x.2.2.2.1 0 1000000000000 && (inB x.2.2.2.2.2.2.1 0 1000000000000 && inB x.2.2.2.2.2.2.2.1 0 1000000000000))))))
end Go.Proofs.Ytgmoldianhkifaa.Gi

namespace Go.Proofs.Ytgmoldianhkifaa.Mi
open Go.ChangeShapes Go.WideShapes Go.ChangeAt Go.RowKit Sl St Fnd SlMandate Ki Jn Sps
theorem says {b b' : Bool} {w w' : World} (h : b' = b) (hb : Below w.heap.size w w') : SlMandate.Val (.bool b) w (.returned (.bool b')) w' := ⟨by rw [h], hb⟩
def okD (x : I6) : Bool := inB x.1 1 99 && (inB x.2.1 0 99 && (inB x.2.2.2.2.1 1 99 && okB (x.2.2.1, x.2.2.2.1)))
end Go.Proofs.Ytgmoldianhkifaa.Mi
