/- Contracts of certificates: valid or not, what is marked, their span; in the program and in the reference. -/
import Derived.Test.YtlgkgccmilapbaaSlCert
import Derived.Test.YtlgkgccmilapbaaKi
import Derived.Test.YtlgkgccmilapbaaSp
import Derived.Test.YtlgkgccmilapbaaSr
import Derived.LoopTactic
import Derived.Outline
namespace Go.Proofs.Ytlgkgccmilapbaa.Ci
open Go.ChangeShapes Go.WideShapes Go.ChangeAt Go.RowKit Sl St Fnd SlCert Ki Jn Sps
theorem says {b b' : Bool} {w w' : World} (h : b' = b) (hb : Below w.heap.size w w') : Val (.bool b) w (.returned (.bool b')) w' := ⟨by rw [h], hb⟩
def okC (x : I7) : Bool := inB x.1 1 999 && (inB x.2.1 1 99 && (inB x.2.2.2.2.2.1 1 99 && (decide (x.2.1 ≠ x.2.2.2.2.2.1) && (inB x.2.2.1 0 99 && okB (x.2.2.2.1, x.2.2.2.2.1)))))
set_option maxHeartbeats 1000000 in
theorem spec_certSpan_any (x0 x1 x2 x3 x4 x5 x6 : Int) (w : World) : Calls Try.prog 40 #[.agg #[.int .i64 x0, .int .i64 x1, .int .i64 x2, .int .i64 x3, .int .i64 x4, .int .i64 x5, .int .i64 x6]] w (Val (.agg #[.int .i64 x3, .int .i64 x4]) w) := by
  go_enter Try.func40, Try.ntmps40
  go_wp2_with fail
  exact bodyPost_ret (v := .agg #[.int .i64 x3, .int .i64 x4]) (by simp [results, Try.results40, go_sem]) rfl ⟨rfl, ((Below.refl _ _).alloc (Nat.le_refl _) _).alloc (by simp) _⟩
set_option maxHeartbeats 1000000 in
theorem certSpan_any (x0 x1 x2 x3 x4 x5 x6 : Int) (w : World) : Calls Try.prog 72 #[.agg #[.int .i64 x0, .int .i64 x1, .int .i64 x2, .int .i64 x3, .int .i64 x4, .int .i64 x5, .int .i64 x6]] w (Val (.agg #[.int .i64 x3, .int .i64 x4]) w) := by
  go_enter Try.func72, Try.ntmps72
  go_wp2_with fail
  exact bodyPost_ret (v := .agg #[.int .i64 x3, .int .i64 x4]) (by simp [results, Try.results72, go_sem]) rfl ⟨rfl, ((Below.refl _ _).alloc (Nat.le_refl _) _).alloc (by simp) _⟩
end Go.Proofs.Ytlgkgccmilapbaa.Ci
