/- Contracts of the number of levels of a tree; in the program (bits.Len) and in the reference (a loop). -/
import Derived.Test.YtihnegohhkplbaaBx
import Derived.Test.YtihnegohhkplbaaInt
import Derived.OpenShut
import Derived.LoopTactic
import Derived.KernelRfl
namespace Go.Proofs.Ytihnegohhkplbaa.Lw
open Go.ChangeShapes Go.WideShapes Go.ChangeAt Go.RowKit Sl Ints
def Val (v : Value) (w : World) (e : Ending) (w' : World) : Prop := e = .returned v ∧ Below w.heap.size w w'
theorem says {b b' : Value} {w : World} (h : b' = b) : Val b w (.returned b') w := ⟨by rw [h], Below.refl _ _⟩
def lv (n : Int) : Int := if n ≤ 1 then 0 else if n ≤ 2 then 1 else if n ≤ 4 then 2 else if n ≤ 8 then 3 else if n ≤ 16 then 4 else 0
theorem lv_out {n : Int} (h : n < 1 ∨ 16 < n) : lv n = 0 := by
  unfold lv
  rcases h with h | h
  · rw [if_pos (by omega)]
  · rw [if_neg (by omega), if_neg (by omega), if_neg (by omega), if_neg (by omega), if_neg (by omega)]
set_option maxRecDepth 100000 in
set_option maxHeartbeats 8000000 in
theorem len64_any (x : Int) (h0 : 0 ≤ x) (h1 : x ≤ 15) (w : World) : Calls Try.prog 102 #[.int .u64 x] w (Val (.int .i64 (lv (x + 1))) w) := by
  obtain rfl | rfl | rfl | rfl | rfl | rfl | rfl | rfl | rfl | rfl | rfl | rfl | rfl | rfl | rfl | rfl : x = 0 ∨ x = 1 ∨ x = 2 ∨ x = 3 ∨ x = 4 ∨ x = 5 ∨ x = 6 ∨ x = 7 ∨ x = 8 ∨ x = 9 ∨ x = 10 ∨ x = 11 ∨ x = 12 ∨ x = 13 ∨ x = 14 ∨ x = 15 := by omega
  all_goals
    clear h0 h1
    go_enter Try.func102, Try.ntmps102
    go_wp2_with fail
    go_ret
    exact says (by kernel_rfl)
end Go.Proofs.Ytihnegohhkplbaa.Lw
