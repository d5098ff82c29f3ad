/- Contracts of single spans: valid or not, made, met, inside; in the program and in the reference. -/
import Derived.Test.YtpjckbdljbpliaaJn
import Derived.Test.YtpjckbdljbpliaaMin
import Derived.Test.YtpjckbdljbpliaaBx
import Derived.Deep.RegionHeld3
import Derived.Outline
namespace Go.Proofs.Ytpjckbdljbpliaa.Sps
open Go.ChangeShapes Go.WideShapes Go.ChangeAt Go.RowKit Sl Jn Ints

/-- The call answers b; what lay before is as it was. -/
def Tells (b : Bool) (w : World) (e : Ending) (w' : World) : Prop := e = .returned (.bool b) ∧ Below w.heap.size w w'
theorem tells {b b' : Bool} {w w' : World} (h : b' = b) (hb : Below w.heap.size w w') : Tells b w (.returned (.bool b')) w' := ⟨by rw [h], hb⟩
/-- The call answers a span and b; what lay before is as it was. -/
def Spans (s : Sp) (b : Bool) (w : World) (e : Ending) (w' : World) : Prop := e = .returned (.tuple #[.agg #[.int .i64 s.1, .int .i64 s.2], .bool b]) ∧ Below w.heap.size w w'
theorem maxI_max (a b : Int) : maxI a b = max a b := by unfold maxI; omega
theorem minI_min (a b : Int) : minI a b = min a b := by unfold minI; omega
/-! ### valid or not -/
def tmB (t : Int) : Bool := decide (0 ≤ t ∧ t ≤ 10000)
theorem okB_parts (a b : Int) : okB (a, b) = (tmB a && (tmB b && decide (a ≤ b))) := by
  unfold okB tmB
  by_cases h1 : 0 ≤ a ∧ a ≤ 10000 <;> by_cases h2 : 0 ≤ b ∧ b ≤ 10000 <;> by_cases h3 : a ≤ b <;> simp [h1, h2, h3] <;> omega
/-! ### made -/
def makeB (f t : Int) : Bool := okB (max f 0, min t 10000)
def makeS (f t : Int) : Sp := if makeB f t = true then (max f 0, min t 10000) else (0, 0)
theorem makeS_yes {f t : Int} (h : makeB f t = true) : makeS f t = (max f 0, min t 10000) := if_pos h
theorem makeS_no {f t : Int} (h : makeB f t = false) : makeS f t = (0, 0) := if_neg (by rw [h]; simp)
theorem makeB_le {f t x y : Int} (hx : max 0 f = x) (hy : min 10000 t = y) : makeB f t = decide (x ≤ y) := by
  unfold makeB okB
  subst hx hy
  by_cases h : max 0 f ≤ min 10000 t <;> simp [h] <;> omega
theorem makeS_at {f t x y : Int} (hx : max 0 f = x) (hy : min 10000 t = y) : (max f 0, min t 10000) = (x, y) := by
  rw [← hx, ← hy, Int.max_comm, Int.min_comm]
/-! ### met -/
def meetR (a b : Sp) : Sp := if meets a b = true then meet a b else (0, 0)
theorem meetR_yes {a b : Sp} (h : meets a b = true) : meetR a b = meet a b := if_pos h
theorem meetR_no {a b : Sp} (h : meets a b = false) : meetR a b = (0, 0) := if_neg (by rw [h]; simp)
theorem meet_make {a b : Sp} (h1 : okB a = true) (h2 : okB b = true) : makeB (max a.1 b.1) (min a.2 b.2) = meets a b ∧ makeS (max a.1 b.1) (min a.2 b.2) = meetR a b := by
  have v1 := okB_yes h1
  have v2 := okB_yes h2
  have h : makeB (max a.1 b.1) (min a.2 b.2) = meets a b := by
    rw [makeB_le rfl rfl]
    unfold meets
    rw [h1, h2, Bool.true_and, Bool.true_and, decide_eq_decide]
    omega
  refine ⟨h, ?_⟩
  unfold makeS meetR meet
  rw [h]
  by_cases hm : meets a b = true
  · rw [if_pos hm, if_pos hm]
    have h3 := (meets_yes hm).2.2
    refine Prod.ext ?_ ?_ <;> simp only <;> omega
  · rw [if_neg hm, if_neg hm]
/-! ### inside -/
theorem inside_off1 {a b : Sp} (h : okB a = false) : inside a b = false := by unfold inside; rw [h]; rfl
theorem inside_off2 {a b : Sp} (h : okB b = false) : inside a b = false := by unfold inside; rw [h, Bool.and_false]; rfl
theorem inside_on {a b c d : Int} (h1 : okB (a, b) = true) (h2 : okB (c, d) = true) : inside (a, b) (c, d) = decide (c ≤ a ∧ b ≤ d) := by unfold inside; rw [h1, h2]; rfl
end Go.Proofs.Ytpjckbdljbpliaa.Sps
