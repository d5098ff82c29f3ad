/- What is of no program: a region that draws its order, holds guards, loads and calls that make memory: one walk in the text's order, over the class of the worlds that keep what lay. -/
import Derived.Test.YtjaholcmaafenaaSl
import Derived.Deep.QuietTactic
import Derived.BigQuiet
namespace Go.Proofs.Ytjaholcmaafenaa.Qt
open Go.RowKit Sl
section
variable {P : Program} {C : World → Prop}
/-- the region, over a class of worlds -/
theorem region {id : Nat} {Q : Exit → Act → World → Prop} {a : Act} {w : World} {l : List Oper} (C : World → Prop) (hm : P.follows .mixedOrders = true) (hB : Region.lexB .any l.toArray = true) (hC : C w.drew)
    (h : wpQuiet P l.toArray C (fun a' => ∀ w', C w' → Q .normal a' w') l a) : (Code.region id l.toArray true).wp P Q a w :=
  wp_region_quiet (C := C) hm hB hC (by simpa using h)
/-- the class of the worlds that keep what lay below the heap's size of one of them -/
def Keeps (W : World) (w : World) : Prop := Below W.heap.size W w
theorem Keeps.drew (W : World) : Keeps W W.drew := (below_drewN (Below.refl _ _) 1 :)
theorem Keeps.then {W w w' : World} (h : Keeps W w) (hb : Below w.heap.size w w') : Keeps W w' := below_on h hb
/-- a value, in every world of the class -/
theorem val {o : Oper} {a : Act} {v : Value} {K : Act → Prop} (hv : ∀ w, C w → (execOp a.eval o).run P w = .ok (.value v) w) (h : K (a.put o.dst v)) : o.quiet P a C K := by
  refine ⟨v, fun w hw => ?_, h⟩
  unfold Oper.quietAt
  rw [hv w hw]
  exact ⟨rfl, rfl⟩
/-- a call that answers one value in every world of the class, and leaves a world of it -/
theorem call {o : Oper} {a : Act} {v : Value} {f : FuncId} {args : Array Value} {K : Act → Prop} (he : ∀ w, C w → (execOp a.eval o).run P w = .ok (.enter f args) w)
    (hc : ∀ w, C w → Calls P f args w fun e w'' => e = .returned v ∧ C w'') (h : K (a.put o.dst v)) : o.quiet P a C K := by
  refine ⟨v, fun w hw => ?_, h⟩
  unfold Oper.quietAt
  rw [he w hw]
  exact ⟨rfl, hc w hw⟩
end
end Go.Proofs.Ytjaholcmaafenaa.Qt
