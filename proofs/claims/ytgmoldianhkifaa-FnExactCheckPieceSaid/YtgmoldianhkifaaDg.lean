/- Contracts of the digest of a list by a method; in the program and in the reference. -/
import Derived.Test.YtgmoldianhkifaaHs
namespace Go.Proofs.Ytgmoldianhkifaa.Dg
open Go.ChangeShapes Go.WideShapes Go.ChangeAt Go.RowKit Sl Hs

def dig (id : Int) (l : List Int) : Int := hashF (hstep (hstep 11 7) id) l
theorem dig_hash (id : Int) (l : List Int) : Hs.hash ([7, id] ++ l) = dig id l := rfl
theorem dig_in (id : Int) (l : List Int) : 0 ≤ dig id l ∧ dig id l ≤ 2147483646 := hashF_in (hstep_in _ _) _
/-- two ints that are laid in a block anew -/
theorem lit2_own (w : World) (lo : Nat) (a b : Int) (ha : inK .i64 a) (hb : inK .i64 b) (h : lo ≤ w.heap.size) : Ow .i64 3 (w.alloc (.cells #[.int .i64 a, .int .i64 b] 3)) lo (w.alloc (.cells #[.int .i64 a, .int .i64 b] 3)).heap.size (some ⟨w.heap.size, 0, none⟩) 2 2 [a, b] :=
  Ow.of_row (World.ownsRow_lit w #[.int .i64 a, .int .i64 b] 2 h (by unfold maxLen; omega) rfl) (fun x hx => by
    simp only [List.mem_cons, List.not_mem_nil, or_false] at hx
    rcases hx with rfl | rfl
    · exact ha
    · exact hb)
end Go.Proofs.Ytgmoldianhkifaa.Dg
