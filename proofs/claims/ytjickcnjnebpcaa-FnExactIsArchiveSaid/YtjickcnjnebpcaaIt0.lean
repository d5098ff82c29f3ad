/- Items: the mathematics of what is valid. -/
import Derived.Test.YtjickcnjnebpcaaIs1
import Derived.Test.YtjickcnjnebpcaaDk
import Derived.Test.YtjickcnjnebpcaaCpA
import Derived.Test.YtjickcnjnebpcaaKi
import Derived.Test.YtjickcnjnebpcaaDpItem
namespace Go.Proofs.Ytjickcnjnebpcaa.It0
open Go.ChangeShapes Go.WideShapes Go.ChangeAt Go.RowKit Sl St Ed Dz Fnd
def five (b0 b1 b2 b3 b4 : Bool) : Bool := b0 && (b1 && (b2 && (b3 && b4)))
theorem five0 {b c d e : Bool} : five false b c d e = false := rfl
theorem five1 {a c d e : Bool} : five a false c d e = false := by cases a <;> rfl
theorem five2 {a b d e : Bool} : five a b false d e = false := by cases a <;> cases b <;> rfl
theorem five3 {a b c e : Bool} : five a b c false e = false := by cases a <;> cases b <;> cases c <;> rfl
theorem five4 {e : Bool} : five true true true true e = e := rfl
/-- the first piece is that of the signature -/
def eqFirst (l : List DpPiece.A) (k : Int) (zs : List Int) (m : Int) : Bool := match l with
  | [] => false
  | y :: _ => decide (Cp.cP y.1 k y.2.1 zs y.2.2 m = 0)
noncomputable def isIt (x0 x1 x2 : Int) (l3 : List ByteArray) (l4 : List Int) (x5 x6 x7 x8 x9 x10 x11 x12 x13 : Int) (l14 : List DpPiece.A) (l15 : List DpRenewal.A) : Bool := five (decide (1 ≤ x0 ∧ x0 ≤ 999)) (inB x1 0 10000) (Dm.docOk (x2, l3, l4)) (Is1.isS l14 l15 l14.length l15.length) (eqFirst l14 x5 [104, x5, x6, x7, x8, x9, x10, x11, x12] x13)
noncomputable def isItem : DpItem.A → Bool := fun (x0, x1, (x2, l3, l4), (x5, x6, x7, x8, x9, x10, x11, x12, x13), (l14, l15)) => isIt x0 x1 x2 l3 l4 x5 x6 x7 x8 x9 x10 x11 x12 x13 l14 l15
theorem isS_nil {l : List DpRenewal.A} {n : Nat} : Is1.isS [] l 0 n = false := by
  unfold Is1.isS
  rw [decide_eq_false (by omega)]
  rfl
end Go.Proofs.Ytjickcnjnebpcaa.It0
