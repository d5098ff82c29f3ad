/- Marks over a slice of Signature that may be written. -/
import Derived.Test.YtpjckbdljbpliaaEk
import Derived.Test.YtpjckbdljbpliaaSlSignature
import Derived.LoopTactic
import Derived.Outline
namespace Go.Proofs.Ytpjckbdljbpliaa.MdSignature
open Go.ChangeShapes Go.WideShapes Go.ChangeAt Go.RowKit Sl St Ed Ek
theorem pres (x : (Int × Int × Int × Int × Int × Int × Int × Int × Int)) (cs' : List Value) (hx : SlSignature.InR x) (k : Ek.PwK (SlSignature.E.of x) cs') : ∃ x', cs' = SlSignature.E.of x' ∧ SlSignature.InR x' := by
  obtain ⟨x0, x1, x2, x3, x4, x5, x6, x7, x8⟩ := x
  obtain ⟨b0, b1, b2, b3, b4, b5, b6, b7, b8⟩ := hx
  obtain ⟨hl, hk⟩ := k
  match cs', hl with
  | [v0, v1, v2, v3, v4, v5, v6, v7, v8], _ =>
    obtain ⟨y0, rfl, h0⟩ := (hk 0 (.int .i64 x0) v0 rfl rfl).int b0
    obtain ⟨y1, rfl, h1⟩ := (hk 1 (.int .i64 x1) v1 rfl rfl).int b1
    obtain ⟨y2, rfl, h2⟩ := (hk 2 (.int .i64 x2) v2 rfl rfl).int b2
    obtain ⟨y3, rfl, h3⟩ := (hk 3 (.int .i64 x3) v3 rfl rfl).int b3
    obtain ⟨y4, rfl, h4⟩ := (hk 4 (.int .i64 x4) v4 rfl rfl).int b4
    obtain ⟨y5, rfl, h5⟩ := (hk 5 (.int .i64 x5) v5 rfl rfl).int b5
    obtain ⟨y6, rfl, h6⟩ := (hk 6 (.int .i64 x6) v6 rfl rfl).int b6
    obtain ⟨y7, rfl, h7⟩ := (hk 7 (.int .i64 x7) v7 rfl rfl).int b7
    obtain ⟨y8, rfl, h8⟩ := (hk 8 (.int .i64 x8) v8 rfl rfl).int b8
    exact ⟨(y0, y1, y2, y3, y4, y5, y6, y7, y8), rfl, ⟨h0, h1, h2, h3, h4, h5, h6, h7, h8⟩⟩
def M : Ek.MkE (flat SlSignature.E SlSignature.InR) := Ek.mFlat pres
end Go.Proofs.Ytpjckbdljbpliaa.MdSignature
