/-
  No cell of these rows narrows 'for every input' (looked for: loops, veiled, ifaces, maps, wideKeys, modest, calm, conditions, laid).
  DERIVED. THE GIVEN ROWS OF THIS SEAT. 8 by the template 'for every input the law returns true; each argument reads behind the call as it read before'; 0 by the template 'total and deterministic' (their statements: YtgmoldianhkifaaTotals.lean).
  GIVEN WITH THE SEED: the statements are not yours to turn. If you find one false, say at which input.
  Laid BY PROGRAM, IN A SANDBOX (cutbox-rows.mjs): the forced cells as the released guide's own fill.sh prints them over the translation 7f1748186f9673e5… (all of the seat's roots in one cut). By AI agents, Wed Nov 11 2026. No macro, syntax, notation, axiom, sorry.
-/
import Derived.Test.YtgmoldianhkifaaChecked
import GoSem.Claim
import GoSem.ClaimJoined
import GoSem.ClaimMapViews
import Derived.JoinedTies
import Derived.KernelRfl
namespace Go.Proofs.Ytgmoldianhkifaa
/- THE CELL 'sum', in the pinned program and in every row, IS THE sha256 OF THE DUMP (.gsa) THAT YtgmoldianhkifaaProg.lean LOADS. Nothing in Lean hashes anything: it is a label: what it is worth is what the hold of that sum in a sandbox is worth. -/
noncomputable def Try.pinned : Pinned := { name := "ytgmoldianhkifaa", sum := "7f1748186f9673e536a1847dfb4fd56bd819e55ddf6ebea3cda0dbb106fd7ed4", checked := Try.checked }
namespace Rows
def none {H : Type} : Left H := { results := [], args := [] }

/-- 'laws.FnExactCheckPiece': WHATEVER THE INPUT: true; the input reads as it did. -/
def fnExactCheckPieceSpec : ChangeSpec := { name := "fnExactCheckPiece", fn := fun _ => fun
  | [d1, d2] => { results := [.lit (.bool true)], args := [d1, d2] }
  | _ => none }
def fnExactCheckPieceRow : OpenClaim := { program := "ytgmoldianhkifaa", sum := "7f1748186f9673e536a1847dfb4fd56bd819e55ddf6ebea3cda0dbb106fd7ed4", func := "loop.example/g00597/laws.FnExactCheckPiece", spec := "fnExactCheckPiece", unfollowed := true, recurses := true, apart := false }
def FnExactCheckPieceSaid : Prop := fnExactCheckPieceRow.holds Try.pinned (OpenSpec.ofChange fnExactCheckPieceSpec)

/-- ITS FALSE NEIGHBOUR: 'it returns false'. Refute it at one input. -/
def fnExactCheckPieceWrong : ChangeSpec := { name := "fnExactCheckPiece", fn := fun _ => fun
  | [d1, d2] => { results := [.lit (.bool false)], args := [d1, d2] }
  | _ => none }
def FnExactCheckPieceWrongFalsely : Prop := fnExactCheckPieceRow.holds Try.pinned (OpenSpec.ofChange fnExactCheckPieceWrong)

/-- 'laws.FnExactPieceCert': WHATEVER THE INPUT: true; the input reads as it did. -/
def fnExactPieceCertSpec : ChangeSpec := { name := "fnExactPieceCert", fn := fun _ => fun
  | [d] => { results := [.lit (.bool true)], args := [d] }
  | _ => none }
def fnExactPieceCertRow : OpenClaim := { program := "ytgmoldianhkifaa", sum := "7f1748186f9673e536a1847dfb4fd56bd819e55ddf6ebea3cda0dbb106fd7ed4", func := "loop.example/g00597/laws.FnExactPieceCert", spec := "fnExactPieceCert", unfollowed := true, recurses := true, apart := false }
def FnExactPieceCertSaid : Prop := fnExactPieceCertRow.holds Try.pinned (OpenSpec.ofChange fnExactPieceCertSpec)

/-- ITS FALSE NEIGHBOUR: 'it returns false'. Refute it at one input. -/
def fnExactPieceCertWrong : ChangeSpec := { name := "fnExactPieceCert", fn := fun _ => fun
  | [d] => { results := [.lit (.bool false)], args := [d] }
  | _ => none }
def FnExactPieceCertWrongFalsely : Prop := fnExactPieceCertRow.holds Try.pinned (OpenSpec.ofChange fnExactPieceCertWrong)

/-- 'laws.FnExactPieceStatus': WHATEVER THE INPUT: true; the input reads as it did. -/
def fnExactPieceStatusSpec : ChangeSpec := { name := "fnExactPieceStatus", fn := fun _ => fun
  | [d] => { results := [.lit (.bool true)], args := [d] }
  | _ => none }
def fnExactPieceStatusRow : OpenClaim := { program := "ytgmoldianhkifaa", sum := "7f1748186f9673e536a1847dfb4fd56bd819e55ddf6ebea3cda0dbb106fd7ed4", func := "loop.example/g00597/laws.FnExactPieceStatus", spec := "fnExactPieceStatus", unfollowed := true, recurses := true, apart := false }
def FnExactPieceStatusSaid : Prop := fnExactPieceStatusRow.holds Try.pinned (OpenSpec.ofChange fnExactPieceStatusSpec)

/-- ITS FALSE NEIGHBOUR: 'it returns false'. Refute it at one input. -/
def fnExactPieceStatusWrong : ChangeSpec := { name := "fnExactPieceStatus", fn := fun _ => fun
  | [d] => { results := [.lit (.bool false)], args := [d] }
  | _ => none }
def FnExactPieceStatusWrongFalsely : Prop := fnExactPieceStatusRow.holds Try.pinned (OpenSpec.ofChange fnExactPieceStatusWrong)

/-- 'laws.FnExactPieceStamp': WHATEVER THE INPUT: true; the input reads as it did. -/
def fnExactPieceStampSpec : ChangeSpec := { name := "fnExactPieceStamp", fn := fun _ => fun
  | [d] => { results := [.lit (.bool true)], args := [d] }
  | _ => none }
def fnExactPieceStampRow : OpenClaim := { program := "ytgmoldianhkifaa", sum := "7f1748186f9673e536a1847dfb4fd56bd819e55ddf6ebea3cda0dbb106fd7ed4", func := "loop.example/g00597/laws.FnExactPieceStamp", spec := "fnExactPieceStamp", unfollowed := true, recurses := true, apart := false }
def FnExactPieceStampSaid : Prop := fnExactPieceStampRow.holds Try.pinned (OpenSpec.ofChange fnExactPieceStampSpec)

/-- ITS FALSE NEIGHBOUR: 'it returns false'. Refute it at one input. -/
def fnExactPieceStampWrong : ChangeSpec := { name := "fnExactPieceStamp", fn := fun _ => fun
  | [d] => { results := [.lit (.bool false)], args := [d] }
  | _ => none }
def FnExactPieceStampWrongFalsely : Prop := fnExactPieceStampRow.holds Try.pinned (OpenSpec.ofChange fnExactPieceStampWrong)

/-- 'laws.FnExactPieceSign': WHATEVER THE INPUT: true; the input reads as it did. -/
def fnExactPieceSignSpec : ChangeSpec := { name := "fnExactPieceSign", fn := fun _ => fun
  | [d] => { results := [.lit (.bool true)], args := [d] }
  | _ => none }
def fnExactPieceSignRow : OpenClaim := { program := "ytgmoldianhkifaa", sum := "7f1748186f9673e536a1847dfb4fd56bd819e55ddf6ebea3cda0dbb106fd7ed4", func := "loop.example/g00597/laws.FnExactPieceSign", spec := "fnExactPieceSign", unfollowed := true, recurses := true, apart := false }
def FnExactPieceSignSaid : Prop := fnExactPieceSignRow.holds Try.pinned (OpenSpec.ofChange fnExactPieceSignSpec)

/-- ITS FALSE NEIGHBOUR: 'it returns false'. Refute it at one input. -/
def fnExactPieceSignWrong : ChangeSpec := { name := "fnExactPieceSign", fn := fun _ => fun
  | [d] => { results := [.lit (.bool false)], args := [d] }
  | _ => none }
def FnExactPieceSignWrongFalsely : Prop := fnExactPieceSignRow.holds Try.pinned (OpenSpec.ofChange fnExactPieceSignWrong)

/-- 'laws.FnExactPieceMandate': WHATEVER THE INPUT: true; the input reads as it did. -/
def fnExactPieceMandateSpec : ChangeSpec := { name := "fnExactPieceMandate", fn := fun _ => fun
  | [d] => { results := [.lit (.bool true)], args := [d] }
  | _ => none }
def fnExactPieceMandateRow : OpenClaim := { program := "ytgmoldianhkifaa", sum := "7f1748186f9673e536a1847dfb4fd56bd819e55ddf6ebea3cda0dbb106fd7ed4", func := "loop.example/g00597/laws.FnExactPieceMandate", spec := "fnExactPieceMandate", unfollowed := true, recurses := true, apart := false }
def FnExactPieceMandateSaid : Prop := fnExactPieceMandateRow.holds Try.pinned (OpenSpec.ofChange fnExactPieceMandateSpec)

/-- ITS FALSE NEIGHBOUR: 'it returns false'. Refute it at one input. -/
def fnExactPieceMandateWrong : ChangeSpec := { name := "fnExactPieceMandate", fn := fun _ => fun
  | [d] => { results := [.lit (.bool false)], args := [d] }
  | _ => none }
def FnExactPieceMandateWrongFalsely : Prop := fnExactPieceMandateRow.holds Try.pinned (OpenSpec.ofChange fnExactPieceMandateWrong)

/-- 'laws.FnExactMandatesIn': WHATEVER THE INPUT: true; the input reads as it did. -/
def fnExactMandatesInSpec : ChangeSpec := { name := "fnExactMandatesIn", fn := fun _ => fun
  | [d] => { results := [.lit (.bool true)], args := [d] }
  | _ => none }
def fnExactMandatesInRow : OpenClaim := { program := "ytgmoldianhkifaa", sum := "7f1748186f9673e536a1847dfb4fd56bd819e55ddf6ebea3cda0dbb106fd7ed4", func := "loop.example/g00597/laws.FnExactMandatesIn", spec := "fnExactMandatesIn", unfollowed := true, recurses := true, apart := false }
def FnExactMandatesInSaid : Prop := fnExactMandatesInRow.holds Try.pinned (OpenSpec.ofChange fnExactMandatesInSpec)

/-- ITS FALSE NEIGHBOUR: 'it returns false'. Refute it at one input. -/
def fnExactMandatesInWrong : ChangeSpec := { name := "fnExactMandatesIn", fn := fun _ => fun
  | [d] => { results := [.lit (.bool false)], args := [d] }
  | _ => none }
def FnExactMandatesInWrongFalsely : Prop := fnExactMandatesInRow.holds Try.pinned (OpenSpec.ofChange fnExactMandatesInWrong)

/-- 'laws.FnExactStatusesFor': WHATEVER THE INPUT: true; the input reads as it did. -/
def fnExactStatusesForSpec : ChangeSpec := { name := "fnExactStatusesFor", fn := fun _ => fun
  | [d1, d2] => { results := [.lit (.bool true)], args := [d1, d2] }
  | _ => none }
def fnExactStatusesForRow : OpenClaim := { program := "ytgmoldianhkifaa", sum := "7f1748186f9673e536a1847dfb4fd56bd819e55ddf6ebea3cda0dbb106fd7ed4", func := "loop.example/g00597/laws.FnExactStatusesFor", spec := "fnExactStatusesFor", unfollowed := true, recurses := true, apart := false }
def FnExactStatusesForSaid : Prop := fnExactStatusesForRow.holds Try.pinned (OpenSpec.ofChange fnExactStatusesForSpec)

/-- ITS FALSE NEIGHBOUR: 'it returns false'. Refute it at one input. -/
def fnExactStatusesForWrong : ChangeSpec := { name := "fnExactStatusesFor", fn := fun _ => fun
  | [d1, d2] => { results := [.lit (.bool false)], args := [d1, d2] }
  | _ => none }
def FnExactStatusesForWrongFalsely : Prop := fnExactStatusesForRow.holds Try.pinned (OpenSpec.ofChange fnExactStatusesForWrong)

/- THE SECOND FORM. 'bulk': how many values and letters a reading holds, each counted each time it is reached (what is shared counts as often as it is met; a slice's spare places count too). A statement '..UptoSaid' is the law's where the arguments, and the package variables that the reading takes, are together of bulk at most 1048576: NARROWER than '..Said'. Prove '..Said' where nothing that the law and all that it calls make is longer than what came in: it says more and counts as full. Else prove '..UptoSaid'. A law counts once. -/
mutual
def uptoBulk {H : Type} : DataW H → Nat
  | .lit (.string bytes) => bytes.length + 1
  | .lit _ => 1
  | .nil => 1
  | .ptr d => uptoBulk d + 1
  | .slice elems spare => uptoBulkAll elems + uptoBulkAll spare + 1
  | .agg parts => uptoBulkAll parts + 1
  | .iface _ d => uptoBulk d + 1
  | .map entries => uptoBulkEntries entries + 1
  | .held _ => 1
def uptoBulkAll {H : Type} : List (DataW H) → Nat
  | [] => 0
  | d :: r => uptoBulk d + uptoBulkAll r
def uptoBulkEntries {H : Type} : List (Lit × DataW H) → Nat
  | [] => 0
  | x :: r => uptoBulkEntry x + uptoBulkEntries r
def uptoBulkEntry {H : Type} : Lit × DataW H → Nat
  | (.string bytes, d) => bytes.length + uptoBulk d + 1
  | (_, d) => uptoBulk d + 1
 end
def uptoSmall : (H : Type) → List (DataW H) → Bool := fun _ ds => decide (uptoBulkAll ds ≤ 1048576)
def OpenSpec.upto (s : _root_.Go.ChangeSpec) : _root_.Go.OpenSpec := { _root_.Go.OpenSpec.ofChange s with cond := some uptoSmall }

/-- 'laws.FnExactCheckPiece', WHERE WHAT IT READS IS OF BULK AT MOST 1048576: true; the input reads as it did. -/
def fnExactCheckPieceUptoRow : OpenClaim := { program := "ytgmoldianhkifaa", sum := "7f1748186f9673e536a1847dfb4fd56bd819e55ddf6ebea3cda0dbb106fd7ed4", func := "loop.example/g00597/laws.FnExactCheckPiece", spec := "fnExactCheckPiece", unfollowed := true, recurses := true, apart := false, narrowed := true }
def FnExactCheckPieceUptoSaid : Prop := fnExactCheckPieceUptoRow.holds Try.pinned (OpenSpec.upto fnExactCheckPieceSpec)

/-- 'laws.FnExactPieceCert', WHERE WHAT IT READS IS OF BULK AT MOST 1048576: true; the input reads as it did. -/
def fnExactPieceCertUptoRow : OpenClaim := { program := "ytgmoldianhkifaa", sum := "7f1748186f9673e536a1847dfb4fd56bd819e55ddf6ebea3cda0dbb106fd7ed4", func := "loop.example/g00597/laws.FnExactPieceCert", spec := "fnExactPieceCert", unfollowed := true, recurses := true, apart := false, narrowed := true }
def FnExactPieceCertUptoSaid : Prop := fnExactPieceCertUptoRow.holds Try.pinned (OpenSpec.upto fnExactPieceCertSpec)

/-- 'laws.FnExactPieceStatus', WHERE WHAT IT READS IS OF BULK AT MOST 1048576: true; the input reads as it did. -/
def fnExactPieceStatusUptoRow : OpenClaim := { program := "ytgmoldianhkifaa", sum := "7f1748186f9673e536a1847dfb4fd56bd819e55ddf6ebea3cda0dbb106fd7ed4", func := "loop.example/g00597/laws.FnExactPieceStatus", spec := "fnExactPieceStatus", unfollowed := true, recurses := true, apart := false, narrowed := true }
def FnExactPieceStatusUptoSaid : Prop := fnExactPieceStatusUptoRow.holds Try.pinned (OpenSpec.upto fnExactPieceStatusSpec)

/-- 'laws.FnExactPieceStamp', WHERE WHAT IT READS IS OF BULK AT MOST 1048576: true; the input reads as it did. -/
def fnExactPieceStampUptoRow : OpenClaim := { program := "ytgmoldianhkifaa", sum := "7f1748186f9673e536a1847dfb4fd56bd819e55ddf6ebea3cda0dbb106fd7ed4", func := "loop.example/g00597/laws.FnExactPieceStamp", spec := "fnExactPieceStamp", unfollowed := true, recurses := true, apart := false, narrowed := true }
def FnExactPieceStampUptoSaid : Prop := fnExactPieceStampUptoRow.holds Try.pinned (OpenSpec.upto fnExactPieceStampSpec)

/-- 'laws.FnExactPieceSign', WHERE WHAT IT READS IS OF BULK AT MOST 1048576: true; the input reads as it did. -/
def fnExactPieceSignUptoRow : OpenClaim := { program := "ytgmoldianhkifaa", sum := "7f1748186f9673e536a1847dfb4fd56bd819e55ddf6ebea3cda0dbb106fd7ed4", func := "loop.example/g00597/laws.FnExactPieceSign", spec := "fnExactPieceSign", unfollowed := true, recurses := true, apart := false, narrowed := true }
def FnExactPieceSignUptoSaid : Prop := fnExactPieceSignUptoRow.holds Try.pinned (OpenSpec.upto fnExactPieceSignSpec)

/-- 'laws.FnExactPieceMandate', WHERE WHAT IT READS IS OF BULK AT MOST 1048576: true; the input reads as it did. -/
def fnExactPieceMandateUptoRow : OpenClaim := { program := "ytgmoldianhkifaa", sum := "7f1748186f9673e536a1847dfb4fd56bd819e55ddf6ebea3cda0dbb106fd7ed4", func := "loop.example/g00597/laws.FnExactPieceMandate", spec := "fnExactPieceMandate", unfollowed := true, recurses := true, apart := false, narrowed := true }
def FnExactPieceMandateUptoSaid : Prop := fnExactPieceMandateUptoRow.holds Try.pinned (OpenSpec.upto fnExactPieceMandateSpec)

/-- 'laws.FnExactMandatesIn', WHERE WHAT IT READS IS OF BULK AT MOST 1048576: true; the input reads as it did. -/
def fnExactMandatesInUptoRow : OpenClaim := { program := "ytgmoldianhkifaa", sum := "7f1748186f9673e536a1847dfb4fd56bd819e55ddf6ebea3cda0dbb106fd7ed4", func := "loop.example/g00597/laws.FnExactMandatesIn", spec := "fnExactMandatesIn", unfollowed := true, recurses := true, apart := false, narrowed := true }
def FnExactMandatesInUptoSaid : Prop := fnExactMandatesInUptoRow.holds Try.pinned (OpenSpec.upto fnExactMandatesInSpec)

/-- 'laws.FnExactStatusesFor', WHERE WHAT IT READS IS OF BULK AT MOST 1048576: true; the input reads as it did. -/
def fnExactStatusesForUptoRow : OpenClaim := { program := "ytgmoldianhkifaa", sum := "7f1748186f9673e536a1847dfb4fd56bd819e55ddf6ebea3cda0dbb106fd7ed4", func := "loop.example/g00597/laws.FnExactStatusesFor", spec := "fnExactStatusesFor", unfollowed := true, recurses := true, apart := false, narrowed := true }
def FnExactStatusesForUptoSaid : Prop := fnExactStatusesForUptoRow.holds Try.pinned (OpenSpec.upto fnExactStatusesForSpec)

end Rows
end Go.Proofs.Ytgmoldianhkifaa
