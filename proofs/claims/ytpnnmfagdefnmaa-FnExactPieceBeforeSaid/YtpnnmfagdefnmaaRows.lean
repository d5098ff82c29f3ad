/-
  No cell of these rows narrows 'for every input' (looked for: loops, veiled, ifaces, maps, wideKeys, modest, calm, conditions, laid).
  DERIVED. THE GIVEN ROWS OF THIS SEAT. 13 by the template 'for every input the law returns true; each argument reads behind the call as it read before'; 0 by the template 'total and deterministic' (their statements: YtpnnmfagdefnmaaTotals.lean).
  GIVEN WITH THE SEED: the statements are not yours to turn. If you find one false, say at which input.
  Laid BY PROGRAM, IN A SANDBOX (cutbox-rows.mjs): the forced cells as the released guide's own fill.sh prints them over the translation 40000d6292fe4e41… (all of the seat's roots in one cut). By AI agents, Wed Nov 11 2026. No macro, syntax, notation, axiom, sorry.
-/
import Derived.Test.YtpnnmfagdefnmaaChecked
import GoSem.Claim
import GoSem.ClaimJoined
import GoSem.ClaimMapViews
import Derived.JoinedTies
import Derived.KernelRfl
namespace Go.Proofs.Ytpnnmfagdefnmaa
/- THE CELL 'sum', in the pinned program and in every row, IS THE sha256 OF THE DUMP (.gsa) THAT YtpnnmfagdefnmaaProg.lean LOADS. Nothing in Lean hashes anything: it is a label: what it is worth is what the hold of that sum in a sandbox is worth. -/
noncomputable def Try.pinned : Pinned := { name := "ytpnnmfagdefnmaa", sum := "40000d6292fe4e41acb12479e25dfe58db44b1e17cf97f09eda29ad95a314cf8", checked := Try.checked }
namespace Rows
def none {H : Type} : Left H := { results := [], args := [] }

/-- 'laws.FnExactKindOfPiece': WHATEVER THE INPUT: true; the input reads as it did. -/
def fnExactKindOfPieceSpec : ChangeSpec := { name := "fnExactKindOfPiece", fn := fun _ => fun
  | [d] => { results := [.lit (.bool true)], args := [d] }
  | _ => none }
def fnExactKindOfPieceRow : OpenClaim := { program := "ytpnnmfagdefnmaa", sum := "40000d6292fe4e41acb12479e25dfe58db44b1e17cf97f09eda29ad95a314cf8", func := "loop.example/g00597/laws.FnExactKindOfPiece", spec := "fnExactKindOfPiece", apart := false }
def FnExactKindOfPieceSaid : Prop := fnExactKindOfPieceRow.holds Try.pinned (OpenSpec.ofChange fnExactKindOfPieceSpec)

/-- ITS FALSE NEIGHBOUR: 'it returns false'. Refute it at one input. -/
def fnExactKindOfPieceWrong : ChangeSpec := { name := "fnExactKindOfPiece", fn := fun _ => fun
  | [d] => { results := [.lit (.bool false)], args := [d] }
  | _ => none }
def FnExactKindOfPieceWrongFalsely : Prop := fnExactKindOfPieceRow.holds Try.pinned (OpenSpec.ofChange fnExactKindOfPieceWrong)

/-- 'laws.FnExactCertPiece': WHATEVER THE INPUT: true; the input reads as it did. -/
def fnExactCertPieceSpec : ChangeSpec := { name := "fnExactCertPiece", fn := fun _ => fun
  | [d] => { results := [.lit (.bool true)], args := [d] }
  | _ => none }
def fnExactCertPieceRow : OpenClaim := { program := "ytpnnmfagdefnmaa", sum := "40000d6292fe4e41acb12479e25dfe58db44b1e17cf97f09eda29ad95a314cf8", func := "loop.example/g00597/laws.FnExactCertPiece", spec := "fnExactCertPiece", apart := false }
def FnExactCertPieceSaid : Prop := fnExactCertPieceRow.holds Try.pinned (OpenSpec.ofChange fnExactCertPieceSpec)

/-- ITS FALSE NEIGHBOUR: 'it returns false'. Refute it at one input. -/
def fnExactCertPieceWrong : ChangeSpec := { name := "fnExactCertPiece", fn := fun _ => fun
  | [d] => { results := [.lit (.bool false)], args := [d] }
  | _ => none }
def FnExactCertPieceWrongFalsely : Prop := fnExactCertPieceRow.holds Try.pinned (OpenSpec.ofChange fnExactCertPieceWrong)

/-- 'laws.FnExactStatusPiece': WHATEVER THE INPUT: true; the input reads as it did. -/
def fnExactStatusPieceSpec : ChangeSpec := { name := "fnExactStatusPiece", fn := fun _ => fun
  | [d] => { results := [.lit (.bool true)], args := [d] }
  | _ => none }
def fnExactStatusPieceRow : OpenClaim := { program := "ytpnnmfagdefnmaa", sum := "40000d6292fe4e41acb12479e25dfe58db44b1e17cf97f09eda29ad95a314cf8", func := "loop.example/g00597/laws.FnExactStatusPiece", spec := "fnExactStatusPiece", apart := false }
def FnExactStatusPieceSaid : Prop := fnExactStatusPieceRow.holds Try.pinned (OpenSpec.ofChange fnExactStatusPieceSpec)

/-- ITS FALSE NEIGHBOUR: 'it returns false'. Refute it at one input. -/
def fnExactStatusPieceWrong : ChangeSpec := { name := "fnExactStatusPiece", fn := fun _ => fun
  | [d] => { results := [.lit (.bool false)], args := [d] }
  | _ => none }
def FnExactStatusPieceWrongFalsely : Prop := fnExactStatusPieceRow.holds Try.pinned (OpenSpec.ofChange fnExactStatusPieceWrong)

/-- 'laws.FnExactStampPiece': WHATEVER THE INPUT: true; the input reads as it did. -/
def fnExactStampPieceSpec : ChangeSpec := { name := "fnExactStampPiece", fn := fun _ => fun
  | [d1, d2] => { results := [.lit (.bool true)], args := [d1, d2] }
  | _ => none }
def fnExactStampPieceRow : OpenClaim := { program := "ytpnnmfagdefnmaa", sum := "40000d6292fe4e41acb12479e25dfe58db44b1e17cf97f09eda29ad95a314cf8", func := "loop.example/g00597/laws.FnExactStampPiece", spec := "fnExactStampPiece", apart := false }
def FnExactStampPieceSaid : Prop := fnExactStampPieceRow.holds Try.pinned (OpenSpec.ofChange fnExactStampPieceSpec)

/-- ITS FALSE NEIGHBOUR: 'it returns false'. Refute it at one input. -/
def fnExactStampPieceWrong : ChangeSpec := { name := "fnExactStampPiece", fn := fun _ => fun
  | [d1, d2] => { results := [.lit (.bool false)], args := [d1, d2] }
  | _ => none }
def FnExactStampPieceWrongFalsely : Prop := fnExactStampPieceRow.holds Try.pinned (OpenSpec.ofChange fnExactStampPieceWrong)

/-- 'laws.FnExactSignPiece': WHATEVER THE INPUT: true; the input reads as it did. -/
def fnExactSignPieceSpec : ChangeSpec := { name := "fnExactSignPiece", fn := fun _ => fun
  | [d] => { results := [.lit (.bool true)], args := [d] }
  | _ => none }
def fnExactSignPieceRow : OpenClaim := { program := "ytpnnmfagdefnmaa", sum := "40000d6292fe4e41acb12479e25dfe58db44b1e17cf97f09eda29ad95a314cf8", func := "loop.example/g00597/laws.FnExactSignPiece", spec := "fnExactSignPiece", apart := false }
def FnExactSignPieceSaid : Prop := fnExactSignPieceRow.holds Try.pinned (OpenSpec.ofChange fnExactSignPieceSpec)

/-- ITS FALSE NEIGHBOUR: 'it returns false'. Refute it at one input. -/
def fnExactSignPieceWrong : ChangeSpec := { name := "fnExactSignPiece", fn := fun _ => fun
  | [d] => { results := [.lit (.bool false)], args := [d] }
  | _ => none }
def FnExactSignPieceWrongFalsely : Prop := fnExactSignPieceRow.holds Try.pinned (OpenSpec.ofChange fnExactSignPieceWrong)

/-- 'laws.FnExactMandatePiece': WHATEVER THE INPUT: true; the input reads as it did. -/
def fnExactMandatePieceSpec : ChangeSpec := { name := "fnExactMandatePiece", fn := fun _ => fun
  | [d] => { results := [.lit (.bool true)], args := [d] }
  | _ => none }
def fnExactMandatePieceRow : OpenClaim := { program := "ytpnnmfagdefnmaa", sum := "40000d6292fe4e41acb12479e25dfe58db44b1e17cf97f09eda29ad95a314cf8", func := "loop.example/g00597/laws.FnExactMandatePiece", spec := "fnExactMandatePiece", apart := false }
def FnExactMandatePieceSaid : Prop := fnExactMandatePieceRow.holds Try.pinned (OpenSpec.ofChange fnExactMandatePieceSpec)

/-- ITS FALSE NEIGHBOUR: 'it returns false'. Refute it at one input. -/
def fnExactMandatePieceWrong : ChangeSpec := { name := "fnExactMandatePiece", fn := fun _ => fun
  | [d] => { results := [.lit (.bool false)], args := [d] }
  | _ => none }
def FnExactMandatePieceWrongFalsely : Prop := fnExactMandatePieceRow.holds Try.pinned (OpenSpec.ofChange fnExactMandatePieceWrong)

/-- 'laws.FnExactPieceCert': WHATEVER THE INPUT: true; the input reads as it did. -/
def fnExactPieceCertSpec : ChangeSpec := { name := "fnExactPieceCert", fn := fun _ => fun
  | [d] => { results := [.lit (.bool true)], args := [d] }
  | _ => none }
def fnExactPieceCertRow : OpenClaim := { program := "ytpnnmfagdefnmaa", sum := "40000d6292fe4e41acb12479e25dfe58db44b1e17cf97f09eda29ad95a314cf8", func := "loop.example/g00597/laws.FnExactPieceCert", spec := "fnExactPieceCert", unfollowed := true, recurses := true, apart := false }
def FnExactPieceCertSaid : Prop := fnExactPieceCertRow.holds Try.pinned (OpenSpec.ofChange fnExactPieceCertSpec)

/-- ITS FALSE NEIGHBOUR: 'it returns false'. Refute it at one input. -/
def fnExactPieceCertWrong : ChangeSpec := { name := "fnExactPieceCert", fn := fun _ => fun
  | [d] => { results := [.lit (.bool false)], args := [d] }
  | _ => none }
def FnExactPieceCertWrongFalsely : Prop := fnExactPieceCertRow.holds Try.pinned (OpenSpec.ofChange fnExactPieceCertWrong)

/-- 'laws.FnExactPieceStatus': WHATEVER THE INPUT: true; the input reads as it did. -/
def fnExactPieceStatusSpec : ChangeSpec := { name := "fnExactPieceStatus", fn := fun _ => fun
  | [d] => { results := [.lit (.bool true)], args := [d] }
  | _ => none }
def fnExactPieceStatusRow : OpenClaim := { program := "ytpnnmfagdefnmaa", sum := "40000d6292fe4e41acb12479e25dfe58db44b1e17cf97f09eda29ad95a314cf8", func := "loop.example/g00597/laws.FnExactPieceStatus", spec := "fnExactPieceStatus", unfollowed := true, recurses := true, apart := false }
def FnExactPieceStatusSaid : Prop := fnExactPieceStatusRow.holds Try.pinned (OpenSpec.ofChange fnExactPieceStatusSpec)

/-- ITS FALSE NEIGHBOUR: 'it returns false'. Refute it at one input. -/
def fnExactPieceStatusWrong : ChangeSpec := { name := "fnExactPieceStatus", fn := fun _ => fun
  | [d] => { results := [.lit (.bool false)], args := [d] }
  | _ => none }
def FnExactPieceStatusWrongFalsely : Prop := fnExactPieceStatusRow.holds Try.pinned (OpenSpec.ofChange fnExactPieceStatusWrong)

/-- 'laws.FnExactPieceStamp': WHATEVER THE INPUT: true; the input reads as it did. -/
def fnExactPieceStampSpec : ChangeSpec := { name := "fnExactPieceStamp", fn := fun _ => fun
  | [d] => { results := [.lit (.bool true)], args := [d] }
  | _ => none }
def fnExactPieceStampRow : OpenClaim := { program := "ytpnnmfagdefnmaa", sum := "40000d6292fe4e41acb12479e25dfe58db44b1e17cf97f09eda29ad95a314cf8", func := "loop.example/g00597/laws.FnExactPieceStamp", spec := "fnExactPieceStamp", unfollowed := true, recurses := true, apart := false }
def FnExactPieceStampSaid : Prop := fnExactPieceStampRow.holds Try.pinned (OpenSpec.ofChange fnExactPieceStampSpec)

/-- ITS FALSE NEIGHBOUR: 'it returns false'. Refute it at one input. -/
def fnExactPieceStampWrong : ChangeSpec := { name := "fnExactPieceStamp", fn := fun _ => fun
  | [d] => { results := [.lit (.bool false)], args := [d] }
  | _ => none }
def FnExactPieceStampWrongFalsely : Prop := fnExactPieceStampRow.holds Try.pinned (OpenSpec.ofChange fnExactPieceStampWrong)

/-- 'laws.FnExactPieceSign': WHATEVER THE INPUT: true; the input reads as it did. -/
def fnExactPieceSignSpec : ChangeSpec := { name := "fnExactPieceSign", fn := fun _ => fun
  | [d] => { results := [.lit (.bool true)], args := [d] }
  | _ => none }
def fnExactPieceSignRow : OpenClaim := { program := "ytpnnmfagdefnmaa", sum := "40000d6292fe4e41acb12479e25dfe58db44b1e17cf97f09eda29ad95a314cf8", func := "loop.example/g00597/laws.FnExactPieceSign", spec := "fnExactPieceSign", unfollowed := true, recurses := true, apart := false }
def FnExactPieceSignSaid : Prop := fnExactPieceSignRow.holds Try.pinned (OpenSpec.ofChange fnExactPieceSignSpec)

/-- ITS FALSE NEIGHBOUR: 'it returns false'. Refute it at one input. -/
def fnExactPieceSignWrong : ChangeSpec := { name := "fnExactPieceSign", fn := fun _ => fun
  | [d] => { results := [.lit (.bool false)], args := [d] }
  | _ => none }
def FnExactPieceSignWrongFalsely : Prop := fnExactPieceSignRow.holds Try.pinned (OpenSpec.ofChange fnExactPieceSignWrong)

/-- 'laws.FnExactPieceMandate': WHATEVER THE INPUT: true; the input reads as it did. -/
def fnExactPieceMandateSpec : ChangeSpec := { name := "fnExactPieceMandate", fn := fun _ => fun
  | [d] => { results := [.lit (.bool true)], args := [d] }
  | _ => none }
def fnExactPieceMandateRow : OpenClaim := { program := "ytpnnmfagdefnmaa", sum := "40000d6292fe4e41acb12479e25dfe58db44b1e17cf97f09eda29ad95a314cf8", func := "loop.example/g00597/laws.FnExactPieceMandate", spec := "fnExactPieceMandate", unfollowed := true, recurses := true, apart := false }
def FnExactPieceMandateSaid : Prop := fnExactPieceMandateRow.holds Try.pinned (OpenSpec.ofChange fnExactPieceMandateSpec)

/-- ITS FALSE NEIGHBOUR: 'it returns false'. Refute it at one input. -/
def fnExactPieceMandateWrong : ChangeSpec := { name := "fnExactPieceMandate", fn := fun _ => fun
  | [d] => { results := [.lit (.bool false)], args := [d] }
  | _ => none }
def FnExactPieceMandateWrongFalsely : Prop := fnExactPieceMandateRow.holds Try.pinned (OpenSpec.ofChange fnExactPieceMandateWrong)

/-- 'laws.FnExactPieceBefore': WHATEVER THE INPUT: true; the input reads as it did. -/
def fnExactPieceBeforeSpec : ChangeSpec := { name := "fnExactPieceBefore", fn := fun _ => fun
  | [d1, d2] => { results := [.lit (.bool true)], args := [d1, d2] }
  | _ => none }
def fnExactPieceBeforeRow : OpenClaim := { program := "ytpnnmfagdefnmaa", sum := "40000d6292fe4e41acb12479e25dfe58db44b1e17cf97f09eda29ad95a314cf8", func := "loop.example/g00597/laws.FnExactPieceBefore", spec := "fnExactPieceBefore", apart := false }
def FnExactPieceBeforeSaid : Prop := fnExactPieceBeforeRow.holds Try.pinned (OpenSpec.ofChange fnExactPieceBeforeSpec)

/-- ITS FALSE NEIGHBOUR: 'it returns false'. Refute it at one input. -/
def fnExactPieceBeforeWrong : ChangeSpec := { name := "fnExactPieceBefore", fn := fun _ => fun
  | [d1, d2] => { results := [.lit (.bool false)], args := [d1, d2] }
  | _ => none }
def FnExactPieceBeforeWrongFalsely : Prop := fnExactPieceBeforeRow.holds Try.pinned (OpenSpec.ofChange fnExactPieceBeforeWrong)

/-- 'laws.FnExactEqualPieces': WHATEVER THE INPUT: true; the input reads as it did. -/
def fnExactEqualPiecesSpec : ChangeSpec := { name := "fnExactEqualPieces", fn := fun _ => fun
  | [d1, d2] => { results := [.lit (.bool true)], args := [d1, d2] }
  | _ => none }
def fnExactEqualPiecesRow : OpenClaim := { program := "ytpnnmfagdefnmaa", sum := "40000d6292fe4e41acb12479e25dfe58db44b1e17cf97f09eda29ad95a314cf8", func := "loop.example/g00597/laws.FnExactEqualPieces", spec := "fnExactEqualPieces", apart := false }
def FnExactEqualPiecesSaid : Prop := fnExactEqualPiecesRow.holds Try.pinned (OpenSpec.ofChange fnExactEqualPiecesSpec)

/-- ITS FALSE NEIGHBOUR: 'it returns false'. Refute it at one input. -/
def fnExactEqualPiecesWrong : ChangeSpec := { name := "fnExactEqualPieces", fn := fun _ => fun
  | [d1, d2] => { results := [.lit (.bool false)], args := [d1, d2] }
  | _ => none }
def FnExactEqualPiecesWrongFalsely : Prop := fnExactEqualPiecesRow.holds Try.pinned (OpenSpec.ofChange fnExactEqualPiecesWrong)

/- THE SECOND FORM. 'bulk': how many values and letters a reading holds, each counted each time it is reached (what is shared counts as often as it is met; a slice's spare places count too). A statement '..UptoSaid' is the law's where the arguments, and the package variables that the reading takes, are together of bulk at most 1048576: NARROWER than '..Said'. Prove '..Said' where nothing that the law and all that it calls make is longer than what came in: it says more and counts as full. Else prove '..UptoSaid'. A law counts once. -/
mutual
def uptoBulk {H : Type} : DataW H → Nat
  | .lit (.string bytes) => bytes.length + 1
  | .lit _ => 1
  | .nil => 1
  | .ptr d => uptoBulk d + 1
  | .slice elems spare => uptoBulkAll elems + uptoBulkAll spare + 1
  | .agg parts => uptoBulkAll parts + 1
  | .iface _ d => uptoBulk d + 1
  | .map entries => uptoBulkEntries entries + 1
  | .held _ => 1
def uptoBulkAll {H : Type} : List (DataW H) → Nat
  | [] => 0
  | d :: r => uptoBulk d + uptoBulkAll r
def uptoBulkEntries {H : Type} : List (Lit × DataW H) → Nat
  | [] => 0
  | x :: r => uptoBulkEntry x + uptoBulkEntries r
def uptoBulkEntry {H : Type} : Lit × DataW H → Nat
  | (.string bytes, d) => bytes.length + uptoBulk d + 1
  | (_, d) => uptoBulk d + 1
 end
def uptoSmall : (H : Type) → List (DataW H) → Bool := fun _ ds => decide (uptoBulkAll ds ≤ 1048576)
def OpenSpec.upto (s : _root_.Go.ChangeSpec) : _root_.Go.OpenSpec := { _root_.Go.OpenSpec.ofChange s with cond := some uptoSmall }

/-- 'laws.FnExactKindOfPiece', WHERE WHAT IT READS IS OF BULK AT MOST 1048576: true; the input reads as it did. -/
def fnExactKindOfPieceUptoRow : OpenClaim := { program := "ytpnnmfagdefnmaa", sum := "40000d6292fe4e41acb12479e25dfe58db44b1e17cf97f09eda29ad95a314cf8", func := "loop.example/g00597/laws.FnExactKindOfPiece", spec := "fnExactKindOfPiece", apart := false, narrowed := true }
def FnExactKindOfPieceUptoSaid : Prop := fnExactKindOfPieceUptoRow.holds Try.pinned (OpenSpec.upto fnExactKindOfPieceSpec)

/-- 'laws.FnExactCertPiece', WHERE WHAT IT READS IS OF BULK AT MOST 1048576: true; the input reads as it did. -/
def fnExactCertPieceUptoRow : OpenClaim := { program := "ytpnnmfagdefnmaa", sum := "40000d6292fe4e41acb12479e25dfe58db44b1e17cf97f09eda29ad95a314cf8", func := "loop.example/g00597/laws.FnExactCertPiece", spec := "fnExactCertPiece", apart := false, narrowed := true }
def FnExactCertPieceUptoSaid : Prop := fnExactCertPieceUptoRow.holds Try.pinned (OpenSpec.upto fnExactCertPieceSpec)

/-- 'laws.FnExactStatusPiece', WHERE WHAT IT READS IS OF BULK AT MOST 1048576: true; the input reads as it did. -/
def fnExactStatusPieceUptoRow : OpenClaim := { program := "ytpnnmfagdefnmaa", sum := "40000d6292fe4e41acb12479e25dfe58db44b1e17cf97f09eda29ad95a314cf8", func := "loop.example/g00597/laws.FnExactStatusPiece", spec := "fnExactStatusPiece", apart := false, narrowed := true }
def FnExactStatusPieceUptoSaid : Prop := fnExactStatusPieceUptoRow.holds Try.pinned (OpenSpec.upto fnExactStatusPieceSpec)

/-- 'laws.FnExactStampPiece', WHERE WHAT IT READS IS OF BULK AT MOST 1048576: true; the input reads as it did. -/
def fnExactStampPieceUptoRow : OpenClaim := { program := "ytpnnmfagdefnmaa", sum := "40000d6292fe4e41acb12479e25dfe58db44b1e17cf97f09eda29ad95a314cf8", func := "loop.example/g00597/laws.FnExactStampPiece", spec := "fnExactStampPiece", apart := false, narrowed := true }
def FnExactStampPieceUptoSaid : Prop := fnExactStampPieceUptoRow.holds Try.pinned (OpenSpec.upto fnExactStampPieceSpec)

/-- 'laws.FnExactSignPiece', WHERE WHAT IT READS IS OF BULK AT MOST 1048576: true; the input reads as it did. -/
def fnExactSignPieceUptoRow : OpenClaim := { program := "ytpnnmfagdefnmaa", sum := "40000d6292fe4e41acb12479e25dfe58db44b1e17cf97f09eda29ad95a314cf8", func := "loop.example/g00597/laws.FnExactSignPiece", spec := "fnExactSignPiece", apart := false, narrowed := true }
def FnExactSignPieceUptoSaid : Prop := fnExactSignPieceUptoRow.holds Try.pinned (OpenSpec.upto fnExactSignPieceSpec)

/-- 'laws.FnExactMandatePiece', WHERE WHAT IT READS IS OF BULK AT MOST 1048576: true; the input reads as it did. -/
def fnExactMandatePieceUptoRow : OpenClaim := { program := "ytpnnmfagdefnmaa", sum := "40000d6292fe4e41acb12479e25dfe58db44b1e17cf97f09eda29ad95a314cf8", func := "loop.example/g00597/laws.FnExactMandatePiece", spec := "fnExactMandatePiece", apart := false, narrowed := true }
def FnExactMandatePieceUptoSaid : Prop := fnExactMandatePieceUptoRow.holds Try.pinned (OpenSpec.upto fnExactMandatePieceSpec)

/-- 'laws.FnExactPieceCert', WHERE WHAT IT READS IS OF BULK AT MOST 1048576: true; the input reads as it did. -/
def fnExactPieceCertUptoRow : OpenClaim := { program := "ytpnnmfagdefnmaa", sum := "40000d6292fe4e41acb12479e25dfe58db44b1e17cf97f09eda29ad95a314cf8", func := "loop.example/g00597/laws.FnExactPieceCert", spec := "fnExactPieceCert", unfollowed := true, recurses := true, apart := false, narrowed := true }
def FnExactPieceCertUptoSaid : Prop := fnExactPieceCertUptoRow.holds Try.pinned (OpenSpec.upto fnExactPieceCertSpec)

/-- 'laws.FnExactPieceStatus', WHERE WHAT IT READS IS OF BULK AT MOST 1048576: true; the input reads as it did. -/
def fnExactPieceStatusUptoRow : OpenClaim := { program := "ytpnnmfagdefnmaa", sum := "40000d6292fe4e41acb12479e25dfe58db44b1e17cf97f09eda29ad95a314cf8", func := "loop.example/g00597/laws.FnExactPieceStatus", spec := "fnExactPieceStatus", unfollowed := true, recurses := true, apart := false, narrowed := true }
def FnExactPieceStatusUptoSaid : Prop := fnExactPieceStatusUptoRow.holds Try.pinned (OpenSpec.upto fnExactPieceStatusSpec)

/-- 'laws.FnExactPieceStamp', WHERE WHAT IT READS IS OF BULK AT MOST 1048576: true; the input reads as it did. -/
def fnExactPieceStampUptoRow : OpenClaim := { program := "ytpnnmfagdefnmaa", sum := "40000d6292fe4e41acb12479e25dfe58db44b1e17cf97f09eda29ad95a314cf8", func := "loop.example/g00597/laws.FnExactPieceStamp", spec := "fnExactPieceStamp", unfollowed := true, recurses := true, apart := false, narrowed := true }
def FnExactPieceStampUptoSaid : Prop := fnExactPieceStampUptoRow.holds Try.pinned (OpenSpec.upto fnExactPieceStampSpec)

/-- 'laws.FnExactPieceSign', WHERE WHAT IT READS IS OF BULK AT MOST 1048576: true; the input reads as it did. -/
def fnExactPieceSignUptoRow : OpenClaim := { program := "ytpnnmfagdefnmaa", sum := "40000d6292fe4e41acb12479e25dfe58db44b1e17cf97f09eda29ad95a314cf8", func := "loop.example/g00597/laws.FnExactPieceSign", spec := "fnExactPieceSign", unfollowed := true, recurses := true, apart := false, narrowed := true }
def FnExactPieceSignUptoSaid : Prop := fnExactPieceSignUptoRow.holds Try.pinned (OpenSpec.upto fnExactPieceSignSpec)

/-- 'laws.FnExactPieceMandate', WHERE WHAT IT READS IS OF BULK AT MOST 1048576: true; the input reads as it did. -/
def fnExactPieceMandateUptoRow : OpenClaim := { program := "ytpnnmfagdefnmaa", sum := "40000d6292fe4e41acb12479e25dfe58db44b1e17cf97f09eda29ad95a314cf8", func := "loop.example/g00597/laws.FnExactPieceMandate", spec := "fnExactPieceMandate", unfollowed := true, recurses := true, apart := false, narrowed := true }
def FnExactPieceMandateUptoSaid : Prop := fnExactPieceMandateUptoRow.holds Try.pinned (OpenSpec.upto fnExactPieceMandateSpec)

/-- 'laws.FnExactPieceBefore', WHERE WHAT IT READS IS OF BULK AT MOST 1048576: true; the input reads as it did. -/
def fnExactPieceBeforeUptoRow : OpenClaim := { program := "ytpnnmfagdefnmaa", sum := "40000d6292fe4e41acb12479e25dfe58db44b1e17cf97f09eda29ad95a314cf8", func := "loop.example/g00597/laws.FnExactPieceBefore", spec := "fnExactPieceBefore", apart := false, narrowed := true }
def FnExactPieceBeforeUptoSaid : Prop := fnExactPieceBeforeUptoRow.holds Try.pinned (OpenSpec.upto fnExactPieceBeforeSpec)

/-- 'laws.FnExactEqualPieces', WHERE WHAT IT READS IS OF BULK AT MOST 1048576: true; the input reads as it did. -/
def fnExactEqualPiecesUptoRow : OpenClaim := { program := "ytpnnmfagdefnmaa", sum := "40000d6292fe4e41acb12479e25dfe58db44b1e17cf97f09eda29ad95a314cf8", func := "loop.example/g00597/laws.FnExactEqualPieces", spec := "fnExactEqualPieces", apart := false, narrowed := true }
def FnExactEqualPiecesUptoSaid : Prop := fnExactEqualPiecesUptoRow.holds Try.pinned (OpenSpec.upto fnExactEqualPiecesSpec)

end Rows
end Go.Proofs.Ytpnnmfagdefnmaa
