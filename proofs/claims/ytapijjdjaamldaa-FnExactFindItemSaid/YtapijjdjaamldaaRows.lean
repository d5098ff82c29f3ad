/-
  No cell of these rows narrows 'for every input' (looked for: loops, veiled, ifaces, maps, wideKeys, modest, calm, conditions, laid).
  DERIVED. THE GIVEN ROWS OF THIS SEAT. 12 by the template 'for every input the law returns true; each argument reads behind the call as it read before'; 0 by the template 'total and deterministic' (their statements: YtapijjdjaamldaaTotals.lean).
  GIVEN WITH THE SEED: the statements are not yours to turn. If you find one false, say at which input.
  Laid BY PROGRAM, IN A SANDBOX (cutbox-rows.mjs): the forced cells as the released guide's own fill.sh prints them over the translation 50bfb088826d0445… (all of the seat's roots in one cut). By AI agents, Wed Nov 11 2026. No macro, syntax, notation, axiom, sorry.
-/
import Derived.Test.YtapijjdjaamldaaChecked
import GoSem.Claim
import GoSem.ClaimJoined
import GoSem.ClaimMapViews
import Derived.JoinedTies
import Derived.KernelRfl
namespace Go.Proofs.Ytapijjdjaamldaa
/- THE CELL 'sum', in the pinned program and in every row, IS THE sha256 OF THE DUMP (.gsa) THAT YtapijjdjaamldaaProg.lean LOADS. Nothing in Lean hashes anything: it is a label: what it is worth is what the hold of that sum in a sandbox is worth. -/
noncomputable def Try.pinned : Pinned := { name := "ytapijjdjaamldaa", sum := "50bfb088826d0445ade3d8439a68c2d9979ed56d197b6526999cdd0787032d4d", checked := Try.checked }
namespace Rows
def none {H : Type} : Left H := { results := [], args := [] }

/-- 'laws.FnExactKindOfPiece': WHATEVER THE INPUT: true; the input reads as it did. -/
def fnExactKindOfPieceSpec : ChangeSpec := { name := "fnExactKindOfPiece", fn := fun _ => fun
  | [d] => { results := [.lit (.bool true)], args := [d] }
  | _ => none }
def fnExactKindOfPieceRow : OpenClaim := { program := "ytapijjdjaamldaa", sum := "50bfb088826d0445ade3d8439a68c2d9979ed56d197b6526999cdd0787032d4d", func := "loop.example/g00597/laws.FnExactKindOfPiece", spec := "fnExactKindOfPiece", apart := false }
def FnExactKindOfPieceSaid : Prop := fnExactKindOfPieceRow.holds Try.pinned (OpenSpec.ofChange fnExactKindOfPieceSpec)

/-- ITS FALSE NEIGHBOUR: 'it returns false'. Refute it at one input. -/
def fnExactKindOfPieceWrong : ChangeSpec := { name := "fnExactKindOfPiece", fn := fun _ => fun
  | [d] => { results := [.lit (.bool false)], args := [d] }
  | _ => none }
def FnExactKindOfPieceWrongFalsely : Prop := fnExactKindOfPieceRow.holds Try.pinned (OpenSpec.ofChange fnExactKindOfPieceWrong)

/-- 'laws.FnExactCountPieces': WHATEVER THE INPUT: true; the input reads as it did. -/
def fnExactCountPiecesSpec : ChangeSpec := { name := "fnExactCountPieces", fn := fun _ => fun
  | [d] => { results := [.lit (.bool true)], args := [d] }
  | _ => none }
def fnExactCountPiecesRow : OpenClaim := { program := "ytapijjdjaamldaa", sum := "50bfb088826d0445ade3d8439a68c2d9979ed56d197b6526999cdd0787032d4d", func := "loop.example/g00597/laws.FnExactCountPieces", spec := "fnExactCountPieces", apart := false }
def FnExactCountPiecesSaid : Prop := fnExactCountPiecesRow.holds Try.pinned (OpenSpec.ofChange fnExactCountPiecesSpec)

/-- ITS FALSE NEIGHBOUR: 'it returns false'. Refute it at one input. -/
def fnExactCountPiecesWrong : ChangeSpec := { name := "fnExactCountPieces", fn := fun _ => fun
  | [d] => { results := [.lit (.bool false)], args := [d] }
  | _ => none }
def FnExactCountPiecesWrongFalsely : Prop := fnExactCountPiecesRow.holds Try.pinned (OpenSpec.ofChange fnExactCountPiecesWrong)

/-- 'laws.FnExactFindPiece': WHATEVER THE INPUT: true; the input reads as it did. -/
def fnExactFindPieceSpec : ChangeSpec := { name := "fnExactFindPiece", fn := fun _ => fun
  | [d1, d2] => { results := [.lit (.bool true)], args := [d1, d2] }
  | _ => none }
def fnExactFindPieceRow : OpenClaim := { program := "ytapijjdjaamldaa", sum := "50bfb088826d0445ade3d8439a68c2d9979ed56d197b6526999cdd0787032d4d", func := "loop.example/g00597/laws.FnExactFindPiece", spec := "fnExactFindPiece", unfollowed := true, recurses := true, apart := false }
def FnExactFindPieceSaid : Prop := fnExactFindPieceRow.holds Try.pinned (OpenSpec.ofChange fnExactFindPieceSpec)

/-- ITS FALSE NEIGHBOUR: 'it returns false'. Refute it at one input. -/
def fnExactFindPieceWrong : ChangeSpec := { name := "fnExactFindPiece", fn := fun _ => fun
  | [d1, d2] => { results := [.lit (.bool false)], args := [d1, d2] }
  | _ => none }
def FnExactFindPieceWrongFalsely : Prop := fnExactFindPieceRow.holds Try.pinned (OpenSpec.ofChange fnExactFindPieceWrong)

/-- 'laws.FnExactEqualEvidence': WHATEVER THE INPUT: true; the input reads as it did. -/
def fnExactEqualEvidenceSpec : ChangeSpec := { name := "fnExactEqualEvidence", fn := fun _ => fun
  | [d1, d2] => { results := [.lit (.bool true)], args := [d1, d2] }
  | _ => none }
def fnExactEqualEvidenceRow : OpenClaim := { program := "ytapijjdjaamldaa", sum := "50bfb088826d0445ade3d8439a68c2d9979ed56d197b6526999cdd0787032d4d", func := "loop.example/g00597/laws.FnExactEqualEvidence", spec := "fnExactEqualEvidence", unfollowed := true, recurses := true, apart := false }
def FnExactEqualEvidenceSaid : Prop := fnExactEqualEvidenceRow.holds Try.pinned (OpenSpec.ofChange fnExactEqualEvidenceSpec)

/-- ITS FALSE NEIGHBOUR: 'it returns false'. Refute it at one input. -/
def fnExactEqualEvidenceWrong : ChangeSpec := { name := "fnExactEqualEvidence", fn := fun _ => fun
  | [d1, d2] => { results := [.lit (.bool false)], args := [d1, d2] }
  | _ => none }
def FnExactEqualEvidenceWrongFalsely : Prop := fnExactEqualEvidenceRow.holds Try.pinned (OpenSpec.ofChange fnExactEqualEvidenceWrong)

/-- 'laws.FnExactRenewalCount': WHATEVER THE INPUT: true; the input reads as it did. -/
def fnExactRenewalCountSpec : ChangeSpec := { name := "fnExactRenewalCount", fn := fun _ => fun
  | [d] => { results := [.lit (.bool true)], args := [d] }
  | _ => none }
def fnExactRenewalCountRow : OpenClaim := { program := "ytapijjdjaamldaa", sum := "50bfb088826d0445ade3d8439a68c2d9979ed56d197b6526999cdd0787032d4d", func := "loop.example/g00597/laws.FnExactRenewalCount", spec := "fnExactRenewalCount", apart := false }
def FnExactRenewalCountSaid : Prop := fnExactRenewalCountRow.holds Try.pinned (OpenSpec.ofChange fnExactRenewalCountSpec)

/-- ITS FALSE NEIGHBOUR: 'it returns false'. Refute it at one input. -/
def fnExactRenewalCountWrong : ChangeSpec := { name := "fnExactRenewalCount", fn := fun _ => fun
  | [d] => { results := [.lit (.bool false)], args := [d] }
  | _ => none }
def FnExactRenewalCountWrongFalsely : Prop := fnExactRenewalCountRow.holds Try.pinned (OpenSpec.ofChange fnExactRenewalCountWrong)

/-- 'laws.FnExactKeptUntil': WHATEVER THE INPUT: true; the input reads as it did. -/
def fnExactKeptUntilSpec : ChangeSpec := { name := "fnExactKeptUntil", fn := fun _ => fun
  | [d] => { results := [.lit (.bool true)], args := [d] }
  | _ => none }
def fnExactKeptUntilRow : OpenClaim := { program := "ytapijjdjaamldaa", sum := "50bfb088826d0445ade3d8439a68c2d9979ed56d197b6526999cdd0787032d4d", func := "loop.example/g00597/laws.FnExactKeptUntil", spec := "fnExactKeptUntil", unfollowed := true, recurses := true, apart := false }
def FnExactKeptUntilSaid : Prop := fnExactKeptUntilRow.holds Try.pinned (OpenSpec.ofChange fnExactKeptUntilSpec)

/-- ITS FALSE NEIGHBOUR: 'it returns false'. Refute it at one input. -/
def fnExactKeptUntilWrong : ChangeSpec := { name := "fnExactKeptUntil", fn := fun _ => fun
  | [d] => { results := [.lit (.bool false)], args := [d] }
  | _ => none }
def FnExactKeptUntilWrongFalsely : Prop := fnExactKeptUntilRow.holds Try.pinned (OpenSpec.ofChange fnExactKeptUntilWrong)

/-- 'laws.FnExactLongestPath': WHATEVER THE INPUT: true; the input reads as it did. -/
def fnExactLongestPathSpec : ChangeSpec := { name := "fnExactLongestPath", fn := fun _ => fun
  | [d] => { results := [.lit (.bool true)], args := [d] }
  | _ => none }
def fnExactLongestPathRow : OpenClaim := { program := "ytapijjdjaamldaa", sum := "50bfb088826d0445ade3d8439a68c2d9979ed56d197b6526999cdd0787032d4d", func := "loop.example/g00597/laws.FnExactLongestPath", spec := "fnExactLongestPath", unfollowed := true, recurses := true, apart := false }
def FnExactLongestPathSaid : Prop := fnExactLongestPathRow.holds Try.pinned (OpenSpec.ofChange fnExactLongestPathSpec)

/-- ITS FALSE NEIGHBOUR: 'it returns false'. Refute it at one input. -/
def fnExactLongestPathWrong : ChangeSpec := { name := "fnExactLongestPath", fn := fun _ => fun
  | [d] => { results := [.lit (.bool false)], args := [d] }
  | _ => none }
def FnExactLongestPathWrongFalsely : Prop := fnExactLongestPathRow.holds Try.pinned (OpenSpec.ofChange fnExactLongestPathWrong)

/-- 'laws.FnExactArchiveSize': WHATEVER THE INPUT: true; the input reads as it did. -/
def fnExactArchiveSizeSpec : ChangeSpec := { name := "fnExactArchiveSize", fn := fun _ => fun
  | [d] => { results := [.lit (.bool true)], args := [d] }
  | _ => none }
def fnExactArchiveSizeRow : OpenClaim := { program := "ytapijjdjaamldaa", sum := "50bfb088826d0445ade3d8439a68c2d9979ed56d197b6526999cdd0787032d4d", func := "loop.example/g00597/laws.FnExactArchiveSize", spec := "fnExactArchiveSize", unfollowed := true, recurses := true, apart := false }
def FnExactArchiveSizeSaid : Prop := fnExactArchiveSizeRow.holds Try.pinned (OpenSpec.ofChange fnExactArchiveSizeSpec)

/-- ITS FALSE NEIGHBOUR: 'it returns false'. Refute it at one input. -/
def fnExactArchiveSizeWrong : ChangeSpec := { name := "fnExactArchiveSize", fn := fun _ => fun
  | [d] => { results := [.lit (.bool false)], args := [d] }
  | _ => none }
def FnExactArchiveSizeWrongFalsely : Prop := fnExactArchiveSizeRow.holds Try.pinned (OpenSpec.ofChange fnExactArchiveSizeWrong)

/-- 'laws.FnExactEqualArchives': WHATEVER THE INPUT: true; the input reads as it did. -/
def fnExactEqualArchivesSpec : ChangeSpec := { name := "fnExactEqualArchives", fn := fun _ => fun
  | [d1, d2] => { results := [.lit (.bool true)], args := [d1, d2] }
  | _ => none }
def fnExactEqualArchivesRow : OpenClaim := { program := "ytapijjdjaamldaa", sum := "50bfb088826d0445ade3d8439a68c2d9979ed56d197b6526999cdd0787032d4d", func := "loop.example/g00597/laws.FnExactEqualArchives", spec := "fnExactEqualArchives", unfollowed := true, recurses := true, apart := false }
def FnExactEqualArchivesSaid : Prop := fnExactEqualArchivesRow.holds Try.pinned (OpenSpec.ofChange fnExactEqualArchivesSpec)

/-- ITS FALSE NEIGHBOUR: 'it returns false'. Refute it at one input. -/
def fnExactEqualArchivesWrong : ChangeSpec := { name := "fnExactEqualArchives", fn := fun _ => fun
  | [d1, d2] => { results := [.lit (.bool false)], args := [d1, d2] }
  | _ => none }
def FnExactEqualArchivesWrongFalsely : Prop := fnExactEqualArchivesRow.holds Try.pinned (OpenSpec.ofChange fnExactEqualArchivesWrong)

/-- 'laws.FnExactFindItem': WHATEVER THE INPUT: true; the input reads as it did. -/
def fnExactFindItemSpec : ChangeSpec := { name := "fnExactFindItem", fn := fun _ => fun
  | [d1, d2] => { results := [.lit (.bool true)], args := [d1, d2] }
  | _ => none }
def fnExactFindItemRow : OpenClaim := { program := "ytapijjdjaamldaa", sum := "50bfb088826d0445ade3d8439a68c2d9979ed56d197b6526999cdd0787032d4d", func := "loop.example/g00597/laws.FnExactFindItem", spec := "fnExactFindItem", unfollowed := true, recurses := true, apart := false }
def FnExactFindItemSaid : Prop := fnExactFindItemRow.holds Try.pinned (OpenSpec.ofChange fnExactFindItemSpec)

/-- ITS FALSE NEIGHBOUR: 'it returns false'. Refute it at one input. -/
def fnExactFindItemWrong : ChangeSpec := { name := "fnExactFindItem", fn := fun _ => fun
  | [d1, d2] => { results := [.lit (.bool false)], args := [d1, d2] }
  | _ => none }
def FnExactFindItemWrongFalsely : Prop := fnExactFindItemRow.holds Try.pinned (OpenSpec.ofChange fnExactFindItemWrong)

/-- 'laws.FnExactIsStrand': WHATEVER THE INPUT: true; the input reads as it did. -/
def fnExactIsStrandSpec : ChangeSpec := { name := "fnExactIsStrand", fn := fun _ => fun
  | [d] => { results := [.lit (.bool true)], args := [d] }
  | _ => none }
def fnExactIsStrandRow : OpenClaim := { program := "ytapijjdjaamldaa", sum := "50bfb088826d0445ade3d8439a68c2d9979ed56d197b6526999cdd0787032d4d", func := "loop.example/g00597/laws.FnExactIsStrand", spec := "fnExactIsStrand", unfollowed := true, recurses := true, apart := false }
def FnExactIsStrandSaid : Prop := fnExactIsStrandRow.holds Try.pinned (OpenSpec.ofChange fnExactIsStrandSpec)

/-- ITS FALSE NEIGHBOUR: 'it returns false'. Refute it at one input. -/
def fnExactIsStrandWrong : ChangeSpec := { name := "fnExactIsStrand", fn := fun _ => fun
  | [d] => { results := [.lit (.bool false)], args := [d] }
  | _ => none }
def FnExactIsStrandWrongFalsely : Prop := fnExactIsStrandRow.holds Try.pinned (OpenSpec.ofChange fnExactIsStrandWrong)

/-- 'laws.FnExactIsFrame': WHATEVER THE INPUT: true; the input reads as it did. -/
def fnExactIsFrameSpec : ChangeSpec := { name := "fnExactIsFrame", fn := fun _ => fun
  | [d] => { results := [.lit (.bool true)], args := [d] }
  | _ => none }
def fnExactIsFrameRow : OpenClaim := { program := "ytapijjdjaamldaa", sum := "50bfb088826d0445ade3d8439a68c2d9979ed56d197b6526999cdd0787032d4d", func := "loop.example/g00597/laws.FnExactIsFrame", spec := "fnExactIsFrame", unfollowed := true, recurses := true, apart := false }
def FnExactIsFrameSaid : Prop := fnExactIsFrameRow.holds Try.pinned (OpenSpec.ofChange fnExactIsFrameSpec)

/-- ITS FALSE NEIGHBOUR: 'it returns false'. Refute it at one input. -/
def fnExactIsFrameWrong : ChangeSpec := { name := "fnExactIsFrame", fn := fun _ => fun
  | [d] => { results := [.lit (.bool false)], args := [d] }
  | _ => none }
def FnExactIsFrameWrongFalsely : Prop := fnExactIsFrameRow.holds Try.pinned (OpenSpec.ofChange fnExactIsFrameWrong)

/- THE SECOND FORM. 'bulk': how many values and letters a reading holds, each counted each time it is reached (what is shared counts as often as it is met; a slice's spare places count too). A statement '..UptoSaid' is the law's where the arguments, and the package variables that the reading takes, are together of bulk at most 1048576: NARROWER than '..Said'. Prove '..Said' where nothing that the law and all that it calls make is longer than what came in: it says more and counts as full. Else prove '..UptoSaid'. A law counts once. -/
mutual
def uptoBulk {H : Type} : DataW H → Nat
  | .lit (.string bytes) => bytes.length + 1
  | .lit _ => 1
  | .nil => 1
  | .ptr d => uptoBulk d + 1
  | .slice elems spare => uptoBulkAll elems + uptoBulkAll spare + 1
  | .agg parts => uptoBulkAll parts + 1
  | .iface _ d => uptoBulk d + 1
  | .map entries => uptoBulkEntries entries + 1
  | .held _ => 1
def uptoBulkAll {H : Type} : List (DataW H) → Nat
  | [] => 0
  | d :: r => uptoBulk d + uptoBulkAll r
def uptoBulkEntries {H : Type} : List (Lit × DataW H) → Nat
  | [] => 0
  | x :: r => uptoBulkEntry x + uptoBulkEntries r
def uptoBulkEntry {H : Type} : Lit × DataW H → Nat
  | (.string bytes, d) => bytes.length + uptoBulk d + 1
  | (_, d) => uptoBulk d + 1
 end
def uptoSmall : (H : Type) → List (DataW H) → Bool := fun _ ds => decide (uptoBulkAll ds ≤ 1048576)
def OpenSpec.upto (s : _root_.Go.ChangeSpec) : _root_.Go.OpenSpec := { _root_.Go.OpenSpec.ofChange s with cond := some uptoSmall }

/-- 'laws.FnExactKindOfPiece', WHERE WHAT IT READS IS OF BULK AT MOST 1048576: true; the input reads as it did. -/
def fnExactKindOfPieceUptoRow : OpenClaim := { program := "ytapijjdjaamldaa", sum := "50bfb088826d0445ade3d8439a68c2d9979ed56d197b6526999cdd0787032d4d", func := "loop.example/g00597/laws.FnExactKindOfPiece", spec := "fnExactKindOfPiece", apart := false, narrowed := true }
def FnExactKindOfPieceUptoSaid : Prop := fnExactKindOfPieceUptoRow.holds Try.pinned (OpenSpec.upto fnExactKindOfPieceSpec)

/-- 'laws.FnExactCountPieces', WHERE WHAT IT READS IS OF BULK AT MOST 1048576: true; the input reads as it did. -/
def fnExactCountPiecesUptoRow : OpenClaim := { program := "ytapijjdjaamldaa", sum := "50bfb088826d0445ade3d8439a68c2d9979ed56d197b6526999cdd0787032d4d", func := "loop.example/g00597/laws.FnExactCountPieces", spec := "fnExactCountPieces", apart := false, narrowed := true }
def FnExactCountPiecesUptoSaid : Prop := fnExactCountPiecesUptoRow.holds Try.pinned (OpenSpec.upto fnExactCountPiecesSpec)

/-- 'laws.FnExactFindPiece', WHERE WHAT IT READS IS OF BULK AT MOST 1048576: true; the input reads as it did. -/
def fnExactFindPieceUptoRow : OpenClaim := { program := "ytapijjdjaamldaa", sum := "50bfb088826d0445ade3d8439a68c2d9979ed56d197b6526999cdd0787032d4d", func := "loop.example/g00597/laws.FnExactFindPiece", spec := "fnExactFindPiece", unfollowed := true, recurses := true, apart := false, narrowed := true }
def FnExactFindPieceUptoSaid : Prop := fnExactFindPieceUptoRow.holds Try.pinned (OpenSpec.upto fnExactFindPieceSpec)

/-- 'laws.FnExactEqualEvidence', WHERE WHAT IT READS IS OF BULK AT MOST 1048576: true; the input reads as it did. -/
def fnExactEqualEvidenceUptoRow : OpenClaim := { program := "ytapijjdjaamldaa", sum := "50bfb088826d0445ade3d8439a68c2d9979ed56d197b6526999cdd0787032d4d", func := "loop.example/g00597/laws.FnExactEqualEvidence", spec := "fnExactEqualEvidence", unfollowed := true, recurses := true, apart := false, narrowed := true }
def FnExactEqualEvidenceUptoSaid : Prop := fnExactEqualEvidenceUptoRow.holds Try.pinned (OpenSpec.upto fnExactEqualEvidenceSpec)

/-- 'laws.FnExactRenewalCount', WHERE WHAT IT READS IS OF BULK AT MOST 1048576: true; the input reads as it did. -/
def fnExactRenewalCountUptoRow : OpenClaim := { program := "ytapijjdjaamldaa", sum := "50bfb088826d0445ade3d8439a68c2d9979ed56d197b6526999cdd0787032d4d", func := "loop.example/g00597/laws.FnExactRenewalCount", spec := "fnExactRenewalCount", apart := false, narrowed := true }
def FnExactRenewalCountUptoSaid : Prop := fnExactRenewalCountUptoRow.holds Try.pinned (OpenSpec.upto fnExactRenewalCountSpec)

/-- 'laws.FnExactKeptUntil', WHERE WHAT IT READS IS OF BULK AT MOST 1048576: true; the input reads as it did. -/
def fnExactKeptUntilUptoRow : OpenClaim := { program := "ytapijjdjaamldaa", sum := "50bfb088826d0445ade3d8439a68c2d9979ed56d197b6526999cdd0787032d4d", func := "loop.example/g00597/laws.FnExactKeptUntil", spec := "fnExactKeptUntil", unfollowed := true, recurses := true, apart := false, narrowed := true }
def FnExactKeptUntilUptoSaid : Prop := fnExactKeptUntilUptoRow.holds Try.pinned (OpenSpec.upto fnExactKeptUntilSpec)

/-- 'laws.FnExactLongestPath', WHERE WHAT IT READS IS OF BULK AT MOST 1048576: true; the input reads as it did. -/
def fnExactLongestPathUptoRow : OpenClaim := { program := "ytapijjdjaamldaa", sum := "50bfb088826d0445ade3d8439a68c2d9979ed56d197b6526999cdd0787032d4d", func := "loop.example/g00597/laws.FnExactLongestPath", spec := "fnExactLongestPath", unfollowed := true, recurses := true, apart := false, narrowed := true }
def FnExactLongestPathUptoSaid : Prop := fnExactLongestPathUptoRow.holds Try.pinned (OpenSpec.upto fnExactLongestPathSpec)

/-- 'laws.FnExactArchiveSize', WHERE WHAT IT READS IS OF BULK AT MOST 1048576: true; the input reads as it did. -/
def fnExactArchiveSizeUptoRow : OpenClaim := { program := "ytapijjdjaamldaa", sum := "50bfb088826d0445ade3d8439a68c2d9979ed56d197b6526999cdd0787032d4d", func := "loop.example/g00597/laws.FnExactArchiveSize", spec := "fnExactArchiveSize", unfollowed := true, recurses := true, apart := false, narrowed := true }
def FnExactArchiveSizeUptoSaid : Prop := fnExactArchiveSizeUptoRow.holds Try.pinned (OpenSpec.upto fnExactArchiveSizeSpec)

/-- 'laws.FnExactEqualArchives', WHERE WHAT IT READS IS OF BULK AT MOST 1048576: true; the input reads as it did. -/
def fnExactEqualArchivesUptoRow : OpenClaim := { program := "ytapijjdjaamldaa", sum := "50bfb088826d0445ade3d8439a68c2d9979ed56d197b6526999cdd0787032d4d", func := "loop.example/g00597/laws.FnExactEqualArchives", spec := "fnExactEqualArchives", unfollowed := true, recurses := true, apart := false, narrowed := true }
def FnExactEqualArchivesUptoSaid : Prop := fnExactEqualArchivesUptoRow.holds Try.pinned (OpenSpec.upto fnExactEqualArchivesSpec)

/-- 'laws.FnExactFindItem', WHERE WHAT IT READS IS OF BULK AT MOST 1048576: true; the input reads as it did. -/
def fnExactFindItemUptoRow : OpenClaim := { program := "ytapijjdjaamldaa", sum := "50bfb088826d0445ade3d8439a68c2d9979ed56d197b6526999cdd0787032d4d", func := "loop.example/g00597/laws.FnExactFindItem", spec := "fnExactFindItem", unfollowed := true, recurses := true, apart := false, narrowed := true }
def FnExactFindItemUptoSaid : Prop := fnExactFindItemUptoRow.holds Try.pinned (OpenSpec.upto fnExactFindItemSpec)

/-- 'laws.FnExactIsStrand', WHERE WHAT IT READS IS OF BULK AT MOST 1048576: true; the input reads as it did. -/
def fnExactIsStrandUptoRow : OpenClaim := { program := "ytapijjdjaamldaa", sum := "50bfb088826d0445ade3d8439a68c2d9979ed56d197b6526999cdd0787032d4d", func := "loop.example/g00597/laws.FnExactIsStrand", spec := "fnExactIsStrand", unfollowed := true, recurses := true, apart := false, narrowed := true }
def FnExactIsStrandUptoSaid : Prop := fnExactIsStrandUptoRow.holds Try.pinned (OpenSpec.upto fnExactIsStrandSpec)

/-- 'laws.FnExactIsFrame', WHERE WHAT IT READS IS OF BULK AT MOST 1048576: true; the input reads as it did. -/
def fnExactIsFrameUptoRow : OpenClaim := { program := "ytapijjdjaamldaa", sum := "50bfb088826d0445ade3d8439a68c2d9979ed56d197b6526999cdd0787032d4d", func := "loop.example/g00597/laws.FnExactIsFrame", spec := "fnExactIsFrame", unfollowed := true, recurses := true, apart := false, narrowed := true }
def FnExactIsFrameUptoSaid : Prop := fnExactIsFrameUptoRow.holds Try.pinned (OpenSpec.upto fnExactIsFrameSpec)

end Rows
end Go.Proofs.Ytapijjdjaamldaa
