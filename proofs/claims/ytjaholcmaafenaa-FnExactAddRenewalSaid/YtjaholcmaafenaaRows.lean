/-
  No cell of these rows narrows 'for every input' (looked for: loops, veiled, ifaces, maps, wideKeys, modest, calm, conditions, laid).
  DERIVED. THE GIVEN ROWS OF THIS SEAT. 7 by the template 'for every input the law returns true; each argument reads behind the call as it read before'; 0 by the template 'total and deterministic' (their statements: YtjaholcmaafenaaTotals.lean).
  GIVEN WITH THE SEED: the statements are not yours to turn. If you find one false, say at which input.
  Laid BY PROGRAM, IN A SANDBOX (cutbox-rows.mjs): the forced cells as the released guide's own fill.sh prints them over the translation d7df35857627e737… (all of the seat's roots in one cut). By AI agents, Wed Nov 11 2026. No macro, syntax, notation, axiom, sorry.
-/
import Derived.Test.YtjaholcmaafenaaChecked
import GoSem.Claim
import GoSem.ClaimJoined
import GoSem.ClaimMapViews
import Derived.JoinedTies
import Derived.KernelRfl
namespace Go.Proofs.Ytjaholcmaafenaa
/- THE CELL 'sum', in the pinned program and in every row, IS THE sha256 OF THE DUMP (.gsa) THAT YtjaholcmaafenaaProg.lean LOADS. Nothing in Lean hashes anything: it is a label: what it is worth is what the hold of that sum in a sandbox is worth. -/
noncomputable def Try.pinned : Pinned := { name := "ytjaholcmaafenaa", sum := "d7df35857627e737409325cbd27a58724769954782b035280dda0dcbe59a49e2", checked := Try.checked }
namespace Rows
def none {H : Type} : Left H := { results := [], args := [] }

/-- 'laws.FnExactDocDigests': WHATEVER THE INPUT: true; the input reads as it did. -/
def fnExactDocDigestsSpec : ChangeSpec := { name := "fnExactDocDigests", fn := fun _ => fun
  | [d1, d2] => { results := [.lit (.bool true)], args := [d1, d2] }
  | _ => none }
def fnExactDocDigestsRow : OpenClaim := { program := "ytjaholcmaafenaa", sum := "d7df35857627e737409325cbd27a58724769954782b035280dda0dcbe59a49e2", func := "loop.example/g00597/laws.FnExactDocDigests", spec := "fnExactDocDigests", unfollowed := true, recurses := true, apart := false }
def FnExactDocDigestsSaid : Prop := fnExactDocDigestsRow.holds Try.pinned (OpenSpec.ofChange fnExactDocDigestsSpec)

/-- ITS FALSE NEIGHBOUR: 'it returns false'. Refute it at one input. -/
def fnExactDocDigestsWrong : ChangeSpec := { name := "fnExactDocDigests", fn := fun _ => fun
  | [d1, d2] => { results := [.lit (.bool false)], args := [d1, d2] }
  | _ => none }
def FnExactDocDigestsWrongFalsely : Prop := fnExactDocDigestsRow.holds Try.pinned (OpenSpec.ofChange fnExactDocDigestsWrong)

/-- 'laws.FnExactRedactedDigests': WHATEVER THE INPUT: true; the input reads as it did. -/
def fnExactRedactedDigestsSpec : ChangeSpec := { name := "fnExactRedactedDigests", fn := fun _ => fun
  | [d1, d2] => { results := [.lit (.bool true)], args := [d1, d2] }
  | _ => none }
def fnExactRedactedDigestsRow : OpenClaim := { program := "ytjaholcmaafenaa", sum := "d7df35857627e737409325cbd27a58724769954782b035280dda0dcbe59a49e2", func := "loop.example/g00597/laws.FnExactRedactedDigests", spec := "fnExactRedactedDigests", unfollowed := true, recurses := true, apart := false }
def FnExactRedactedDigestsSaid : Prop := fnExactRedactedDigestsRow.holds Try.pinned (OpenSpec.ofChange fnExactRedactedDigestsSpec)

/-- ITS FALSE NEIGHBOUR: 'it returns false'. Refute it at one input. -/
def fnExactRedactedDigestsWrong : ChangeSpec := { name := "fnExactRedactedDigests", fn := fun _ => fun
  | [d1, d2] => { results := [.lit (.bool false)], args := [d1, d2] }
  | _ => none }
def FnExactRedactedDigestsWrongFalsely : Prop := fnExactRedactedDigestsRow.holds Try.pinned (OpenSpec.ofChange fnExactRedactedDigestsWrong)

/-- 'laws.FnExactAllDocDigests': WHATEVER THE INPUT: true; the input reads as it did. -/
def fnExactAllDocDigestsSpec : ChangeSpec := { name := "fnExactAllDocDigests", fn := fun _ => fun
  | [d1, d2] => { results := [.lit (.bool true)], args := [d1, d2] }
  | _ => none }
def fnExactAllDocDigestsRow : OpenClaim := { program := "ytjaholcmaafenaa", sum := "d7df35857627e737409325cbd27a58724769954782b035280dda0dcbe59a49e2", func := "loop.example/g00597/laws.FnExactAllDocDigests", spec := "fnExactAllDocDigests", unfollowed := true, recurses := true, apart := false }
def FnExactAllDocDigestsSaid : Prop := fnExactAllDocDigestsRow.holds Try.pinned (OpenSpec.ofChange fnExactAllDocDigestsSpec)

/-- ITS FALSE NEIGHBOUR: 'it returns false'. Refute it at one input. -/
def fnExactAllDocDigestsWrong : ChangeSpec := { name := "fnExactAllDocDigests", fn := fun _ => fun
  | [d1, d2] => { results := [.lit (.bool false)], args := [d1, d2] }
  | _ => none }
def FnExactAllDocDigestsWrongFalsely : Prop := fnExactAllDocDigestsRow.holds Try.pinned (OpenSpec.ofChange fnExactAllDocDigestsWrong)

/-- 'laws.FnExactStampsOf': WHATEVER THE INPUT: true; the input reads as it did. -/
def fnExactStampsOfSpec : ChangeSpec := { name := "fnExactStampsOf", fn := fun _ => fun
  | [d] => { results := [.lit (.bool true)], args := [d] }
  | _ => none }
def fnExactStampsOfRow : OpenClaim := { program := "ytjaholcmaafenaa", sum := "d7df35857627e737409325cbd27a58724769954782b035280dda0dcbe59a49e2", func := "loop.example/g00597/laws.FnExactStampsOf", spec := "fnExactStampsOf", apart := false }
def FnExactStampsOfSaid : Prop := fnExactStampsOfRow.holds Try.pinned (OpenSpec.ofChange fnExactStampsOfSpec)

/-- ITS FALSE NEIGHBOUR: 'it returns false'. Refute it at one input. -/
def fnExactStampsOfWrong : ChangeSpec := { name := "fnExactStampsOf", fn := fun _ => fun
  | [d] => { results := [.lit (.bool false)], args := [d] }
  | _ => none }
def FnExactStampsOfWrongFalsely : Prop := fnExactStampsOfRow.holds Try.pinned (OpenSpec.ofChange fnExactStampsOfWrong)

/-- 'laws.FnExactItemEvidence': WHATEVER THE INPUT: true; the input reads as it did. -/
def fnExactItemEvidenceSpec : ChangeSpec := { name := "fnExactItemEvidence", fn := fun _ => fun
  | [d] => { results := [.lit (.bool true)], args := [d] }
  | _ => none }
def fnExactItemEvidenceRow : OpenClaim := { program := "ytjaholcmaafenaa", sum := "d7df35857627e737409325cbd27a58724769954782b035280dda0dcbe59a49e2", func := "loop.example/g00597/laws.FnExactItemEvidence", spec := "fnExactItemEvidence", unfollowed := true, recurses := true, apart := false }
def FnExactItemEvidenceSaid : Prop := fnExactItemEvidenceRow.holds Try.pinned (OpenSpec.ofChange fnExactItemEvidenceSpec)

/-- ITS FALSE NEIGHBOUR: 'it returns false'. Refute it at one input. -/
def fnExactItemEvidenceWrong : ChangeSpec := { name := "fnExactItemEvidence", fn := fun _ => fun
  | [d] => { results := [.lit (.bool false)], args := [d] }
  | _ => none }
def FnExactItemEvidenceWrongFalsely : Prop := fnExactItemEvidenceRow.holds Try.pinned (OpenSpec.ofChange fnExactItemEvidenceWrong)

/-- 'laws.FnExactAddPiece': WHATEVER THE INPUT: true; the input reads as it did. -/
def fnExactAddPieceSpec : ChangeSpec := { name := "fnExactAddPiece", fn := fun _ => fun
  | [d1, d2] => { results := [.lit (.bool true)], args := [d1, d2] }
  | _ => none }
def fnExactAddPieceRow : OpenClaim := { program := "ytjaholcmaafenaa", sum := "d7df35857627e737409325cbd27a58724769954782b035280dda0dcbe59a49e2", func := "loop.example/g00597/laws.FnExactAddPiece", spec := "fnExactAddPiece", unfollowed := true, recurses := true, apart := false }
def FnExactAddPieceSaid : Prop := fnExactAddPieceRow.holds Try.pinned (OpenSpec.ofChange fnExactAddPieceSpec)

/-- ITS FALSE NEIGHBOUR: 'it returns false'. Refute it at one input. -/
def fnExactAddPieceWrong : ChangeSpec := { name := "fnExactAddPiece", fn := fun _ => fun
  | [d1, d2] => { results := [.lit (.bool false)], args := [d1, d2] }
  | _ => none }
def FnExactAddPieceWrongFalsely : Prop := fnExactAddPieceRow.holds Try.pinned (OpenSpec.ofChange fnExactAddPieceWrong)

/-- 'laws.FnExactAddRenewal': WHATEVER THE INPUT: true; the input reads as it did. -/
def fnExactAddRenewalSpec : ChangeSpec := { name := "fnExactAddRenewal", fn := fun _ => fun
  | [d1, d2] => { results := [.lit (.bool true)], args := [d1, d2] }
  | _ => none }
def fnExactAddRenewalRow : OpenClaim := { program := "ytjaholcmaafenaa", sum := "d7df35857627e737409325cbd27a58724769954782b035280dda0dcbe59a49e2", func := "loop.example/g00597/laws.FnExactAddRenewal", spec := "fnExactAddRenewal", unfollowed := true, recurses := true, apart := false }
def FnExactAddRenewalSaid : Prop := fnExactAddRenewalRow.holds Try.pinned (OpenSpec.ofChange fnExactAddRenewalSpec)

/-- ITS FALSE NEIGHBOUR: 'it returns false'. Refute it at one input. -/
def fnExactAddRenewalWrong : ChangeSpec := { name := "fnExactAddRenewal", fn := fun _ => fun
  | [d1, d2] => { results := [.lit (.bool false)], args := [d1, d2] }
  | _ => none }
def FnExactAddRenewalWrongFalsely : Prop := fnExactAddRenewalRow.holds Try.pinned (OpenSpec.ofChange fnExactAddRenewalWrong)

/- THE SECOND FORM. 'bulk': how many values and letters a reading holds, each counted each time it is reached (what is shared counts as often as it is met; a slice's spare places count too). A statement '..UptoSaid' is the law's where the arguments, and the package variables that the reading takes, are together of bulk at most 1048576: NARROWER than '..Said'. Prove '..Said' where nothing that the law and all that it calls make is longer than what came in: it says more and counts as full. Else prove '..UptoSaid'. A law counts once. -/
mutual
def uptoBulk {H : Type} : DataW H → Nat
  | .lit (.string bytes) => bytes.length + 1
  | .lit _ => 1
  | .nil => 1
  | .ptr d => uptoBulk d + 1
  | .slice elems spare => uptoBulkAll elems + uptoBulkAll spare + 1
  | .agg parts => uptoBulkAll parts + 1
  | .iface _ d => uptoBulk d + 1
  | .map entries => uptoBulkEntries entries + 1
  | .held _ => 1
def uptoBulkAll {H : Type} : List (DataW H) → Nat
  | [] => 0
  | d :: r => uptoBulk d + uptoBulkAll r
def uptoBulkEntries {H : Type} : List (Lit × DataW H) → Nat
  | [] => 0
  | x :: r => uptoBulkEntry x + uptoBulkEntries r
def uptoBulkEntry {H : Type} : Lit × DataW H → Nat
  | (.string bytes, d) => bytes.length + uptoBulk d + 1
  | (_, d) => uptoBulk d + 1
 end
def uptoSmall : (H : Type) → List (DataW H) → Bool := fun _ ds => decide (uptoBulkAll ds ≤ 1048576)
def OpenSpec.upto (s : _root_.Go.ChangeSpec) : _root_.Go.OpenSpec := { _root_.Go.OpenSpec.ofChange s with cond := some uptoSmall }

/-- 'laws.FnExactDocDigests', WHERE WHAT IT READS IS OF BULK AT MOST 1048576: true; the input reads as it did. -/
def fnExactDocDigestsUptoRow : OpenClaim := { program := "ytjaholcmaafenaa", sum := "d7df35857627e737409325cbd27a58724769954782b035280dda0dcbe59a49e2", func := "loop.example/g00597/laws.FnExactDocDigests", spec := "fnExactDocDigests", unfollowed := true, recurses := true, apart := false, narrowed := true }
def FnExactDocDigestsUptoSaid : Prop := fnExactDocDigestsUptoRow.holds Try.pinned (OpenSpec.upto fnExactDocDigestsSpec)

/-- 'laws.FnExactRedactedDigests', WHERE WHAT IT READS IS OF BULK AT MOST 1048576: true; the input reads as it did. -/
def fnExactRedactedDigestsUptoRow : OpenClaim := { program := "ytjaholcmaafenaa", sum := "d7df35857627e737409325cbd27a58724769954782b035280dda0dcbe59a49e2", func := "loop.example/g00597/laws.FnExactRedactedDigests", spec := "fnExactRedactedDigests", unfollowed := true, recurses := true, apart := false, narrowed := true }
def FnExactRedactedDigestsUptoSaid : Prop := fnExactRedactedDigestsUptoRow.holds Try.pinned (OpenSpec.upto fnExactRedactedDigestsSpec)

/-- 'laws.FnExactAllDocDigests', WHERE WHAT IT READS IS OF BULK AT MOST 1048576: true; the input reads as it did. -/
def fnExactAllDocDigestsUptoRow : OpenClaim := { program := "ytjaholcmaafenaa", sum := "d7df35857627e737409325cbd27a58724769954782b035280dda0dcbe59a49e2", func := "loop.example/g00597/laws.FnExactAllDocDigests", spec := "fnExactAllDocDigests", unfollowed := true, recurses := true, apart := false, narrowed := true }
def FnExactAllDocDigestsUptoSaid : Prop := fnExactAllDocDigestsUptoRow.holds Try.pinned (OpenSpec.upto fnExactAllDocDigestsSpec)

/-- 'laws.FnExactStampsOf', WHERE WHAT IT READS IS OF BULK AT MOST 1048576: true; the input reads as it did. -/
def fnExactStampsOfUptoRow : OpenClaim := { program := "ytjaholcmaafenaa", sum := "d7df35857627e737409325cbd27a58724769954782b035280dda0dcbe59a49e2", func := "loop.example/g00597/laws.FnExactStampsOf", spec := "fnExactStampsOf", apart := false, narrowed := true }
def FnExactStampsOfUptoSaid : Prop := fnExactStampsOfUptoRow.holds Try.pinned (OpenSpec.upto fnExactStampsOfSpec)

/-- 'laws.FnExactItemEvidence', WHERE WHAT IT READS IS OF BULK AT MOST 1048576: true; the input reads as it did. -/
def fnExactItemEvidenceUptoRow : OpenClaim := { program := "ytjaholcmaafenaa", sum := "d7df35857627e737409325cbd27a58724769954782b035280dda0dcbe59a49e2", func := "loop.example/g00597/laws.FnExactItemEvidence", spec := "fnExactItemEvidence", unfollowed := true, recurses := true, apart := false, narrowed := true }
def FnExactItemEvidenceUptoSaid : Prop := fnExactItemEvidenceUptoRow.holds Try.pinned (OpenSpec.upto fnExactItemEvidenceSpec)

/-- 'laws.FnExactAddPiece', WHERE WHAT IT READS IS OF BULK AT MOST 1048576: true; the input reads as it did. -/
def fnExactAddPieceUptoRow : OpenClaim := { program := "ytjaholcmaafenaa", sum := "d7df35857627e737409325cbd27a58724769954782b035280dda0dcbe59a49e2", func := "loop.example/g00597/laws.FnExactAddPiece", spec := "fnExactAddPiece", unfollowed := true, recurses := true, apart := false, narrowed := true }
def FnExactAddPieceUptoSaid : Prop := fnExactAddPieceUptoRow.holds Try.pinned (OpenSpec.upto fnExactAddPieceSpec)

/-- 'laws.FnExactAddRenewal', WHERE WHAT IT READS IS OF BULK AT MOST 1048576: true; the input reads as it did. -/
def fnExactAddRenewalUptoRow : OpenClaim := { program := "ytjaholcmaafenaa", sum := "d7df35857627e737409325cbd27a58724769954782b035280dda0dcbe59a49e2", func := "loop.example/g00597/laws.FnExactAddRenewal", spec := "fnExactAddRenewal", unfollowed := true, recurses := true, apart := false, narrowed := true }
def FnExactAddRenewalUptoSaid : Prop := fnExactAddRenewalUptoRow.holds Try.pinned (OpenSpec.upto fnExactAddRenewalSpec)

end Rows
end Go.Proofs.Ytjaholcmaafenaa
