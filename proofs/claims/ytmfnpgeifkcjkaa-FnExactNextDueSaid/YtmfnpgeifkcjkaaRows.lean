/-
  No cell of these rows narrows 'for every input' (looked for: loops, veiled, ifaces, maps, wideKeys, modest, calm, conditions, laid).
  DERIVED. THE GIVEN ROWS OF THIS SEAT. 5 by the template 'for every input the law returns true; each argument reads behind the call as it read before'; 0 by the template 'total and deterministic' (their statements: YtmfnpgeifkcjkaaTotals.lean).
  GIVEN WITH THE SEED: the statements are not yours to turn. If you find one false, say at which input.
  Laid BY PROGRAM, IN A SANDBOX (cutbox-rows.mjs): the forced cells as the released guide's own fill.sh prints them over the translation 4e86547a9e0ec1bd… (all of the seat's roots in one cut). By AI agents, Wed Nov 11 2026. No macro, syntax, notation, axiom, sorry.
-/
import Derived.Test.YtmfnpgeifkcjkaaChecked
import GoSem.Claim
import GoSem.ClaimJoined
import GoSem.ClaimMapViews
import Derived.JoinedTies
import Derived.KernelRfl
namespace Go.Proofs.Ytmfnpgeifkcjkaa
/- THE CELL 'sum', in the pinned program and in every row, IS THE sha256 OF THE DUMP (.gsa) THAT YtmfnpgeifkcjkaaProg.lean LOADS. Nothing in Lean hashes anything: it is a label: what it is worth is what the hold of that sum in a sandbox is worth. -/
noncomputable def Try.pinned : Pinned := { name := "ytmfnpgeifkcjkaa", sum := "4e86547a9e0ec1bdf22912d413e176373dd99a6dc0912cc67b7d51a0517c7a2f", checked := Try.checked }
namespace Rows
def none {H : Type} : Left H := { results := [], args := [] }

/-- 'laws.FnExactRenewalBreak': WHATEVER THE INPUT: true; the input reads as it did. -/
def fnExactRenewalBreakSpec : ChangeSpec := { name := "fnExactRenewalBreak", fn := fun _ => fun
  | [d1, d2, d3, d4] => { results := [.lit (.bool true)], args := [d1, d2, d3, d4] }
  | _ => none }
def fnExactRenewalBreakRow : OpenClaim := { program := "ytmfnpgeifkcjkaa", sum := "4e86547a9e0ec1bdf22912d413e176373dd99a6dc0912cc67b7d51a0517c7a2f", func := "loop.example/g00597/laws.FnExactRenewalBreak", spec := "fnExactRenewalBreak", unfollowed := true, recurses := true, apart := false }
def FnExactRenewalBreakSaid : Prop := fnExactRenewalBreakRow.holds Try.pinned (OpenSpec.ofChange fnExactRenewalBreakSpec)

/-- ITS FALSE NEIGHBOUR: 'it returns false'. Refute it at one input. -/
def fnExactRenewalBreakWrong : ChangeSpec := { name := "fnExactRenewalBreak", fn := fun _ => fun
  | [d1, d2, d3, d4] => { results := [.lit (.bool false)], args := [d1, d2, d3, d4] }
  | _ => none }
def FnExactRenewalBreakWrongFalsely : Prop := fnExactRenewalBreakRow.holds Try.pinned (OpenSpec.ofChange fnExactRenewalBreakWrong)

/-- 'laws.FnExactEndsOf': WHATEVER THE INPUT: true; the input reads as it did. -/
def fnExactEndsOfSpec : ChangeSpec := { name := "fnExactEndsOf", fn := fun _ => fun
  | [d1, d2] => { results := [.lit (.bool true)], args := [d1, d2] }
  | _ => none }
def fnExactEndsOfRow : OpenClaim := { program := "ytmfnpgeifkcjkaa", sum := "4e86547a9e0ec1bdf22912d413e176373dd99a6dc0912cc67b7d51a0517c7a2f", func := "loop.example/g00597/laws.FnExactEndsOf", spec := "fnExactEndsOf", unfollowed := true, recurses := true, apart := false }
def FnExactEndsOfSaid : Prop := fnExactEndsOfRow.holds Try.pinned (OpenSpec.ofChange fnExactEndsOfSpec)

/-- ITS FALSE NEIGHBOUR: 'it returns false'. Refute it at one input. -/
def fnExactEndsOfWrong : ChangeSpec := { name := "fnExactEndsOf", fn := fun _ => fun
  | [d1, d2] => { results := [.lit (.bool false)], args := [d1, d2] }
  | _ => none }
def FnExactEndsOfWrongFalsely : Prop := fnExactEndsOfRow.holds Try.pinned (OpenSpec.ofChange fnExactEndsOfWrong)

/-- 'laws.FnExactNeedsRenewal': WHATEVER THE INPUT: true; the input reads as it did. -/
def fnExactNeedsRenewalSpec : ChangeSpec := { name := "fnExactNeedsRenewal", fn := fun _ => fun
  | [d1, d2, d3] => { results := [.lit (.bool true)], args := [d1, d2, d3] }
  | _ => none }
def fnExactNeedsRenewalRow : OpenClaim := { program := "ytmfnpgeifkcjkaa", sum := "4e86547a9e0ec1bdf22912d413e176373dd99a6dc0912cc67b7d51a0517c7a2f", func := "loop.example/g00597/laws.FnExactNeedsRenewal", spec := "fnExactNeedsRenewal", unfollowed := true, recurses := true, apart := false }
def FnExactNeedsRenewalSaid : Prop := fnExactNeedsRenewalRow.holds Try.pinned (OpenSpec.ofChange fnExactNeedsRenewalSpec)

/-- ITS FALSE NEIGHBOUR: 'it returns false'. Refute it at one input. -/
def fnExactNeedsRenewalWrong : ChangeSpec := { name := "fnExactNeedsRenewal", fn := fun _ => fun
  | [d1, d2, d3] => { results := [.lit (.bool false)], args := [d1, d2, d3] }
  | _ => none }
def FnExactNeedsRenewalWrongFalsely : Prop := fnExactNeedsRenewalRow.holds Try.pinned (OpenSpec.ofChange fnExactNeedsRenewalWrong)

/-- 'laws.FnExactIsSafeNow': WHATEVER THE INPUT: true; the input reads as it did. -/
def fnExactIsSafeNowSpec : ChangeSpec := { name := "fnExactIsSafeNow", fn := fun _ => fun
  | [d1, d2] => { results := [.lit (.bool true)], args := [d1, d2] }
  | _ => none }
def fnExactIsSafeNowRow : OpenClaim := { program := "ytmfnpgeifkcjkaa", sum := "4e86547a9e0ec1bdf22912d413e176373dd99a6dc0912cc67b7d51a0517c7a2f", func := "loop.example/g00597/laws.FnExactIsSafeNow", spec := "fnExactIsSafeNow", unfollowed := true, recurses := true, apart := false }
def FnExactIsSafeNowSaid : Prop := fnExactIsSafeNowRow.holds Try.pinned (OpenSpec.ofChange fnExactIsSafeNowSpec)

/-- ITS FALSE NEIGHBOUR: 'it returns false'. Refute it at one input. -/
def fnExactIsSafeNowWrong : ChangeSpec := { name := "fnExactIsSafeNow", fn := fun _ => fun
  | [d1, d2] => { results := [.lit (.bool false)], args := [d1, d2] }
  | _ => none }
def FnExactIsSafeNowWrongFalsely : Prop := fnExactIsSafeNowRow.holds Try.pinned (OpenSpec.ofChange fnExactIsSafeNowWrong)

/-- 'laws.FnExactNextDue': WHATEVER THE INPUT: true; the input reads as it did. -/
def fnExactNextDueSpec : ChangeSpec := { name := "fnExactNextDue", fn := fun _ => fun
  | [d1, d2] => { results := [.lit (.bool true)], args := [d1, d2] }
  | _ => none }
def fnExactNextDueRow : OpenClaim := { program := "ytmfnpgeifkcjkaa", sum := "4e86547a9e0ec1bdf22912d413e176373dd99a6dc0912cc67b7d51a0517c7a2f", func := "loop.example/g00597/laws.FnExactNextDue", spec := "fnExactNextDue", unfollowed := true, recurses := true, apart := false }
def FnExactNextDueSaid : Prop := fnExactNextDueRow.holds Try.pinned (OpenSpec.ofChange fnExactNextDueSpec)

/-- ITS FALSE NEIGHBOUR: 'it returns false'. Refute it at one input. -/
def fnExactNextDueWrong : ChangeSpec := { name := "fnExactNextDue", fn := fun _ => fun
  | [d1, d2] => { results := [.lit (.bool false)], args := [d1, d2] }
  | _ => none }
def FnExactNextDueWrongFalsely : Prop := fnExactNextDueRow.holds Try.pinned (OpenSpec.ofChange fnExactNextDueWrong)

/- THE SECOND FORM. 'bulk': how many values and letters a reading holds, each counted each time it is reached (what is shared counts as often as it is met; a slice's spare places count too). A statement '..UptoSaid' is the law's where the arguments, and the package variables that the reading takes, are together of bulk at most 1048576: NARROWER than '..Said'. Prove '..Said' where nothing that the law and all that it calls make is longer than what came in: it says more and counts as full. Else prove '..UptoSaid'. A law counts once. -/
mutual
def uptoBulk {H : Type} : DataW H → Nat
  | .lit (.string bytes) => bytes.length + 1
  | .lit _ => 1
  | .nil => 1
  | .ptr d => uptoBulk d + 1
  | .slice elems spare => uptoBulkAll elems + uptoBulkAll spare + 1
  | .agg parts => uptoBulkAll parts + 1
  | .iface _ d => uptoBulk d + 1
  | .map entries => uptoBulkEntries entries + 1
  | .held _ => 1
def uptoBulkAll {H : Type} : List (DataW H) → Nat
  | [] => 0
  | d :: r => uptoBulk d + uptoBulkAll r
def uptoBulkEntries {H : Type} : List (Lit × DataW H) → Nat
  | [] => 0
  | x :: r => uptoBulkEntry x + uptoBulkEntries r
def uptoBulkEntry {H : Type} : Lit × DataW H → Nat
  | (.string bytes, d) => bytes.length + uptoBulk d + 1
  | (_, d) => uptoBulk d + 1
 end
def uptoSmall : (H : Type) → List (DataW H) → Bool := fun _ ds => decide (uptoBulkAll ds ≤ 1048576)
def OpenSpec.upto (s : _root_.Go.ChangeSpec) : _root_.Go.OpenSpec := { _root_.Go.OpenSpec.ofChange s with cond := some uptoSmall }

/-- 'laws.FnExactRenewalBreak', WHERE WHAT IT READS IS OF BULK AT MOST 1048576: true; the input reads as it did. -/
def fnExactRenewalBreakUptoRow : OpenClaim := { program := "ytmfnpgeifkcjkaa", sum := "4e86547a9e0ec1bdf22912d413e176373dd99a6dc0912cc67b7d51a0517c7a2f", func := "loop.example/g00597/laws.FnExactRenewalBreak", spec := "fnExactRenewalBreak", unfollowed := true, recurses := true, apart := false, narrowed := true }
def FnExactRenewalBreakUptoSaid : Prop := fnExactRenewalBreakUptoRow.holds Try.pinned (OpenSpec.upto fnExactRenewalBreakSpec)

/-- 'laws.FnExactEndsOf', WHERE WHAT IT READS IS OF BULK AT MOST 1048576: true; the input reads as it did. -/
def fnExactEndsOfUptoRow : OpenClaim := { program := "ytmfnpgeifkcjkaa", sum := "4e86547a9e0ec1bdf22912d413e176373dd99a6dc0912cc67b7d51a0517c7a2f", func := "loop.example/g00597/laws.FnExactEndsOf", spec := "fnExactEndsOf", unfollowed := true, recurses := true, apart := false, narrowed := true }
def FnExactEndsOfUptoSaid : Prop := fnExactEndsOfUptoRow.holds Try.pinned (OpenSpec.upto fnExactEndsOfSpec)

/-- 'laws.FnExactNeedsRenewal', WHERE WHAT IT READS IS OF BULK AT MOST 1048576: true; the input reads as it did. -/
def fnExactNeedsRenewalUptoRow : OpenClaim := { program := "ytmfnpgeifkcjkaa", sum := "4e86547a9e0ec1bdf22912d413e176373dd99a6dc0912cc67b7d51a0517c7a2f", func := "loop.example/g00597/laws.FnExactNeedsRenewal", spec := "fnExactNeedsRenewal", unfollowed := true, recurses := true, apart := false, narrowed := true }
def FnExactNeedsRenewalUptoSaid : Prop := fnExactNeedsRenewalUptoRow.holds Try.pinned (OpenSpec.upto fnExactNeedsRenewalSpec)

/-- 'laws.FnExactIsSafeNow', WHERE WHAT IT READS IS OF BULK AT MOST 1048576: true; the input reads as it did. -/
def fnExactIsSafeNowUptoRow : OpenClaim := { program := "ytmfnpgeifkcjkaa", sum := "4e86547a9e0ec1bdf22912d413e176373dd99a6dc0912cc67b7d51a0517c7a2f", func := "loop.example/g00597/laws.FnExactIsSafeNow", spec := "fnExactIsSafeNow", unfollowed := true, recurses := true, apart := false, narrowed := true }
def FnExactIsSafeNowUptoSaid : Prop := fnExactIsSafeNowUptoRow.holds Try.pinned (OpenSpec.upto fnExactIsSafeNowSpec)

/-- 'laws.FnExactNextDue', WHERE WHAT IT READS IS OF BULK AT MOST 1048576: true; the input reads as it did. -/
def fnExactNextDueUptoRow : OpenClaim := { program := "ytmfnpgeifkcjkaa", sum := "4e86547a9e0ec1bdf22912d413e176373dd99a6dc0912cc67b7d51a0517c7a2f", func := "loop.example/g00597/laws.FnExactNextDue", spec := "fnExactNextDue", unfollowed := true, recurses := true, apart := false, narrowed := true }
def FnExactNextDueUptoSaid : Prop := fnExactNextDueUptoRow.holds Try.pinned (OpenSpec.upto fnExactNextDueSpec)

end Rows
end Go.Proofs.Ytmfnpgeifkcjkaa
