/-
  No cell of these rows narrows 'for every input' (looked for: loops, veiled, ifaces, maps, wideKeys, modest, calm, conditions, laid).
  DERIVED. THE GIVEN ROWS OF THIS SEAT. 6 by the template 'for every input the law returns true; each argument reads behind the call as it read before'; 0 by the template 'total and deterministic' (their statements: YtlgkgccmilapbaaTotals.lean).
  GIVEN WITH THE SEED: the statements are not yours to turn. If you find one false, say at which input.
  Laid BY PROGRAM, IN A SANDBOX (cutbox-rows.mjs): the forced cells as the released guide's own fill.sh prints them over the translation 6d4d4035ffe71341… (all of the seat's roots in one cut). By AI agents, Wed Nov 11 2026. No macro, syntax, notation, axiom, sorry.
-/
import Derived.Test.YtlgkgccmilapbaaChecked
import GoSem.Claim
import GoSem.ClaimJoined
import GoSem.ClaimMapViews
import Derived.JoinedTies
import Derived.KernelRfl
namespace Go.Proofs.Ytlgkgccmilapbaa
/- THE CELL 'sum', in the pinned program and in every row, IS THE sha256 OF THE DUMP (.gsa) THAT YtlgkgccmilapbaaProg.lean LOADS. Nothing in Lean hashes anything: it is a label: what it is worth is what the hold of that sum in a sandbox is worth. -/
noncomputable def Try.pinned : Pinned := { name := "ytlgkgccmilapbaa", sum := "6d4d4035ffe71341db6d7f3624bf276406a09b74d1d4af353e351b60c29b8080", checked := Try.checked }
namespace Rows
def none {H : Type} : Left H := { results := [], args := [] }

/-- 'laws.FnExactGoodSpans': WHATEVER THE INPUT: true; the input reads as it did. -/
def fnExactGoodSpansSpec : ChangeSpec := { name := "fnExactGoodSpans", fn := fun _ => fun
  | [d1, d2] => { results := [.lit (.bool true)], args := [d1, d2] }
  | _ => none }
def fnExactGoodSpansRow : OpenClaim := { program := "ytlgkgccmilapbaa", sum := "6d4d4035ffe71341db6d7f3624bf276406a09b74d1d4af353e351b60c29b8080", func := "loop.example/g00597/laws.FnExactGoodSpans", spec := "fnExactGoodSpans", unfollowed := true, recurses := true, apart := false }
def FnExactGoodSpansSaid : Prop := fnExactGoodSpansRow.holds Try.pinned (OpenSpec.ofChange fnExactGoodSpansSpec)

/-- ITS FALSE NEIGHBOUR: 'it returns false'. Refute it at one input. -/
def fnExactGoodSpansWrong : ChangeSpec := { name := "fnExactGoodSpans", fn := fun _ => fun
  | [d1, d2] => { results := [.lit (.bool false)], args := [d1, d2] }
  | _ => none }
def FnExactGoodSpansWrongFalsely : Prop := fnExactGoodSpansRow.holds Try.pinned (OpenSpec.ofChange fnExactGoodSpansWrong)

/-- 'laws.FnExactBadSpans': WHATEVER THE INPUT: true; the input reads as it did. -/
def fnExactBadSpansSpec : ChangeSpec := { name := "fnExactBadSpans", fn := fun _ => fun
  | [d1, d2] => { results := [.lit (.bool true)], args := [d1, d2] }
  | _ => none }
def fnExactBadSpansRow : OpenClaim := { program := "ytlgkgccmilapbaa", sum := "6d4d4035ffe71341db6d7f3624bf276406a09b74d1d4af353e351b60c29b8080", func := "loop.example/g00597/laws.FnExactBadSpans", spec := "fnExactBadSpans", unfollowed := true, recurses := true, apart := false }
def FnExactBadSpansSaid : Prop := fnExactBadSpansRow.holds Try.pinned (OpenSpec.ofChange fnExactBadSpansSpec)

/-- ITS FALSE NEIGHBOUR: 'it returns false'. Refute it at one input. -/
def fnExactBadSpansWrong : ChangeSpec := { name := "fnExactBadSpans", fn := fun _ => fun
  | [d1, d2] => { results := [.lit (.bool false)], args := [d1, d2] }
  | _ => none }
def FnExactBadSpansWrongFalsely : Prop := fnExactBadSpansRow.holds Try.pinned (OpenSpec.ofChange fnExactBadSpansWrong)

/-- 'laws.FnExactOpenTimes': WHATEVER THE INPUT: true; the input reads as it did. -/
def fnExactOpenTimesSpec : ChangeSpec := { name := "fnExactOpenTimes", fn := fun _ => fun
  | [d1, d2] => { results := [.lit (.bool true)], args := [d1, d2] }
  | _ => none }
def fnExactOpenTimesRow : OpenClaim := { program := "ytlgkgccmilapbaa", sum := "6d4d4035ffe71341db6d7f3624bf276406a09b74d1d4af353e351b60c29b8080", func := "loop.example/g00597/laws.FnExactOpenTimes", spec := "fnExactOpenTimes", unfollowed := true, recurses := true, apart := false }
def FnExactOpenTimesSaid : Prop := fnExactOpenTimesRow.holds Try.pinned (OpenSpec.ofChange fnExactOpenTimesSpec)

/-- ITS FALSE NEIGHBOUR: 'it returns false'. Refute it at one input. -/
def fnExactOpenTimesWrong : ChangeSpec := { name := "fnExactOpenTimes", fn := fun _ => fun
  | [d1, d2] => { results := [.lit (.bool false)], args := [d1, d2] }
  | _ => none }
def FnExactOpenTimesWrongFalsely : Prop := fnExactOpenTimesRow.holds Try.pinned (OpenSpec.ofChange fnExactOpenTimesWrong)

/-- 'laws.FnExactIsEntitled': WHATEVER THE INPUT: true; the input reads as it did. -/
def fnExactIsEntitledSpec : ChangeSpec := { name := "fnExactIsEntitled", fn := fun _ => fun
  | [d1, d2, d3] => { results := [.lit (.bool true)], args := [d1, d2, d3] }
  | _ => none }
def fnExactIsEntitledRow : OpenClaim := { program := "ytlgkgccmilapbaa", sum := "6d4d4035ffe71341db6d7f3624bf276406a09b74d1d4af353e351b60c29b8080", func := "loop.example/g00597/laws.FnExactIsEntitled", spec := "fnExactIsEntitled", unfollowed := true, recurses := true, apart := false }
def FnExactIsEntitledSaid : Prop := fnExactIsEntitledRow.holds Try.pinned (OpenSpec.ofChange fnExactIsEntitledSpec)

/-- ITS FALSE NEIGHBOUR: 'it returns false'. Refute it at one input. -/
def fnExactIsEntitledWrong : ChangeSpec := { name := "fnExactIsEntitled", fn := fun _ => fun
  | [d1, d2, d3] => { results := [.lit (.bool false)], args := [d1, d2, d3] }
  | _ => none }
def FnExactIsEntitledWrongFalsely : Prop := fnExactIsEntitledRow.holds Try.pinned (OpenSpec.ofChange fnExactIsEntitledWrong)

/-- 'laws.FnExactIsBarred': WHATEVER THE INPUT: true; the input reads as it did. -/
def fnExactIsBarredSpec : ChangeSpec := { name := "fnExactIsBarred", fn := fun _ => fun
  | [d1, d2, d3] => { results := [.lit (.bool true)], args := [d1, d2, d3] }
  | _ => none }
def fnExactIsBarredRow : OpenClaim := { program := "ytlgkgccmilapbaa", sum := "6d4d4035ffe71341db6d7f3624bf276406a09b74d1d4af353e351b60c29b8080", func := "loop.example/g00597/laws.FnExactIsBarred", spec := "fnExactIsBarred", unfollowed := true, recurses := true, apart := false }
def FnExactIsBarredSaid : Prop := fnExactIsBarredRow.holds Try.pinned (OpenSpec.ofChange fnExactIsBarredSpec)

/-- ITS FALSE NEIGHBOUR: 'it returns false'. Refute it at one input. -/
def fnExactIsBarredWrong : ChangeSpec := { name := "fnExactIsBarred", fn := fun _ => fun
  | [d1, d2, d3] => { results := [.lit (.bool false)], args := [d1, d2, d3] }
  | _ => none }
def FnExactIsBarredWrongFalsely : Prop := fnExactIsBarredRow.holds Try.pinned (OpenSpec.ofChange fnExactIsBarredWrong)

/-- 'laws.FnExactRenewalSpan': WHATEVER THE INPUT: true; the input reads as it did. -/
def fnExactRenewalSpanSpec : ChangeSpec := { name := "fnExactRenewalSpan", fn := fun _ => fun
  | [d1, d2, d3] => { results := [.lit (.bool true)], args := [d1, d2, d3] }
  | _ => none }
def fnExactRenewalSpanRow : OpenClaim := { program := "ytlgkgccmilapbaa", sum := "6d4d4035ffe71341db6d7f3624bf276406a09b74d1d4af353e351b60c29b8080", func := "loop.example/g00597/laws.FnExactRenewalSpan", spec := "fnExactRenewalSpan", unfollowed := true, recurses := true, apart := false }
def FnExactRenewalSpanSaid : Prop := fnExactRenewalSpanRow.holds Try.pinned (OpenSpec.ofChange fnExactRenewalSpanSpec)

/-- ITS FALSE NEIGHBOUR: 'it returns false'. Refute it at one input. -/
def fnExactRenewalSpanWrong : ChangeSpec := { name := "fnExactRenewalSpan", fn := fun _ => fun
  | [d1, d2, d3] => { results := [.lit (.bool false)], args := [d1, d2, d3] }
  | _ => none }
def FnExactRenewalSpanWrongFalsely : Prop := fnExactRenewalSpanRow.holds Try.pinned (OpenSpec.ofChange fnExactRenewalSpanWrong)

/- THE SECOND FORM. 'bulk': how many values and letters a reading holds, each counted each time it is reached (what is shared counts as often as it is met; a slice's spare places count too). A statement '..UptoSaid' is the law's where the arguments, and the package variables that the reading takes, are together of bulk at most 1048576: NARROWER than '..Said'. Prove '..Said' where nothing that the law and all that it calls make is longer than what came in: it says more and counts as full. Else prove '..UptoSaid'. A law counts once. -/
mutual
def uptoBulk {H : Type} : DataW H → Nat
  | .lit (.string bytes) => bytes.length + 1
  | .lit _ => 1
  | .nil => 1
  | .ptr d => uptoBulk d + 1
  | .slice elems spare => uptoBulkAll elems + uptoBulkAll spare + 1
  | .agg parts => uptoBulkAll parts + 1
  | .iface _ d => uptoBulk d + 1
  | .map entries => uptoBulkEntries entries + 1
  | .held _ => 1
def uptoBulkAll {H : Type} : List (DataW H) → Nat
  | [] => 0
  | d :: r => uptoBulk d + uptoBulkAll r
def uptoBulkEntries {H : Type} : List (Lit × DataW H) → Nat
  | [] => 0
  | x :: r => uptoBulkEntry x + uptoBulkEntries r
def uptoBulkEntry {H : Type} : Lit × DataW H → Nat
  | (.string bytes, d) => bytes.length + uptoBulk d + 1
  | (_, d) => uptoBulk d + 1
 end
def uptoSmall : (H : Type) → List (DataW H) → Bool := fun _ ds => decide (uptoBulkAll ds ≤ 1048576)
def OpenSpec.upto (s : _root_.Go.ChangeSpec) : _root_.Go.OpenSpec := { _root_.Go.OpenSpec.ofChange s with cond := some uptoSmall }

/-- 'laws.FnExactGoodSpans', WHERE WHAT IT READS IS OF BULK AT MOST 1048576: true; the input reads as it did. -/
def fnExactGoodSpansUptoRow : OpenClaim := { program := "ytlgkgccmilapbaa", sum := "6d4d4035ffe71341db6d7f3624bf276406a09b74d1d4af353e351b60c29b8080", func := "loop.example/g00597/laws.FnExactGoodSpans", spec := "fnExactGoodSpans", unfollowed := true, recurses := true, apart := false, narrowed := true }
def FnExactGoodSpansUptoSaid : Prop := fnExactGoodSpansUptoRow.holds Try.pinned (OpenSpec.upto fnExactGoodSpansSpec)

/-- 'laws.FnExactBadSpans', WHERE WHAT IT READS IS OF BULK AT MOST 1048576: true; the input reads as it did. -/
def fnExactBadSpansUptoRow : OpenClaim := { program := "ytlgkgccmilapbaa", sum := "6d4d4035ffe71341db6d7f3624bf276406a09b74d1d4af353e351b60c29b8080", func := "loop.example/g00597/laws.FnExactBadSpans", spec := "fnExactBadSpans", unfollowed := true, recurses := true, apart := false, narrowed := true }
def FnExactBadSpansUptoSaid : Prop := fnExactBadSpansUptoRow.holds Try.pinned (OpenSpec.upto fnExactBadSpansSpec)

/-- 'laws.FnExactOpenTimes', WHERE WHAT IT READS IS OF BULK AT MOST 1048576: true; the input reads as it did. -/
def fnExactOpenTimesUptoRow : OpenClaim := { program := "ytlgkgccmilapbaa", sum := "6d4d4035ffe71341db6d7f3624bf276406a09b74d1d4af353e351b60c29b8080", func := "loop.example/g00597/laws.FnExactOpenTimes", spec := "fnExactOpenTimes", unfollowed := true, recurses := true, apart := false, narrowed := true }
def FnExactOpenTimesUptoSaid : Prop := fnExactOpenTimesUptoRow.holds Try.pinned (OpenSpec.upto fnExactOpenTimesSpec)

/-- 'laws.FnExactIsEntitled', WHERE WHAT IT READS IS OF BULK AT MOST 1048576: true; the input reads as it did. -/
def fnExactIsEntitledUptoRow : OpenClaim := { program := "ytlgkgccmilapbaa", sum := "6d4d4035ffe71341db6d7f3624bf276406a09b74d1d4af353e351b60c29b8080", func := "loop.example/g00597/laws.FnExactIsEntitled", spec := "fnExactIsEntitled", unfollowed := true, recurses := true, apart := false, narrowed := true }
def FnExactIsEntitledUptoSaid : Prop := fnExactIsEntitledUptoRow.holds Try.pinned (OpenSpec.upto fnExactIsEntitledSpec)

/-- 'laws.FnExactIsBarred', WHERE WHAT IT READS IS OF BULK AT MOST 1048576: true; the input reads as it did. -/
def fnExactIsBarredUptoRow : OpenClaim := { program := "ytlgkgccmilapbaa", sum := "6d4d4035ffe71341db6d7f3624bf276406a09b74d1d4af353e351b60c29b8080", func := "loop.example/g00597/laws.FnExactIsBarred", spec := "fnExactIsBarred", unfollowed := true, recurses := true, apart := false, narrowed := true }
def FnExactIsBarredUptoSaid : Prop := fnExactIsBarredUptoRow.holds Try.pinned (OpenSpec.upto fnExactIsBarredSpec)

/-- 'laws.FnExactRenewalSpan', WHERE WHAT IT READS IS OF BULK AT MOST 1048576: true; the input reads as it did. -/
def fnExactRenewalSpanUptoRow : OpenClaim := { program := "ytlgkgccmilapbaa", sum := "6d4d4035ffe71341db6d7f3624bf276406a09b74d1d4af353e351b60c29b8080", func := "loop.example/g00597/laws.FnExactRenewalSpan", spec := "fnExactRenewalSpan", unfollowed := true, recurses := true, apart := false, narrowed := true }
def FnExactRenewalSpanUptoSaid : Prop := fnExactRenewalSpanUptoRow.holds Try.pinned (OpenSpec.upto fnExactRenewalSpanSpec)

end Rows
end Go.Proofs.Ytlgkgccmilapbaa
