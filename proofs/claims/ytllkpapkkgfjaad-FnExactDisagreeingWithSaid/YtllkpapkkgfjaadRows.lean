/-
  No cell of these rows narrows 'for every input' (looked for: loops, veiled, ifaces, maps, wideKeys, modest, calm, conditions, laid).
  DERIVED. THE GIVEN ROWS OF THIS SEAT. 5 by the template 'for every input the law returns true; each argument reads behind the call as it read before'; 0 by the template 'total and deterministic' (their statements: YtllkpapkkgfjaadTotals.lean).
  GIVEN WITH THE SEED: the statements are not yours to turn. If you find one false, say at which input.
  Laid BY PROGRAM, IN A SANDBOX (cutbox-rows.mjs): the forced cells as the released guide's own fill.sh prints them over the translation e804c673c48fefff… (all of the seat's roots in one cut). By AI agents, Wed Nov 11 2026. No macro, syntax, notation, axiom, sorry.
-/
import Derived.Test.YtllkpapkkgfjaadChecked
import GoSem.Claim
import GoSem.ClaimJoined
import GoSem.ClaimMapViews
import Derived.JoinedTies
import Derived.KernelRfl
namespace Go.Proofs.Ytllkpapkkgfjaad
/- THE CELL 'sum', in the pinned program and in every row, IS THE sha256 OF THE DUMP (.gsa) THAT YtllkpapkkgfjaadProg.lean LOADS. Nothing in Lean hashes anything: it is a label: what it is worth is what the hold of that sum in a sandbox is worth. -/
noncomputable def Try.pinned : Pinned := { name := "ytllkpapkkgfjaad", sum := "e804c673c48feffffc06ff0fba9e14f5b111aea7d4826152c94f4ddf1384102a", checked := Try.checked }
namespace Rows
def none {H : Type} : Left H := { results := [], args := [] }

/-- 'laws.FnAgreedTimes': WHATEVER THE INPUT: true; the input reads as it did. -/
def fnAgreedTimesSpec : ChangeSpec := { name := "fnAgreedTimes", fn := fun _ => fun
  | [d] => { results := [.lit (.bool true)], args := [d] }
  | _ => none }
def fnAgreedTimesRow : OpenClaim := { program := "ytllkpapkkgfjaad", sum := "e804c673c48feffffc06ff0fba9e14f5b111aea7d4826152c94f4ddf1384102a", func := "loop.example/g00597/laws.FnAgreedTimes", spec := "fnAgreedTimes", unfollowed := true, recurses := true, apart := false }
def FnAgreedTimesSaid : Prop := fnAgreedTimesRow.holds Try.pinned (OpenSpec.ofChange fnAgreedTimesSpec)

/-- ITS FALSE NEIGHBOUR: 'it returns false'. Refute it at one input. -/
def fnAgreedTimesWrong : ChangeSpec := { name := "fnAgreedTimes", fn := fun _ => fun
  | [d] => { results := [.lit (.bool false)], args := [d] }
  | _ => none }
def FnAgreedTimesWrongFalsely : Prop := fnAgreedTimesRow.holds Try.pinned (OpenSpec.ofChange fnAgreedTimesWrong)

/-- 'laws.FnExactCountAt': WHATEVER THE INPUT: true; the input reads as it did. -/
def fnExactCountAtSpec : ChangeSpec := { name := "fnExactCountAt", fn := fun _ => fun
  | [d1, d2] => { results := [.lit (.bool true)], args := [d1, d2] }
  | _ => none }
def fnExactCountAtRow : OpenClaim := { program := "ytllkpapkkgfjaad", sum := "e804c673c48feffffc06ff0fba9e14f5b111aea7d4826152c94f4ddf1384102a", func := "loop.example/g00597/laws.FnExactCountAt", spec := "fnExactCountAt", apart := false }
def FnExactCountAtSaid : Prop := fnExactCountAtRow.holds Try.pinned (OpenSpec.ofChange fnExactCountAtSpec)

/-- ITS FALSE NEIGHBOUR: 'it returns false'. Refute it at one input. -/
def fnExactCountAtWrong : ChangeSpec := { name := "fnExactCountAt", fn := fun _ => fun
  | [d1, d2] => { results := [.lit (.bool false)], args := [d1, d2] }
  | _ => none }
def FnExactCountAtWrongFalsely : Prop := fnExactCountAtRow.holds Try.pinned (OpenSpec.ofChange fnExactCountAtWrong)

/-- 'laws.FnExactAgreedSpan': WHATEVER THE INPUT: true; the input reads as it did. -/
def fnExactAgreedSpanSpec : ChangeSpec := { name := "fnExactAgreedSpan", fn := fun _ => fun
  | [d1, d2] => { results := [.lit (.bool true)], args := [d1, d2] }
  | _ => none }
def fnExactAgreedSpanRow : OpenClaim := { program := "ytllkpapkkgfjaad", sum := "e804c673c48feffffc06ff0fba9e14f5b111aea7d4826152c94f4ddf1384102a", func := "loop.example/g00597/laws.FnExactAgreedSpan", spec := "fnExactAgreedSpan", unfollowed := true, recurses := true, apart := false }
def FnExactAgreedSpanSaid : Prop := fnExactAgreedSpanRow.holds Try.pinned (OpenSpec.ofChange fnExactAgreedSpanSpec)

/-- ITS FALSE NEIGHBOUR: 'it returns false'. Refute it at one input. -/
def fnExactAgreedSpanWrong : ChangeSpec := { name := "fnExactAgreedSpan", fn := fun _ => fun
  | [d1, d2] => { results := [.lit (.bool false)], args := [d1, d2] }
  | _ => none }
def FnExactAgreedSpanWrongFalsely : Prop := fnExactAgreedSpanRow.holds Try.pinned (OpenSpec.ofChange fnExactAgreedSpanWrong)

/-- 'laws.FnExactDisagreeingWith': WHATEVER THE INPUT: true; the input reads as it did. -/
def fnExactDisagreeingWithSpec : ChangeSpec := { name := "fnExactDisagreeingWith", fn := fun _ => fun
  | [d1, d2] => { results := [.lit (.bool true)], args := [d1, d2] }
  | _ => none }
def fnExactDisagreeingWithRow : OpenClaim := { program := "ytllkpapkkgfjaad", sum := "e804c673c48feffffc06ff0fba9e14f5b111aea7d4826152c94f4ddf1384102a", func := "loop.example/g00597/laws.FnExactDisagreeingWith", spec := "fnExactDisagreeingWith", unfollowed := true, recurses := true, apart := false }
def FnExactDisagreeingWithSaid : Prop := fnExactDisagreeingWithRow.holds Try.pinned (OpenSpec.ofChange fnExactDisagreeingWithSpec)

/-- ITS FALSE NEIGHBOUR: 'it returns false'. Refute it at one input. -/
def fnExactDisagreeingWithWrong : ChangeSpec := { name := "fnExactDisagreeingWith", fn := fun _ => fun
  | [d1, d2] => { results := [.lit (.bool false)], args := [d1, d2] }
  | _ => none }
def FnExactDisagreeingWithWrongFalsely : Prop := fnExactDisagreeingWithRow.holds Try.pinned (OpenSpec.ofChange fnExactDisagreeingWithWrong)

/-- 'laws.FnExactIsSupported': WHATEVER THE INPUT: true; the input reads as it did. -/
def fnExactIsSupportedSpec : ChangeSpec := { name := "fnExactIsSupported", fn := fun _ => fun
  | [d1, d2, d3] => { results := [.lit (.bool true)], args := [d1, d2, d3] }
  | _ => none }
def fnExactIsSupportedRow : OpenClaim := { program := "ytllkpapkkgfjaad", sum := "e804c673c48feffffc06ff0fba9e14f5b111aea7d4826152c94f4ddf1384102a", func := "loop.example/g00597/laws.FnExactIsSupported", spec := "fnExactIsSupported", apart := false }
def FnExactIsSupportedSaid : Prop := fnExactIsSupportedRow.holds Try.pinned (OpenSpec.ofChange fnExactIsSupportedSpec)

/-- ITS FALSE NEIGHBOUR: 'it returns false'. Refute it at one input. -/
def fnExactIsSupportedWrong : ChangeSpec := { name := "fnExactIsSupported", fn := fun _ => fun
  | [d1, d2, d3] => { results := [.lit (.bool false)], args := [d1, d2, d3] }
  | _ => none }
def FnExactIsSupportedWrongFalsely : Prop := fnExactIsSupportedRow.holds Try.pinned (OpenSpec.ofChange fnExactIsSupportedWrong)

/- THE SECOND FORM. 'bulk': how many values and letters a reading holds, each counted each time it is reached (what is shared counts as often as it is met; a slice's spare places count too). A statement '..UptoSaid' is the law's where the arguments, and the package variables that the reading takes, are together of bulk at most 1048576: NARROWER than '..Said'. Prove '..Said' where nothing that the law and all that it calls make is longer than what came in: it says more and counts as full. Else prove '..UptoSaid'. A law counts once. -/
mutual
def uptoBulk {H : Type} : DataW H → Nat
  | .lit (.string bytes) => bytes.length + 1
  | .lit _ => 1
  | .nil => 1
  | .ptr d => uptoBulk d + 1
  | .slice elems spare => uptoBulkAll elems + uptoBulkAll spare + 1
  | .agg parts => uptoBulkAll parts + 1
  | .iface _ d => uptoBulk d + 1
  | .map entries => uptoBulkEntries entries + 1
  | .held _ => 1
def uptoBulkAll {H : Type} : List (DataW H) → Nat
  | [] => 0
  | d :: r => uptoBulk d + uptoBulkAll r
def uptoBulkEntries {H : Type} : List (Lit × DataW H) → Nat
  | [] => 0
  | x :: r => uptoBulkEntry x + uptoBulkEntries r
def uptoBulkEntry {H : Type} : Lit × DataW H → Nat
  | (.string bytes, d) => bytes.length + uptoBulk d + 1
  | (_, d) => uptoBulk d + 1
 end
def uptoSmall : (H : Type) → List (DataW H) → Bool := fun _ ds => decide (uptoBulkAll ds ≤ 1048576)
def OpenSpec.upto (s : _root_.Go.ChangeSpec) : _root_.Go.OpenSpec := { _root_.Go.OpenSpec.ofChange s with cond := some uptoSmall }

/-- 'laws.FnAgreedTimes', WHERE WHAT IT READS IS OF BULK AT MOST 1048576: true; the input reads as it did. -/
def fnAgreedTimesUptoRow : OpenClaim := { program := "ytllkpapkkgfjaad", sum := "e804c673c48feffffc06ff0fba9e14f5b111aea7d4826152c94f4ddf1384102a", func := "loop.example/g00597/laws.FnAgreedTimes", spec := "fnAgreedTimes", unfollowed := true, recurses := true, apart := false, narrowed := true }
def FnAgreedTimesUptoSaid : Prop := fnAgreedTimesUptoRow.holds Try.pinned (OpenSpec.upto fnAgreedTimesSpec)

/-- 'laws.FnExactCountAt', WHERE WHAT IT READS IS OF BULK AT MOST 1048576: true; the input reads as it did. -/
def fnExactCountAtUptoRow : OpenClaim := { program := "ytllkpapkkgfjaad", sum := "e804c673c48feffffc06ff0fba9e14f5b111aea7d4826152c94f4ddf1384102a", func := "loop.example/g00597/laws.FnExactCountAt", spec := "fnExactCountAt", apart := false, narrowed := true }
def FnExactCountAtUptoSaid : Prop := fnExactCountAtUptoRow.holds Try.pinned (OpenSpec.upto fnExactCountAtSpec)

/-- 'laws.FnExactAgreedSpan', WHERE WHAT IT READS IS OF BULK AT MOST 1048576: true; the input reads as it did. -/
def fnExactAgreedSpanUptoRow : OpenClaim := { program := "ytllkpapkkgfjaad", sum := "e804c673c48feffffc06ff0fba9e14f5b111aea7d4826152c94f4ddf1384102a", func := "loop.example/g00597/laws.FnExactAgreedSpan", spec := "fnExactAgreedSpan", unfollowed := true, recurses := true, apart := false, narrowed := true }
def FnExactAgreedSpanUptoSaid : Prop := fnExactAgreedSpanUptoRow.holds Try.pinned (OpenSpec.upto fnExactAgreedSpanSpec)

/-- 'laws.FnExactDisagreeingWith', WHERE WHAT IT READS IS OF BULK AT MOST 1048576: true; the input reads as it did. -/
def fnExactDisagreeingWithUptoRow : OpenClaim := { program := "ytllkpapkkgfjaad", sum := "e804c673c48feffffc06ff0fba9e14f5b111aea7d4826152c94f4ddf1384102a", func := "loop.example/g00597/laws.FnExactDisagreeingWith", spec := "fnExactDisagreeingWith", unfollowed := true, recurses := true, apart := false, narrowed := true }
def FnExactDisagreeingWithUptoSaid : Prop := fnExactDisagreeingWithUptoRow.holds Try.pinned (OpenSpec.upto fnExactDisagreeingWithSpec)

/-- 'laws.FnExactIsSupported', WHERE WHAT IT READS IS OF BULK AT MOST 1048576: true; the input reads as it did. -/
def fnExactIsSupportedUptoRow : OpenClaim := { program := "ytllkpapkkgfjaad", sum := "e804c673c48feffffc06ff0fba9e14f5b111aea7d4826152c94f4ddf1384102a", func := "loop.example/g00597/laws.FnExactIsSupported", spec := "fnExactIsSupported", apart := false, narrowed := true }
def FnExactIsSupportedUptoSaid : Prop := fnExactIsSupportedUptoRow.holds Try.pinned (OpenSpec.upto fnExactIsSupportedSpec)

end Rows
end Go.Proofs.Ytllkpapkkgfjaad
