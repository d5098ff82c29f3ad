/-
  No cell of these rows narrows 'for every input' (looked for: loops, veiled, ifaces, maps, wideKeys, modest, calm, conditions, laid).
  DERIVED. THE GIVEN ROWS OF THIS SEAT. 11 by the template 'for every input the law returns true; each argument reads behind the call as it read before'; 0 by the template 'total and deterministic' (their statements: YtcenbbbghhmpfaaTotals.lean).
  GIVEN WITH THE SEED: the statements are not yours to turn. If you find one false, say at which input.
  Laid BY PROGRAM, IN A SANDBOX (cutbox-rows.mjs): the forced cells as the released guide's own fill.sh prints them over the translation fb7ab995b7e29094… (all of the seat's roots in one cut). By AI agents, Wed Nov 11 2026. No macro, syntax, notation, axiom, sorry.
-/
import Derived.Test.YtcenbbbghhmpfaaChecked
import GoSem.Claim
import GoSem.ClaimJoined
import GoSem.ClaimMapViews
import Derived.JoinedTies
import Derived.KernelRfl
namespace Go.Proofs.Ytcenbbbghhmpfaa
/- THE CELL 'sum', in the pinned program and in every row, IS THE sha256 OF THE DUMP (.gsa) THAT YtcenbbbghhmpfaaProg.lean LOADS. Nothing in Lean hashes anything: it is a label: what it is worth is what the hold of that sum in a sandbox is worth. -/
noncomputable def Try.pinned : Pinned := { name := "ytcenbbbghhmpfaa", sum := "fb7ab995b7e29094508478ab3cc3fe59edc2bc3878372afe8bb8247899fa4433", checked := Try.checked }
namespace Rows
def none {H : Type} : Left H := { results := [], args := [] }

/-- 'laws.FnSpans': WHATEVER THE INPUT: true; the input reads as it did. -/
def fnSpansSpec : ChangeSpec := { name := "fnSpans", fn := fun _ => fun
  | [d] => { results := [.lit (.bool true)], args := [d] }
  | _ => none }
def fnSpansRow : OpenClaim := { program := "ytcenbbbghhmpfaa", sum := "fb7ab995b7e29094508478ab3cc3fe59edc2bc3878372afe8bb8247899fa4433", func := "loop.example/g00597/laws.FnSpans", spec := "fnSpans", unfollowed := true, recurses := true, apart := false }
def FnSpansSaid : Prop := fnSpansRow.holds Try.pinned (OpenSpec.ofChange fnSpansSpec)

/-- ITS FALSE NEIGHBOUR: 'it returns false'. Refute it at one input. -/
def fnSpansWrong : ChangeSpec := { name := "fnSpans", fn := fun _ => fun
  | [d] => { results := [.lit (.bool false)], args := [d] }
  | _ => none }
def FnSpansWrongFalsely : Prop := fnSpansRow.holds Try.pinned (OpenSpec.ofChange fnSpansWrong)

/-- 'laws.FnMethods': WHATEVER THE INPUT: true; the input reads as it did. -/
def fnMethodsSpec : ChangeSpec := { name := "fnMethods", fn := fun _ => fun
  | [d] => { results := [.lit (.bool true)], args := [d] }
  | _ => none }
def fnMethodsRow : OpenClaim := { program := "ytcenbbbghhmpfaa", sum := "fb7ab995b7e29094508478ab3cc3fe59edc2bc3878372afe8bb8247899fa4433", func := "loop.example/g00597/laws.FnMethods", spec := "fnMethods", unfollowed := true, recurses := true, apart := false }
def FnMethodsSaid : Prop := fnMethodsRow.holds Try.pinned (OpenSpec.ofChange fnMethodsSpec)

/-- ITS FALSE NEIGHBOUR: 'it returns false'. Refute it at one input. -/
def fnMethodsWrong : ChangeSpec := { name := "fnMethods", fn := fun _ => fun
  | [d] => { results := [.lit (.bool false)], args := [d] }
  | _ => none }
def FnMethodsWrongFalsely : Prop := fnMethodsRow.holds Try.pinned (OpenSpec.ofChange fnMethodsWrong)

/-- 'laws.FnExactIsMethod': WHATEVER THE INPUT: true; the input reads as it did. -/
def fnExactIsMethodSpec : ChangeSpec := { name := "fnExactIsMethod", fn := fun _ => fun
  | [d] => { results := [.lit (.bool true)], args := [d] }
  | _ => none }
def fnExactIsMethodRow : OpenClaim := { program := "ytcenbbbghhmpfaa", sum := "fb7ab995b7e29094508478ab3cc3fe59edc2bc3878372afe8bb8247899fa4433", func := "loop.example/g00597/laws.FnExactIsMethod", spec := "fnExactIsMethod", unfollowed := true, recurses := true, apart := false }
def FnExactIsMethodSaid : Prop := fnExactIsMethodRow.holds Try.pinned (OpenSpec.ofChange fnExactIsMethodSpec)

/-- ITS FALSE NEIGHBOUR: 'it returns false'. Refute it at one input. -/
def fnExactIsMethodWrong : ChangeSpec := { name := "fnExactIsMethod", fn := fun _ => fun
  | [d] => { results := [.lit (.bool false)], args := [d] }
  | _ => none }
def FnExactIsMethodWrongFalsely : Prop := fnExactIsMethodRow.holds Try.pinned (OpenSpec.ofChange fnExactIsMethodWrong)

/-- 'laws.FnExactAreMethods': WHATEVER THE INPUT: true; the input reads as it did. -/
def fnExactAreMethodsSpec : ChangeSpec := { name := "fnExactAreMethods", fn := fun _ => fun
  | [d] => { results := [.lit (.bool true)], args := [d] }
  | _ => none }
def fnExactAreMethodsRow : OpenClaim := { program := "ytcenbbbghhmpfaa", sum := "fb7ab995b7e29094508478ab3cc3fe59edc2bc3878372afe8bb8247899fa4433", func := "loop.example/g00597/laws.FnExactAreMethods", spec := "fnExactAreMethods", unfollowed := true, recurses := true, apart := false }
def FnExactAreMethodsSaid : Prop := fnExactAreMethodsRow.holds Try.pinned (OpenSpec.ofChange fnExactAreMethodsSpec)

/-- ITS FALSE NEIGHBOUR: 'it returns false'. Refute it at one input. -/
def fnExactAreMethodsWrong : ChangeSpec := { name := "fnExactAreMethods", fn := fun _ => fun
  | [d] => { results := [.lit (.bool false)], args := [d] }
  | _ => none }
def FnExactAreMethodsWrongFalsely : Prop := fnExactAreMethodsRow.holds Try.pinned (OpenSpec.ofChange fnExactAreMethodsWrong)

/-- 'laws.FnExactFindMethod': WHATEVER THE INPUT: true; the input reads as it did. -/
def fnExactFindMethodSpec : ChangeSpec := { name := "fnExactFindMethod", fn := fun _ => fun
  | [d1, d2] => { results := [.lit (.bool true)], args := [d1, d2] }
  | _ => none }
def fnExactFindMethodRow : OpenClaim := { program := "ytcenbbbghhmpfaa", sum := "fb7ab995b7e29094508478ab3cc3fe59edc2bc3878372afe8bb8247899fa4433", func := "loop.example/g00597/laws.FnExactFindMethod", spec := "fnExactFindMethod", unfollowed := true, recurses := true, apart := false }
def FnExactFindMethodSaid : Prop := fnExactFindMethodRow.holds Try.pinned (OpenSpec.ofChange fnExactFindMethodSpec)

/-- ITS FALSE NEIGHBOUR: 'it returns false'. Refute it at one input. -/
def fnExactFindMethodWrong : ChangeSpec := { name := "fnExactFindMethod", fn := fun _ => fun
  | [d1, d2] => { results := [.lit (.bool false)], args := [d1, d2] }
  | _ => none }
def FnExactFindMethodWrongFalsely : Prop := fnExactFindMethodRow.holds Try.pinned (OpenSpec.ofChange fnExactFindMethodWrong)

/-- 'laws.FnExactBreakOf': WHATEVER THE INPUT: true; the input reads as it did. -/
def fnExactBreakOfSpec : ChangeSpec := { name := "fnExactBreakOf", fn := fun _ => fun
  | [d1, d2] => { results := [.lit (.bool true)], args := [d1, d2] }
  | _ => none }
def fnExactBreakOfRow : OpenClaim := { program := "ytcenbbbghhmpfaa", sum := "fb7ab995b7e29094508478ab3cc3fe59edc2bc3878372afe8bb8247899fa4433", func := "loop.example/g00597/laws.FnExactBreakOf", spec := "fnExactBreakOf", unfollowed := true, recurses := true, apart := false }
def FnExactBreakOfSaid : Prop := fnExactBreakOfRow.holds Try.pinned (OpenSpec.ofChange fnExactBreakOfSpec)

/-- ITS FALSE NEIGHBOUR: 'it returns false'. Refute it at one input. -/
def fnExactBreakOfWrong : ChangeSpec := { name := "fnExactBreakOf", fn := fun _ => fun
  | [d1, d2] => { results := [.lit (.bool false)], args := [d1, d2] }
  | _ => none }
def FnExactBreakOfWrongFalsely : Prop := fnExactBreakOfRow.holds Try.pinned (OpenSpec.ofChange fnExactBreakOfWrong)

/-- 'laws.FnExactIsAlive': WHATEVER THE INPUT: true; the input reads as it did. -/
def fnExactIsAliveSpec : ChangeSpec := { name := "fnExactIsAlive", fn := fun _ => fun
  | [d1, d2, d3] => { results := [.lit (.bool true)], args := [d1, d2, d3] }
  | _ => none }
def fnExactIsAliveRow : OpenClaim := { program := "ytcenbbbghhmpfaa", sum := "fb7ab995b7e29094508478ab3cc3fe59edc2bc3878372afe8bb8247899fa4433", func := "loop.example/g00597/laws.FnExactIsAlive", spec := "fnExactIsAlive", unfollowed := true, recurses := true, apart := false }
def FnExactIsAliveSaid : Prop := fnExactIsAliveRow.holds Try.pinned (OpenSpec.ofChange fnExactIsAliveSpec)

/-- ITS FALSE NEIGHBOUR: 'it returns false'. Refute it at one input. -/
def fnExactIsAliveWrong : ChangeSpec := { name := "fnExactIsAlive", fn := fun _ => fun
  | [d1, d2, d3] => { results := [.lit (.bool false)], args := [d1, d2, d3] }
  | _ => none }
def FnExactIsAliveWrongFalsely : Prop := fnExactIsAliveRow.holds Try.pinned (OpenSpec.ofChange fnExactIsAliveWrong)

/-- 'laws.FnExactBestMethod': WHATEVER THE INPUT: true; the input reads as it did. -/
def fnExactBestMethodSpec : ChangeSpec := { name := "fnExactBestMethod", fn := fun _ => fun
  | [d1, d2] => { results := [.lit (.bool true)], args := [d1, d2] }
  | _ => none }
def fnExactBestMethodRow : OpenClaim := { program := "ytcenbbbghhmpfaa", sum := "fb7ab995b7e29094508478ab3cc3fe59edc2bc3878372afe8bb8247899fa4433", func := "loop.example/g00597/laws.FnExactBestMethod", spec := "fnExactBestMethod", apart := false }
def FnExactBestMethodSaid : Prop := fnExactBestMethodRow.holds Try.pinned (OpenSpec.ofChange fnExactBestMethodSpec)

/-- ITS FALSE NEIGHBOUR: 'it returns false'. Refute it at one input. -/
def fnExactBestMethodWrong : ChangeSpec := { name := "fnExactBestMethod", fn := fun _ => fun
  | [d1, d2] => { results := [.lit (.bool false)], args := [d1, d2] }
  | _ => none }
def FnExactBestMethodWrongFalsely : Prop := fnExactBestMethodRow.holds Try.pinned (OpenSpec.ofChange fnExactBestMethodWrong)

/-- 'laws.FnExactDigestOf': WHATEVER THE INPUT: true; the input reads as it did. -/
def fnExactDigestOfSpec : ChangeSpec := { name := "fnExactDigestOf", fn := fun _ => fun
  | [d1, d2] => { results := [.lit (.bool true)], args := [d1, d2] }
  | _ => none }
def fnExactDigestOfRow : OpenClaim := { program := "ytcenbbbghhmpfaa", sum := "fb7ab995b7e29094508478ab3cc3fe59edc2bc3878372afe8bb8247899fa4433", func := "loop.example/g00597/laws.FnExactDigestOf", spec := "fnExactDigestOf", apart := false }
def FnExactDigestOfSaid : Prop := fnExactDigestOfRow.holds Try.pinned (OpenSpec.ofChange fnExactDigestOfSpec)

/-- ITS FALSE NEIGHBOUR: 'it returns false'. Refute it at one input. -/
def fnExactDigestOfWrong : ChangeSpec := { name := "fnExactDigestOf", fn := fun _ => fun
  | [d1, d2] => { results := [.lit (.bool false)], args := [d1, d2] }
  | _ => none }
def FnExactDigestOfWrongFalsely : Prop := fnExactDigestOfRow.holds Try.pinned (OpenSpec.ofChange fnExactDigestOfWrong)

/-- 'laws.FnExactIsDocument': WHATEVER THE INPUT: true; the input reads as it did. -/
def fnExactIsDocumentSpec : ChangeSpec := { name := "fnExactIsDocument", fn := fun _ => fun
  | [d] => { results := [.lit (.bool true)], args := [d] }
  | _ => none }
def fnExactIsDocumentRow : OpenClaim := { program := "ytcenbbbghhmpfaa", sum := "fb7ab995b7e29094508478ab3cc3fe59edc2bc3878372afe8bb8247899fa4433", func := "loop.example/g00597/laws.FnExactIsDocument", spec := "fnExactIsDocument", apart := false }
def FnExactIsDocumentSaid : Prop := fnExactIsDocumentRow.holds Try.pinned (OpenSpec.ofChange fnExactIsDocumentSpec)

/-- ITS FALSE NEIGHBOUR: 'it returns false'. Refute it at one input. -/
def fnExactIsDocumentWrong : ChangeSpec := { name := "fnExactIsDocument", fn := fun _ => fun
  | [d] => { results := [.lit (.bool false)], args := [d] }
  | _ => none }
def FnExactIsDocumentWrongFalsely : Prop := fnExactIsDocumentRow.holds Try.pinned (OpenSpec.ofChange fnExactIsDocumentWrong)

/-- 'laws.FnExactPartDigest': WHATEVER THE INPUT: true; the input reads as it did. -/
def fnExactPartDigestSpec : ChangeSpec := { name := "fnExactPartDigest", fn := fun _ => fun
  | [d1, d2, d3] => { results := [.lit (.bool true)], args := [d1, d2, d3] }
  | _ => none }
def fnExactPartDigestRow : OpenClaim := { program := "ytcenbbbghhmpfaa", sum := "fb7ab995b7e29094508478ab3cc3fe59edc2bc3878372afe8bb8247899fa4433", func := "loop.example/g00597/laws.FnExactPartDigest", spec := "fnExactPartDigest", apart := false }
def FnExactPartDigestSaid : Prop := fnExactPartDigestRow.holds Try.pinned (OpenSpec.ofChange fnExactPartDigestSpec)

/-- ITS FALSE NEIGHBOUR: 'it returns false'. Refute it at one input. -/
def fnExactPartDigestWrong : ChangeSpec := { name := "fnExactPartDigest", fn := fun _ => fun
  | [d1, d2, d3] => { results := [.lit (.bool false)], args := [d1, d2, d3] }
  | _ => none }
def FnExactPartDigestWrongFalsely : Prop := fnExactPartDigestRow.holds Try.pinned (OpenSpec.ofChange fnExactPartDigestWrong)

/- THE SECOND FORM. 'bulk': how many values and letters a reading holds, each counted each time it is reached (what is shared counts as often as it is met; a slice's spare places count too). A statement '..UptoSaid' is the law's where the arguments, and the package variables that the reading takes, are together of bulk at most 1048576: NARROWER than '..Said'. Prove '..Said' where nothing that the law and all that it calls make is longer than what came in: it says more and counts as full. Else prove '..UptoSaid'. A law counts once. -/
mutual
def uptoBulk {H : Type} : DataW H → Nat
  | .lit (.string bytes) => bytes.length + 1
  | .lit _ => 1
  | .nil => 1
  | .ptr d => uptoBulk d + 1
  | .slice elems spare => uptoBulkAll elems + uptoBulkAll spare + 1
  | .agg parts => uptoBulkAll parts + 1
  | .iface _ d => uptoBulk d + 1
  | .map entries => uptoBulkEntries entries + 1
  | .held _ => 1
def uptoBulkAll {H : Type} : List (DataW H) → Nat
  | [] => 0
  | d :: r => uptoBulk d + uptoBulkAll r
def uptoBulkEntries {H : Type} : List (Lit × DataW H) → Nat
  | [] => 0
  | x :: r => uptoBulkEntry x + uptoBulkEntries r
def uptoBulkEntry {H : Type} : Lit × DataW H → Nat
  | (.string bytes, d) => bytes.length + uptoBulk d + 1
  | (_, d) => uptoBulk d + 1
 end
def uptoSmall : (H : Type) → List (DataW H) → Bool := fun _ ds => decide (uptoBulkAll ds ≤ 1048576)
def OpenSpec.upto (s : _root_.Go.ChangeSpec) : _root_.Go.OpenSpec := { _root_.Go.OpenSpec.ofChange s with cond := some uptoSmall }

/-- 'laws.FnSpans', WHERE WHAT IT READS IS OF BULK AT MOST 1048576: true; the input reads as it did. -/
def fnSpansUptoRow : OpenClaim := { program := "ytcenbbbghhmpfaa", sum := "fb7ab995b7e29094508478ab3cc3fe59edc2bc3878372afe8bb8247899fa4433", func := "loop.example/g00597/laws.FnSpans", spec := "fnSpans", unfollowed := true, recurses := true, apart := false, narrowed := true }
def FnSpansUptoSaid : Prop := fnSpansUptoRow.holds Try.pinned (OpenSpec.upto fnSpansSpec)

/-- 'laws.FnMethods', WHERE WHAT IT READS IS OF BULK AT MOST 1048576: true; the input reads as it did. -/
def fnMethodsUptoRow : OpenClaim := { program := "ytcenbbbghhmpfaa", sum := "fb7ab995b7e29094508478ab3cc3fe59edc2bc3878372afe8bb8247899fa4433", func := "loop.example/g00597/laws.FnMethods", spec := "fnMethods", unfollowed := true, recurses := true, apart := false, narrowed := true }
def FnMethodsUptoSaid : Prop := fnMethodsUptoRow.holds Try.pinned (OpenSpec.upto fnMethodsSpec)

/-- 'laws.FnExactIsMethod', WHERE WHAT IT READS IS OF BULK AT MOST 1048576: true; the input reads as it did. -/
def fnExactIsMethodUptoRow : OpenClaim := { program := "ytcenbbbghhmpfaa", sum := "fb7ab995b7e29094508478ab3cc3fe59edc2bc3878372afe8bb8247899fa4433", func := "loop.example/g00597/laws.FnExactIsMethod", spec := "fnExactIsMethod", unfollowed := true, recurses := true, apart := false, narrowed := true }
def FnExactIsMethodUptoSaid : Prop := fnExactIsMethodUptoRow.holds Try.pinned (OpenSpec.upto fnExactIsMethodSpec)

/-- 'laws.FnExactAreMethods', WHERE WHAT IT READS IS OF BULK AT MOST 1048576: true; the input reads as it did. -/
def fnExactAreMethodsUptoRow : OpenClaim := { program := "ytcenbbbghhmpfaa", sum := "fb7ab995b7e29094508478ab3cc3fe59edc2bc3878372afe8bb8247899fa4433", func := "loop.example/g00597/laws.FnExactAreMethods", spec := "fnExactAreMethods", unfollowed := true, recurses := true, apart := false, narrowed := true }
def FnExactAreMethodsUptoSaid : Prop := fnExactAreMethodsUptoRow.holds Try.pinned (OpenSpec.upto fnExactAreMethodsSpec)

/-- 'laws.FnExactFindMethod', WHERE WHAT IT READS IS OF BULK AT MOST 1048576: true; the input reads as it did. -/
def fnExactFindMethodUptoRow : OpenClaim := { program := "ytcenbbbghhmpfaa", sum := "fb7ab995b7e29094508478ab3cc3fe59edc2bc3878372afe8bb8247899fa4433", func := "loop.example/g00597/laws.FnExactFindMethod", spec := "fnExactFindMethod", unfollowed := true, recurses := true, apart := false, narrowed := true }
def FnExactFindMethodUptoSaid : Prop := fnExactFindMethodUptoRow.holds Try.pinned (OpenSpec.upto fnExactFindMethodSpec)

/-- 'laws.FnExactBreakOf', WHERE WHAT IT READS IS OF BULK AT MOST 1048576: true; the input reads as it did. -/
def fnExactBreakOfUptoRow : OpenClaim := { program := "ytcenbbbghhmpfaa", sum := "fb7ab995b7e29094508478ab3cc3fe59edc2bc3878372afe8bb8247899fa4433", func := "loop.example/g00597/laws.FnExactBreakOf", spec := "fnExactBreakOf", unfollowed := true, recurses := true, apart := false, narrowed := true }
def FnExactBreakOfUptoSaid : Prop := fnExactBreakOfUptoRow.holds Try.pinned (OpenSpec.upto fnExactBreakOfSpec)

/-- 'laws.FnExactIsAlive', WHERE WHAT IT READS IS OF BULK AT MOST 1048576: true; the input reads as it did. -/
def fnExactIsAliveUptoRow : OpenClaim := { program := "ytcenbbbghhmpfaa", sum := "fb7ab995b7e29094508478ab3cc3fe59edc2bc3878372afe8bb8247899fa4433", func := "loop.example/g00597/laws.FnExactIsAlive", spec := "fnExactIsAlive", unfollowed := true, recurses := true, apart := false, narrowed := true }
def FnExactIsAliveUptoSaid : Prop := fnExactIsAliveUptoRow.holds Try.pinned (OpenSpec.upto fnExactIsAliveSpec)

/-- 'laws.FnExactBestMethod', WHERE WHAT IT READS IS OF BULK AT MOST 1048576: true; the input reads as it did. -/
def fnExactBestMethodUptoRow : OpenClaim := { program := "ytcenbbbghhmpfaa", sum := "fb7ab995b7e29094508478ab3cc3fe59edc2bc3878372afe8bb8247899fa4433", func := "loop.example/g00597/laws.FnExactBestMethod", spec := "fnExactBestMethod", apart := false, narrowed := true }
def FnExactBestMethodUptoSaid : Prop := fnExactBestMethodUptoRow.holds Try.pinned (OpenSpec.upto fnExactBestMethodSpec)

/-- 'laws.FnExactDigestOf', WHERE WHAT IT READS IS OF BULK AT MOST 1048576: true; the input reads as it did. -/
def fnExactDigestOfUptoRow : OpenClaim := { program := "ytcenbbbghhmpfaa", sum := "fb7ab995b7e29094508478ab3cc3fe59edc2bc3878372afe8bb8247899fa4433", func := "loop.example/g00597/laws.FnExactDigestOf", spec := "fnExactDigestOf", apart := false, narrowed := true }
def FnExactDigestOfUptoSaid : Prop := fnExactDigestOfUptoRow.holds Try.pinned (OpenSpec.upto fnExactDigestOfSpec)

/-- 'laws.FnExactIsDocument', WHERE WHAT IT READS IS OF BULK AT MOST 1048576: true; the input reads as it did. -/
def fnExactIsDocumentUptoRow : OpenClaim := { program := "ytcenbbbghhmpfaa", sum := "fb7ab995b7e29094508478ab3cc3fe59edc2bc3878372afe8bb8247899fa4433", func := "loop.example/g00597/laws.FnExactIsDocument", spec := "fnExactIsDocument", apart := false, narrowed := true }
def FnExactIsDocumentUptoSaid : Prop := fnExactIsDocumentUptoRow.holds Try.pinned (OpenSpec.upto fnExactIsDocumentSpec)

/-- 'laws.FnExactPartDigest', WHERE WHAT IT READS IS OF BULK AT MOST 1048576: true; the input reads as it did. -/
def fnExactPartDigestUptoRow : OpenClaim := { program := "ytcenbbbghhmpfaa", sum := "fb7ab995b7e29094508478ab3cc3fe59edc2bc3878372afe8bb8247899fa4433", func := "loop.example/g00597/laws.FnExactPartDigest", spec := "fnExactPartDigest", apart := false, narrowed := true }
def FnExactPartDigestUptoSaid : Prop := fnExactPartDigestUptoRow.holds Try.pinned (OpenSpec.upto fnExactPartDigestSpec)

end Rows
end Go.Proofs.Ytcenbbbghhmpfaa
