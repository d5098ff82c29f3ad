/-
  No cell of these rows narrows 'for every input' (looked for: loops, veiled, ifaces, maps, wideKeys, modest, calm, conditions, laid).
  DERIVED. THE GIVEN ROWS OF THIS SEAT. 16 by the template 'for every input the law returns true; each argument reads behind the call as it read before'; 0 by the template 'total and deterministic' (their statements: YtllkpapkkgfjaacTotals.lean).
  GIVEN WITH THE SEED: the statements are not yours to turn. If you find one false, say at which input.
  Laid BY PROGRAM, IN A SANDBOX (cutbox-rows.mjs): the forced cells as the released guide's own fill.sh prints them over the translation 679edbb525f8d47f… (all of the seat's roots in one cut). By AI agents, Wed Nov 11 2026. No macro, syntax, notation, axiom, sorry.
-/
import Derived.Test.YtllkpapkkgfjaacChecked
import GoSem.Claim
import GoSem.ClaimJoined
import GoSem.ClaimMapViews
import Derived.JoinedTies
import Derived.KernelRfl
namespace Go.Proofs.Ytllkpapkkgfjaac
/- THE CELL 'sum', in the pinned program and in every row, IS THE sha256 OF THE DUMP (.gsa) THAT YtllkpapkkgfjaacProg.lean LOADS. Nothing in Lean hashes anything: it is a label: what it is worth is what the hold of that sum in a sandbox is worth. -/
noncomputable def Try.pinned : Pinned := { name := "ytllkpapkkgfjaac", sum := "679edbb525f8d47f515473c332832eb86f42c03d72fb6e8fe55a60ac6b11200d", checked := Try.checked }
namespace Rows
def none {H : Type} : Left H := { results := [], args := [] }

/-- 'laws.FnSignatures': WHATEVER THE INPUT: true; the input reads as it did. -/
def fnSignaturesSpec : ChangeSpec := { name := "fnSignatures", fn := fun _ => fun
  | [d] => { results := [.lit (.bool true)], args := [d] }
  | _ => none }
def fnSignaturesRow : OpenClaim := { program := "ytllkpapkkgfjaac", sum := "679edbb525f8d47f515473c332832eb86f42c03d72fb6e8fe55a60ac6b11200d", func := "loop.example/g00597/laws.FnSignatures", spec := "fnSignatures", unfollowed := true, recurses := true, apart := false }
def FnSignaturesSaid : Prop := fnSignaturesRow.holds Try.pinned (OpenSpec.ofChange fnSignaturesSpec)

/-- ITS FALSE NEIGHBOUR: 'it returns false'. Refute it at one input. -/
def fnSignaturesWrong : ChangeSpec := { name := "fnSignatures", fn := fun _ => fun
  | [d] => { results := [.lit (.bool false)], args := [d] }
  | _ => none }
def FnSignaturesWrongFalsely : Prop := fnSignaturesRow.holds Try.pinned (OpenSpec.ofChange fnSignaturesWrong)

/-- 'laws.FnExactIsSignature': WHATEVER THE INPUT: true; the input reads as it did. -/
def fnExactIsSignatureSpec : ChangeSpec := { name := "fnExactIsSignature", fn := fun _ => fun
  | [d] => { results := [.lit (.bool true)], args := [d] }
  | _ => none }
def fnExactIsSignatureRow : OpenClaim := { program := "ytllkpapkkgfjaac", sum := "679edbb525f8d47f515473c332832eb86f42c03d72fb6e8fe55a60ac6b11200d", func := "loop.example/g00597/laws.FnExactIsSignature", spec := "fnExactIsSignature", apart := false }
def FnExactIsSignatureSaid : Prop := fnExactIsSignatureRow.holds Try.pinned (OpenSpec.ofChange fnExactIsSignatureSpec)

/-- ITS FALSE NEIGHBOUR: 'it returns false'. Refute it at one input. -/
def fnExactIsSignatureWrong : ChangeSpec := { name := "fnExactIsSignature", fn := fun _ => fun
  | [d] => { results := [.lit (.bool false)], args := [d] }
  | _ => none }
def FnExactIsSignatureWrongFalsely : Prop := fnExactIsSignatureRow.holds Try.pinned (OpenSpec.ofChange fnExactIsSignatureWrong)

/-- 'laws.FnExactSignatureInts': WHATEVER THE INPUT: true; the input reads as it did. -/
def fnExactSignatureIntsSpec : ChangeSpec := { name := "fnExactSignatureInts", fn := fun _ => fun
  | [d] => { results := [.lit (.bool true)], args := [d] }
  | _ => none }
def fnExactSignatureIntsRow : OpenClaim := { program := "ytllkpapkkgfjaac", sum := "679edbb525f8d47f515473c332832eb86f42c03d72fb6e8fe55a60ac6b11200d", func := "loop.example/g00597/laws.FnExactSignatureInts", spec := "fnExactSignatureInts", apart := false }
def FnExactSignatureIntsSaid : Prop := fnExactSignatureIntsRow.holds Try.pinned (OpenSpec.ofChange fnExactSignatureIntsSpec)

/-- ITS FALSE NEIGHBOUR: 'it returns false'. Refute it at one input. -/
def fnExactSignatureIntsWrong : ChangeSpec := { name := "fnExactSignatureInts", fn := fun _ => fun
  | [d] => { results := [.lit (.bool false)], args := [d] }
  | _ => none }
def FnExactSignatureIntsWrongFalsely : Prop := fnExactSignatureIntsRow.holds Try.pinned (OpenSpec.ofChange fnExactSignatureIntsWrong)

/-- 'laws.FnExactSignDigest': WHATEVER THE INPUT: true; the input reads as it did. -/
def fnExactSignDigestSpec : ChangeSpec := { name := "fnExactSignDigest", fn := fun _ => fun
  | [d1, d2] => { results := [.lit (.bool true)], args := [d1, d2] }
  | _ => none }
def fnExactSignDigestRow : OpenClaim := { program := "ytllkpapkkgfjaac", sum := "679edbb525f8d47f515473c332832eb86f42c03d72fb6e8fe55a60ac6b11200d", func := "loop.example/g00597/laws.FnExactSignDigest", spec := "fnExactSignDigest", unfollowed := true, recurses := true, apart := false }
def FnExactSignDigestSaid : Prop := fnExactSignDigestRow.holds Try.pinned (OpenSpec.ofChange fnExactSignDigestSpec)

/-- ITS FALSE NEIGHBOUR: 'it returns false'. Refute it at one input. -/
def fnExactSignDigestWrong : ChangeSpec := { name := "fnExactSignDigest", fn := fun _ => fun
  | [d1, d2] => { results := [.lit (.bool false)], args := [d1, d2] }
  | _ => none }
def FnExactSignDigestWrongFalsely : Prop := fnExactSignDigestRow.holds Try.pinned (OpenSpec.ofChange fnExactSignDigestWrong)

/-- 'laws.FnExactCheckSignature': WHATEVER THE INPUT: true; the input reads as it did. -/
def fnExactCheckSignatureSpec : ChangeSpec := { name := "fnExactCheckSignature", fn := fun _ => fun
  | [d1, d2] => { results := [.lit (.bool true)], args := [d1, d2] }
  | _ => none }
def fnExactCheckSignatureRow : OpenClaim := { program := "ytllkpapkkgfjaac", sum := "679edbb525f8d47f515473c332832eb86f42c03d72fb6e8fe55a60ac6b11200d", func := "loop.example/g00597/laws.FnExactCheckSignature", spec := "fnExactCheckSignature", unfollowed := true, recurses := true, apart := false }
def FnExactCheckSignatureSaid : Prop := fnExactCheckSignatureRow.holds Try.pinned (OpenSpec.ofChange fnExactCheckSignatureSpec)

/-- ITS FALSE NEIGHBOUR: 'it returns false'. Refute it at one input. -/
def fnExactCheckSignatureWrong : ChangeSpec := { name := "fnExactCheckSignature", fn := fun _ => fun
  | [d1, d2] => { results := [.lit (.bool false)], args := [d1, d2] }
  | _ => none }
def FnExactCheckSignatureWrongFalsely : Prop := fnExactCheckSignatureRow.holds Try.pinned (OpenSpec.ofChange fnExactCheckSignatureWrong)

/-- 'laws.FnExactSignatureDigest': WHATEVER THE INPUT: true; the input reads as it did. -/
def fnExactSignatureDigestSpec : ChangeSpec := { name := "fnExactSignatureDigest", fn := fun _ => fun
  | [d1, d2] => { results := [.lit (.bool true)], args := [d1, d2] }
  | _ => none }
def fnExactSignatureDigestRow : OpenClaim := { program := "ytllkpapkkgfjaac", sum := "679edbb525f8d47f515473c332832eb86f42c03d72fb6e8fe55a60ac6b11200d", func := "loop.example/g00597/laws.FnExactSignatureDigest", spec := "fnExactSignatureDigest", apart := false }
def FnExactSignatureDigestSaid : Prop := fnExactSignatureDigestRow.holds Try.pinned (OpenSpec.ofChange fnExactSignatureDigestSpec)

/-- ITS FALSE NEIGHBOUR: 'it returns false'. Refute it at one input. -/
def fnExactSignatureDigestWrong : ChangeSpec := { name := "fnExactSignatureDigest", fn := fun _ => fun
  | [d1, d2] => { results := [.lit (.bool false)], args := [d1, d2] }
  | _ => none }
def FnExactSignatureDigestWrongFalsely : Prop := fnExactSignatureDigestRow.holds Try.pinned (OpenSpec.ofChange fnExactSignatureDigestWrong)

/-- 'laws.FnExactStampsDigest': WHATEVER THE INPUT: true; the input reads as it did. -/
def fnExactStampsDigestSpec : ChangeSpec := { name := "fnExactStampsDigest", fn := fun _ => fun
  | [d1, d2] => { results := [.lit (.bool true)], args := [d1, d2] }
  | _ => none }
def fnExactStampsDigestRow : OpenClaim := { program := "ytllkpapkkgfjaac", sum := "679edbb525f8d47f515473c332832eb86f42c03d72fb6e8fe55a60ac6b11200d", func := "loop.example/g00597/laws.FnExactStampsDigest", spec := "fnExactStampsDigest", unfollowed := true, recurses := true, apart := false }
def FnExactStampsDigestSaid : Prop := fnExactStampsDigestRow.holds Try.pinned (OpenSpec.ofChange fnExactStampsDigestSpec)

/-- ITS FALSE NEIGHBOUR: 'it returns false'. Refute it at one input. -/
def fnExactStampsDigestWrong : ChangeSpec := { name := "fnExactStampsDigest", fn := fun _ => fun
  | [d1, d2] => { results := [.lit (.bool false)], args := [d1, d2] }
  | _ => none }
def FnExactStampsDigestWrongFalsely : Prop := fnExactStampsDigestRow.holds Try.pinned (OpenSpec.ofChange fnExactStampsDigestWrong)

/-- 'laws.FnExactSignDocument': WHATEVER THE INPUT: true; the input reads as it did. -/
def fnExactSignDocumentSpec : ChangeSpec := { name := "fnExactSignDocument", fn := fun _ => fun
  | [d1, d2, d3, d4, d5, d6] => { results := [.lit (.bool true)], args := [d1, d2, d3, d4, d5, d6] }
  | _ => none }
def fnExactSignDocumentRow : OpenClaim := { program := "ytllkpapkkgfjaac", sum := "679edbb525f8d47f515473c332832eb86f42c03d72fb6e8fe55a60ac6b11200d", func := "loop.example/g00597/laws.FnExactSignDocument", spec := "fnExactSignDocument", unfollowed := true, recurses := true, apart := false }
def FnExactSignDocumentSaid : Prop := fnExactSignDocumentRow.holds Try.pinned (OpenSpec.ofChange fnExactSignDocumentSpec)

/-- ITS FALSE NEIGHBOUR: 'it returns false'. Refute it at one input. -/
def fnExactSignDocumentWrong : ChangeSpec := { name := "fnExactSignDocument", fn := fun _ => fun
  | [d1, d2, d3, d4, d5, d6] => { results := [.lit (.bool false)], args := [d1, d2, d3, d4, d5, d6] }
  | _ => none }
def FnExactSignDocumentWrongFalsely : Prop := fnExactSignDocumentRow.holds Try.pinned (OpenSpec.ofChange fnExactSignDocumentWrong)

/-- 'laws.FnTogether': WHATEVER THE INPUT: true; the input reads as it did. -/
def fnTogetherSpec : ChangeSpec := { name := "fnTogether", fn := fun _ => fun
  | [d] => { results := [.lit (.bool true)], args := [d] }
  | _ => none }
def fnTogetherRow : OpenClaim := { program := "ytllkpapkkgfjaac", sum := "679edbb525f8d47f515473c332832eb86f42c03d72fb6e8fe55a60ac6b11200d", func := "loop.example/g00597/laws.FnTogether", spec := "fnTogether", unfollowed := true, recurses := true, apart := false }
def FnTogetherSaid : Prop := fnTogetherRow.holds Try.pinned (OpenSpec.ofChange fnTogetherSpec)

/-- ITS FALSE NEIGHBOUR: 'it returns false'. Refute it at one input. -/
def fnTogetherWrong : ChangeSpec := { name := "fnTogether", fn := fun _ => fun
  | [d] => { results := [.lit (.bool false)], args := [d] }
  | _ => none }
def FnTogetherWrongFalsely : Prop := fnTogetherRow.holds Try.pinned (OpenSpec.ofChange fnTogetherWrong)

/-- 'laws.FnExactIsSignRule': WHATEVER THE INPUT: true; the input reads as it did. -/
def fnExactIsSignRuleSpec : ChangeSpec := { name := "fnExactIsSignRule", fn := fun _ => fun
  | [d] => { results := [.lit (.bool true)], args := [d] }
  | _ => none }
def fnExactIsSignRuleRow : OpenClaim := { program := "ytllkpapkkgfjaac", sum := "679edbb525f8d47f515473c332832eb86f42c03d72fb6e8fe55a60ac6b11200d", func := "loop.example/g00597/laws.FnExactIsSignRule", spec := "fnExactIsSignRule", apart := false }
def FnExactIsSignRuleSaid : Prop := fnExactIsSignRuleRow.holds Try.pinned (OpenSpec.ofChange fnExactIsSignRuleSpec)

/-- ITS FALSE NEIGHBOUR: 'it returns false'. Refute it at one input. -/
def fnExactIsSignRuleWrong : ChangeSpec := { name := "fnExactIsSignRule", fn := fun _ => fun
  | [d] => { results := [.lit (.bool false)], args := [d] }
  | _ => none }
def FnExactIsSignRuleWrongFalsely : Prop := fnExactIsSignRuleRow.holds Try.pinned (OpenSpec.ofChange fnExactIsSignRuleWrong)

/-- 'laws.FnExactSignatureOf': WHATEVER THE INPUT: true; the input reads as it did. -/
def fnExactSignatureOfSpec : ChangeSpec := { name := "fnExactSignatureOf", fn := fun _ => fun
  | [d1, d2, d3, d4] => { results := [.lit (.bool true)], args := [d1, d2, d3, d4] }
  | _ => none }
def fnExactSignatureOfRow : OpenClaim := { program := "ytllkpapkkgfjaac", sum := "679edbb525f8d47f515473c332832eb86f42c03d72fb6e8fe55a60ac6b11200d", func := "loop.example/g00597/laws.FnExactSignatureOf", spec := "fnExactSignatureOf", unfollowed := true, recurses := true, apart := false }
def FnExactSignatureOfSaid : Prop := fnExactSignatureOfRow.holds Try.pinned (OpenSpec.ofChange fnExactSignatureOfSpec)

/-- ITS FALSE NEIGHBOUR: 'it returns false'. Refute it at one input. -/
def fnExactSignatureOfWrong : ChangeSpec := { name := "fnExactSignatureOf", fn := fun _ => fun
  | [d1, d2, d3, d4] => { results := [.lit (.bool false)], args := [d1, d2, d3, d4] }
  | _ => none }
def FnExactSignatureOfWrongFalsely : Prop := fnExactSignatureOfRow.holds Try.pinned (OpenSpec.ofChange fnExactSignatureOfWrong)

/-- 'laws.FnExactMeetsRule': WHATEVER THE INPUT: true; the input reads as it did. -/
def fnExactMeetsRuleSpec : ChangeSpec := { name := "fnExactMeetsRule", fn := fun _ => fun
  | [d1, d2, d3, d4] => { results := [.lit (.bool true)], args := [d1, d2, d3, d4] }
  | _ => none }
def fnExactMeetsRuleRow : OpenClaim := { program := "ytllkpapkkgfjaac", sum := "679edbb525f8d47f515473c332832eb86f42c03d72fb6e8fe55a60ac6b11200d", func := "loop.example/g00597/laws.FnExactMeetsRule", spec := "fnExactMeetsRule", unfollowed := true, recurses := true, apart := false }
def FnExactMeetsRuleSaid : Prop := fnExactMeetsRuleRow.holds Try.pinned (OpenSpec.ofChange fnExactMeetsRuleSpec)

/-- ITS FALSE NEIGHBOUR: 'it returns false'. Refute it at one input. -/
def fnExactMeetsRuleWrong : ChangeSpec := { name := "fnExactMeetsRule", fn := fun _ => fun
  | [d1, d2, d3, d4] => { results := [.lit (.bool false)], args := [d1, d2, d3, d4] }
  | _ => none }
def FnExactMeetsRuleWrongFalsely : Prop := fnExactMeetsRuleRow.holds Try.pinned (OpenSpec.ofChange fnExactMeetsRuleWrong)

/-- 'laws.FnExactMissingOwners': WHATEVER THE INPUT: true; the input reads as it did. -/
def fnExactMissingOwnersSpec : ChangeSpec := { name := "fnExactMissingOwners", fn := fun _ => fun
  | [d1, d2, d3, d4] => { results := [.lit (.bool true)], args := [d1, d2, d3, d4] }
  | _ => none }
def fnExactMissingOwnersRow : OpenClaim := { program := "ytllkpapkkgfjaac", sum := "679edbb525f8d47f515473c332832eb86f42c03d72fb6e8fe55a60ac6b11200d", func := "loop.example/g00597/laws.FnExactMissingOwners", spec := "fnExactMissingOwners", unfollowed := true, recurses := true, apart := false }
def FnExactMissingOwnersSaid : Prop := fnExactMissingOwnersRow.holds Try.pinned (OpenSpec.ofChange fnExactMissingOwnersSpec)

/-- ITS FALSE NEIGHBOUR: 'it returns false'. Refute it at one input. -/
def fnExactMissingOwnersWrong : ChangeSpec := { name := "fnExactMissingOwners", fn := fun _ => fun
  | [d1, d2, d3, d4] => { results := [.lit (.bool false)], args := [d1, d2, d3, d4] }
  | _ => none }
def FnExactMissingOwnersWrongFalsely : Prop := fnExactMissingOwnersRow.holds Try.pinned (OpenSpec.ofChange fnExactMissingOwnersWrong)

/-- 'laws.FnExactNextOwner': WHATEVER THE INPUT: true; the input reads as it did. -/
def fnExactNextOwnerSpec : ChangeSpec := { name := "fnExactNextOwner", fn := fun _ => fun
  | [d1, d2, d3, d4] => { results := [.lit (.bool true)], args := [d1, d2, d3, d4] }
  | _ => none }
def fnExactNextOwnerRow : OpenClaim := { program := "ytllkpapkkgfjaac", sum := "679edbb525f8d47f515473c332832eb86f42c03d72fb6e8fe55a60ac6b11200d", func := "loop.example/g00597/laws.FnExactNextOwner", spec := "fnExactNextOwner", unfollowed := true, recurses := true, apart := false }
def FnExactNextOwnerSaid : Prop := fnExactNextOwnerRow.holds Try.pinned (OpenSpec.ofChange fnExactNextOwnerSpec)

/-- ITS FALSE NEIGHBOUR: 'it returns false'. Refute it at one input. -/
def fnExactNextOwnerWrong : ChangeSpec := { name := "fnExactNextOwner", fn := fun _ => fun
  | [d1, d2, d3, d4] => { results := [.lit (.bool false)], args := [d1, d2, d3, d4] }
  | _ => none }
def FnExactNextOwnerWrongFalsely : Prop := fnExactNextOwnerRow.holds Try.pinned (OpenSpec.ofChange fnExactNextOwnerWrong)

/-- 'laws.FnExactBeforeFor': WHATEVER THE INPUT: true; the input reads as it did. -/
def fnExactBeforeForSpec : ChangeSpec := { name := "fnExactBeforeFor", fn := fun _ => fun
  | [d1, d2, d3, d4, d5] => { results := [.lit (.bool true)], args := [d1, d2, d3, d4, d5] }
  | _ => none }
def fnExactBeforeForRow : OpenClaim := { program := "ytllkpapkkgfjaac", sum := "679edbb525f8d47f515473c332832eb86f42c03d72fb6e8fe55a60ac6b11200d", func := "loop.example/g00597/laws.FnExactBeforeFor", spec := "fnExactBeforeFor", unfollowed := true, recurses := true, apart := false }
def FnExactBeforeForSaid : Prop := fnExactBeforeForRow.holds Try.pinned (OpenSpec.ofChange fnExactBeforeForSpec)

/-- ITS FALSE NEIGHBOUR: 'it returns false'. Refute it at one input. -/
def fnExactBeforeForWrong : ChangeSpec := { name := "fnExactBeforeFor", fn := fun _ => fun
  | [d1, d2, d3, d4, d5] => { results := [.lit (.bool false)], args := [d1, d2, d3, d4, d5] }
  | _ => none }
def FnExactBeforeForWrongFalsely : Prop := fnExactBeforeForRow.holds Try.pinned (OpenSpec.ofChange fnExactBeforeForWrong)

/-- 'laws.FnMethods': WHATEVER THE INPUT: true; the input reads as it did. -/
def fnMethodsSpec : ChangeSpec := { name := "fnMethods", fn := fun _ => fun
  | [d] => { results := [.lit (.bool true)], args := [d] }
  | _ => none }
def fnMethodsRow : OpenClaim := { program := "ytllkpapkkgfjaac", sum := "679edbb525f8d47f515473c332832eb86f42c03d72fb6e8fe55a60ac6b11200d", func := "loop.example/g00597/laws.FnMethods", spec := "fnMethods", unfollowed := true, recurses := true, apart := false }
def FnMethodsSaid : Prop := fnMethodsRow.holds Try.pinned (OpenSpec.ofChange fnMethodsSpec)

/-- ITS FALSE NEIGHBOUR: 'it returns false'. Refute it at one input. -/
def fnMethodsWrong : ChangeSpec := { name := "fnMethods", fn := fun _ => fun
  | [d] => { results := [.lit (.bool false)], args := [d] }
  | _ => none }
def FnMethodsWrongFalsely : Prop := fnMethodsRow.holds Try.pinned (OpenSpec.ofChange fnMethodsWrong)

/- THE SECOND FORM. 'bulk': how many values and letters a reading holds, each counted each time it is reached (what is shared counts as often as it is met; a slice's spare places count too). A statement '..UptoSaid' is the law's where the arguments, and the package variables that the reading takes, are together of bulk at most 1048576: NARROWER than '..Said'. Prove '..Said' where nothing that the law and all that it calls make is longer than what came in: it says more and counts as full. Else prove '..UptoSaid'. A law counts once. -/
mutual
def uptoBulk {H : Type} : DataW H → Nat
  | .lit (.string bytes) => bytes.length + 1
  | .lit _ => 1
  | .nil => 1
  | .ptr d => uptoBulk d + 1
  | .slice elems spare => uptoBulkAll elems + uptoBulkAll spare + 1
  | .agg parts => uptoBulkAll parts + 1
  | .iface _ d => uptoBulk d + 1
  | .map entries => uptoBulkEntries entries + 1
  | .held _ => 1
def uptoBulkAll {H : Type} : List (DataW H) → Nat
  | [] => 0
  | d :: r => uptoBulk d + uptoBulkAll r
def uptoBulkEntries {H : Type} : List (Lit × DataW H) → Nat
  | [] => 0
  | x :: r => uptoBulkEntry x + uptoBulkEntries r
def uptoBulkEntry {H : Type} : Lit × DataW H → Nat
  | (.string bytes, d) => bytes.length + uptoBulk d + 1
  | (_, d) => uptoBulk d + 1
 end
def uptoSmall : (H : Type) → List (DataW H) → Bool := fun _ ds => decide (uptoBulkAll ds ≤ 1048576)
def OpenSpec.upto (s : _root_.Go.ChangeSpec) : _root_.Go.OpenSpec := { _root_.Go.OpenSpec.ofChange s with cond := some uptoSmall }

/-- 'laws.FnSignatures', WHERE WHAT IT READS IS OF BULK AT MOST 1048576: true; the input reads as it did. -/
def fnSignaturesUptoRow : OpenClaim := { program := "ytllkpapkkgfjaac", sum := "679edbb525f8d47f515473c332832eb86f42c03d72fb6e8fe55a60ac6b11200d", func := "loop.example/g00597/laws.FnSignatures", spec := "fnSignatures", unfollowed := true, recurses := true, apart := false, narrowed := true }
def FnSignaturesUptoSaid : Prop := fnSignaturesUptoRow.holds Try.pinned (OpenSpec.upto fnSignaturesSpec)

/-- 'laws.FnExactIsSignature', WHERE WHAT IT READS IS OF BULK AT MOST 1048576: true; the input reads as it did. -/
def fnExactIsSignatureUptoRow : OpenClaim := { program := "ytllkpapkkgfjaac", sum := "679edbb525f8d47f515473c332832eb86f42c03d72fb6e8fe55a60ac6b11200d", func := "loop.example/g00597/laws.FnExactIsSignature", spec := "fnExactIsSignature", apart := false, narrowed := true }
def FnExactIsSignatureUptoSaid : Prop := fnExactIsSignatureUptoRow.holds Try.pinned (OpenSpec.upto fnExactIsSignatureSpec)

/-- 'laws.FnExactSignatureInts', WHERE WHAT IT READS IS OF BULK AT MOST 1048576: true; the input reads as it did. -/
def fnExactSignatureIntsUptoRow : OpenClaim := { program := "ytllkpapkkgfjaac", sum := "679edbb525f8d47f515473c332832eb86f42c03d72fb6e8fe55a60ac6b11200d", func := "loop.example/g00597/laws.FnExactSignatureInts", spec := "fnExactSignatureInts", apart := false, narrowed := true }
def FnExactSignatureIntsUptoSaid : Prop := fnExactSignatureIntsUptoRow.holds Try.pinned (OpenSpec.upto fnExactSignatureIntsSpec)

/-- 'laws.FnExactSignDigest', WHERE WHAT IT READS IS OF BULK AT MOST 1048576: true; the input reads as it did. -/
def fnExactSignDigestUptoRow : OpenClaim := { program := "ytllkpapkkgfjaac", sum := "679edbb525f8d47f515473c332832eb86f42c03d72fb6e8fe55a60ac6b11200d", func := "loop.example/g00597/laws.FnExactSignDigest", spec := "fnExactSignDigest", unfollowed := true, recurses := true, apart := false, narrowed := true }
def FnExactSignDigestUptoSaid : Prop := fnExactSignDigestUptoRow.holds Try.pinned (OpenSpec.upto fnExactSignDigestSpec)

/-- 'laws.FnExactCheckSignature', WHERE WHAT IT READS IS OF BULK AT MOST 1048576: true; the input reads as it did. -/
def fnExactCheckSignatureUptoRow : OpenClaim := { program := "ytllkpapkkgfjaac", sum := "679edbb525f8d47f515473c332832eb86f42c03d72fb6e8fe55a60ac6b11200d", func := "loop.example/g00597/laws.FnExactCheckSignature", spec := "fnExactCheckSignature", unfollowed := true, recurses := true, apart := false, narrowed := true }
def FnExactCheckSignatureUptoSaid : Prop := fnExactCheckSignatureUptoRow.holds Try.pinned (OpenSpec.upto fnExactCheckSignatureSpec)

/-- 'laws.FnExactSignatureDigest', WHERE WHAT IT READS IS OF BULK AT MOST 1048576: true; the input reads as it did. -/
def fnExactSignatureDigestUptoRow : OpenClaim := { program := "ytllkpapkkgfjaac", sum := "679edbb525f8d47f515473c332832eb86f42c03d72fb6e8fe55a60ac6b11200d", func := "loop.example/g00597/laws.FnExactSignatureDigest", spec := "fnExactSignatureDigest", apart := false, narrowed := true }
def FnExactSignatureDigestUptoSaid : Prop := fnExactSignatureDigestUptoRow.holds Try.pinned (OpenSpec.upto fnExactSignatureDigestSpec)

/-- 'laws.FnExactStampsDigest', WHERE WHAT IT READS IS OF BULK AT MOST 1048576: true; the input reads as it did. -/
def fnExactStampsDigestUptoRow : OpenClaim := { program := "ytllkpapkkgfjaac", sum := "679edbb525f8d47f515473c332832eb86f42c03d72fb6e8fe55a60ac6b11200d", func := "loop.example/g00597/laws.FnExactStampsDigest", spec := "fnExactStampsDigest", unfollowed := true, recurses := true, apart := false, narrowed := true }
def FnExactStampsDigestUptoSaid : Prop := fnExactStampsDigestUptoRow.holds Try.pinned (OpenSpec.upto fnExactStampsDigestSpec)

/-- 'laws.FnExactSignDocument', WHERE WHAT IT READS IS OF BULK AT MOST 1048576: true; the input reads as it did. -/
def fnExactSignDocumentUptoRow : OpenClaim := { program := "ytllkpapkkgfjaac", sum := "679edbb525f8d47f515473c332832eb86f42c03d72fb6e8fe55a60ac6b11200d", func := "loop.example/g00597/laws.FnExactSignDocument", spec := "fnExactSignDocument", unfollowed := true, recurses := true, apart := false, narrowed := true }
def FnExactSignDocumentUptoSaid : Prop := fnExactSignDocumentUptoRow.holds Try.pinned (OpenSpec.upto fnExactSignDocumentSpec)

/-- 'laws.FnTogether', WHERE WHAT IT READS IS OF BULK AT MOST 1048576: true; the input reads as it did. -/
def fnTogetherUptoRow : OpenClaim := { program := "ytllkpapkkgfjaac", sum := "679edbb525f8d47f515473c332832eb86f42c03d72fb6e8fe55a60ac6b11200d", func := "loop.example/g00597/laws.FnTogether", spec := "fnTogether", unfollowed := true, recurses := true, apart := false, narrowed := true }
def FnTogetherUptoSaid : Prop := fnTogetherUptoRow.holds Try.pinned (OpenSpec.upto fnTogetherSpec)

/-- 'laws.FnExactIsSignRule', WHERE WHAT IT READS IS OF BULK AT MOST 1048576: true; the input reads as it did. -/
def fnExactIsSignRuleUptoRow : OpenClaim := { program := "ytllkpapkkgfjaac", sum := "679edbb525f8d47f515473c332832eb86f42c03d72fb6e8fe55a60ac6b11200d", func := "loop.example/g00597/laws.FnExactIsSignRule", spec := "fnExactIsSignRule", apart := false, narrowed := true }
def FnExactIsSignRuleUptoSaid : Prop := fnExactIsSignRuleUptoRow.holds Try.pinned (OpenSpec.upto fnExactIsSignRuleSpec)

/-- 'laws.FnExactSignatureOf', WHERE WHAT IT READS IS OF BULK AT MOST 1048576: true; the input reads as it did. -/
def fnExactSignatureOfUptoRow : OpenClaim := { program := "ytllkpapkkgfjaac", sum := "679edbb525f8d47f515473c332832eb86f42c03d72fb6e8fe55a60ac6b11200d", func := "loop.example/g00597/laws.FnExactSignatureOf", spec := "fnExactSignatureOf", unfollowed := true, recurses := true, apart := false, narrowed := true }
def FnExactSignatureOfUptoSaid : Prop := fnExactSignatureOfUptoRow.holds Try.pinned (OpenSpec.upto fnExactSignatureOfSpec)

/-- 'laws.FnExactMeetsRule', WHERE WHAT IT READS IS OF BULK AT MOST 1048576: true; the input reads as it did. -/
def fnExactMeetsRuleUptoRow : OpenClaim := { program := "ytllkpapkkgfjaac", sum := "679edbb525f8d47f515473c332832eb86f42c03d72fb6e8fe55a60ac6b11200d", func := "loop.example/g00597/laws.FnExactMeetsRule", spec := "fnExactMeetsRule", unfollowed := true, recurses := true, apart := false, narrowed := true }
def FnExactMeetsRuleUptoSaid : Prop := fnExactMeetsRuleUptoRow.holds Try.pinned (OpenSpec.upto fnExactMeetsRuleSpec)

/-- 'laws.FnExactMissingOwners', WHERE WHAT IT READS IS OF BULK AT MOST 1048576: true; the input reads as it did. -/
def fnExactMissingOwnersUptoRow : OpenClaim := { program := "ytllkpapkkgfjaac", sum := "679edbb525f8d47f515473c332832eb86f42c03d72fb6e8fe55a60ac6b11200d", func := "loop.example/g00597/laws.FnExactMissingOwners", spec := "fnExactMissingOwners", unfollowed := true, recurses := true, apart := false, narrowed := true }
def FnExactMissingOwnersUptoSaid : Prop := fnExactMissingOwnersUptoRow.holds Try.pinned (OpenSpec.upto fnExactMissingOwnersSpec)

/-- 'laws.FnExactNextOwner', WHERE WHAT IT READS IS OF BULK AT MOST 1048576: true; the input reads as it did. -/
def fnExactNextOwnerUptoRow : OpenClaim := { program := "ytllkpapkkgfjaac", sum := "679edbb525f8d47f515473c332832eb86f42c03d72fb6e8fe55a60ac6b11200d", func := "loop.example/g00597/laws.FnExactNextOwner", spec := "fnExactNextOwner", unfollowed := true, recurses := true, apart := false, narrowed := true }
def FnExactNextOwnerUptoSaid : Prop := fnExactNextOwnerUptoRow.holds Try.pinned (OpenSpec.upto fnExactNextOwnerSpec)

/-- 'laws.FnExactBeforeFor', WHERE WHAT IT READS IS OF BULK AT MOST 1048576: true; the input reads as it did. -/
def fnExactBeforeForUptoRow : OpenClaim := { program := "ytllkpapkkgfjaac", sum := "679edbb525f8d47f515473c332832eb86f42c03d72fb6e8fe55a60ac6b11200d", func := "loop.example/g00597/laws.FnExactBeforeFor", spec := "fnExactBeforeFor", unfollowed := true, recurses := true, apart := false, narrowed := true }
def FnExactBeforeForUptoSaid : Prop := fnExactBeforeForUptoRow.holds Try.pinned (OpenSpec.upto fnExactBeforeForSpec)

/-- 'laws.FnMethods', WHERE WHAT IT READS IS OF BULK AT MOST 1048576: true; the input reads as it did. -/
def fnMethodsUptoRow : OpenClaim := { program := "ytllkpapkkgfjaac", sum := "679edbb525f8d47f515473c332832eb86f42c03d72fb6e8fe55a60ac6b11200d", func := "loop.example/g00597/laws.FnMethods", spec := "fnMethods", unfollowed := true, recurses := true, apart := false, narrowed := true }
def FnMethodsUptoSaid : Prop := fnMethodsUptoRow.holds Try.pinned (OpenSpec.upto fnMethodsSpec)

end Rows
end Go.Proofs.Ytllkpapkkgfjaac
