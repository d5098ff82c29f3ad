/-
  No cell of these rows narrows 'for every input' (looked for: loops, veiled, ifaces, maps, wideKeys, modest, calm, conditions, laid).
  DERIVED. THE GIVEN ROWS OF THIS SEAT. 4 by the template 'for every input the law returns true; each argument reads behind the call as it read before'; 0 by the template 'total and deterministic' (their statements: YtkbdmocbeaejhabTotals.lean).
  GIVEN WITH THE SEED: the statements are not yours to turn. If you find one false, say at which input.
  Laid BY PROGRAM, IN A SANDBOX (cutbox-rows.mjs): the forced cells as the released guide's own fill.sh prints them over the translation 312a4e68e22bcd36… (all of the seat's roots in one cut). By AI agents, Wed Nov 11 2026. No macro, syntax, notation, axiom, sorry.
-/
import Derived.Test.YtkbdmocbeaejhabChecked
import GoSem.Claim
import GoSem.ClaimJoined
import GoSem.ClaimMapViews
import Derived.JoinedTies
import Derived.KernelRfl
namespace Go.Proofs.Ytkbdmocbeaejhab
/- THE CELL 'sum', in the pinned program and in every row, IS THE sha256 OF THE DUMP (.gsa) THAT YtkbdmocbeaejhabProg.lean LOADS. Nothing in Lean hashes anything: it is a label: what it is worth is what the hold of that sum in a sandbox is worth. -/
noncomputable def Try.pinned : Pinned := { name := "ytkbdmocbeaejhab", sum := "312a4e68e22bcd36787070710b3111793de4ee2a91ebd19bc70946c126762fe7", checked := Try.checked }
namespace Rows
def none {H : Type} : Left H := { results := [], args := [] }

/-- 'laws.FnExactIsSignRule': WHATEVER THE INPUT: true; the input reads as it did. -/
def fnExactIsSignRuleSpec : ChangeSpec := { name := "fnExactIsSignRule", fn := fun _ => fun
  | [d] => { results := [.lit (.bool true)], args := [d] }
  | _ => none }
def fnExactIsSignRuleRow : OpenClaim := { program := "ytkbdmocbeaejhab", sum := "312a4e68e22bcd36787070710b3111793de4ee2a91ebd19bc70946c126762fe7", func := "loop.example/g00597/laws.FnExactIsSignRule", spec := "fnExactIsSignRule", apart := false }
def FnExactIsSignRuleSaid : Prop := fnExactIsSignRuleRow.holds Try.pinned (OpenSpec.ofChange fnExactIsSignRuleSpec)

/-- ITS FALSE NEIGHBOUR: 'it returns false'. Refute it at one input. -/
def fnExactIsSignRuleWrong : ChangeSpec := { name := "fnExactIsSignRule", fn := fun _ => fun
  | [d] => { results := [.lit (.bool false)], args := [d] }
  | _ => none }
def FnExactIsSignRuleWrongFalsely : Prop := fnExactIsSignRuleRow.holds Try.pinned (OpenSpec.ofChange fnExactIsSignRuleWrong)

/-- 'laws.FnExactSignatureOf': WHATEVER THE INPUT: true; the input reads as it did. -/
def fnExactSignatureOfSpec : ChangeSpec := { name := "fnExactSignatureOf", fn := fun _ => fun
  | [d1, d2, d3, d4] => { results := [.lit (.bool true)], args := [d1, d2, d3, d4] }
  | _ => none }
def fnExactSignatureOfRow : OpenClaim := { program := "ytkbdmocbeaejhab", sum := "312a4e68e22bcd36787070710b3111793de4ee2a91ebd19bc70946c126762fe7", func := "loop.example/g00597/laws.FnExactSignatureOf", spec := "fnExactSignatureOf", unfollowed := true, recurses := true, apart := false }
def FnExactSignatureOfSaid : Prop := fnExactSignatureOfRow.holds Try.pinned (OpenSpec.ofChange fnExactSignatureOfSpec)

/-- ITS FALSE NEIGHBOUR: 'it returns false'. Refute it at one input. -/
def fnExactSignatureOfWrong : ChangeSpec := { name := "fnExactSignatureOf", fn := fun _ => fun
  | [d1, d2, d3, d4] => { results := [.lit (.bool false)], args := [d1, d2, d3, d4] }
  | _ => none }
def FnExactSignatureOfWrongFalsely : Prop := fnExactSignatureOfRow.holds Try.pinned (OpenSpec.ofChange fnExactSignatureOfWrong)

/-- 'laws.FnExactMissingOwners': WHATEVER THE INPUT: true; the input reads as it did. -/
def fnExactMissingOwnersSpec : ChangeSpec := { name := "fnExactMissingOwners", fn := fun _ => fun
  | [d1, d2, d3, d4] => { results := [.lit (.bool true)], args := [d1, d2, d3, d4] }
  | _ => none }
def fnExactMissingOwnersRow : OpenClaim := { program := "ytkbdmocbeaejhab", sum := "312a4e68e22bcd36787070710b3111793de4ee2a91ebd19bc70946c126762fe7", func := "loop.example/g00597/laws.FnExactMissingOwners", spec := "fnExactMissingOwners", unfollowed := true, recurses := true, apart := false }
def FnExactMissingOwnersSaid : Prop := fnExactMissingOwnersRow.holds Try.pinned (OpenSpec.ofChange fnExactMissingOwnersSpec)

/-- ITS FALSE NEIGHBOUR: 'it returns false'. Refute it at one input. -/
def fnExactMissingOwnersWrong : ChangeSpec := { name := "fnExactMissingOwners", fn := fun _ => fun
  | [d1, d2, d3, d4] => { results := [.lit (.bool false)], args := [d1, d2, d3, d4] }
  | _ => none }
def FnExactMissingOwnersWrongFalsely : Prop := fnExactMissingOwnersRow.holds Try.pinned (OpenSpec.ofChange fnExactMissingOwnersWrong)

/-- 'laws.FnExactNextOwner': WHATEVER THE INPUT: true; the input reads as it did. -/
def fnExactNextOwnerSpec : ChangeSpec := { name := "fnExactNextOwner", fn := fun _ => fun
  | [d1, d2, d3, d4] => { results := [.lit (.bool true)], args := [d1, d2, d3, d4] }
  | _ => none }
def fnExactNextOwnerRow : OpenClaim := { program := "ytkbdmocbeaejhab", sum := "312a4e68e22bcd36787070710b3111793de4ee2a91ebd19bc70946c126762fe7", func := "loop.example/g00597/laws.FnExactNextOwner", spec := "fnExactNextOwner", unfollowed := true, recurses := true, apart := false }
def FnExactNextOwnerSaid : Prop := fnExactNextOwnerRow.holds Try.pinned (OpenSpec.ofChange fnExactNextOwnerSpec)

/-- ITS FALSE NEIGHBOUR: 'it returns false'. Refute it at one input. -/
def fnExactNextOwnerWrong : ChangeSpec := { name := "fnExactNextOwner", fn := fun _ => fun
  | [d1, d2, d3, d4] => { results := [.lit (.bool false)], args := [d1, d2, d3, d4] }
  | _ => none }
def FnExactNextOwnerWrongFalsely : Prop := fnExactNextOwnerRow.holds Try.pinned (OpenSpec.ofChange fnExactNextOwnerWrong)

/- THE SECOND FORM. 'bulk': how many values and letters a reading holds, each counted each time it is reached (what is shared counts as often as it is met; a slice's spare places count too). A statement '..UptoSaid' is the law's where the arguments, and the package variables that the reading takes, are together of bulk at most 1048576: NARROWER than '..Said'. Prove '..Said' where nothing that the law and all that it calls make is longer than what came in: it says more and counts as full. Else prove '..UptoSaid'. A law counts once. -/
mutual
def uptoBulk {H : Type} : DataW H → Nat
  | .lit (.string bytes) => bytes.length + 1
  | .lit _ => 1
  | .nil => 1
  | .ptr d => uptoBulk d + 1
  | .slice elems spare => uptoBulkAll elems + uptoBulkAll spare + 1
  | .agg parts => uptoBulkAll parts + 1
  | .iface _ d => uptoBulk d + 1
  | .map entries => uptoBulkEntries entries + 1
  | .held _ => 1
def uptoBulkAll {H : Type} : List (DataW H) → Nat
  | [] => 0
  | d :: r => uptoBulk d + uptoBulkAll r
def uptoBulkEntries {H : Type} : List (Lit × DataW H) → Nat
  | [] => 0
  | x :: r => uptoBulkEntry x + uptoBulkEntries r
def uptoBulkEntry {H : Type} : Lit × DataW H → Nat
  | (.string bytes, d) => bytes.length + uptoBulk d + 1
  | (_, d) => uptoBulk d + 1
 end
def uptoSmall : (H : Type) → List (DataW H) → Bool := fun _ ds => decide (uptoBulkAll ds ≤ 1048576)
def OpenSpec.upto (s : _root_.Go.ChangeSpec) : _root_.Go.OpenSpec := { _root_.Go.OpenSpec.ofChange s with cond := some uptoSmall }

/-- 'laws.FnExactIsSignRule', WHERE WHAT IT READS IS OF BULK AT MOST 1048576: true; the input reads as it did. -/
def fnExactIsSignRuleUptoRow : OpenClaim := { program := "ytkbdmocbeaejhab", sum := "312a4e68e22bcd36787070710b3111793de4ee2a91ebd19bc70946c126762fe7", func := "loop.example/g00597/laws.FnExactIsSignRule", spec := "fnExactIsSignRule", apart := false, narrowed := true }
def FnExactIsSignRuleUptoSaid : Prop := fnExactIsSignRuleUptoRow.holds Try.pinned (OpenSpec.upto fnExactIsSignRuleSpec)

/-- 'laws.FnExactSignatureOf', WHERE WHAT IT READS IS OF BULK AT MOST 1048576: true; the input reads as it did. -/
def fnExactSignatureOfUptoRow : OpenClaim := { program := "ytkbdmocbeaejhab", sum := "312a4e68e22bcd36787070710b3111793de4ee2a91ebd19bc70946c126762fe7", func := "loop.example/g00597/laws.FnExactSignatureOf", spec := "fnExactSignatureOf", unfollowed := true, recurses := true, apart := false, narrowed := true }
def FnExactSignatureOfUptoSaid : Prop := fnExactSignatureOfUptoRow.holds Try.pinned (OpenSpec.upto fnExactSignatureOfSpec)

/-- 'laws.FnExactMissingOwners', WHERE WHAT IT READS IS OF BULK AT MOST 1048576: true; the input reads as it did. -/
def fnExactMissingOwnersUptoRow : OpenClaim := { program := "ytkbdmocbeaejhab", sum := "312a4e68e22bcd36787070710b3111793de4ee2a91ebd19bc70946c126762fe7", func := "loop.example/g00597/laws.FnExactMissingOwners", spec := "fnExactMissingOwners", unfollowed := true, recurses := true, apart := false, narrowed := true }
def FnExactMissingOwnersUptoSaid : Prop := fnExactMissingOwnersUptoRow.holds Try.pinned (OpenSpec.upto fnExactMissingOwnersSpec)

/-- 'laws.FnExactNextOwner', WHERE WHAT IT READS IS OF BULK AT MOST 1048576: true; the input reads as it did. -/
def fnExactNextOwnerUptoRow : OpenClaim := { program := "ytkbdmocbeaejhab", sum := "312a4e68e22bcd36787070710b3111793de4ee2a91ebd19bc70946c126762fe7", func := "loop.example/g00597/laws.FnExactNextOwner", spec := "fnExactNextOwner", unfollowed := true, recurses := true, apart := false, narrowed := true }
def FnExactNextOwnerUptoSaid : Prop := fnExactNextOwnerUptoRow.holds Try.pinned (OpenSpec.upto fnExactNextOwnerSpec)

end Rows
end Go.Proofs.Ytkbdmocbeaejhab
