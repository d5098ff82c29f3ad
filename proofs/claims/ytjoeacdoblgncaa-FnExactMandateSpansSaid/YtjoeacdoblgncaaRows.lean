/-
  No cell of these rows narrows 'for every input' (looked for: loops, veiled, ifaces, maps, wideKeys, modest, calm, conditions, laid).
  DERIVED. THE GIVEN ROWS OF THIS SEAT. 6 by the template 'for every input the law returns true; each argument reads behind the call as it read before'; 0 by the template 'total and deterministic' (their statements: YtjoeacdoblgncaaTotals.lean).
  GIVEN WITH THE SEED: the statements are not yours to turn. If you find one false, say at which input.
  Laid BY PROGRAM, IN A SANDBOX (cutbox-rows.mjs): the forced cells as the released guide's own fill.sh prints them over the translation ec935d379e01b53b… (all of the seat's roots in one cut). By AI agents, Wed Nov 11 2026. No macro, syntax, notation, axiom, sorry.
-/
import Derived.Test.YtjoeacdoblgncaaChecked
import GoSem.Claim
import GoSem.ClaimJoined
import GoSem.ClaimMapViews
import Derived.JoinedTies
import Derived.KernelRfl
namespace Go.Proofs.Ytjoeacdoblgncaa
/- THE CELL 'sum', in the pinned program and in every row, IS THE sha256 OF THE DUMP (.gsa) THAT YtjoeacdoblgncaaProg.lean LOADS. Nothing in Lean hashes anything: it is a label: what it is worth is what the hold of that sum in a sandbox is worth. -/
noncomputable def Try.pinned : Pinned := { name := "ytjoeacdoblgncaa", sum := "ec935d379e01b53bfaf5ac699bb7f85c66145cf0ab81fdf69fe0f4f2ce78aca8", checked := Try.checked }
namespace Rows
def none {H : Type} : Left H := { results := [], args := [] }

/-- 'laws.FnExactMeetsRule': WHATEVER THE INPUT: true; the input reads as it did. -/
def fnExactMeetsRuleSpec : ChangeSpec := { name := "fnExactMeetsRule", fn := fun _ => fun
  | [d1, d2, d3, d4] => { results := [.lit (.bool true)], args := [d1, d2, d3, d4] }
  | _ => none }
def fnExactMeetsRuleRow : OpenClaim := { program := "ytjoeacdoblgncaa", sum := "ec935d379e01b53bfaf5ac699bb7f85c66145cf0ab81fdf69fe0f4f2ce78aca8", func := "loop.example/g00597/laws.FnExactMeetsRule", spec := "fnExactMeetsRule", unfollowed := true, recurses := true, apart := false }
def FnExactMeetsRuleSaid : Prop := fnExactMeetsRuleRow.holds Try.pinned (OpenSpec.ofChange fnExactMeetsRuleSpec)

/-- ITS FALSE NEIGHBOUR: 'it returns false'. Refute it at one input. -/
def fnExactMeetsRuleWrong : ChangeSpec := { name := "fnExactMeetsRule", fn := fun _ => fun
  | [d1, d2, d3, d4] => { results := [.lit (.bool false)], args := [d1, d2, d3, d4] }
  | _ => none }
def FnExactMeetsRuleWrongFalsely : Prop := fnExactMeetsRuleRow.holds Try.pinned (OpenSpec.ofChange fnExactMeetsRuleWrong)

/-- 'laws.FnExactMissingOwners': WHATEVER THE INPUT: true; the input reads as it did. -/
def fnExactMissingOwnersSpec : ChangeSpec := { name := "fnExactMissingOwners", fn := fun _ => fun
  | [d1, d2, d3, d4] => { results := [.lit (.bool true)], args := [d1, d2, d3, d4] }
  | _ => none }
def fnExactMissingOwnersRow : OpenClaim := { program := "ytjoeacdoblgncaa", sum := "ec935d379e01b53bfaf5ac699bb7f85c66145cf0ab81fdf69fe0f4f2ce78aca8", func := "loop.example/g00597/laws.FnExactMissingOwners", spec := "fnExactMissingOwners", unfollowed := true, recurses := true, apart := false }
def FnExactMissingOwnersSaid : Prop := fnExactMissingOwnersRow.holds Try.pinned (OpenSpec.ofChange fnExactMissingOwnersSpec)

/-- ITS FALSE NEIGHBOUR: 'it returns false'. Refute it at one input. -/
def fnExactMissingOwnersWrong : ChangeSpec := { name := "fnExactMissingOwners", fn := fun _ => fun
  | [d1, d2, d3, d4] => { results := [.lit (.bool false)], args := [d1, d2, d3, d4] }
  | _ => none }
def FnExactMissingOwnersWrongFalsely : Prop := fnExactMissingOwnersRow.holds Try.pinned (OpenSpec.ofChange fnExactMissingOwnersWrong)

/-- 'laws.FnExactNextOwner': WHATEVER THE INPUT: true; the input reads as it did. -/
def fnExactNextOwnerSpec : ChangeSpec := { name := "fnExactNextOwner", fn := fun _ => fun
  | [d1, d2, d3, d4] => { results := [.lit (.bool true)], args := [d1, d2, d3, d4] }
  | _ => none }
def fnExactNextOwnerRow : OpenClaim := { program := "ytjoeacdoblgncaa", sum := "ec935d379e01b53bfaf5ac699bb7f85c66145cf0ab81fdf69fe0f4f2ce78aca8", func := "loop.example/g00597/laws.FnExactNextOwner", spec := "fnExactNextOwner", unfollowed := true, recurses := true, apart := false }
def FnExactNextOwnerSaid : Prop := fnExactNextOwnerRow.holds Try.pinned (OpenSpec.ofChange fnExactNextOwnerSpec)

/-- ITS FALSE NEIGHBOUR: 'it returns false'. Refute it at one input. -/
def fnExactNextOwnerWrong : ChangeSpec := { name := "fnExactNextOwner", fn := fun _ => fun
  | [d1, d2, d3, d4] => { results := [.lit (.bool false)], args := [d1, d2, d3, d4] }
  | _ => none }
def FnExactNextOwnerWrongFalsely : Prop := fnExactNextOwnerRow.holds Try.pinned (OpenSpec.ofChange fnExactNextOwnerWrong)

/-- 'laws.FnExactBeforeFor': WHATEVER THE INPUT: true; the input reads as it did. -/
def fnExactBeforeForSpec : ChangeSpec := { name := "fnExactBeforeFor", fn := fun _ => fun
  | [d1, d2, d3, d4, d5] => { results := [.lit (.bool true)], args := [d1, d2, d3, d4, d5] }
  | _ => none }
def fnExactBeforeForRow : OpenClaim := { program := "ytjoeacdoblgncaa", sum := "ec935d379e01b53bfaf5ac699bb7f85c66145cf0ab81fdf69fe0f4f2ce78aca8", func := "loop.example/g00597/laws.FnExactBeforeFor", spec := "fnExactBeforeFor", unfollowed := true, recurses := true, apart := false }
def FnExactBeforeForSaid : Prop := fnExactBeforeForRow.holds Try.pinned (OpenSpec.ofChange fnExactBeforeForSpec)

/-- ITS FALSE NEIGHBOUR: 'it returns false'. Refute it at one input. -/
def fnExactBeforeForWrong : ChangeSpec := { name := "fnExactBeforeFor", fn := fun _ => fun
  | [d1, d2, d3, d4, d5] => { results := [.lit (.bool false)], args := [d1, d2, d3, d4, d5] }
  | _ => none }
def FnExactBeforeForWrongFalsely : Prop := fnExactBeforeForRow.holds Try.pinned (OpenSpec.ofChange fnExactBeforeForWrong)

/-- 'laws.FnExactMandateSpans': WHATEVER THE INPUT: true; the input reads as it did. -/
def fnExactMandateSpansSpec : ChangeSpec := { name := "fnExactMandateSpans", fn := fun _ => fun
  | [d1, d2, d3, d4] => { results := [.lit (.bool true)], args := [d1, d2, d3, d4] }
  | _ => none }
def fnExactMandateSpansRow : OpenClaim := { program := "ytjoeacdoblgncaa", sum := "ec935d379e01b53bfaf5ac699bb7f85c66145cf0ab81fdf69fe0f4f2ce78aca8", func := "loop.example/g00597/laws.FnExactMandateSpans", spec := "fnExactMandateSpans", unfollowed := true, recurses := true, apart := false }
def FnExactMandateSpansSaid : Prop := fnExactMandateSpansRow.holds Try.pinned (OpenSpec.ofChange fnExactMandateSpansSpec)

/-- ITS FALSE NEIGHBOUR: 'it returns false'. Refute it at one input. -/
def fnExactMandateSpansWrong : ChangeSpec := { name := "fnExactMandateSpans", fn := fun _ => fun
  | [d1, d2, d3, d4] => { results := [.lit (.bool false)], args := [d1, d2, d3, d4] }
  | _ => none }
def FnExactMandateSpansWrongFalsely : Prop := fnExactMandateSpansRow.holds Try.pinned (OpenSpec.ofChange fnExactMandateSpansWrong)

/-- 'laws.FnExactMaySignFor': WHATEVER THE INPUT: true; the input reads as it did. -/
def fnExactMaySignForSpec : ChangeSpec := { name := "fnExactMaySignFor", fn := fun _ => fun
  | [d1, d2, d3, d4, d5] => { results := [.lit (.bool true)], args := [d1, d2, d3, d4, d5] }
  | _ => none }
def fnExactMaySignForRow : OpenClaim := { program := "ytjoeacdoblgncaa", sum := "ec935d379e01b53bfaf5ac699bb7f85c66145cf0ab81fdf69fe0f4f2ce78aca8", func := "loop.example/g00597/laws.FnExactMaySignFor", spec := "fnExactMaySignFor", unfollowed := true, recurses := true, apart := false }
def FnExactMaySignForSaid : Prop := fnExactMaySignForRow.holds Try.pinned (OpenSpec.ofChange fnExactMaySignForSpec)

/-- ITS FALSE NEIGHBOUR: 'it returns false'. Refute it at one input. -/
def fnExactMaySignForWrong : ChangeSpec := { name := "fnExactMaySignFor", fn := fun _ => fun
  | [d1, d2, d3, d4, d5] => { results := [.lit (.bool false)], args := [d1, d2, d3, d4, d5] }
  | _ => none }
def FnExactMaySignForWrongFalsely : Prop := fnExactMaySignForRow.holds Try.pinned (OpenSpec.ofChange fnExactMaySignForWrong)

/- THE SECOND FORM. 'bulk': how many values and letters a reading holds, each counted each time it is reached (what is shared counts as often as it is met; a slice's spare places count too). A statement '..UptoSaid' is the law's where the arguments, and the package variables that the reading takes, are together of bulk at most 1048576: NARROWER than '..Said'. Prove '..Said' where nothing that the law and all that it calls make is longer than what came in: it says more and counts as full. Else prove '..UptoSaid'. A law counts once. -/
mutual
def uptoBulk {H : Type} : DataW H → Nat
  | .lit (.string bytes) => bytes.length + 1
  | .lit _ => 1
  | .nil => 1
  | .ptr d => uptoBulk d + 1
  | .slice elems spare => uptoBulkAll elems + uptoBulkAll spare + 1
  | .agg parts => uptoBulkAll parts + 1
  | .iface _ d => uptoBulk d + 1
  | .map entries => uptoBulkEntries entries + 1
  | .held _ => 1
def uptoBulkAll {H : Type} : List (DataW H) → Nat
  | [] => 0
  | d :: r => uptoBulk d + uptoBulkAll r
def uptoBulkEntries {H : Type} : List (Lit × DataW H) → Nat
  | [] => 0
  | x :: r => uptoBulkEntry x + uptoBulkEntries r
def uptoBulkEntry {H : Type} : Lit × DataW H → Nat
  | (.string bytes, d) => bytes.length + uptoBulk d + 1
  | (_, d) => uptoBulk d + 1
 end
def uptoSmall : (H : Type) → List (DataW H) → Bool := fun _ ds => decide (uptoBulkAll ds ≤ 1048576)
def OpenSpec.upto (s : _root_.Go.ChangeSpec) : _root_.Go.OpenSpec := { _root_.Go.OpenSpec.ofChange s with cond := some uptoSmall }

/-- 'laws.FnExactMeetsRule', WHERE WHAT IT READS IS OF BULK AT MOST 1048576: true; the input reads as it did. -/
def fnExactMeetsRuleUptoRow : OpenClaim := { program := "ytjoeacdoblgncaa", sum := "ec935d379e01b53bfaf5ac699bb7f85c66145cf0ab81fdf69fe0f4f2ce78aca8", func := "loop.example/g00597/laws.FnExactMeetsRule", spec := "fnExactMeetsRule", unfollowed := true, recurses := true, apart := false, narrowed := true }
def FnExactMeetsRuleUptoSaid : Prop := fnExactMeetsRuleUptoRow.holds Try.pinned (OpenSpec.upto fnExactMeetsRuleSpec)

/-- 'laws.FnExactMissingOwners', WHERE WHAT IT READS IS OF BULK AT MOST 1048576: true; the input reads as it did. -/
def fnExactMissingOwnersUptoRow : OpenClaim := { program := "ytjoeacdoblgncaa", sum := "ec935d379e01b53bfaf5ac699bb7f85c66145cf0ab81fdf69fe0f4f2ce78aca8", func := "loop.example/g00597/laws.FnExactMissingOwners", spec := "fnExactMissingOwners", unfollowed := true, recurses := true, apart := false, narrowed := true }
def FnExactMissingOwnersUptoSaid : Prop := fnExactMissingOwnersUptoRow.holds Try.pinned (OpenSpec.upto fnExactMissingOwnersSpec)

/-- 'laws.FnExactNextOwner', WHERE WHAT IT READS IS OF BULK AT MOST 1048576: true; the input reads as it did. -/
def fnExactNextOwnerUptoRow : OpenClaim := { program := "ytjoeacdoblgncaa", sum := "ec935d379e01b53bfaf5ac699bb7f85c66145cf0ab81fdf69fe0f4f2ce78aca8", func := "loop.example/g00597/laws.FnExactNextOwner", spec := "fnExactNextOwner", unfollowed := true, recurses := true, apart := false, narrowed := true }
def FnExactNextOwnerUptoSaid : Prop := fnExactNextOwnerUptoRow.holds Try.pinned (OpenSpec.upto fnExactNextOwnerSpec)

/-- 'laws.FnExactBeforeFor', WHERE WHAT IT READS IS OF BULK AT MOST 1048576: true; the input reads as it did. -/
def fnExactBeforeForUptoRow : OpenClaim := { program := "ytjoeacdoblgncaa", sum := "ec935d379e01b53bfaf5ac699bb7f85c66145cf0ab81fdf69fe0f4f2ce78aca8", func := "loop.example/g00597/laws.FnExactBeforeFor", spec := "fnExactBeforeFor", unfollowed := true, recurses := true, apart := false, narrowed := true }
def FnExactBeforeForUptoSaid : Prop := fnExactBeforeForUptoRow.holds Try.pinned (OpenSpec.upto fnExactBeforeForSpec)

/-- 'laws.FnExactMandateSpans', WHERE WHAT IT READS IS OF BULK AT MOST 1048576: true; the input reads as it did. -/
def fnExactMandateSpansUptoRow : OpenClaim := { program := "ytjoeacdoblgncaa", sum := "ec935d379e01b53bfaf5ac699bb7f85c66145cf0ab81fdf69fe0f4f2ce78aca8", func := "loop.example/g00597/laws.FnExactMandateSpans", spec := "fnExactMandateSpans", unfollowed := true, recurses := true, apart := false, narrowed := true }
def FnExactMandateSpansUptoSaid : Prop := fnExactMandateSpansUptoRow.holds Try.pinned (OpenSpec.upto fnExactMandateSpansSpec)

/-- 'laws.FnExactMaySignFor', WHERE WHAT IT READS IS OF BULK AT MOST 1048576: true; the input reads as it did. -/
def fnExactMaySignForUptoRow : OpenClaim := { program := "ytjoeacdoblgncaa", sum := "ec935d379e01b53bfaf5ac699bb7f85c66145cf0ab81fdf69fe0f4f2ce78aca8", func := "loop.example/g00597/laws.FnExactMaySignFor", spec := "fnExactMaySignFor", unfollowed := true, recurses := true, apart := false, narrowed := true }
def FnExactMaySignForUptoSaid : Prop := fnExactMaySignForUptoRow.holds Try.pinned (OpenSpec.upto fnExactMaySignForSpec)

end Rows
end Go.Proofs.Ytjoeacdoblgncaa
