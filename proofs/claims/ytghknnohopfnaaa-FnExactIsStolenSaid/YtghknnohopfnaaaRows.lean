/-
  No cell of these rows narrows 'for every input' (looked for: loops, veiled, ifaces, maps, wideKeys, modest, calm, conditions, laid).
  DERIVED. THE GIVEN ROWS OF THIS SEAT. 9 by the template 'for every input the law returns true; each argument reads behind the call as it read before'; 0 by the template 'total and deterministic' (their statements: YtghknnohopfnaaaTotals.lean).
  GIVEN WITH THE SEED: the statements are not yours to turn. If you find one false, say at which input.
  Laid BY PROGRAM, IN A SANDBOX (cutbox-rows.mjs): the forced cells as the released guide's own fill.sh prints them over the translation b633c5b1b7708e28… (all of the seat's roots in one cut). By AI agents, Wed Nov 11 2026. No macro, syntax, notation, axiom, sorry.
-/
import Derived.Test.YtghknnohopfnaaaChecked
import GoSem.Claim
import GoSem.ClaimJoined
import GoSem.ClaimMapViews
import Derived.JoinedTies
import Derived.KernelRfl
namespace Go.Proofs.Ytghknnohopfnaaa
/- THE CELL 'sum', in the pinned program and in every row, IS THE sha256 OF THE DUMP (.gsa) THAT YtghknnohopfnaaaProg.lean LOADS. Nothing in Lean hashes anything: it is a label: what it is worth is what the hold of that sum in a sandbox is worth. -/
noncomputable def Try.pinned : Pinned := { name := "ytghknnohopfnaaa", sum := "b633c5b1b7708e2844a9050a9702bbbd29f543b9e97a7ed0a0a075bf5a2b18a4", checked := Try.checked }
namespace Rows
def none {H : Type} : Left H := { results := [], args := [] }

/-- 'laws.FnExactTreeRoot': WHATEVER THE INPUT: true; the input reads as it did. -/
def fnExactTreeRootSpec : ChangeSpec := { name := "fnExactTreeRoot", fn := fun _ => fun
  | [d1, d2] => { results := [.lit (.bool true)], args := [d1, d2] }
  | _ => none }
def fnExactTreeRootRow : OpenClaim := { program := "ytghknnohopfnaaa", sum := "b633c5b1b7708e2844a9050a9702bbbd29f543b9e97a7ed0a0a075bf5a2b18a4", func := "loop.example/g00597/laws.FnExactTreeRoot", spec := "fnExactTreeRoot", unfollowed := true, recurses := true, apart := false }
def FnExactTreeRootSaid : Prop := fnExactTreeRootRow.holds Try.pinned (OpenSpec.ofChange fnExactTreeRootSpec)

/-- ITS FALSE NEIGHBOUR: 'it returns false'. Refute it at one input. -/
def fnExactTreeRootWrong : ChangeSpec := { name := "fnExactTreeRoot", fn := fun _ => fun
  | [d1, d2] => { results := [.lit (.bool false)], args := [d1, d2] }
  | _ => none }
def FnExactTreeRootWrongFalsely : Prop := fnExactTreeRootRow.holds Try.pinned (OpenSpec.ofChange fnExactTreeRootWrong)

/-- 'laws.FnExactTreePath': WHATEVER THE INPUT: true; the input reads as it did. -/
def fnExactTreePathSpec : ChangeSpec := { name := "fnExactTreePath", fn := fun _ => fun
  | [d1, d2, d3] => { results := [.lit (.bool true)], args := [d1, d2, d3] }
  | _ => none }
def fnExactTreePathRow : OpenClaim := { program := "ytghknnohopfnaaa", sum := "b633c5b1b7708e2844a9050a9702bbbd29f543b9e97a7ed0a0a075bf5a2b18a4", func := "loop.example/g00597/laws.FnExactTreePath", spec := "fnExactTreePath", unfollowed := true, recurses := true, apart := false }
def FnExactTreePathSaid : Prop := fnExactTreePathRow.holds Try.pinned (OpenSpec.ofChange fnExactTreePathSpec)

/-- ITS FALSE NEIGHBOUR: 'it returns false'. Refute it at one input. -/
def fnExactTreePathWrong : ChangeSpec := { name := "fnExactTreePath", fn := fun _ => fun
  | [d1, d2, d3] => { results := [.lit (.bool false)], args := [d1, d2, d3] }
  | _ => none }
def FnExactTreePathWrongFalsely : Prop := fnExactTreePathRow.holds Try.pinned (OpenSpec.ofChange fnExactTreePathWrong)

/-- 'laws.FnTrees': WHATEVER THE INPUT: true; the input reads as it did. -/
def fnTreesSpec : ChangeSpec := { name := "fnTrees", fn := fun _ => fun
  | [d] => { results := [.lit (.bool true)], args := [d] }
  | _ => none }
def fnTreesRow : OpenClaim := { program := "ytghknnohopfnaaa", sum := "b633c5b1b7708e2844a9050a9702bbbd29f543b9e97a7ed0a0a075bf5a2b18a4", func := "loop.example/g00597/laws.FnTrees", spec := "fnTrees", unfollowed := true, recurses := true, apart := false }
def FnTreesSaid : Prop := fnTreesRow.holds Try.pinned (OpenSpec.ofChange fnTreesSpec)

/-- ITS FALSE NEIGHBOUR: 'it returns false'. Refute it at one input. -/
def fnTreesWrong : ChangeSpec := { name := "fnTrees", fn := fun _ => fun
  | [d] => { results := [.lit (.bool false)], args := [d] }
  | _ => none }
def FnTreesWrongFalsely : Prop := fnTreesRow.holds Try.pinned (OpenSpec.ofChange fnTreesWrong)

/-- 'laws.FnExactIsStolen': WHATEVER THE INPUT: true; the input reads as it did. -/
def fnExactIsStolenSpec : ChangeSpec := { name := "fnExactIsStolen", fn := fun _ => fun
  | [d1, d2] => { results := [.lit (.bool true)], args := [d1, d2] }
  | _ => none }
def fnExactIsStolenRow : OpenClaim := { program := "ytghknnohopfnaaa", sum := "b633c5b1b7708e2844a9050a9702bbbd29f543b9e97a7ed0a0a075bf5a2b18a4", func := "loop.example/g00597/laws.FnExactIsStolen", spec := "fnExactIsStolen", unfollowed := true, recurses := true, apart := false }
def FnExactIsStolenSaid : Prop := fnExactIsStolenRow.holds Try.pinned (OpenSpec.ofChange fnExactIsStolenSpec)

/-- ITS FALSE NEIGHBOUR: 'it returns false'. Refute it at one input. -/
def fnExactIsStolenWrong : ChangeSpec := { name := "fnExactIsStolen", fn := fun _ => fun
  | [d1, d2] => { results := [.lit (.bool false)], args := [d1, d2] }
  | _ => none }
def FnExactIsStolenWrongFalsely : Prop := fnExactIsStolenRow.holds Try.pinned (OpenSpec.ofChange fnExactIsStolenWrong)

/-- 'laws.FnExactStrandSize': WHATEVER THE INPUT: true; the input reads as it did. -/
def fnExactStrandSizeSpec : ChangeSpec := { name := "fnExactStrandSize", fn := fun _ => fun
  | [d] => { results := [.lit (.bool true)], args := [d] }
  | _ => none }
def fnExactStrandSizeRow : OpenClaim := { program := "ytghknnohopfnaaa", sum := "b633c5b1b7708e2844a9050a9702bbbd29f543b9e97a7ed0a0a075bf5a2b18a4", func := "loop.example/g00597/laws.FnExactStrandSize", spec := "fnExactStrandSize", unfollowed := true, recurses := true, apart := false }
def FnExactStrandSizeSaid : Prop := fnExactStrandSizeRow.holds Try.pinned (OpenSpec.ofChange fnExactStrandSizeSpec)

/-- ITS FALSE NEIGHBOUR: 'it returns false'. Refute it at one input. -/
def fnExactStrandSizeWrong : ChangeSpec := { name := "fnExactStrandSize", fn := fun _ => fun
  | [d] => { results := [.lit (.bool false)], args := [d] }
  | _ => none }
def FnExactStrandSizeWrongFalsely : Prop := fnExactStrandSizeRow.holds Try.pinned (OpenSpec.ofChange fnExactStrandSizeWrong)

/-- 'laws.FnExactEqualStrands': WHATEVER THE INPUT: true; the input reads as it did. -/
def fnExactEqualStrandsSpec : ChangeSpec := { name := "fnExactEqualStrands", fn := fun _ => fun
  | [d1, d2] => { results := [.lit (.bool true)], args := [d1, d2] }
  | _ => none }
def fnExactEqualStrandsRow : OpenClaim := { program := "ytghknnohopfnaaa", sum := "b633c5b1b7708e2844a9050a9702bbbd29f543b9e97a7ed0a0a075bf5a2b18a4", func := "loop.example/g00597/laws.FnExactEqualStrands", spec := "fnExactEqualStrands", unfollowed := true, recurses := true, apart := false }
def FnExactEqualStrandsSaid : Prop := fnExactEqualStrandsRow.holds Try.pinned (OpenSpec.ofChange fnExactEqualStrandsSpec)

/-- ITS FALSE NEIGHBOUR: 'it returns false'. Refute it at one input. -/
def fnExactEqualStrandsWrong : ChangeSpec := { name := "fnExactEqualStrands", fn := fun _ => fun
  | [d1, d2] => { results := [.lit (.bool false)], args := [d1, d2] }
  | _ => none }
def FnExactEqualStrandsWrongFalsely : Prop := fnExactEqualStrandsRow.holds Try.pinned (OpenSpec.ofChange fnExactEqualStrandsWrong)

/-- 'laws.FnExactMandatesIn': WHATEVER THE INPUT: true; the input reads as it did. -/
def fnExactMandatesInSpec : ChangeSpec := { name := "fnExactMandatesIn", fn := fun _ => fun
  | [d] => { results := [.lit (.bool true)], args := [d] }
  | _ => none }
def fnExactMandatesInRow : OpenClaim := { program := "ytghknnohopfnaaa", sum := "b633c5b1b7708e2844a9050a9702bbbd29f543b9e97a7ed0a0a075bf5a2b18a4", func := "loop.example/g00597/laws.FnExactMandatesIn", spec := "fnExactMandatesIn", unfollowed := true, recurses := true, apart := false }
def FnExactMandatesInSaid : Prop := fnExactMandatesInRow.holds Try.pinned (OpenSpec.ofChange fnExactMandatesInSpec)

/-- ITS FALSE NEIGHBOUR: 'it returns false'. Refute it at one input. -/
def fnExactMandatesInWrong : ChangeSpec := { name := "fnExactMandatesIn", fn := fun _ => fun
  | [d] => { results := [.lit (.bool false)], args := [d] }
  | _ => none }
def FnExactMandatesInWrongFalsely : Prop := fnExactMandatesInRow.holds Try.pinned (OpenSpec.ofChange fnExactMandatesInWrong)

/-- 'laws.FnExactStatusesFor': WHATEVER THE INPUT: true; the input reads as it did. -/
def fnExactStatusesForSpec : ChangeSpec := { name := "fnExactStatusesFor", fn := fun _ => fun
  | [d1, d2] => { results := [.lit (.bool true)], args := [d1, d2] }
  | _ => none }
def fnExactStatusesForRow : OpenClaim := { program := "ytghknnohopfnaaa", sum := "b633c5b1b7708e2844a9050a9702bbbd29f543b9e97a7ed0a0a075bf5a2b18a4", func := "loop.example/g00597/laws.FnExactStatusesFor", spec := "fnExactStatusesFor", unfollowed := true, recurses := true, apart := false }
def FnExactStatusesForSaid : Prop := fnExactStatusesForRow.holds Try.pinned (OpenSpec.ofChange fnExactStatusesForSpec)

/-- ITS FALSE NEIGHBOUR: 'it returns false'. Refute it at one input. -/
def fnExactStatusesForWrong : ChangeSpec := { name := "fnExactStatusesFor", fn := fun _ => fun
  | [d1, d2] => { results := [.lit (.bool false)], args := [d1, d2] }
  | _ => none }
def FnExactStatusesForWrongFalsely : Prop := fnExactStatusesForRow.holds Try.pinned (OpenSpec.ofChange fnExactStatusesForWrong)

/-- 'laws.FnExactPlanAuthorities': WHATEVER THE INPUT: true; the input reads as it did. -/
def fnExactPlanAuthoritiesSpec : ChangeSpec := { name := "fnExactPlanAuthorities", fn := fun _ => fun
  | [d] => { results := [.lit (.bool true)], args := [d] }
  | _ => none }
def fnExactPlanAuthoritiesRow : OpenClaim := { program := "ytghknnohopfnaaa", sum := "b633c5b1b7708e2844a9050a9702bbbd29f543b9e97a7ed0a0a075bf5a2b18a4", func := "loop.example/g00597/laws.FnExactPlanAuthorities", spec := "fnExactPlanAuthorities", unfollowed := true, recurses := true, apart := false }
def FnExactPlanAuthoritiesSaid : Prop := fnExactPlanAuthoritiesRow.holds Try.pinned (OpenSpec.ofChange fnExactPlanAuthoritiesSpec)

/-- ITS FALSE NEIGHBOUR: 'it returns false'. Refute it at one input. -/
def fnExactPlanAuthoritiesWrong : ChangeSpec := { name := "fnExactPlanAuthorities", fn := fun _ => fun
  | [d] => { results := [.lit (.bool false)], args := [d] }
  | _ => none }
def FnExactPlanAuthoritiesWrongFalsely : Prop := fnExactPlanAuthoritiesRow.holds Try.pinned (OpenSpec.ofChange fnExactPlanAuthoritiesWrong)

/- THE SECOND FORM. 'bulk': how many values and letters a reading holds, each counted each time it is reached (what is shared counts as often as it is met; a slice's spare places count too). A statement '..UptoSaid' is the law's where the arguments, and the package variables that the reading takes, are together of bulk at most 1048576: NARROWER than '..Said'. Prove '..Said' where nothing that the law and all that it calls make is longer than what came in: it says more and counts as full. Else prove '..UptoSaid'. A law counts once. -/
mutual
def uptoBulk {H : Type} : DataW H → Nat
  | .lit (.string bytes) => bytes.length + 1
  | .lit _ => 1
  | .nil => 1
  | .ptr d => uptoBulk d + 1
  | .slice elems spare => uptoBulkAll elems + uptoBulkAll spare + 1
  | .agg parts => uptoBulkAll parts + 1
  | .iface _ d => uptoBulk d + 1
  | .map entries => uptoBulkEntries entries + 1
  | .held _ => 1
def uptoBulkAll {H : Type} : List (DataW H) → Nat
  | [] => 0
  | d :: r => uptoBulk d + uptoBulkAll r
def uptoBulkEntries {H : Type} : List (Lit × DataW H) → Nat
  | [] => 0
  | x :: r => uptoBulkEntry x + uptoBulkEntries r
def uptoBulkEntry {H : Type} : Lit × DataW H → Nat
  | (.string bytes, d) => bytes.length + uptoBulk d + 1
  | (_, d) => uptoBulk d + 1
 end
def uptoSmall : (H : Type) → List (DataW H) → Bool := fun _ ds => decide (uptoBulkAll ds ≤ 1048576)
def OpenSpec.upto (s : _root_.Go.ChangeSpec) : _root_.Go.OpenSpec := { _root_.Go.OpenSpec.ofChange s with cond := some uptoSmall }

/-- 'laws.FnExactTreeRoot', WHERE WHAT IT READS IS OF BULK AT MOST 1048576: true; the input reads as it did. -/
def fnExactTreeRootUptoRow : OpenClaim := { program := "ytghknnohopfnaaa", sum := "b633c5b1b7708e2844a9050a9702bbbd29f543b9e97a7ed0a0a075bf5a2b18a4", func := "loop.example/g00597/laws.FnExactTreeRoot", spec := "fnExactTreeRoot", unfollowed := true, recurses := true, apart := false, narrowed := true }
def FnExactTreeRootUptoSaid : Prop := fnExactTreeRootUptoRow.holds Try.pinned (OpenSpec.upto fnExactTreeRootSpec)

/-- 'laws.FnExactTreePath', WHERE WHAT IT READS IS OF BULK AT MOST 1048576: true; the input reads as it did. -/
def fnExactTreePathUptoRow : OpenClaim := { program := "ytghknnohopfnaaa", sum := "b633c5b1b7708e2844a9050a9702bbbd29f543b9e97a7ed0a0a075bf5a2b18a4", func := "loop.example/g00597/laws.FnExactTreePath", spec := "fnExactTreePath", unfollowed := true, recurses := true, apart := false, narrowed := true }
def FnExactTreePathUptoSaid : Prop := fnExactTreePathUptoRow.holds Try.pinned (OpenSpec.upto fnExactTreePathSpec)

/-- 'laws.FnTrees', WHERE WHAT IT READS IS OF BULK AT MOST 1048576: true; the input reads as it did. -/
def fnTreesUptoRow : OpenClaim := { program := "ytghknnohopfnaaa", sum := "b633c5b1b7708e2844a9050a9702bbbd29f543b9e97a7ed0a0a075bf5a2b18a4", func := "loop.example/g00597/laws.FnTrees", spec := "fnTrees", unfollowed := true, recurses := true, apart := false, narrowed := true }
def FnTreesUptoSaid : Prop := fnTreesUptoRow.holds Try.pinned (OpenSpec.upto fnTreesSpec)

/-- 'laws.FnExactIsStolen', WHERE WHAT IT READS IS OF BULK AT MOST 1048576: true; the input reads as it did. -/
def fnExactIsStolenUptoRow : OpenClaim := { program := "ytghknnohopfnaaa", sum := "b633c5b1b7708e2844a9050a9702bbbd29f543b9e97a7ed0a0a075bf5a2b18a4", func := "loop.example/g00597/laws.FnExactIsStolen", spec := "fnExactIsStolen", unfollowed := true, recurses := true, apart := false, narrowed := true }
def FnExactIsStolenUptoSaid : Prop := fnExactIsStolenUptoRow.holds Try.pinned (OpenSpec.upto fnExactIsStolenSpec)

/-- 'laws.FnExactStrandSize', WHERE WHAT IT READS IS OF BULK AT MOST 1048576: true; the input reads as it did. -/
def fnExactStrandSizeUptoRow : OpenClaim := { program := "ytghknnohopfnaaa", sum := "b633c5b1b7708e2844a9050a9702bbbd29f543b9e97a7ed0a0a075bf5a2b18a4", func := "loop.example/g00597/laws.FnExactStrandSize", spec := "fnExactStrandSize", unfollowed := true, recurses := true, apart := false, narrowed := true }
def FnExactStrandSizeUptoSaid : Prop := fnExactStrandSizeUptoRow.holds Try.pinned (OpenSpec.upto fnExactStrandSizeSpec)

/-- 'laws.FnExactEqualStrands', WHERE WHAT IT READS IS OF BULK AT MOST 1048576: true; the input reads as it did. -/
def fnExactEqualStrandsUptoRow : OpenClaim := { program := "ytghknnohopfnaaa", sum := "b633c5b1b7708e2844a9050a9702bbbd29f543b9e97a7ed0a0a075bf5a2b18a4", func := "loop.example/g00597/laws.FnExactEqualStrands", spec := "fnExactEqualStrands", unfollowed := true, recurses := true, apart := false, narrowed := true }
def FnExactEqualStrandsUptoSaid : Prop := fnExactEqualStrandsUptoRow.holds Try.pinned (OpenSpec.upto fnExactEqualStrandsSpec)

/-- 'laws.FnExactMandatesIn', WHERE WHAT IT READS IS OF BULK AT MOST 1048576: true; the input reads as it did. -/
def fnExactMandatesInUptoRow : OpenClaim := { program := "ytghknnohopfnaaa", sum := "b633c5b1b7708e2844a9050a9702bbbd29f543b9e97a7ed0a0a075bf5a2b18a4", func := "loop.example/g00597/laws.FnExactMandatesIn", spec := "fnExactMandatesIn", unfollowed := true, recurses := true, apart := false, narrowed := true }
def FnExactMandatesInUptoSaid : Prop := fnExactMandatesInUptoRow.holds Try.pinned (OpenSpec.upto fnExactMandatesInSpec)

/-- 'laws.FnExactStatusesFor', WHERE WHAT IT READS IS OF BULK AT MOST 1048576: true; the input reads as it did. -/
def fnExactStatusesForUptoRow : OpenClaim := { program := "ytghknnohopfnaaa", sum := "b633c5b1b7708e2844a9050a9702bbbd29f543b9e97a7ed0a0a075bf5a2b18a4", func := "loop.example/g00597/laws.FnExactStatusesFor", spec := "fnExactStatusesFor", unfollowed := true, recurses := true, apart := false, narrowed := true }
def FnExactStatusesForUptoSaid : Prop := fnExactStatusesForUptoRow.holds Try.pinned (OpenSpec.upto fnExactStatusesForSpec)

/-- 'laws.FnExactPlanAuthorities', WHERE WHAT IT READS IS OF BULK AT MOST 1048576: true; the input reads as it did. -/
def fnExactPlanAuthoritiesUptoRow : OpenClaim := { program := "ytghknnohopfnaaa", sum := "b633c5b1b7708e2844a9050a9702bbbd29f543b9e97a7ed0a0a075bf5a2b18a4", func := "loop.example/g00597/laws.FnExactPlanAuthorities", spec := "fnExactPlanAuthorities", unfollowed := true, recurses := true, apart := false, narrowed := true }
def FnExactPlanAuthoritiesUptoSaid : Prop := fnExactPlanAuthoritiesUptoRow.holds Try.pinned (OpenSpec.upto fnExactPlanAuthoritiesSpec)

end Rows
end Go.Proofs.Ytghknnohopfnaaa
