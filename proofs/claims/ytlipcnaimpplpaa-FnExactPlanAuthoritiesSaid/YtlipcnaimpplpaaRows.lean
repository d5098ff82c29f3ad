/-
  No cell of these rows narrows 'for every input' (looked for: loops, veiled, ifaces, maps, wideKeys, modest, calm, conditions, laid).
  DERIVED. THE GIVEN ROWS OF THIS SEAT. 3 by the template 'for every input the law returns true; each argument reads behind the call as it read before'; 0 by the template 'total and deterministic' (their statements: YtlipcnaimpplpaaTotals.lean).
  GIVEN WITH THE SEED: the statements are not yours to turn. If you find one false, say at which input.
  Laid BY PROGRAM, IN A SANDBOX (cutbox-rows.mjs): the forced cells as the released guide's own fill.sh prints them over the translation d452a6d3efe0c949… (all of the seat's roots in one cut). By AI agents, Wed Nov 11 2026. No macro, syntax, notation, axiom, sorry.
-/
import Derived.Test.YtlipcnaimpplpaaChecked
import GoSem.Claim
import GoSem.ClaimJoined
import GoSem.ClaimMapViews
import Derived.JoinedTies
import Derived.KernelRfl
namespace Go.Proofs.Ytlipcnaimpplpaa
/- THE CELL 'sum', in the pinned program and in every row, IS THE sha256 OF THE DUMP (.gsa) THAT YtlipcnaimpplpaaProg.lean LOADS. Nothing in Lean hashes anything: it is a label: what it is worth is what the hold of that sum in a sandbox is worth. -/
noncomputable def Try.pinned : Pinned := { name := "ytlipcnaimpplpaa", sum := "d452a6d3efe0c949641ad0625e46e21acf35ef8e34060731815d1e37e8499225", checked := Try.checked }
namespace Rows
def none {H : Type} : Left H := { results := [], args := [] }

/-- 'laws.FnExactPlanAuthorities': WHATEVER THE INPUT: true; the input reads as it did. -/
def fnExactPlanAuthoritiesSpec : ChangeSpec := { name := "fnExactPlanAuthorities", fn := fun _ => fun
  | [d] => { results := [.lit (.bool true)], args := [d] }
  | _ => none }
def fnExactPlanAuthoritiesRow : OpenClaim := { program := "ytlipcnaimpplpaa", sum := "d452a6d3efe0c949641ad0625e46e21acf35ef8e34060731815d1e37e8499225", func := "loop.example/g00597/laws.FnExactPlanAuthorities", spec := "fnExactPlanAuthorities", unfollowed := true, recurses := true, apart := false }
def FnExactPlanAuthoritiesSaid : Prop := fnExactPlanAuthoritiesRow.holds Try.pinned (OpenSpec.ofChange fnExactPlanAuthoritiesSpec)

/-- ITS FALSE NEIGHBOUR: 'it returns false'. Refute it at one input. -/
def fnExactPlanAuthoritiesWrong : ChangeSpec := { name := "fnExactPlanAuthorities", fn := fun _ => fun
  | [d] => { results := [.lit (.bool false)], args := [d] }
  | _ => none }
def FnExactPlanAuthoritiesWrongFalsely : Prop := fnExactPlanAuthoritiesRow.holds Try.pinned (OpenSpec.ofChange fnExactPlanAuthoritiesWrong)

/-- 'laws.FnExactKeyLine': WHATEVER THE INPUT: true; the input reads as it did. -/
def fnExactKeyLineSpec : ChangeSpec := { name := "fnExactKeyLine", fn := fun _ => fun
  | [d1, d2, d3, d4] => { results := [.lit (.bool true)], args := [d1, d2, d3, d4] }
  | _ => none }
def fnExactKeyLineRow : OpenClaim := { program := "ytlipcnaimpplpaa", sum := "d452a6d3efe0c949641ad0625e46e21acf35ef8e34060731815d1e37e8499225", func := "loop.example/g00597/laws.FnExactKeyLine", spec := "fnExactKeyLine", unfollowed := true, recurses := true, apart := false }
def FnExactKeyLineSaid : Prop := fnExactKeyLineRow.holds Try.pinned (OpenSpec.ofChange fnExactKeyLineSpec)

/-- ITS FALSE NEIGHBOUR: 'it returns false'. Refute it at one input. -/
def fnExactKeyLineWrong : ChangeSpec := { name := "fnExactKeyLine", fn := fun _ => fun
  | [d1, d2, d3, d4] => { results := [.lit (.bool false)], args := [d1, d2, d3, d4] }
  | _ => none }
def FnExactKeyLineWrongFalsely : Prop := fnExactKeyLineRow.holds Try.pinned (OpenSpec.ofChange fnExactKeyLineWrong)

/-- 'laws.FnExactCurrentKey': WHATEVER THE INPUT: true; the input reads as it did. -/
def fnExactCurrentKeySpec : ChangeSpec := { name := "fnExactCurrentKey", fn := fun _ => fun
  | [d1, d2, d3, d4] => { results := [.lit (.bool true)], args := [d1, d2, d3, d4] }
  | _ => none }
def fnExactCurrentKeyRow : OpenClaim := { program := "ytlipcnaimpplpaa", sum := "d452a6d3efe0c949641ad0625e46e21acf35ef8e34060731815d1e37e8499225", func := "loop.example/g00597/laws.FnExactCurrentKey", spec := "fnExactCurrentKey", unfollowed := true, recurses := true, apart := false }
def FnExactCurrentKeySaid : Prop := fnExactCurrentKeyRow.holds Try.pinned (OpenSpec.ofChange fnExactCurrentKeySpec)

/-- ITS FALSE NEIGHBOUR: 'it returns false'. Refute it at one input. -/
def fnExactCurrentKeyWrong : ChangeSpec := { name := "fnExactCurrentKey", fn := fun _ => fun
  | [d1, d2, d3, d4] => { results := [.lit (.bool false)], args := [d1, d2, d3, d4] }
  | _ => none }
def FnExactCurrentKeyWrongFalsely : Prop := fnExactCurrentKeyRow.holds Try.pinned (OpenSpec.ofChange fnExactCurrentKeyWrong)

/- THE SECOND FORM. 'bulk': how many values and letters a reading holds, each counted each time it is reached (what is shared counts as often as it is met; a slice's spare places count too). A statement '..UptoSaid' is the law's where the arguments, and the package variables that the reading takes, are together of bulk at most 1048576: NARROWER than '..Said'. Prove '..Said' where nothing that the law and all that it calls make is longer than what came in: it says more and counts as full. Else prove '..UptoSaid'. A law counts once. -/
mutual
def uptoBulk {H : Type} : DataW H → Nat
  | .lit (.string bytes) => bytes.length + 1
  | .lit _ => 1
  | .nil => 1
  | .ptr d => uptoBulk d + 1
  | .slice elems spare => uptoBulkAll elems + uptoBulkAll spare + 1
  | .agg parts => uptoBulkAll parts + 1
  | .iface _ d => uptoBulk d + 1
  | .map entries => uptoBulkEntries entries + 1
  | .held _ => 1
def uptoBulkAll {H : Type} : List (DataW H) → Nat
  | [] => 0
  | d :: r => uptoBulk d + uptoBulkAll r
def uptoBulkEntries {H : Type} : List (Lit × DataW H) → Nat
  | [] => 0
  | x :: r => uptoBulkEntry x + uptoBulkEntries r
def uptoBulkEntry {H : Type} : Lit × DataW H → Nat
  | (.string bytes, d) => bytes.length + uptoBulk d + 1
  | (_, d) => uptoBulk d + 1
 end
def uptoSmall : (H : Type) → List (DataW H) → Bool := fun _ ds => decide (uptoBulkAll ds ≤ 1048576)
def OpenSpec.upto (s : _root_.Go.ChangeSpec) : _root_.Go.OpenSpec := { _root_.Go.OpenSpec.ofChange s with cond := some uptoSmall }

/-- 'laws.FnExactPlanAuthorities', WHERE WHAT IT READS IS OF BULK AT MOST 1048576: true; the input reads as it did. -/
def fnExactPlanAuthoritiesUptoRow : OpenClaim := { program := "ytlipcnaimpplpaa", sum := "d452a6d3efe0c949641ad0625e46e21acf35ef8e34060731815d1e37e8499225", func := "loop.example/g00597/laws.FnExactPlanAuthorities", spec := "fnExactPlanAuthorities", unfollowed := true, recurses := true, apart := false, narrowed := true }
def FnExactPlanAuthoritiesUptoSaid : Prop := fnExactPlanAuthoritiesUptoRow.holds Try.pinned (OpenSpec.upto fnExactPlanAuthoritiesSpec)

/-- 'laws.FnExactKeyLine', WHERE WHAT IT READS IS OF BULK AT MOST 1048576: true; the input reads as it did. -/
def fnExactKeyLineUptoRow : OpenClaim := { program := "ytlipcnaimpplpaa", sum := "d452a6d3efe0c949641ad0625e46e21acf35ef8e34060731815d1e37e8499225", func := "loop.example/g00597/laws.FnExactKeyLine", spec := "fnExactKeyLine", unfollowed := true, recurses := true, apart := false, narrowed := true }
def FnExactKeyLineUptoSaid : Prop := fnExactKeyLineUptoRow.holds Try.pinned (OpenSpec.upto fnExactKeyLineSpec)

/-- 'laws.FnExactCurrentKey', WHERE WHAT IT READS IS OF BULK AT MOST 1048576: true; the input reads as it did. -/
def fnExactCurrentKeyUptoRow : OpenClaim := { program := "ytlipcnaimpplpaa", sum := "d452a6d3efe0c949641ad0625e46e21acf35ef8e34060731815d1e37e8499225", func := "loop.example/g00597/laws.FnExactCurrentKey", spec := "fnExactCurrentKey", unfollowed := true, recurses := true, apart := false, narrowed := true }
def FnExactCurrentKeyUptoSaid : Prop := fnExactCurrentKeyUptoRow.holds Try.pinned (OpenSpec.upto fnExactCurrentKeySpec)

end Rows
end Go.Proofs.Ytlipcnaimpplpaa
