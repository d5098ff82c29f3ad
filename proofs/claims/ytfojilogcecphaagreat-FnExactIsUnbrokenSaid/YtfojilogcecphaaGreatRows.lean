/-
  No cell of these rows narrows 'for every input' (looked for: loops, veiled, ifaces, maps, wideKeys, modest, calm, conditions, laid).
  DERIVED. THE GIVEN ROWS OF THIS SEAT. 5 by the template 'for every input the law returns true; each argument reads behind the call as it read before'; 0 by the template 'total and deterministic' (their statements: YtfojilogcecphaaGreatTotals.lean).
  GIVEN WITH THE SEED: the statements are not yours to turn. If you find one false, say at which input.
  Laid BY PROGRAM, IN A SANDBOX (cutbox-rows.mjs): the forced cells as the released guide's own fill.sh prints them over the translation 37bfd6576829364a… (all of the seat's roots in one cut). By AI agents, Wed Nov 11 2026. No macro, syntax, notation, axiom, sorry.
-/
import Derived.Test.YtfojilogcecphaaGreatChecked
import GoSem.Claim
import GoSem.ClaimJoined
import GoSem.ClaimMapViews
import Derived.JoinedTies
import Derived.KernelRfl
namespace Go.Proofs.YtfojilogcecphaaGreat
/- THE CELL 'sum', in the pinned program and in every row, IS THE sha256 OF THE DUMP (.gsa) THAT YtfojilogcecphaaGreatProg.lean LOADS. Nothing in Lean hashes anything: it is a label: what it is worth is what the hold of that sum in a sandbox is worth. -/
noncomputable def Tryz.pinned : Pinned := { name := "ytfojilogcecphaagreat", sum := "37bfd6576829364abe3a33024001fb5293d331db5aa93b39a96cad069dc3cecb", checked := Tryz.checked }
namespace Rows
def none {H : Type} : Left H := { results := [], args := [] }

/-- 'laws.FnExactFirstKept': WHATEVER THE INPUT: true; the input reads as it did. -/
def fnExactFirstKeptSpec : ChangeSpec := { name := "fnExactFirstKept", fn := fun _ => fun
  | [d1, d2, d3] => { results := [.lit (.bool true)], args := [d1, d2, d3] }
  | _ => none }
def fnExactFirstKeptRow : OpenClaim := { program := "ytfojilogcecphaagreat", sum := "37bfd6576829364abe3a33024001fb5293d331db5aa93b39a96cad069dc3cecb", func := "loop.example/g00597/laws.FnExactFirstKept", spec := "fnExactFirstKept", unfollowed := true, recurses := true, apart := false }
def FnExactFirstKeptSaid : Prop := fnExactFirstKeptRow.holds Tryz.pinned (OpenSpec.ofChange fnExactFirstKeptSpec)

/-- ITS FALSE NEIGHBOUR: 'it returns false'. Refute it at one input. -/
def fnExactFirstKeptWrong : ChangeSpec := { name := "fnExactFirstKept", fn := fun _ => fun
  | [d1, d2, d3] => { results := [.lit (.bool false)], args := [d1, d2, d3] }
  | _ => none }
def FnExactFirstKeptWrongFalsely : Prop := fnExactFirstKeptRow.holds Tryz.pinned (OpenSpec.ofChange fnExactFirstKeptWrong)

/-- 'laws.FnExactIsUnbroken': WHATEVER THE INPUT: true; the input reads as it did. -/
def fnExactIsUnbrokenSpec : ChangeSpec := { name := "fnExactIsUnbroken", fn := fun _ => fun
  | [d1, d2, d3] => { results := [.lit (.bool true)], args := [d1, d2, d3] }
  | _ => none }
def fnExactIsUnbrokenRow : OpenClaim := { program := "ytfojilogcecphaagreat", sum := "37bfd6576829364abe3a33024001fb5293d331db5aa93b39a96cad069dc3cecb", func := "loop.example/g00597/laws.FnExactIsUnbroken", spec := "fnExactIsUnbroken", unfollowed := true, recurses := true, apart := false }
def FnExactIsUnbrokenSaid : Prop := fnExactIsUnbrokenRow.holds Tryz.pinned (OpenSpec.ofChange fnExactIsUnbrokenSpec)

/-- ITS FALSE NEIGHBOUR: 'it returns false'. Refute it at one input. -/
def fnExactIsUnbrokenWrong : ChangeSpec := { name := "fnExactIsUnbroken", fn := fun _ => fun
  | [d1, d2, d3] => { results := [.lit (.bool false)], args := [d1, d2, d3] }
  | _ => none }
def FnExactIsUnbrokenWrongFalsely : Prop := fnExactIsUnbrokenRow.holds Tryz.pinned (OpenSpec.ofChange fnExactIsUnbrokenWrong)

/-- 'laws.FnExactBoundOf': WHATEVER THE INPUT: true; the input reads as it did. -/
def fnExactBoundOfSpec : ChangeSpec := { name := "fnExactBoundOf", fn := fun _ => fun
  | [d1, d2, d3, d4] => { results := [.lit (.bool true)], args := [d1, d2, d3, d4] }
  | _ => none }
def fnExactBoundOfRow : OpenClaim := { program := "ytfojilogcecphaagreat", sum := "37bfd6576829364abe3a33024001fb5293d331db5aa93b39a96cad069dc3cecb", func := "loop.example/g00597/laws.FnExactBoundOf", spec := "fnExactBoundOf", unfollowed := true, recurses := true, apart := false }
def FnExactBoundOfSaid : Prop := fnExactBoundOfRow.holds Tryz.pinned (OpenSpec.ofChange fnExactBoundOfSpec)

/-- ITS FALSE NEIGHBOUR: 'it returns false'. Refute it at one input. -/
def fnExactBoundOfWrong : ChangeSpec := { name := "fnExactBoundOf", fn := fun _ => fun
  | [d1, d2, d3, d4] => { results := [.lit (.bool false)], args := [d1, d2, d3, d4] }
  | _ => none }
def FnExactBoundOfWrongFalsely : Prop := fnExactBoundOfRow.holds Tryz.pinned (OpenSpec.ofChange fnExactBoundOfWrong)

/-- 'laws.FnExactPieceBound': WHATEVER THE INPUT: true; the input reads as it did. -/
def fnExactPieceBoundSpec : ChangeSpec := { name := "fnExactPieceBound", fn := fun _ => fun
  | [d1, d2, d3, d4] => { results := [.lit (.bool true)], args := [d1, d2, d3, d4] }
  | _ => none }
def fnExactPieceBoundRow : OpenClaim := { program := "ytfojilogcecphaagreat", sum := "37bfd6576829364abe3a33024001fb5293d331db5aa93b39a96cad069dc3cecb", func := "loop.example/g00597/laws.FnExactPieceBound", spec := "fnExactPieceBound", unfollowed := true, recurses := true, apart := false }
def FnExactPieceBoundSaid : Prop := fnExactPieceBoundRow.holds Tryz.pinned (OpenSpec.ofChange fnExactPieceBoundSpec)

/-- ITS FALSE NEIGHBOUR: 'it returns false'. Refute it at one input. -/
def fnExactPieceBoundWrong : ChangeSpec := { name := "fnExactPieceBound", fn := fun _ => fun
  | [d1, d2, d3, d4] => { results := [.lit (.bool false)], args := [d1, d2, d3, d4] }
  | _ => none }
def FnExactPieceBoundWrongFalsely : Prop := fnExactPieceBoundRow.holds Tryz.pinned (OpenSpec.ofChange fnExactPieceBoundWrong)

/-- 'laws.FnExactEvidenceBound': WHATEVER THE INPUT: true; the input reads as it did. -/
def fnExactEvidenceBoundSpec : ChangeSpec := { name := "fnExactEvidenceBound", fn := fun _ => fun
  | [d1, d2, d3, d4] => { results := [.lit (.bool true)], args := [d1, d2, d3, d4] }
  | _ => none }
def fnExactEvidenceBoundRow : OpenClaim := { program := "ytfojilogcecphaagreat", sum := "37bfd6576829364abe3a33024001fb5293d331db5aa93b39a96cad069dc3cecb", func := "loop.example/g00597/laws.FnExactEvidenceBound", spec := "fnExactEvidenceBound", unfollowed := true, recurses := true, apart := false }
def FnExactEvidenceBoundSaid : Prop := fnExactEvidenceBoundRow.holds Tryz.pinned (OpenSpec.ofChange fnExactEvidenceBoundSpec)

/-- ITS FALSE NEIGHBOUR: 'it returns false'. Refute it at one input. -/
def fnExactEvidenceBoundWrong : ChangeSpec := { name := "fnExactEvidenceBound", fn := fun _ => fun
  | [d1, d2, d3, d4] => { results := [.lit (.bool false)], args := [d1, d2, d3, d4] }
  | _ => none }
def FnExactEvidenceBoundWrongFalsely : Prop := fnExactEvidenceBoundRow.holds Tryz.pinned (OpenSpec.ofChange fnExactEvidenceBoundWrong)

/- THE SECOND FORM. 'bulk': how many values and letters a reading holds, each counted each time it is reached (what is shared counts as often as it is met; a slice's spare places count too). A statement '..UptoSaid' is the law's where the arguments, and the package variables that the reading takes, are together of bulk at most 1048576: NARROWER than '..Said'. Prove '..Said' where nothing that the law and all that it calls make is longer than what came in: it says more and counts as full. Else prove '..UptoSaid'. A law counts once. -/
mutual
def uptoBulk {H : Type} : DataW H → Nat
  | .lit (.string bytes) => bytes.length + 1
  | .lit _ => 1
  | .nil => 1
  | .ptr d => uptoBulk d + 1
  | .slice elems spare => uptoBulkAll elems + uptoBulkAll spare + 1
  | .agg parts => uptoBulkAll parts + 1
  | .iface _ d => uptoBulk d + 1
  | .map entries => uptoBulkEntries entries + 1
  | .held _ => 1
def uptoBulkAll {H : Type} : List (DataW H) → Nat
  | [] => 0
  | d :: r => uptoBulk d + uptoBulkAll r
def uptoBulkEntries {H : Type} : List (Lit × DataW H) → Nat
  | [] => 0
  | x :: r => uptoBulkEntry x + uptoBulkEntries r
def uptoBulkEntry {H : Type} : Lit × DataW H → Nat
  | (.string bytes, d) => bytes.length + uptoBulk d + 1
  | (_, d) => uptoBulk d + 1
 end
def uptoSmall : (H : Type) → List (DataW H) → Bool := fun _ ds => decide (uptoBulkAll ds ≤ 1048576)
def OpenSpec.upto (s : _root_.Go.ChangeSpec) : _root_.Go.OpenSpec := { _root_.Go.OpenSpec.ofChange s with cond := some uptoSmall }

/-- 'laws.FnExactFirstKept', WHERE WHAT IT READS IS OF BULK AT MOST 1048576: true; the input reads as it did. -/
def fnExactFirstKeptUptoRow : OpenClaim := { program := "ytfojilogcecphaagreat", sum := "37bfd6576829364abe3a33024001fb5293d331db5aa93b39a96cad069dc3cecb", func := "loop.example/g00597/laws.FnExactFirstKept", spec := "fnExactFirstKept", unfollowed := true, recurses := true, apart := false, narrowed := true }
def FnExactFirstKeptUptoSaid : Prop := fnExactFirstKeptUptoRow.holds Tryz.pinned (OpenSpec.upto fnExactFirstKeptSpec)

/-- 'laws.FnExactIsUnbroken', WHERE WHAT IT READS IS OF BULK AT MOST 1048576: true; the input reads as it did. -/
def fnExactIsUnbrokenUptoRow : OpenClaim := { program := "ytfojilogcecphaagreat", sum := "37bfd6576829364abe3a33024001fb5293d331db5aa93b39a96cad069dc3cecb", func := "loop.example/g00597/laws.FnExactIsUnbroken", spec := "fnExactIsUnbroken", unfollowed := true, recurses := true, apart := false, narrowed := true }
def FnExactIsUnbrokenUptoSaid : Prop := fnExactIsUnbrokenUptoRow.holds Tryz.pinned (OpenSpec.upto fnExactIsUnbrokenSpec)

/-- 'laws.FnExactBoundOf', WHERE WHAT IT READS IS OF BULK AT MOST 1048576: true; the input reads as it did. -/
def fnExactBoundOfUptoRow : OpenClaim := { program := "ytfojilogcecphaagreat", sum := "37bfd6576829364abe3a33024001fb5293d331db5aa93b39a96cad069dc3cecb", func := "loop.example/g00597/laws.FnExactBoundOf", spec := "fnExactBoundOf", unfollowed := true, recurses := true, apart := false, narrowed := true }
def FnExactBoundOfUptoSaid : Prop := fnExactBoundOfUptoRow.holds Tryz.pinned (OpenSpec.upto fnExactBoundOfSpec)

/-- 'laws.FnExactPieceBound', WHERE WHAT IT READS IS OF BULK AT MOST 1048576: true; the input reads as it did. -/
def fnExactPieceBoundUptoRow : OpenClaim := { program := "ytfojilogcecphaagreat", sum := "37bfd6576829364abe3a33024001fb5293d331db5aa93b39a96cad069dc3cecb", func := "loop.example/g00597/laws.FnExactPieceBound", spec := "fnExactPieceBound", unfollowed := true, recurses := true, apart := false, narrowed := true }
def FnExactPieceBoundUptoSaid : Prop := fnExactPieceBoundUptoRow.holds Tryz.pinned (OpenSpec.upto fnExactPieceBoundSpec)

/-- 'laws.FnExactEvidenceBound', WHERE WHAT IT READS IS OF BULK AT MOST 1048576: true; the input reads as it did. -/
def fnExactEvidenceBoundUptoRow : OpenClaim := { program := "ytfojilogcecphaagreat", sum := "37bfd6576829364abe3a33024001fb5293d331db5aa93b39a96cad069dc3cecb", func := "loop.example/g00597/laws.FnExactEvidenceBound", spec := "fnExactEvidenceBound", unfollowed := true, recurses := true, apart := false, narrowed := true }
def FnExactEvidenceBoundUptoSaid : Prop := fnExactEvidenceBoundUptoRow.holds Tryz.pinned (OpenSpec.upto fnExactEvidenceBoundSpec)

end Rows
end Go.Proofs.YtfojilogcecphaaGreat
