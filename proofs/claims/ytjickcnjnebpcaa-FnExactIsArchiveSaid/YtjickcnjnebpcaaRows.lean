/-
  No cell of these rows narrows 'for every input' (looked for: loops, veiled, ifaces, maps, wideKeys, modest, calm, conditions, laid).
  DERIVED. THE GIVEN ROWS OF THIS SEAT. 5 by the template 'for every input the law returns true; each argument reads behind the call as it read before'; 0 by the template 'total and deterministic' (their statements: YtjickcnjnebpcaaTotals.lean).
  GIVEN WITH THE SEED: the statements are not yours to turn. If you find one false, say at which input.
  Laid BY PROGRAM, IN A SANDBOX (cutbox-rows.mjs): the forced cells as the released guide's own fill.sh prints them over the translation 740ea6ad2ec97810… (all of the seat's roots in one cut). By AI agents, Wed Nov 11 2026. No macro, syntax, notation, axiom, sorry.
-/
import Derived.Test.YtjickcnjnebpcaaChecked
import GoSem.Claim
import GoSem.ClaimJoined
import GoSem.ClaimMapViews
import Derived.JoinedTies
import Derived.KernelRfl
namespace Go.Proofs.Ytjickcnjnebpcaa
/- THE CELL 'sum', in the pinned program and in every row, IS THE sha256 OF THE DUMP (.gsa) THAT YtjickcnjnebpcaaProg.lean LOADS. Nothing in Lean hashes anything: it is a label: what it is worth is what the hold of that sum in a sandbox is worth. -/
noncomputable def Try.pinned : Pinned := { name := "ytjickcnjnebpcaa", sum := "740ea6ad2ec97810b146fc3355d0effa69d06a9241a565572c048421806e94ad", checked := Try.checked }
namespace Rows
def none {H : Type} : Left H := { results := [], args := [] }

/-- 'laws.FnExactIsItem': WHATEVER THE INPUT: true; the input reads as it did. -/
def fnExactIsItemSpec : ChangeSpec := { name := "fnExactIsItem", fn := fun _ => fun
  | [d] => { results := [.lit (.bool true)], args := [d] }
  | _ => none }
def fnExactIsItemRow : OpenClaim := { program := "ytjickcnjnebpcaa", sum := "740ea6ad2ec97810b146fc3355d0effa69d06a9241a565572c048421806e94ad", func := "loop.example/g00597/laws.FnExactIsItem", spec := "fnExactIsItem", unfollowed := true, recurses := true, apart := false }
def FnExactIsItemSaid : Prop := fnExactIsItemRow.holds Try.pinned (OpenSpec.ofChange fnExactIsItemSpec)

/-- ITS FALSE NEIGHBOUR: 'it returns false'. Refute it at one input. -/
def fnExactIsItemWrong : ChangeSpec := { name := "fnExactIsItem", fn := fun _ => fun
  | [d] => { results := [.lit (.bool false)], args := [d] }
  | _ => none }
def FnExactIsItemWrongFalsely : Prop := fnExactIsItemRow.holds Try.pinned (OpenSpec.ofChange fnExactIsItemWrong)

/-- 'laws.FnExactIsArchive': WHATEVER THE INPUT: true; the input reads as it did. -/
def fnExactIsArchiveSpec : ChangeSpec := { name := "fnExactIsArchive", fn := fun _ => fun
  | [d] => { results := [.lit (.bool true)], args := [d] }
  | _ => none }
def fnExactIsArchiveRow : OpenClaim := { program := "ytjickcnjnebpcaa", sum := "740ea6ad2ec97810b146fc3355d0effa69d06a9241a565572c048421806e94ad", func := "loop.example/g00597/laws.FnExactIsArchive", spec := "fnExactIsArchive", unfollowed := true, recurses := true, apart := false }
def FnExactIsArchiveSaid : Prop := fnExactIsArchiveRow.holds Try.pinned (OpenSpec.ofChange fnExactIsArchiveSpec)

/-- ITS FALSE NEIGHBOUR: 'it returns false'. Refute it at one input. -/
def fnExactIsArchiveWrong : ChangeSpec := { name := "fnExactIsArchive", fn := fun _ => fun
  | [d] => { results := [.lit (.bool false)], args := [d] }
  | _ => none }
def FnExactIsArchiveWrongFalsely : Prop := fnExactIsArchiveRow.holds Try.pinned (OpenSpec.ofChange fnExactIsArchiveWrong)

/-- 'laws.FnExactTreeRoot': WHATEVER THE INPUT: true; the input reads as it did. -/
def fnExactTreeRootSpec : ChangeSpec := { name := "fnExactTreeRoot", fn := fun _ => fun
  | [d1, d2] => { results := [.lit (.bool true)], args := [d1, d2] }
  | _ => none }
def fnExactTreeRootRow : OpenClaim := { program := "ytjickcnjnebpcaa", sum := "740ea6ad2ec97810b146fc3355d0effa69d06a9241a565572c048421806e94ad", func := "loop.example/g00597/laws.FnExactTreeRoot", spec := "fnExactTreeRoot", unfollowed := true, recurses := true, apart := false }
def FnExactTreeRootSaid : Prop := fnExactTreeRootRow.holds Try.pinned (OpenSpec.ofChange fnExactTreeRootSpec)

/-- ITS FALSE NEIGHBOUR: 'it returns false'. Refute it at one input. -/
def fnExactTreeRootWrong : ChangeSpec := { name := "fnExactTreeRoot", fn := fun _ => fun
  | [d1, d2] => { results := [.lit (.bool false)], args := [d1, d2] }
  | _ => none }
def FnExactTreeRootWrongFalsely : Prop := fnExactTreeRootRow.holds Try.pinned (OpenSpec.ofChange fnExactTreeRootWrong)

/-- 'laws.FnExactItemDigest': WHATEVER THE INPUT: true; the input reads as it did. -/
def fnExactItemDigestSpec : ChangeSpec := { name := "fnExactItemDigest", fn := fun _ => fun
  | [d1, d2] => { results := [.lit (.bool true)], args := [d1, d2] }
  | _ => none }
def fnExactItemDigestRow : OpenClaim := { program := "ytjickcnjnebpcaa", sum := "740ea6ad2ec97810b146fc3355d0effa69d06a9241a565572c048421806e94ad", func := "loop.example/g00597/laws.FnExactItemDigest", spec := "fnExactItemDigest", unfollowed := true, recurses := true, apart := false }
def FnExactItemDigestSaid : Prop := fnExactItemDigestRow.holds Try.pinned (OpenSpec.ofChange fnExactItemDigestSpec)

/-- ITS FALSE NEIGHBOUR: 'it returns false'. Refute it at one input. -/
def fnExactItemDigestWrong : ChangeSpec := { name := "fnExactItemDigest", fn := fun _ => fun
  | [d1, d2] => { results := [.lit (.bool false)], args := [d1, d2] }
  | _ => none }
def FnExactItemDigestWrongFalsely : Prop := fnExactItemDigestRow.holds Try.pinned (OpenSpec.ofChange fnExactItemDigestWrong)

/-- 'laws.FnExactTreePath': WHATEVER THE INPUT: true; the input reads as it did. -/
def fnExactTreePathSpec : ChangeSpec := { name := "fnExactTreePath", fn := fun _ => fun
  | [d1, d2, d3] => { results := [.lit (.bool true)], args := [d1, d2, d3] }
  | _ => none }
def fnExactTreePathRow : OpenClaim := { program := "ytjickcnjnebpcaa", sum := "740ea6ad2ec97810b146fc3355d0effa69d06a9241a565572c048421806e94ad", func := "loop.example/g00597/laws.FnExactTreePath", spec := "fnExactTreePath", unfollowed := true, recurses := true, apart := false }
def FnExactTreePathSaid : Prop := fnExactTreePathRow.holds Try.pinned (OpenSpec.ofChange fnExactTreePathSpec)

/-- ITS FALSE NEIGHBOUR: 'it returns false'. Refute it at one input. -/
def fnExactTreePathWrong : ChangeSpec := { name := "fnExactTreePath", fn := fun _ => fun
  | [d1, d2, d3] => { results := [.lit (.bool false)], args := [d1, d2, d3] }
  | _ => none }
def FnExactTreePathWrongFalsely : Prop := fnExactTreePathRow.holds Try.pinned (OpenSpec.ofChange fnExactTreePathWrong)

/- THE SECOND FORM. 'bulk': how many values and letters a reading holds, each counted each time it is reached (what is shared counts as often as it is met; a slice's spare places count too). A statement '..UptoSaid' is the law's where the arguments, and the package variables that the reading takes, are together of bulk at most 1048576: NARROWER than '..Said'. Prove '..Said' where nothing that the law and all that it calls make is longer than what came in: it says more and counts as full. Else prove '..UptoSaid'. A law counts once. -/
mutual
def uptoBulk {H : Type} : DataW H → Nat
  | .lit (.string bytes) => bytes.length + 1
  | .lit _ => 1
  | .nil => 1
  | .ptr d => uptoBulk d + 1
  | .slice elems spare => uptoBulkAll elems + uptoBulkAll spare + 1
  | .agg parts => uptoBulkAll parts + 1
  | .iface _ d => uptoBulk d + 1
  | .map entries => uptoBulkEntries entries + 1
  | .held _ => 1
def uptoBulkAll {H : Type} : List (DataW H) → Nat
  | [] => 0
  | d :: r => uptoBulk d + uptoBulkAll r
def uptoBulkEntries {H : Type} : List (Lit × DataW H) → Nat
  | [] => 0
  | x :: r => uptoBulkEntry x + uptoBulkEntries r
def uptoBulkEntry {H : Type} : Lit × DataW H → Nat
  | (.string bytes, d) => bytes.length + uptoBulk d + 1
  | (_, d) => uptoBulk d + 1
 end
def uptoSmall : (H : Type) → List (DataW H) → Bool := fun _ ds => decide (uptoBulkAll ds ≤ 1048576)
def OpenSpec.upto (s : _root_.Go.ChangeSpec) : _root_.Go.OpenSpec := { _root_.Go.OpenSpec.ofChange s with cond := some uptoSmall }

/-- 'laws.FnExactIsItem', WHERE WHAT IT READS IS OF BULK AT MOST 1048576: true; the input reads as it did. -/
def fnExactIsItemUptoRow : OpenClaim := { program := "ytjickcnjnebpcaa", sum := "740ea6ad2ec97810b146fc3355d0effa69d06a9241a565572c048421806e94ad", func := "loop.example/g00597/laws.FnExactIsItem", spec := "fnExactIsItem", unfollowed := true, recurses := true, apart := false, narrowed := true }
def FnExactIsItemUptoSaid : Prop := fnExactIsItemUptoRow.holds Try.pinned (OpenSpec.upto fnExactIsItemSpec)

/-- 'laws.FnExactIsArchive', WHERE WHAT IT READS IS OF BULK AT MOST 1048576: true; the input reads as it did. -/
def fnExactIsArchiveUptoRow : OpenClaim := { program := "ytjickcnjnebpcaa", sum := "740ea6ad2ec97810b146fc3355d0effa69d06a9241a565572c048421806e94ad", func := "loop.example/g00597/laws.FnExactIsArchive", spec := "fnExactIsArchive", unfollowed := true, recurses := true, apart := false, narrowed := true }
def FnExactIsArchiveUptoSaid : Prop := fnExactIsArchiveUptoRow.holds Try.pinned (OpenSpec.upto fnExactIsArchiveSpec)

/-- 'laws.FnExactTreeRoot', WHERE WHAT IT READS IS OF BULK AT MOST 1048576: true; the input reads as it did. -/
def fnExactTreeRootUptoRow : OpenClaim := { program := "ytjickcnjnebpcaa", sum := "740ea6ad2ec97810b146fc3355d0effa69d06a9241a565572c048421806e94ad", func := "loop.example/g00597/laws.FnExactTreeRoot", spec := "fnExactTreeRoot", unfollowed := true, recurses := true, apart := false, narrowed := true }
def FnExactTreeRootUptoSaid : Prop := fnExactTreeRootUptoRow.holds Try.pinned (OpenSpec.upto fnExactTreeRootSpec)

/-- 'laws.FnExactItemDigest', WHERE WHAT IT READS IS OF BULK AT MOST 1048576: true; the input reads as it did. -/
def fnExactItemDigestUptoRow : OpenClaim := { program := "ytjickcnjnebpcaa", sum := "740ea6ad2ec97810b146fc3355d0effa69d06a9241a565572c048421806e94ad", func := "loop.example/g00597/laws.FnExactItemDigest", spec := "fnExactItemDigest", unfollowed := true, recurses := true, apart := false, narrowed := true }
def FnExactItemDigestUptoSaid : Prop := fnExactItemDigestUptoRow.holds Try.pinned (OpenSpec.upto fnExactItemDigestSpec)

/-- 'laws.FnExactTreePath', WHERE WHAT IT READS IS OF BULK AT MOST 1048576: true; the input reads as it did. -/
def fnExactTreePathUptoRow : OpenClaim := { program := "ytjickcnjnebpcaa", sum := "740ea6ad2ec97810b146fc3355d0effa69d06a9241a565572c048421806e94ad", func := "loop.example/g00597/laws.FnExactTreePath", spec := "fnExactTreePath", unfollowed := true, recurses := true, apart := false, narrowed := true }
def FnExactTreePathUptoSaid : Prop := fnExactTreePathUptoRow.holds Try.pinned (OpenSpec.upto fnExactTreePathSpec)

end Rows
end Go.Proofs.Ytjickcnjnebpcaa
