/-
  No cell of these rows narrows 'for every input' (looked for: loops, veiled, ifaces, maps, wideKeys, modest, calm, conditions, laid).
  DERIVED. THE GIVEN ROWS OF THIS SEAT. 12 by the template 'for every input the law returns true; each argument reads behind the call as it read before'; 0 by the template 'total and deterministic' (their statements: YtkbdmocbeaejhaaTotals.lean).
  GIVEN WITH THE SEED: the statements are not yours to turn. If you find one false, say at which input.
  Laid BY PROGRAM, IN A SANDBOX (cutbox-rows.mjs): the forced cells as the released guide's own fill.sh prints them over the translation 8258cc093642d8d6… (all of the seat's roots in one cut). By AI agents, Wed Nov 11 2026. No macro, syntax, notation, axiom, sorry.
-/
import Derived.Test.YtkbdmocbeaejhaaChecked
import GoSem.Claim
import GoSem.ClaimJoined
import GoSem.ClaimMapViews
import Derived.JoinedTies
import Derived.KernelRfl
namespace Go.Proofs.Ytkbdmocbeaejhaa
/- THE CELL 'sum', in the pinned program and in every row, IS THE sha256 OF THE DUMP (.gsa) THAT YtkbdmocbeaejhaaProg.lean LOADS. Nothing in Lean hashes anything: it is a label: what it is worth is what the hold of that sum in a sandbox is worth. -/
noncomputable def Try.pinned : Pinned := { name := "ytkbdmocbeaejhaa", sum := "8258cc093642d8d6dc223adb885ff04fbed461fe5ccd2b106d4aa41e93b7552e", checked := Try.checked }
namespace Rows
def none {H : Type} : Left H := { results := [], args := [] }

/-- 'laws.FnExactMakeStamp': WHATEVER THE INPUT: true; the input reads as it did. -/
def fnExactMakeStampSpec : ChangeSpec := { name := "fnExactMakeStamp", fn := fun _ => fun
  | [d1, d2, d3] => { results := [.lit (.bool true)], args := [d1, d2, d3] }
  | _ => none }
def fnExactMakeStampRow : OpenClaim := { program := "ytkbdmocbeaejhaa", sum := "8258cc093642d8d6dc223adb885ff04fbed461fe5ccd2b106d4aa41e93b7552e", func := "loop.example/g00597/laws.FnExactMakeStamp", spec := "fnExactMakeStamp", unfollowed := true, recurses := true, apart := false }
def FnExactMakeStampSaid : Prop := fnExactMakeStampRow.holds Try.pinned (OpenSpec.ofChange fnExactMakeStampSpec)

/-- ITS FALSE NEIGHBOUR: 'it returns false'. Refute it at one input. -/
def fnExactMakeStampWrong : ChangeSpec := { name := "fnExactMakeStamp", fn := fun _ => fun
  | [d1, d2, d3] => { results := [.lit (.bool false)], args := [d1, d2, d3] }
  | _ => none }
def FnExactMakeStampWrongFalsely : Prop := fnExactMakeStampRow.holds Try.pinned (OpenSpec.ofChange fnExactMakeStampWrong)

/-- 'laws.FnExactCheckStamp': WHATEVER THE INPUT: true; the input reads as it did. -/
def fnExactCheckStampSpec : ChangeSpec := { name := "fnExactCheckStamp", fn := fun _ => fun
  | [d1, d2, d3] => { results := [.lit (.bool true)], args := [d1, d2, d3] }
  | _ => none }
def fnExactCheckStampRow : OpenClaim := { program := "ytkbdmocbeaejhaa", sum := "8258cc093642d8d6dc223adb885ff04fbed461fe5ccd2b106d4aa41e93b7552e", func := "loop.example/g00597/laws.FnExactCheckStamp", spec := "fnExactCheckStamp", unfollowed := true, recurses := true, apart := false }
def FnExactCheckStampSaid : Prop := fnExactCheckStampRow.holds Try.pinned (OpenSpec.ofChange fnExactCheckStampSpec)

/-- ITS FALSE NEIGHBOUR: 'it returns false'. Refute it at one input. -/
def fnExactCheckStampWrong : ChangeSpec := { name := "fnExactCheckStamp", fn := fun _ => fun
  | [d1, d2, d3] => { results := [.lit (.bool false)], args := [d1, d2, d3] }
  | _ => none }
def FnExactCheckStampWrongFalsely : Prop := fnExactCheckStampRow.holds Try.pinned (OpenSpec.ofChange fnExactCheckStampWrong)

/-- 'laws.FnExactIsMandate': WHATEVER THE INPUT: true; the input reads as it did. -/
def fnExactIsMandateSpec : ChangeSpec := { name := "fnExactIsMandate", fn := fun _ => fun
  | [d] => { results := [.lit (.bool true)], args := [d] }
  | _ => none }
def fnExactIsMandateRow : OpenClaim := { program := "ytkbdmocbeaejhaa", sum := "8258cc093642d8d6dc223adb885ff04fbed461fe5ccd2b106d4aa41e93b7552e", func := "loop.example/g00597/laws.FnExactIsMandate", spec := "fnExactIsMandate", apart := false }
def FnExactIsMandateSaid : Prop := fnExactIsMandateRow.holds Try.pinned (OpenSpec.ofChange fnExactIsMandateSpec)

/-- ITS FALSE NEIGHBOUR: 'it returns false'. Refute it at one input. -/
def fnExactIsMandateWrong : ChangeSpec := { name := "fnExactIsMandate", fn := fun _ => fun
  | [d] => { results := [.lit (.bool false)], args := [d] }
  | _ => none }
def FnExactIsMandateWrongFalsely : Prop := fnExactIsMandateRow.holds Try.pinned (OpenSpec.ofChange fnExactIsMandateWrong)

/-- 'laws.FnExactMandateInts': WHATEVER THE INPUT: true; the input reads as it did. -/
def fnExactMandateIntsSpec : ChangeSpec := { name := "fnExactMandateInts", fn := fun _ => fun
  | [d] => { results := [.lit (.bool true)], args := [d] }
  | _ => none }
def fnExactMandateIntsRow : OpenClaim := { program := "ytkbdmocbeaejhaa", sum := "8258cc093642d8d6dc223adb885ff04fbed461fe5ccd2b106d4aa41e93b7552e", func := "loop.example/g00597/laws.FnExactMandateInts", spec := "fnExactMandateInts", apart := false }
def FnExactMandateIntsSaid : Prop := fnExactMandateIntsRow.holds Try.pinned (OpenSpec.ofChange fnExactMandateIntsSpec)

/-- ITS FALSE NEIGHBOUR: 'it returns false'. Refute it at one input. -/
def fnExactMandateIntsWrong : ChangeSpec := { name := "fnExactMandateInts", fn := fun _ => fun
  | [d] => { results := [.lit (.bool false)], args := [d] }
  | _ => none }
def FnExactMandateIntsWrongFalsely : Prop := fnExactMandateIntsRow.holds Try.pinned (OpenSpec.ofChange fnExactMandateIntsWrong)

/-- 'laws.FnExactMakeMandate': WHATEVER THE INPUT: true; the input reads as it did. -/
def fnExactMakeMandateSpec : ChangeSpec := { name := "fnExactMakeMandate", fn := fun _ => fun
  | [d1, d2] => { results := [.lit (.bool true)], args := [d1, d2] }
  | _ => none }
def fnExactMakeMandateRow : OpenClaim := { program := "ytkbdmocbeaejhaa", sum := "8258cc093642d8d6dc223adb885ff04fbed461fe5ccd2b106d4aa41e93b7552e", func := "loop.example/g00597/laws.FnExactMakeMandate", spec := "fnExactMakeMandate", unfollowed := true, recurses := true, apart := false }
def FnExactMakeMandateSaid : Prop := fnExactMakeMandateRow.holds Try.pinned (OpenSpec.ofChange fnExactMakeMandateSpec)

/-- ITS FALSE NEIGHBOUR: 'it returns false'. Refute it at one input. -/
def fnExactMakeMandateWrong : ChangeSpec := { name := "fnExactMakeMandate", fn := fun _ => fun
  | [d1, d2] => { results := [.lit (.bool false)], args := [d1, d2] }
  | _ => none }
def FnExactMakeMandateWrongFalsely : Prop := fnExactMakeMandateRow.holds Try.pinned (OpenSpec.ofChange fnExactMakeMandateWrong)

/-- 'laws.FnExactCheckMandate': WHATEVER THE INPUT: true; the input reads as it did. -/
def fnExactCheckMandateSpec : ChangeSpec := { name := "fnExactCheckMandate", fn := fun _ => fun
  | [d1, d2] => { results := [.lit (.bool true)], args := [d1, d2] }
  | _ => none }
def fnExactCheckMandateRow : OpenClaim := { program := "ytkbdmocbeaejhaa", sum := "8258cc093642d8d6dc223adb885ff04fbed461fe5ccd2b106d4aa41e93b7552e", func := "loop.example/g00597/laws.FnExactCheckMandate", spec := "fnExactCheckMandate", unfollowed := true, recurses := true, apart := false }
def FnExactCheckMandateSaid : Prop := fnExactCheckMandateRow.holds Try.pinned (OpenSpec.ofChange fnExactCheckMandateSpec)

/-- ITS FALSE NEIGHBOUR: 'it returns false'. Refute it at one input. -/
def fnExactCheckMandateWrong : ChangeSpec := { name := "fnExactCheckMandate", fn := fun _ => fun
  | [d1, d2] => { results := [.lit (.bool false)], args := [d1, d2] }
  | _ => none }
def FnExactCheckMandateWrongFalsely : Prop := fnExactCheckMandateRow.holds Try.pinned (OpenSpec.ofChange fnExactCheckMandateWrong)

/-- 'laws.FnExactSuccessionInts': WHATEVER THE INPUT: true; the input reads as it did. -/
def fnExactSuccessionIntsSpec : ChangeSpec := { name := "fnExactSuccessionInts", fn := fun _ => fun
  | [d] => { results := [.lit (.bool true)], args := [d] }
  | _ => none }
def fnExactSuccessionIntsRow : OpenClaim := { program := "ytkbdmocbeaejhaa", sum := "8258cc093642d8d6dc223adb885ff04fbed461fe5ccd2b106d4aa41e93b7552e", func := "loop.example/g00597/laws.FnExactSuccessionInts", spec := "fnExactSuccessionInts", apart := false }
def FnExactSuccessionIntsSaid : Prop := fnExactSuccessionIntsRow.holds Try.pinned (OpenSpec.ofChange fnExactSuccessionIntsSpec)

/-- ITS FALSE NEIGHBOUR: 'it returns false'. Refute it at one input. -/
def fnExactSuccessionIntsWrong : ChangeSpec := { name := "fnExactSuccessionInts", fn := fun _ => fun
  | [d] => { results := [.lit (.bool false)], args := [d] }
  | _ => none }
def FnExactSuccessionIntsWrongFalsely : Prop := fnExactSuccessionIntsRow.holds Try.pinned (OpenSpec.ofChange fnExactSuccessionIntsWrong)

/-- 'laws.FnExactMakeSuccession': WHATEVER THE INPUT: true; the input reads as it did. -/
def fnExactMakeSuccessionSpec : ChangeSpec := { name := "fnExactMakeSuccession", fn := fun _ => fun
  | [d1, d2] => { results := [.lit (.bool true)], args := [d1, d2] }
  | _ => none }
def fnExactMakeSuccessionRow : OpenClaim := { program := "ytkbdmocbeaejhaa", sum := "8258cc093642d8d6dc223adb885ff04fbed461fe5ccd2b106d4aa41e93b7552e", func := "loop.example/g00597/laws.FnExactMakeSuccession", spec := "fnExactMakeSuccession", unfollowed := true, recurses := true, apart := false }
def FnExactMakeSuccessionSaid : Prop := fnExactMakeSuccessionRow.holds Try.pinned (OpenSpec.ofChange fnExactMakeSuccessionSpec)

/-- ITS FALSE NEIGHBOUR: 'it returns false'. Refute it at one input. -/
def fnExactMakeSuccessionWrong : ChangeSpec := { name := "fnExactMakeSuccession", fn := fun _ => fun
  | [d1, d2] => { results := [.lit (.bool false)], args := [d1, d2] }
  | _ => none }
def FnExactMakeSuccessionWrongFalsely : Prop := fnExactMakeSuccessionRow.holds Try.pinned (OpenSpec.ofChange fnExactMakeSuccessionWrong)

/-- 'laws.FnExactCheckSuccession': WHATEVER THE INPUT: true; the input reads as it did. -/
def fnExactCheckSuccessionSpec : ChangeSpec := { name := "fnExactCheckSuccession", fn := fun _ => fun
  | [d1, d2] => { results := [.lit (.bool true)], args := [d1, d2] }
  | _ => none }
def fnExactCheckSuccessionRow : OpenClaim := { program := "ytkbdmocbeaejhaa", sum := "8258cc093642d8d6dc223adb885ff04fbed461fe5ccd2b106d4aa41e93b7552e", func := "loop.example/g00597/laws.FnExactCheckSuccession", spec := "fnExactCheckSuccession", unfollowed := true, recurses := true, apart := false }
def FnExactCheckSuccessionSaid : Prop := fnExactCheckSuccessionRow.holds Try.pinned (OpenSpec.ofChange fnExactCheckSuccessionSpec)

/-- ITS FALSE NEIGHBOUR: 'it returns false'. Refute it at one input. -/
def fnExactCheckSuccessionWrong : ChangeSpec := { name := "fnExactCheckSuccession", fn := fun _ => fun
  | [d1, d2] => { results := [.lit (.bool false)], args := [d1, d2] }
  | _ => none }
def FnExactCheckSuccessionWrongFalsely : Prop := fnExactCheckSuccessionRow.holds Try.pinned (OpenSpec.ofChange fnExactCheckSuccessionWrong)

/-- 'laws.FnExactNextKey': WHATEVER THE INPUT: true; the input reads as it did. -/
def fnExactNextKeySpec : ChangeSpec := { name := "fnExactNextKey", fn := fun _ => fun
  | [d1, d2, d3, d4] => { results := [.lit (.bool true)], args := [d1, d2, d3, d4] }
  | _ => none }
def fnExactNextKeyRow : OpenClaim := { program := "ytkbdmocbeaejhaa", sum := "8258cc093642d8d6dc223adb885ff04fbed461fe5ccd2b106d4aa41e93b7552e", func := "loop.example/g00597/laws.FnExactNextKey", spec := "fnExactNextKey", unfollowed := true, recurses := true, apart := false }
def FnExactNextKeySaid : Prop := fnExactNextKeyRow.holds Try.pinned (OpenSpec.ofChange fnExactNextKeySpec)

/-- ITS FALSE NEIGHBOUR: 'it returns false'. Refute it at one input. -/
def fnExactNextKeyWrong : ChangeSpec := { name := "fnExactNextKey", fn := fun _ => fun
  | [d1, d2, d3, d4] => { results := [.lit (.bool false)], args := [d1, d2, d3, d4] }
  | _ => none }
def FnExactNextKeyWrongFalsely : Prop := fnExactNextKeyRow.holds Try.pinned (OpenSpec.ofChange fnExactNextKeyWrong)

/-- 'laws.FnExactKeyLine': WHATEVER THE INPUT: true; the input reads as it did. -/
def fnExactKeyLineSpec : ChangeSpec := { name := "fnExactKeyLine", fn := fun _ => fun
  | [d1, d2, d3, d4] => { results := [.lit (.bool true)], args := [d1, d2, d3, d4] }
  | _ => none }
def fnExactKeyLineRow : OpenClaim := { program := "ytkbdmocbeaejhaa", sum := "8258cc093642d8d6dc223adb885ff04fbed461fe5ccd2b106d4aa41e93b7552e", func := "loop.example/g00597/laws.FnExactKeyLine", spec := "fnExactKeyLine", unfollowed := true, recurses := true, apart := false }
def FnExactKeyLineSaid : Prop := fnExactKeyLineRow.holds Try.pinned (OpenSpec.ofChange fnExactKeyLineSpec)

/-- ITS FALSE NEIGHBOUR: 'it returns false'. Refute it at one input. -/
def fnExactKeyLineWrong : ChangeSpec := { name := "fnExactKeyLine", fn := fun _ => fun
  | [d1, d2, d3, d4] => { results := [.lit (.bool false)], args := [d1, d2, d3, d4] }
  | _ => none }
def FnExactKeyLineWrongFalsely : Prop := fnExactKeyLineRow.holds Try.pinned (OpenSpec.ofChange fnExactKeyLineWrong)

/-- 'laws.FnExactCurrentKey': WHATEVER THE INPUT: true; the input reads as it did. -/
def fnExactCurrentKeySpec : ChangeSpec := { name := "fnExactCurrentKey", fn := fun _ => fun
  | [d1, d2, d3, d4] => { results := [.lit (.bool true)], args := [d1, d2, d3, d4] }
  | _ => none }
def fnExactCurrentKeyRow : OpenClaim := { program := "ytkbdmocbeaejhaa", sum := "8258cc093642d8d6dc223adb885ff04fbed461fe5ccd2b106d4aa41e93b7552e", func := "loop.example/g00597/laws.FnExactCurrentKey", spec := "fnExactCurrentKey", unfollowed := true, recurses := true, apart := false }
def FnExactCurrentKeySaid : Prop := fnExactCurrentKeyRow.holds Try.pinned (OpenSpec.ofChange fnExactCurrentKeySpec)

/-- ITS FALSE NEIGHBOUR: 'it returns false'. Refute it at one input. -/
def fnExactCurrentKeyWrong : ChangeSpec := { name := "fnExactCurrentKey", fn := fun _ => fun
  | [d1, d2, d3, d4] => { results := [.lit (.bool false)], args := [d1, d2, d3, d4] }
  | _ => none }
def FnExactCurrentKeyWrongFalsely : Prop := fnExactCurrentKeyRow.holds Try.pinned (OpenSpec.ofChange fnExactCurrentKeyWrong)

/- THE SECOND FORM. 'bulk': how many values and letters a reading holds, each counted each time it is reached (what is shared counts as often as it is met; a slice's spare places count too). A statement '..UptoSaid' is the law's where the arguments, and the package variables that the reading takes, are together of bulk at most 1048576: NARROWER than '..Said'. Prove '..Said' where nothing that the law and all that it calls make is longer than what came in: it says more and counts as full. Else prove '..UptoSaid'. A law counts once. -/
mutual
def uptoBulk {H : Type} : DataW H → Nat
  | .lit (.string bytes) => bytes.length + 1
  | .lit _ => 1
  | .nil => 1
  | .ptr d => uptoBulk d + 1
  | .slice elems spare => uptoBulkAll elems + uptoBulkAll spare + 1
  | .agg parts => uptoBulkAll parts + 1
  | .iface _ d => uptoBulk d + 1
  | .map entries => uptoBulkEntries entries + 1
  | .held _ => 1
def uptoBulkAll {H : Type} : List (DataW H) → Nat
  | [] => 0
  | d :: r => uptoBulk d + uptoBulkAll r
def uptoBulkEntries {H : Type} : List (Lit × DataW H) → Nat
  | [] => 0
  | x :: r => uptoBulkEntry x + uptoBulkEntries r
def uptoBulkEntry {H : Type} : Lit × DataW H → Nat
  | (.string bytes, d) => bytes.length + uptoBulk d + 1
  | (_, d) => uptoBulk d + 1
 end
def uptoSmall : (H : Type) → List (DataW H) → Bool := fun _ ds => decide (uptoBulkAll ds ≤ 1048576)
def OpenSpec.upto (s : _root_.Go.ChangeSpec) : _root_.Go.OpenSpec := { _root_.Go.OpenSpec.ofChange s with cond := some uptoSmall }

/-- 'laws.FnExactMakeStamp', WHERE WHAT IT READS IS OF BULK AT MOST 1048576: true; the input reads as it did. -/
def fnExactMakeStampUptoRow : OpenClaim := { program := "ytkbdmocbeaejhaa", sum := "8258cc093642d8d6dc223adb885ff04fbed461fe5ccd2b106d4aa41e93b7552e", func := "loop.example/g00597/laws.FnExactMakeStamp", spec := "fnExactMakeStamp", unfollowed := true, recurses := true, apart := false, narrowed := true }
def FnExactMakeStampUptoSaid : Prop := fnExactMakeStampUptoRow.holds Try.pinned (OpenSpec.upto fnExactMakeStampSpec)

/-- 'laws.FnExactCheckStamp', WHERE WHAT IT READS IS OF BULK AT MOST 1048576: true; the input reads as it did. -/
def fnExactCheckStampUptoRow : OpenClaim := { program := "ytkbdmocbeaejhaa", sum := "8258cc093642d8d6dc223adb885ff04fbed461fe5ccd2b106d4aa41e93b7552e", func := "loop.example/g00597/laws.FnExactCheckStamp", spec := "fnExactCheckStamp", unfollowed := true, recurses := true, apart := false, narrowed := true }
def FnExactCheckStampUptoSaid : Prop := fnExactCheckStampUptoRow.holds Try.pinned (OpenSpec.upto fnExactCheckStampSpec)

/-- 'laws.FnExactIsMandate', WHERE WHAT IT READS IS OF BULK AT MOST 1048576: true; the input reads as it did. -/
def fnExactIsMandateUptoRow : OpenClaim := { program := "ytkbdmocbeaejhaa", sum := "8258cc093642d8d6dc223adb885ff04fbed461fe5ccd2b106d4aa41e93b7552e", func := "loop.example/g00597/laws.FnExactIsMandate", spec := "fnExactIsMandate", apart := false, narrowed := true }
def FnExactIsMandateUptoSaid : Prop := fnExactIsMandateUptoRow.holds Try.pinned (OpenSpec.upto fnExactIsMandateSpec)

/-- 'laws.FnExactMandateInts', WHERE WHAT IT READS IS OF BULK AT MOST 1048576: true; the input reads as it did. -/
def fnExactMandateIntsUptoRow : OpenClaim := { program := "ytkbdmocbeaejhaa", sum := "8258cc093642d8d6dc223adb885ff04fbed461fe5ccd2b106d4aa41e93b7552e", func := "loop.example/g00597/laws.FnExactMandateInts", spec := "fnExactMandateInts", apart := false, narrowed := true }
def FnExactMandateIntsUptoSaid : Prop := fnExactMandateIntsUptoRow.holds Try.pinned (OpenSpec.upto fnExactMandateIntsSpec)

/-- 'laws.FnExactMakeMandate', WHERE WHAT IT READS IS OF BULK AT MOST 1048576: true; the input reads as it did. -/
def fnExactMakeMandateUptoRow : OpenClaim := { program := "ytkbdmocbeaejhaa", sum := "8258cc093642d8d6dc223adb885ff04fbed461fe5ccd2b106d4aa41e93b7552e", func := "loop.example/g00597/laws.FnExactMakeMandate", spec := "fnExactMakeMandate", unfollowed := true, recurses := true, apart := false, narrowed := true }
def FnExactMakeMandateUptoSaid : Prop := fnExactMakeMandateUptoRow.holds Try.pinned (OpenSpec.upto fnExactMakeMandateSpec)

/-- 'laws.FnExactCheckMandate', WHERE WHAT IT READS IS OF BULK AT MOST 1048576: true; the input reads as it did. -/
def fnExactCheckMandateUptoRow : OpenClaim := { program := "ytkbdmocbeaejhaa", sum := "8258cc093642d8d6dc223adb885ff04fbed461fe5ccd2b106d4aa41e93b7552e", func := "loop.example/g00597/laws.FnExactCheckMandate", spec := "fnExactCheckMandate", unfollowed := true, recurses := true, apart := false, narrowed := true }
def FnExactCheckMandateUptoSaid : Prop := fnExactCheckMandateUptoRow.holds Try.pinned (OpenSpec.upto fnExactCheckMandateSpec)

/-- 'laws.FnExactSuccessionInts', WHERE WHAT IT READS IS OF BULK AT MOST 1048576: true; the input reads as it did. -/
def fnExactSuccessionIntsUptoRow : OpenClaim := { program := "ytkbdmocbeaejhaa", sum := "8258cc093642d8d6dc223adb885ff04fbed461fe5ccd2b106d4aa41e93b7552e", func := "loop.example/g00597/laws.FnExactSuccessionInts", spec := "fnExactSuccessionInts", apart := false, narrowed := true }
def FnExactSuccessionIntsUptoSaid : Prop := fnExactSuccessionIntsUptoRow.holds Try.pinned (OpenSpec.upto fnExactSuccessionIntsSpec)

/-- 'laws.FnExactMakeSuccession', WHERE WHAT IT READS IS OF BULK AT MOST 1048576: true; the input reads as it did. -/
def fnExactMakeSuccessionUptoRow : OpenClaim := { program := "ytkbdmocbeaejhaa", sum := "8258cc093642d8d6dc223adb885ff04fbed461fe5ccd2b106d4aa41e93b7552e", func := "loop.example/g00597/laws.FnExactMakeSuccession", spec := "fnExactMakeSuccession", unfollowed := true, recurses := true, apart := false, narrowed := true }
def FnExactMakeSuccessionUptoSaid : Prop := fnExactMakeSuccessionUptoRow.holds Try.pinned (OpenSpec.upto fnExactMakeSuccessionSpec)

/-- 'laws.FnExactCheckSuccession', WHERE WHAT IT READS IS OF BULK AT MOST 1048576: true; the input reads as it did. -/
def fnExactCheckSuccessionUptoRow : OpenClaim := { program := "ytkbdmocbeaejhaa", sum := "8258cc093642d8d6dc223adb885ff04fbed461fe5ccd2b106d4aa41e93b7552e", func := "loop.example/g00597/laws.FnExactCheckSuccession", spec := "fnExactCheckSuccession", unfollowed := true, recurses := true, apart := false, narrowed := true }
def FnExactCheckSuccessionUptoSaid : Prop := fnExactCheckSuccessionUptoRow.holds Try.pinned (OpenSpec.upto fnExactCheckSuccessionSpec)

/-- 'laws.FnExactNextKey', WHERE WHAT IT READS IS OF BULK AT MOST 1048576: true; the input reads as it did. -/
def fnExactNextKeyUptoRow : OpenClaim := { program := "ytkbdmocbeaejhaa", sum := "8258cc093642d8d6dc223adb885ff04fbed461fe5ccd2b106d4aa41e93b7552e", func := "loop.example/g00597/laws.FnExactNextKey", spec := "fnExactNextKey", unfollowed := true, recurses := true, apart := false, narrowed := true }
def FnExactNextKeyUptoSaid : Prop := fnExactNextKeyUptoRow.holds Try.pinned (OpenSpec.upto fnExactNextKeySpec)

/-- 'laws.FnExactKeyLine', WHERE WHAT IT READS IS OF BULK AT MOST 1048576: true; the input reads as it did. -/
def fnExactKeyLineUptoRow : OpenClaim := { program := "ytkbdmocbeaejhaa", sum := "8258cc093642d8d6dc223adb885ff04fbed461fe5ccd2b106d4aa41e93b7552e", func := "loop.example/g00597/laws.FnExactKeyLine", spec := "fnExactKeyLine", unfollowed := true, recurses := true, apart := false, narrowed := true }
def FnExactKeyLineUptoSaid : Prop := fnExactKeyLineUptoRow.holds Try.pinned (OpenSpec.upto fnExactKeyLineSpec)

/-- 'laws.FnExactCurrentKey', WHERE WHAT IT READS IS OF BULK AT MOST 1048576: true; the input reads as it did. -/
def fnExactCurrentKeyUptoRow : OpenClaim := { program := "ytkbdmocbeaejhaa", sum := "8258cc093642d8d6dc223adb885ff04fbed461fe5ccd2b106d4aa41e93b7552e", func := "loop.example/g00597/laws.FnExactCurrentKey", spec := "fnExactCurrentKey", unfollowed := true, recurses := true, apart := false, narrowed := true }
def FnExactCurrentKeyUptoSaid : Prop := fnExactCurrentKeyUptoRow.holds Try.pinned (OpenSpec.upto fnExactCurrentKeySpec)

end Rows
end Go.Proofs.Ytkbdmocbeaejhaa
