/-
  No cell of these rows narrows 'for every input' (looked for: loops, veiled, ifaces, maps, wideKeys, modest, calm, conditions, laid).
  DERIVED. THE GIVEN ROWS OF THIS SEAT. 16 by the template 'for every input the law returns true; each argument reads behind the call as it read before'; 0 by the template 'total and deterministic' (their statements: YtllkpapkkgfjaabTotals.lean).
  GIVEN WITH THE SEED: the statements are not yours to turn. If you find one false, say at which input.
  Laid BY PROGRAM, IN A SANDBOX (cutbox-rows.mjs): the forced cells as the released guide's own fill.sh prints them over the translation 6048d33bacdb79ef… (all of the seat's roots in one cut). By AI agents, Wed Nov 11 2026. No macro, syntax, notation, axiom, sorry.
-/
import Derived.Test.YtllkpapkkgfjaabChecked
import GoSem.Claim
import GoSem.ClaimJoined
import GoSem.ClaimMapViews
import Derived.JoinedTies
import Derived.KernelRfl
namespace Go.Proofs.Ytllkpapkkgfjaab
/- THE CELL 'sum', in the pinned program and in every row, IS THE sha256 OF THE DUMP (.gsa) THAT YtllkpapkkgfjaabProg.lean LOADS. Nothing in Lean hashes anything: it is a label: what it is worth is what the hold of that sum in a sandbox is worth. -/
noncomputable def Try.pinned : Pinned := { name := "ytllkpapkkgfjaab", sum := "6048d33bacdb79efe296c88e07d1a69c95a588e144fdf2249c1489d5d08deda4", checked := Try.checked }
namespace Rows
def none {H : Type} : Left H := { results := [], args := [] }

/-- 'laws.FnAnswers': WHATEVER THE INPUT: true; the input reads as it did. -/
def fnAnswersSpec : ChangeSpec := { name := "fnAnswers", fn := fun _ => fun
  | [d] => { results := [.lit (.bool true)], args := [d] }
  | _ => none }
def fnAnswersRow : OpenClaim := { program := "ytllkpapkkgfjaab", sum := "6048d33bacdb79efe296c88e07d1a69c95a588e144fdf2249c1489d5d08deda4", func := "loop.example/g00597/laws.FnAnswers", spec := "fnAnswers", unfollowed := true, recurses := true, apart := false }
def FnAnswersSaid : Prop := fnAnswersRow.holds Try.pinned (OpenSpec.ofChange fnAnswersSpec)

/-- ITS FALSE NEIGHBOUR: 'it returns false'. Refute it at one input. -/
def fnAnswersWrong : ChangeSpec := { name := "fnAnswers", fn := fun _ => fun
  | [d] => { results := [.lit (.bool false)], args := [d] }
  | _ => none }
def FnAnswersWrongFalsely : Prop := fnAnswersRow.holds Try.pinned (OpenSpec.ofChange fnAnswersWrong)

/-- 'laws.FnExactIsStatus': WHATEVER THE INPUT: true; the input reads as it did. -/
def fnExactIsStatusSpec : ChangeSpec := { name := "fnExactIsStatus", fn := fun _ => fun
  | [d] => { results := [.lit (.bool true)], args := [d] }
  | _ => none }
def fnExactIsStatusRow : OpenClaim := { program := "ytllkpapkkgfjaab", sum := "6048d33bacdb79efe296c88e07d1a69c95a588e144fdf2249c1489d5d08deda4", func := "loop.example/g00597/laws.FnExactIsStatus", spec := "fnExactIsStatus", apart := false }
def FnExactIsStatusSaid : Prop := fnExactIsStatusRow.holds Try.pinned (OpenSpec.ofChange fnExactIsStatusSpec)

/-- ITS FALSE NEIGHBOUR: 'it returns false'. Refute it at one input. -/
def fnExactIsStatusWrong : ChangeSpec := { name := "fnExactIsStatus", fn := fun _ => fun
  | [d] => { results := [.lit (.bool false)], args := [d] }
  | _ => none }
def FnExactIsStatusWrongFalsely : Prop := fnExactIsStatusRow.holds Try.pinned (OpenSpec.ofChange fnExactIsStatusWrong)

/-- 'laws.FnExactStatusInts': WHATEVER THE INPUT: true; the input reads as it did. -/
def fnExactStatusIntsSpec : ChangeSpec := { name := "fnExactStatusInts", fn := fun _ => fun
  | [d] => { results := [.lit (.bool true)], args := [d] }
  | _ => none }
def fnExactStatusIntsRow : OpenClaim := { program := "ytllkpapkkgfjaab", sum := "6048d33bacdb79efe296c88e07d1a69c95a588e144fdf2249c1489d5d08deda4", func := "loop.example/g00597/laws.FnExactStatusInts", spec := "fnExactStatusInts", apart := false }
def FnExactStatusIntsSaid : Prop := fnExactStatusIntsRow.holds Try.pinned (OpenSpec.ofChange fnExactStatusIntsSpec)

/-- ITS FALSE NEIGHBOUR: 'it returns false'. Refute it at one input. -/
def fnExactStatusIntsWrong : ChangeSpec := { name := "fnExactStatusInts", fn := fun _ => fun
  | [d] => { results := [.lit (.bool false)], args := [d] }
  | _ => none }
def FnExactStatusIntsWrongFalsely : Prop := fnExactStatusIntsRow.holds Try.pinned (OpenSpec.ofChange fnExactStatusIntsWrong)

/-- 'laws.FnExactMakeStatus': WHATEVER THE INPUT: true; the input reads as it did. -/
def fnExactMakeStatusSpec : ChangeSpec := { name := "fnExactMakeStatus", fn := fun _ => fun
  | [d1, d2] => { results := [.lit (.bool true)], args := [d1, d2] }
  | _ => none }
def fnExactMakeStatusRow : OpenClaim := { program := "ytllkpapkkgfjaab", sum := "6048d33bacdb79efe296c88e07d1a69c95a588e144fdf2249c1489d5d08deda4", func := "loop.example/g00597/laws.FnExactMakeStatus", spec := "fnExactMakeStatus", unfollowed := true, recurses := true, apart := false }
def FnExactMakeStatusSaid : Prop := fnExactMakeStatusRow.holds Try.pinned (OpenSpec.ofChange fnExactMakeStatusSpec)

/-- ITS FALSE NEIGHBOUR: 'it returns false'. Refute it at one input. -/
def fnExactMakeStatusWrong : ChangeSpec := { name := "fnExactMakeStatus", fn := fun _ => fun
  | [d1, d2] => { results := [.lit (.bool false)], args := [d1, d2] }
  | _ => none }
def FnExactMakeStatusWrongFalsely : Prop := fnExactMakeStatusRow.holds Try.pinned (OpenSpec.ofChange fnExactMakeStatusWrong)

/-- 'laws.FnExactCheckStatus': WHATEVER THE INPUT: true; the input reads as it did. -/
def fnExactCheckStatusSpec : ChangeSpec := { name := "fnExactCheckStatus", fn := fun _ => fun
  | [d1, d2] => { results := [.lit (.bool true)], args := [d1, d2] }
  | _ => none }
def fnExactCheckStatusRow : OpenClaim := { program := "ytllkpapkkgfjaab", sum := "6048d33bacdb79efe296c88e07d1a69c95a588e144fdf2249c1489d5d08deda4", func := "loop.example/g00597/laws.FnExactCheckStatus", spec := "fnExactCheckStatus", unfollowed := true, recurses := true, apart := false }
def FnExactCheckStatusSaid : Prop := fnExactCheckStatusRow.holds Try.pinned (OpenSpec.ofChange fnExactCheckStatusSpec)

/-- ITS FALSE NEIGHBOUR: 'it returns false'. Refute it at one input. -/
def fnExactCheckStatusWrong : ChangeSpec := { name := "fnExactCheckStatus", fn := fun _ => fun
  | [d1, d2] => { results := [.lit (.bool false)], args := [d1, d2] }
  | _ => none }
def FnExactCheckStatusWrongFalsely : Prop := fnExactCheckStatusRow.holds Try.pinned (OpenSpec.ofChange fnExactCheckStatusWrong)

/-- 'laws.FnExactGoodUntil': WHATEVER THE INPUT: true; the input reads as it did. -/
def fnExactGoodUntilSpec : ChangeSpec := { name := "fnExactGoodUntil", fn := fun _ => fun
  | [d1, d2] => { results := [.lit (.bool true)], args := [d1, d2] }
  | _ => none }
def fnExactGoodUntilRow : OpenClaim := { program := "ytllkpapkkgfjaab", sum := "6048d33bacdb79efe296c88e07d1a69c95a588e144fdf2249c1489d5d08deda4", func := "loop.example/g00597/laws.FnExactGoodUntil", spec := "fnExactGoodUntil", unfollowed := true, recurses := true, apart := false }
def FnExactGoodUntilSaid : Prop := fnExactGoodUntilRow.holds Try.pinned (OpenSpec.ofChange fnExactGoodUntilSpec)

/-- ITS FALSE NEIGHBOUR: 'it returns false'. Refute it at one input. -/
def fnExactGoodUntilWrong : ChangeSpec := { name := "fnExactGoodUntil", fn := fun _ => fun
  | [d1, d2] => { results := [.lit (.bool false)], args := [d1, d2] }
  | _ => none }
def FnExactGoodUntilWrongFalsely : Prop := fnExactGoodUntilRow.holds Try.pinned (OpenSpec.ofChange fnExactGoodUntilWrong)

/-- 'laws.FnExactBadFrom': WHATEVER THE INPUT: true; the input reads as it did. -/
def fnExactBadFromSpec : ChangeSpec := { name := "fnExactBadFrom", fn := fun _ => fun
  | [d1, d2] => { results := [.lit (.bool true)], args := [d1, d2] }
  | _ => none }
def fnExactBadFromRow : OpenClaim := { program := "ytllkpapkkgfjaab", sum := "6048d33bacdb79efe296c88e07d1a69c95a588e144fdf2249c1489d5d08deda4", func := "loop.example/g00597/laws.FnExactBadFrom", spec := "fnExactBadFrom", unfollowed := true, recurses := true, apart := false }
def FnExactBadFromSaid : Prop := fnExactBadFromRow.holds Try.pinned (OpenSpec.ofChange fnExactBadFromSpec)

/-- ITS FALSE NEIGHBOUR: 'it returns false'. Refute it at one input. -/
def fnExactBadFromWrong : ChangeSpec := { name := "fnExactBadFrom", fn := fun _ => fun
  | [d1, d2] => { results := [.lit (.bool false)], args := [d1, d2] }
  | _ => none }
def FnExactBadFromWrongFalsely : Prop := fnExactBadFromRow.holds Try.pinned (OpenSpec.ofChange fnExactBadFromWrong)

/-- 'laws.FnExactIsAgreed': WHATEVER THE INPUT: true; the input reads as it did. -/
def fnExactIsAgreedSpec : ChangeSpec := { name := "fnExactIsAgreed", fn := fun _ => fun
  | [d1, d2] => { results := [.lit (.bool true)], args := [d1, d2] }
  | _ => none }
def fnExactIsAgreedRow : OpenClaim := { program := "ytllkpapkkgfjaab", sum := "6048d33bacdb79efe296c88e07d1a69c95a588e144fdf2249c1489d5d08deda4", func := "loop.example/g00597/laws.FnExactIsAgreed", spec := "fnExactIsAgreed", unfollowed := true, recurses := true, apart := false }
def FnExactIsAgreedSaid : Prop := fnExactIsAgreedRow.holds Try.pinned (OpenSpec.ofChange fnExactIsAgreedSpec)

/-- ITS FALSE NEIGHBOUR: 'it returns false'. Refute it at one input. -/
def fnExactIsAgreedWrong : ChangeSpec := { name := "fnExactIsAgreed", fn := fun _ => fun
  | [d1, d2] => { results := [.lit (.bool false)], args := [d1, d2] }
  | _ => none }
def FnExactIsAgreedWrongFalsely : Prop := fnExactIsAgreedRow.holds Try.pinned (OpenSpec.ofChange fnExactIsAgreedWrong)

/-- 'laws.FnStamps': WHATEVER THE INPUT: true; the input reads as it did. -/
def fnStampsSpec : ChangeSpec := { name := "fnStamps", fn := fun _ => fun
  | [d] => { results := [.lit (.bool true)], args := [d] }
  | _ => none }
def fnStampsRow : OpenClaim := { program := "ytllkpapkkgfjaab", sum := "6048d33bacdb79efe296c88e07d1a69c95a588e144fdf2249c1489d5d08deda4", func := "loop.example/g00597/laws.FnStamps", spec := "fnStamps", unfollowed := true, recurses := true, apart := false }
def FnStampsSaid : Prop := fnStampsRow.holds Try.pinned (OpenSpec.ofChange fnStampsSpec)

/-- ITS FALSE NEIGHBOUR: 'it returns false'. Refute it at one input. -/
def fnStampsWrong : ChangeSpec := { name := "fnStamps", fn := fun _ => fun
  | [d] => { results := [.lit (.bool false)], args := [d] }
  | _ => none }
def FnStampsWrongFalsely : Prop := fnStampsRow.holds Try.pinned (OpenSpec.ofChange fnStampsWrong)

/-- 'laws.FnExactAreAuthorities': WHATEVER THE INPUT: true; the input reads as it did. -/
def fnExactAreAuthoritiesSpec : ChangeSpec := { name := "fnExactAreAuthorities", fn := fun _ => fun
  | [d] => { results := [.lit (.bool true)], args := [d] }
  | _ => none }
def fnExactAreAuthoritiesRow : OpenClaim := { program := "ytllkpapkkgfjaab", sum := "6048d33bacdb79efe296c88e07d1a69c95a588e144fdf2249c1489d5d08deda4", func := "loop.example/g00597/laws.FnExactAreAuthorities", spec := "fnExactAreAuthorities", unfollowed := true, recurses := true, apart := false }
def FnExactAreAuthoritiesSaid : Prop := fnExactAreAuthoritiesRow.holds Try.pinned (OpenSpec.ofChange fnExactAreAuthoritiesSpec)

/-- ITS FALSE NEIGHBOUR: 'it returns false'. Refute it at one input. -/
def fnExactAreAuthoritiesWrong : ChangeSpec := { name := "fnExactAreAuthorities", fn := fun _ => fun
  | [d] => { results := [.lit (.bool false)], args := [d] }
  | _ => none }
def FnExactAreAuthoritiesWrongFalsely : Prop := fnExactAreAuthoritiesRow.holds Try.pinned (OpenSpec.ofChange fnExactAreAuthoritiesWrong)

/-- 'laws.FnExactFindAuthority': WHATEVER THE INPUT: true; the input reads as it did. -/
def fnExactFindAuthoritySpec : ChangeSpec := { name := "fnExactFindAuthority", fn := fun _ => fun
  | [d1, d2] => { results := [.lit (.bool true)], args := [d1, d2] }
  | _ => none }
def fnExactFindAuthorityRow : OpenClaim := { program := "ytllkpapkkgfjaab", sum := "6048d33bacdb79efe296c88e07d1a69c95a588e144fdf2249c1489d5d08deda4", func := "loop.example/g00597/laws.FnExactFindAuthority", spec := "fnExactFindAuthority", unfollowed := true, recurses := true, apart := false }
def FnExactFindAuthoritySaid : Prop := fnExactFindAuthorityRow.holds Try.pinned (OpenSpec.ofChange fnExactFindAuthoritySpec)

/-- ITS FALSE NEIGHBOUR: 'it returns false'. Refute it at one input. -/
def fnExactFindAuthorityWrong : ChangeSpec := { name := "fnExactFindAuthority", fn := fun _ => fun
  | [d1, d2] => { results := [.lit (.bool false)], args := [d1, d2] }
  | _ => none }
def FnExactFindAuthorityWrongFalsely : Prop := fnExactFindAuthorityRow.holds Try.pinned (OpenSpec.ofChange fnExactFindAuthorityWrong)

/-- 'laws.FnExactStampInts': WHATEVER THE INPUT: true; the input reads as it did. -/
def fnExactStampIntsSpec : ChangeSpec := { name := "fnExactStampInts", fn := fun _ => fun
  | [d] => { results := [.lit (.bool true)], args := [d] }
  | _ => none }
def fnExactStampIntsRow : OpenClaim := { program := "ytllkpapkkgfjaab", sum := "6048d33bacdb79efe296c88e07d1a69c95a588e144fdf2249c1489d5d08deda4", func := "loop.example/g00597/laws.FnExactStampInts", spec := "fnExactStampInts", apart := false }
def FnExactStampIntsSaid : Prop := fnExactStampIntsRow.holds Try.pinned (OpenSpec.ofChange fnExactStampIntsSpec)

/-- ITS FALSE NEIGHBOUR: 'it returns false'. Refute it at one input. -/
def fnExactStampIntsWrong : ChangeSpec := { name := "fnExactStampInts", fn := fun _ => fun
  | [d] => { results := [.lit (.bool false)], args := [d] }
  | _ => none }
def FnExactStampIntsWrongFalsely : Prop := fnExactStampIntsRow.holds Try.pinned (OpenSpec.ofChange fnExactStampIntsWrong)

/-- 'laws.FnExactMakeStamp': WHATEVER THE INPUT: true; the input reads as it did. -/
def fnExactMakeStampSpec : ChangeSpec := { name := "fnExactMakeStamp", fn := fun _ => fun
  | [d1, d2, d3] => { results := [.lit (.bool true)], args := [d1, d2, d3] }
  | _ => none }
def fnExactMakeStampRow : OpenClaim := { program := "ytllkpapkkgfjaab", sum := "6048d33bacdb79efe296c88e07d1a69c95a588e144fdf2249c1489d5d08deda4", func := "loop.example/g00597/laws.FnExactMakeStamp", spec := "fnExactMakeStamp", unfollowed := true, recurses := true, apart := false }
def FnExactMakeStampSaid : Prop := fnExactMakeStampRow.holds Try.pinned (OpenSpec.ofChange fnExactMakeStampSpec)

/-- ITS FALSE NEIGHBOUR: 'it returns false'. Refute it at one input. -/
def fnExactMakeStampWrong : ChangeSpec := { name := "fnExactMakeStamp", fn := fun _ => fun
  | [d1, d2, d3] => { results := [.lit (.bool false)], args := [d1, d2, d3] }
  | _ => none }
def FnExactMakeStampWrongFalsely : Prop := fnExactMakeStampRow.holds Try.pinned (OpenSpec.ofChange fnExactMakeStampWrong)

/-- 'laws.FnExactCheckStamp': WHATEVER THE INPUT: true; the input reads as it did. -/
def fnExactCheckStampSpec : ChangeSpec := { name := "fnExactCheckStamp", fn := fun _ => fun
  | [d1, d2, d3] => { results := [.lit (.bool true)], args := [d1, d2, d3] }
  | _ => none }
def fnExactCheckStampRow : OpenClaim := { program := "ytllkpapkkgfjaab", sum := "6048d33bacdb79efe296c88e07d1a69c95a588e144fdf2249c1489d5d08deda4", func := "loop.example/g00597/laws.FnExactCheckStamp", spec := "fnExactCheckStamp", unfollowed := true, recurses := true, apart := false }
def FnExactCheckStampSaid : Prop := fnExactCheckStampRow.holds Try.pinned (OpenSpec.ofChange fnExactCheckStampSpec)

/-- ITS FALSE NEIGHBOUR: 'it returns false'. Refute it at one input. -/
def fnExactCheckStampWrong : ChangeSpec := { name := "fnExactCheckStamp", fn := fun _ => fun
  | [d1, d2, d3] => { results := [.lit (.bool false)], args := [d1, d2, d3] }
  | _ => none }
def FnExactCheckStampWrongFalsely : Prop := fnExactCheckStampRow.holds Try.pinned (OpenSpec.ofChange fnExactCheckStampWrong)

/-- 'laws.FnExactStampSpan': WHATEVER THE INPUT: true; the input reads as it did. -/
def fnExactStampSpanSpec : ChangeSpec := { name := "fnExactStampSpan", fn := fun _ => fun
  | [d1, d2] => { results := [.lit (.bool true)], args := [d1, d2] }
  | _ => none }
def fnExactStampSpanRow : OpenClaim := { program := "ytllkpapkkgfjaab", sum := "6048d33bacdb79efe296c88e07d1a69c95a588e144fdf2249c1489d5d08deda4", func := "loop.example/g00597/laws.FnExactStampSpan", spec := "fnExactStampSpan", unfollowed := true, recurses := true, apart := false }
def FnExactStampSpanSaid : Prop := fnExactStampSpanRow.holds Try.pinned (OpenSpec.ofChange fnExactStampSpanSpec)

/-- ITS FALSE NEIGHBOUR: 'it returns false'. Refute it at one input. -/
def fnExactStampSpanWrong : ChangeSpec := { name := "fnExactStampSpan", fn := fun _ => fun
  | [d1, d2] => { results := [.lit (.bool false)], args := [d1, d2] }
  | _ => none }
def FnExactStampSpanWrongFalsely : Prop := fnExactStampSpanRow.holds Try.pinned (OpenSpec.ofChange fnExactStampSpanWrong)

/-- 'laws.FnExactStampKey': WHATEVER THE INPUT: true; the input reads as it did. -/
def fnExactStampKeySpec : ChangeSpec := { name := "fnExactStampKey", fn := fun _ => fun
  | [d1, d2] => { results := [.lit (.bool true)], args := [d1, d2] }
  | _ => none }
def fnExactStampKeyRow : OpenClaim := { program := "ytllkpapkkgfjaab", sum := "6048d33bacdb79efe296c88e07d1a69c95a588e144fdf2249c1489d5d08deda4", func := "loop.example/g00597/laws.FnExactStampKey", spec := "fnExactStampKey", unfollowed := true, recurses := true, apart := false }
def FnExactStampKeySaid : Prop := fnExactStampKeyRow.holds Try.pinned (OpenSpec.ofChange fnExactStampKeySpec)

/-- ITS FALSE NEIGHBOUR: 'it returns false'. Refute it at one input. -/
def fnExactStampKeyWrong : ChangeSpec := { name := "fnExactStampKey", fn := fun _ => fun
  | [d1, d2] => { results := [.lit (.bool false)], args := [d1, d2] }
  | _ => none }
def FnExactStampKeyWrongFalsely : Prop := fnExactStampKeyRow.holds Try.pinned (OpenSpec.ofChange fnExactStampKeyWrong)

/- THE SECOND FORM. 'bulk': how many values and letters a reading holds, each counted each time it is reached (what is shared counts as often as it is met; a slice's spare places count too). A statement '..UptoSaid' is the law's where the arguments, and the package variables that the reading takes, are together of bulk at most 1048576: NARROWER than '..Said'. Prove '..Said' where nothing that the law and all that it calls make is longer than what came in: it says more and counts as full. Else prove '..UptoSaid'. A law counts once. -/
mutual
def uptoBulk {H : Type} : DataW H → Nat
  | .lit (.string bytes) => bytes.length + 1
  | .lit _ => 1
  | .nil => 1
  | .ptr d => uptoBulk d + 1
  | .slice elems spare => uptoBulkAll elems + uptoBulkAll spare + 1
  | .agg parts => uptoBulkAll parts + 1
  | .iface _ d => uptoBulk d + 1
  | .map entries => uptoBulkEntries entries + 1
  | .held _ => 1
def uptoBulkAll {H : Type} : List (DataW H) → Nat
  | [] => 0
  | d :: r => uptoBulk d + uptoBulkAll r
def uptoBulkEntries {H : Type} : List (Lit × DataW H) → Nat
  | [] => 0
  | x :: r => uptoBulkEntry x + uptoBulkEntries r
def uptoBulkEntry {H : Type} : Lit × DataW H → Nat
  | (.string bytes, d) => bytes.length + uptoBulk d + 1
  | (_, d) => uptoBulk d + 1
 end
def uptoSmall : (H : Type) → List (DataW H) → Bool := fun _ ds => decide (uptoBulkAll ds ≤ 1048576)
def OpenSpec.upto (s : _root_.Go.ChangeSpec) : _root_.Go.OpenSpec := { _root_.Go.OpenSpec.ofChange s with cond := some uptoSmall }

/-- 'laws.FnAnswers', WHERE WHAT IT READS IS OF BULK AT MOST 1048576: true; the input reads as it did. -/
def fnAnswersUptoRow : OpenClaim := { program := "ytllkpapkkgfjaab", sum := "6048d33bacdb79efe296c88e07d1a69c95a588e144fdf2249c1489d5d08deda4", func := "loop.example/g00597/laws.FnAnswers", spec := "fnAnswers", unfollowed := true, recurses := true, apart := false, narrowed := true }
def FnAnswersUptoSaid : Prop := fnAnswersUptoRow.holds Try.pinned (OpenSpec.upto fnAnswersSpec)

/-- 'laws.FnExactIsStatus', WHERE WHAT IT READS IS OF BULK AT MOST 1048576: true; the input reads as it did. -/
def fnExactIsStatusUptoRow : OpenClaim := { program := "ytllkpapkkgfjaab", sum := "6048d33bacdb79efe296c88e07d1a69c95a588e144fdf2249c1489d5d08deda4", func := "loop.example/g00597/laws.FnExactIsStatus", spec := "fnExactIsStatus", apart := false, narrowed := true }
def FnExactIsStatusUptoSaid : Prop := fnExactIsStatusUptoRow.holds Try.pinned (OpenSpec.upto fnExactIsStatusSpec)

/-- 'laws.FnExactStatusInts', WHERE WHAT IT READS IS OF BULK AT MOST 1048576: true; the input reads as it did. -/
def fnExactStatusIntsUptoRow : OpenClaim := { program := "ytllkpapkkgfjaab", sum := "6048d33bacdb79efe296c88e07d1a69c95a588e144fdf2249c1489d5d08deda4", func := "loop.example/g00597/laws.FnExactStatusInts", spec := "fnExactStatusInts", apart := false, narrowed := true }
def FnExactStatusIntsUptoSaid : Prop := fnExactStatusIntsUptoRow.holds Try.pinned (OpenSpec.upto fnExactStatusIntsSpec)

/-- 'laws.FnExactMakeStatus', WHERE WHAT IT READS IS OF BULK AT MOST 1048576: true; the input reads as it did. -/
def fnExactMakeStatusUptoRow : OpenClaim := { program := "ytllkpapkkgfjaab", sum := "6048d33bacdb79efe296c88e07d1a69c95a588e144fdf2249c1489d5d08deda4", func := "loop.example/g00597/laws.FnExactMakeStatus", spec := "fnExactMakeStatus", unfollowed := true, recurses := true, apart := false, narrowed := true }
def FnExactMakeStatusUptoSaid : Prop := fnExactMakeStatusUptoRow.holds Try.pinned (OpenSpec.upto fnExactMakeStatusSpec)

/-- 'laws.FnExactCheckStatus', WHERE WHAT IT READS IS OF BULK AT MOST 1048576: true; the input reads as it did. -/
def fnExactCheckStatusUptoRow : OpenClaim := { program := "ytllkpapkkgfjaab", sum := "6048d33bacdb79efe296c88e07d1a69c95a588e144fdf2249c1489d5d08deda4", func := "loop.example/g00597/laws.FnExactCheckStatus", spec := "fnExactCheckStatus", unfollowed := true, recurses := true, apart := false, narrowed := true }
def FnExactCheckStatusUptoSaid : Prop := fnExactCheckStatusUptoRow.holds Try.pinned (OpenSpec.upto fnExactCheckStatusSpec)

/-- 'laws.FnExactGoodUntil', WHERE WHAT IT READS IS OF BULK AT MOST 1048576: true; the input reads as it did. -/
def fnExactGoodUntilUptoRow : OpenClaim := { program := "ytllkpapkkgfjaab", sum := "6048d33bacdb79efe296c88e07d1a69c95a588e144fdf2249c1489d5d08deda4", func := "loop.example/g00597/laws.FnExactGoodUntil", spec := "fnExactGoodUntil", unfollowed := true, recurses := true, apart := false, narrowed := true }
def FnExactGoodUntilUptoSaid : Prop := fnExactGoodUntilUptoRow.holds Try.pinned (OpenSpec.upto fnExactGoodUntilSpec)

/-- 'laws.FnExactBadFrom', WHERE WHAT IT READS IS OF BULK AT MOST 1048576: true; the input reads as it did. -/
def fnExactBadFromUptoRow : OpenClaim := { program := "ytllkpapkkgfjaab", sum := "6048d33bacdb79efe296c88e07d1a69c95a588e144fdf2249c1489d5d08deda4", func := "loop.example/g00597/laws.FnExactBadFrom", spec := "fnExactBadFrom", unfollowed := true, recurses := true, apart := false, narrowed := true }
def FnExactBadFromUptoSaid : Prop := fnExactBadFromUptoRow.holds Try.pinned (OpenSpec.upto fnExactBadFromSpec)

/-- 'laws.FnExactIsAgreed', WHERE WHAT IT READS IS OF BULK AT MOST 1048576: true; the input reads as it did. -/
def fnExactIsAgreedUptoRow : OpenClaim := { program := "ytllkpapkkgfjaab", sum := "6048d33bacdb79efe296c88e07d1a69c95a588e144fdf2249c1489d5d08deda4", func := "loop.example/g00597/laws.FnExactIsAgreed", spec := "fnExactIsAgreed", unfollowed := true, recurses := true, apart := false, narrowed := true }
def FnExactIsAgreedUptoSaid : Prop := fnExactIsAgreedUptoRow.holds Try.pinned (OpenSpec.upto fnExactIsAgreedSpec)

/-- 'laws.FnStamps', WHERE WHAT IT READS IS OF BULK AT MOST 1048576: true; the input reads as it did. -/
def fnStampsUptoRow : OpenClaim := { program := "ytllkpapkkgfjaab", sum := "6048d33bacdb79efe296c88e07d1a69c95a588e144fdf2249c1489d5d08deda4", func := "loop.example/g00597/laws.FnStamps", spec := "fnStamps", unfollowed := true, recurses := true, apart := false, narrowed := true }
def FnStampsUptoSaid : Prop := fnStampsUptoRow.holds Try.pinned (OpenSpec.upto fnStampsSpec)

/-- 'laws.FnExactAreAuthorities', WHERE WHAT IT READS IS OF BULK AT MOST 1048576: true; the input reads as it did. -/
def fnExactAreAuthoritiesUptoRow : OpenClaim := { program := "ytllkpapkkgfjaab", sum := "6048d33bacdb79efe296c88e07d1a69c95a588e144fdf2249c1489d5d08deda4", func := "loop.example/g00597/laws.FnExactAreAuthorities", spec := "fnExactAreAuthorities", unfollowed := true, recurses := true, apart := false, narrowed := true }
def FnExactAreAuthoritiesUptoSaid : Prop := fnExactAreAuthoritiesUptoRow.holds Try.pinned (OpenSpec.upto fnExactAreAuthoritiesSpec)

/-- 'laws.FnExactFindAuthority', WHERE WHAT IT READS IS OF BULK AT MOST 1048576: true; the input reads as it did. -/
def fnExactFindAuthorityUptoRow : OpenClaim := { program := "ytllkpapkkgfjaab", sum := "6048d33bacdb79efe296c88e07d1a69c95a588e144fdf2249c1489d5d08deda4", func := "loop.example/g00597/laws.FnExactFindAuthority", spec := "fnExactFindAuthority", unfollowed := true, recurses := true, apart := false, narrowed := true }
def FnExactFindAuthorityUptoSaid : Prop := fnExactFindAuthorityUptoRow.holds Try.pinned (OpenSpec.upto fnExactFindAuthoritySpec)

/-- 'laws.FnExactStampInts', WHERE WHAT IT READS IS OF BULK AT MOST 1048576: true; the input reads as it did. -/
def fnExactStampIntsUptoRow : OpenClaim := { program := "ytllkpapkkgfjaab", sum := "6048d33bacdb79efe296c88e07d1a69c95a588e144fdf2249c1489d5d08deda4", func := "loop.example/g00597/laws.FnExactStampInts", spec := "fnExactStampInts", apart := false, narrowed := true }
def FnExactStampIntsUptoSaid : Prop := fnExactStampIntsUptoRow.holds Try.pinned (OpenSpec.upto fnExactStampIntsSpec)

/-- 'laws.FnExactMakeStamp', WHERE WHAT IT READS IS OF BULK AT MOST 1048576: true; the input reads as it did. -/
def fnExactMakeStampUptoRow : OpenClaim := { program := "ytllkpapkkgfjaab", sum := "6048d33bacdb79efe296c88e07d1a69c95a588e144fdf2249c1489d5d08deda4", func := "loop.example/g00597/laws.FnExactMakeStamp", spec := "fnExactMakeStamp", unfollowed := true, recurses := true, apart := false, narrowed := true }
def FnExactMakeStampUptoSaid : Prop := fnExactMakeStampUptoRow.holds Try.pinned (OpenSpec.upto fnExactMakeStampSpec)

/-- 'laws.FnExactCheckStamp', WHERE WHAT IT READS IS OF BULK AT MOST 1048576: true; the input reads as it did. -/
def fnExactCheckStampUptoRow : OpenClaim := { program := "ytllkpapkkgfjaab", sum := "6048d33bacdb79efe296c88e07d1a69c95a588e144fdf2249c1489d5d08deda4", func := "loop.example/g00597/laws.FnExactCheckStamp", spec := "fnExactCheckStamp", unfollowed := true, recurses := true, apart := false, narrowed := true }
def FnExactCheckStampUptoSaid : Prop := fnExactCheckStampUptoRow.holds Try.pinned (OpenSpec.upto fnExactCheckStampSpec)

/-- 'laws.FnExactStampSpan', WHERE WHAT IT READS IS OF BULK AT MOST 1048576: true; the input reads as it did. -/
def fnExactStampSpanUptoRow : OpenClaim := { program := "ytllkpapkkgfjaab", sum := "6048d33bacdb79efe296c88e07d1a69c95a588e144fdf2249c1489d5d08deda4", func := "loop.example/g00597/laws.FnExactStampSpan", spec := "fnExactStampSpan", unfollowed := true, recurses := true, apart := false, narrowed := true }
def FnExactStampSpanUptoSaid : Prop := fnExactStampSpanUptoRow.holds Try.pinned (OpenSpec.upto fnExactStampSpanSpec)

/-- 'laws.FnExactStampKey', WHERE WHAT IT READS IS OF BULK AT MOST 1048576: true; the input reads as it did. -/
def fnExactStampKeyUptoRow : OpenClaim := { program := "ytllkpapkkgfjaab", sum := "6048d33bacdb79efe296c88e07d1a69c95a588e144fdf2249c1489d5d08deda4", func := "loop.example/g00597/laws.FnExactStampKey", spec := "fnExactStampKey", unfollowed := true, recurses := true, apart := false, narrowed := true }
def FnExactStampKeyUptoSaid : Prop := fnExactStampKeyUptoRow.holds Try.pinned (OpenSpec.upto fnExactStampKeySpec)

end Rows
end Go.Proofs.Ytllkpapkkgfjaab
