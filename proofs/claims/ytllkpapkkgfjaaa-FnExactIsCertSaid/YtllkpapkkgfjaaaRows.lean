/-
  No cell of these rows narrows 'for every input' (looked for: loops, veiled, ifaces, maps, wideKeys, modest, calm, conditions, laid).
  DERIVED. THE GIVEN ROWS OF THIS SEAT. 14 by the template 'for every input the law returns true; each argument reads behind the call as it read before'; 0 by the template 'total and deterministic' (their statements: YtllkpapkkgfjaaaTotals.lean).
  GIVEN WITH THE SEED: the statements are not yours to turn. If you find one false, say at which input.
  Laid BY PROGRAM, IN A SANDBOX (cutbox-rows.mjs): the forced cells as the released guide's own fill.sh prints them over the translation 2960284b4b51d422… (all of the seat's roots in one cut). By AI agents, Wed Nov 11 2026. No macro, syntax, notation, axiom, sorry.
-/
import Derived.Test.YtllkpapkkgfjaaaChecked
import GoSem.Claim
import GoSem.ClaimJoined
import GoSem.ClaimMapViews
import Derived.JoinedTies
import Derived.KernelRfl
namespace Go.Proofs.Ytllkpapkkgfjaaa
/- THE CELL 'sum', in the pinned program and in every row, IS THE sha256 OF THE DUMP (.gsa) THAT YtllkpapkkgfjaaaProg.lean LOADS. Nothing in Lean hashes anything: it is a label: what it is worth is what the hold of that sum in a sandbox is worth. -/
noncomputable def Try.pinned : Pinned := { name := "ytllkpapkkgfjaaa", sum := "2960284b4b51d422eb65395eee5e8286656f27b644c5543e898603c732d5cfe2", checked := Try.checked }
namespace Rows
def none {H : Type} : Left H := { results := [], args := [] }

/-- 'laws.FnKeys': WHATEVER THE INPUT: true; the input reads as it did. -/
def fnKeysSpec : ChangeSpec := { name := "fnKeys", fn := fun _ => fun
  | [d] => { results := [.lit (.bool true)], args := [d] }
  | _ => none }
def fnKeysRow : OpenClaim := { program := "ytllkpapkkgfjaaa", sum := "2960284b4b51d422eb65395eee5e8286656f27b644c5543e898603c732d5cfe2", func := "loop.example/g00597/laws.FnKeys", spec := "fnKeys", unfollowed := true, recurses := true, apart := false }
def FnKeysSaid : Prop := fnKeysRow.holds Try.pinned (OpenSpec.ofChange fnKeysSpec)

/-- ITS FALSE NEIGHBOUR: 'it returns false'. Refute it at one input. -/
def fnKeysWrong : ChangeSpec := { name := "fnKeys", fn := fun _ => fun
  | [d] => { results := [.lit (.bool false)], args := [d] }
  | _ => none }
def FnKeysWrongFalsely : Prop := fnKeysRow.holds Try.pinned (OpenSpec.ofChange fnKeysWrong)

/-- 'laws.FnExactIsKey': WHATEVER THE INPUT: true; the input reads as it did. -/
def fnExactIsKeySpec : ChangeSpec := { name := "fnExactIsKey", fn := fun _ => fun
  | [d] => { results := [.lit (.bool true)], args := [d] }
  | _ => none }
def fnExactIsKeyRow : OpenClaim := { program := "ytllkpapkkgfjaaa", sum := "2960284b4b51d422eb65395eee5e8286656f27b644c5543e898603c732d5cfe2", func := "loop.example/g00597/laws.FnExactIsKey", spec := "fnExactIsKey", unfollowed := true, recurses := true, apart := false }
def FnExactIsKeySaid : Prop := fnExactIsKeyRow.holds Try.pinned (OpenSpec.ofChange fnExactIsKeySpec)

/-- ITS FALSE NEIGHBOUR: 'it returns false'. Refute it at one input. -/
def fnExactIsKeyWrong : ChangeSpec := { name := "fnExactIsKey", fn := fun _ => fun
  | [d] => { results := [.lit (.bool false)], args := [d] }
  | _ => none }
def FnExactIsKeyWrongFalsely : Prop := fnExactIsKeyRow.holds Try.pinned (OpenSpec.ofChange fnExactIsKeyWrong)

/-- 'laws.FnExactAreKeys': WHATEVER THE INPUT: true; the input reads as it did. -/
def fnExactAreKeysSpec : ChangeSpec := { name := "fnExactAreKeys", fn := fun _ => fun
  | [d] => { results := [.lit (.bool true)], args := [d] }
  | _ => none }
def fnExactAreKeysRow : OpenClaim := { program := "ytllkpapkkgfjaaa", sum := "2960284b4b51d422eb65395eee5e8286656f27b644c5543e898603c732d5cfe2", func := "loop.example/g00597/laws.FnExactAreKeys", spec := "fnExactAreKeys", unfollowed := true, recurses := true, apart := false }
def FnExactAreKeysSaid : Prop := fnExactAreKeysRow.holds Try.pinned (OpenSpec.ofChange fnExactAreKeysSpec)

/-- ITS FALSE NEIGHBOUR: 'it returns false'. Refute it at one input. -/
def fnExactAreKeysWrong : ChangeSpec := { name := "fnExactAreKeys", fn := fun _ => fun
  | [d] => { results := [.lit (.bool false)], args := [d] }
  | _ => none }
def FnExactAreKeysWrongFalsely : Prop := fnExactAreKeysRow.holds Try.pinned (OpenSpec.ofChange fnExactAreKeysWrong)

/-- 'laws.FnExactFindKey': WHATEVER THE INPUT: true; the input reads as it did. -/
def fnExactFindKeySpec : ChangeSpec := { name := "fnExactFindKey", fn := fun _ => fun
  | [d1, d2] => { results := [.lit (.bool true)], args := [d1, d2] }
  | _ => none }
def fnExactFindKeyRow : OpenClaim := { program := "ytllkpapkkgfjaaa", sum := "2960284b4b51d422eb65395eee5e8286656f27b644c5543e898603c732d5cfe2", func := "loop.example/g00597/laws.FnExactFindKey", spec := "fnExactFindKey", unfollowed := true, recurses := true, apart := false }
def FnExactFindKeySaid : Prop := fnExactFindKeyRow.holds Try.pinned (OpenSpec.ofChange fnExactFindKeySpec)

/-- ITS FALSE NEIGHBOUR: 'it returns false'. Refute it at one input. -/
def fnExactFindKeyWrong : ChangeSpec := { name := "fnExactFindKey", fn := fun _ => fun
  | [d1, d2] => { results := [.lit (.bool false)], args := [d1, d2] }
  | _ => none }
def FnExactFindKeyWrongFalsely : Prop := fnExactFindKeyRow.holds Try.pinned (OpenSpec.ofChange fnExactFindKeyWrong)

/-- 'laws.FnExactMarkWith': WHATEVER THE INPUT: true; the input reads as it did. -/
def fnExactMarkWithSpec : ChangeSpec := { name := "fnExactMarkWith", fn := fun _ => fun
  | [d1, d2] => { results := [.lit (.bool true)], args := [d1, d2] }
  | _ => none }
def fnExactMarkWithRow : OpenClaim := { program := "ytllkpapkkgfjaaa", sum := "2960284b4b51d422eb65395eee5e8286656f27b644c5543e898603c732d5cfe2", func := "loop.example/g00597/laws.FnExactMarkWith", spec := "fnExactMarkWith", apart := false }
def FnExactMarkWithSaid : Prop := fnExactMarkWithRow.holds Try.pinned (OpenSpec.ofChange fnExactMarkWithSpec)

/-- ITS FALSE NEIGHBOUR: 'it returns false'. Refute it at one input. -/
def fnExactMarkWithWrong : ChangeSpec := { name := "fnExactMarkWith", fn := fun _ => fun
  | [d1, d2] => { results := [.lit (.bool false)], args := [d1, d2] }
  | _ => none }
def FnExactMarkWithWrongFalsely : Prop := fnExactMarkWithRow.holds Try.pinned (OpenSpec.ofChange fnExactMarkWithWrong)

/-- 'laws.FnExactCheckMark': WHATEVER THE INPUT: true; the input reads as it did. -/
def fnExactCheckMarkSpec : ChangeSpec := { name := "fnExactCheckMark", fn := fun _ => fun
  | [d1, d2, d3, d4] => { results := [.lit (.bool true)], args := [d1, d2, d3, d4] }
  | _ => none }
def fnExactCheckMarkRow : OpenClaim := { program := "ytllkpapkkgfjaaa", sum := "2960284b4b51d422eb65395eee5e8286656f27b644c5543e898603c732d5cfe2", func := "loop.example/g00597/laws.FnExactCheckMark", spec := "fnExactCheckMark", unfollowed := true, recurses := true, apart := false }
def FnExactCheckMarkSaid : Prop := fnExactCheckMarkRow.holds Try.pinned (OpenSpec.ofChange fnExactCheckMarkSpec)

/-- ITS FALSE NEIGHBOUR: 'it returns false'. Refute it at one input. -/
def fnExactCheckMarkWrong : ChangeSpec := { name := "fnExactCheckMark", fn := fun _ => fun
  | [d1, d2, d3, d4] => { results := [.lit (.bool false)], args := [d1, d2, d3, d4] }
  | _ => none }
def FnExactCheckMarkWrongFalsely : Prop := fnExactCheckMarkRow.holds Try.pinned (OpenSpec.ofChange fnExactCheckMarkWrong)

/-- 'laws.FnExactKeysOf': WHATEVER THE INPUT: true; the input reads as it did. -/
def fnExactKeysOfSpec : ChangeSpec := { name := "fnExactKeysOf", fn := fun _ => fun
  | [d1, d2] => { results := [.lit (.bool true)], args := [d1, d2] }
  | _ => none }
def fnExactKeysOfRow : OpenClaim := { program := "ytllkpapkkgfjaaa", sum := "2960284b4b51d422eb65395eee5e8286656f27b644c5543e898603c732d5cfe2", func := "loop.example/g00597/laws.FnExactKeysOf", spec := "fnExactKeysOf", apart := false }
def FnExactKeysOfSaid : Prop := fnExactKeysOfRow.holds Try.pinned (OpenSpec.ofChange fnExactKeysOfSpec)

/-- ITS FALSE NEIGHBOUR: 'it returns false'. Refute it at one input. -/
def fnExactKeysOfWrong : ChangeSpec := { name := "fnExactKeysOf", fn := fun _ => fun
  | [d1, d2] => { results := [.lit (.bool false)], args := [d1, d2] }
  | _ => none }
def FnExactKeysOfWrongFalsely : Prop := fnExactKeysOfRow.holds Try.pinned (OpenSpec.ofChange fnExactKeysOfWrong)

/-- 'laws.FnExactOwnerOf': WHATEVER THE INPUT: true; the input reads as it did. -/
def fnExactOwnerOfSpec : ChangeSpec := { name := "fnExactOwnerOf", fn := fun _ => fun
  | [d1, d2] => { results := [.lit (.bool true)], args := [d1, d2] }
  | _ => none }
def fnExactOwnerOfRow : OpenClaim := { program := "ytllkpapkkgfjaaa", sum := "2960284b4b51d422eb65395eee5e8286656f27b644c5543e898603c732d5cfe2", func := "loop.example/g00597/laws.FnExactOwnerOf", spec := "fnExactOwnerOf", unfollowed := true, recurses := true, apart := false }
def FnExactOwnerOfSaid : Prop := fnExactOwnerOfRow.holds Try.pinned (OpenSpec.ofChange fnExactOwnerOfSpec)

/-- ITS FALSE NEIGHBOUR: 'it returns false'. Refute it at one input. -/
def fnExactOwnerOfWrong : ChangeSpec := { name := "fnExactOwnerOf", fn := fun _ => fun
  | [d1, d2] => { results := [.lit (.bool false)], args := [d1, d2] }
  | _ => none }
def FnExactOwnerOfWrongFalsely : Prop := fnExactOwnerOfRow.holds Try.pinned (OpenSpec.ofChange fnExactOwnerOfWrong)

/-- 'laws.FnExactIsCert': WHATEVER THE INPUT: true; the input reads as it did. -/
def fnExactIsCertSpec : ChangeSpec := { name := "fnExactIsCert", fn := fun _ => fun
  | [d] => { results := [.lit (.bool true)], args := [d] }
  | _ => none }
def fnExactIsCertRow : OpenClaim := { program := "ytllkpapkkgfjaaa", sum := "2960284b4b51d422eb65395eee5e8286656f27b644c5543e898603c732d5cfe2", func := "loop.example/g00597/laws.FnExactIsCert", spec := "fnExactIsCert", apart := false }
def FnExactIsCertSaid : Prop := fnExactIsCertRow.holds Try.pinned (OpenSpec.ofChange fnExactIsCertSpec)

/-- ITS FALSE NEIGHBOUR: 'it returns false'. Refute it at one input. -/
def fnExactIsCertWrong : ChangeSpec := { name := "fnExactIsCert", fn := fun _ => fun
  | [d] => { results := [.lit (.bool false)], args := [d] }
  | _ => none }
def FnExactIsCertWrongFalsely : Prop := fnExactIsCertRow.holds Try.pinned (OpenSpec.ofChange fnExactIsCertWrong)

/-- 'laws.FnExactCertInts': WHATEVER THE INPUT: true; the input reads as it did. -/
def fnExactCertIntsSpec : ChangeSpec := { name := "fnExactCertInts", fn := fun _ => fun
  | [d] => { results := [.lit (.bool true)], args := [d] }
  | _ => none }
def fnExactCertIntsRow : OpenClaim := { program := "ytllkpapkkgfjaaa", sum := "2960284b4b51d422eb65395eee5e8286656f27b644c5543e898603c732d5cfe2", func := "loop.example/g00597/laws.FnExactCertInts", spec := "fnExactCertInts", apart := false }
def FnExactCertIntsSaid : Prop := fnExactCertIntsRow.holds Try.pinned (OpenSpec.ofChange fnExactCertIntsSpec)

/-- ITS FALSE NEIGHBOUR: 'it returns false'. Refute it at one input. -/
def fnExactCertIntsWrong : ChangeSpec := { name := "fnExactCertInts", fn := fun _ => fun
  | [d] => { results := [.lit (.bool false)], args := [d] }
  | _ => none }
def FnExactCertIntsWrongFalsely : Prop := fnExactCertIntsRow.holds Try.pinned (OpenSpec.ofChange fnExactCertIntsWrong)

/-- 'laws.FnExactCertSpan': WHATEVER THE INPUT: true; the input reads as it did. -/
def fnExactCertSpanSpec : ChangeSpec := { name := "fnExactCertSpan", fn := fun _ => fun
  | [d] => { results := [.lit (.bool true)], args := [d] }
  | _ => none }
def fnExactCertSpanRow : OpenClaim := { program := "ytllkpapkkgfjaaa", sum := "2960284b4b51d422eb65395eee5e8286656f27b644c5543e898603c732d5cfe2", func := "loop.example/g00597/laws.FnExactCertSpan", spec := "fnExactCertSpan", apart := false }
def FnExactCertSpanSaid : Prop := fnExactCertSpanRow.holds Try.pinned (OpenSpec.ofChange fnExactCertSpanSpec)

/-- ITS FALSE NEIGHBOUR: 'it returns false'. Refute it at one input. -/
def fnExactCertSpanWrong : ChangeSpec := { name := "fnExactCertSpan", fn := fun _ => fun
  | [d] => { results := [.lit (.bool false)], args := [d] }
  | _ => none }
def FnExactCertSpanWrongFalsely : Prop := fnExactCertSpanRow.holds Try.pinned (OpenSpec.ofChange fnExactCertSpanWrong)

/-- 'laws.FnExactFindCert': WHATEVER THE INPUT: true; the input reads as it did. -/
def fnExactFindCertSpec : ChangeSpec := { name := "fnExactFindCert", fn := fun _ => fun
  | [d1, d2] => { results := [.lit (.bool true)], args := [d1, d2] }
  | _ => none }
def fnExactFindCertRow : OpenClaim := { program := "ytllkpapkkgfjaaa", sum := "2960284b4b51d422eb65395eee5e8286656f27b644c5543e898603c732d5cfe2", func := "loop.example/g00597/laws.FnExactFindCert", spec := "fnExactFindCert", unfollowed := true, recurses := true, apart := false }
def FnExactFindCertSaid : Prop := fnExactFindCertRow.holds Try.pinned (OpenSpec.ofChange fnExactFindCertSpec)

/-- ITS FALSE NEIGHBOUR: 'it returns false'. Refute it at one input. -/
def fnExactFindCertWrong : ChangeSpec := { name := "fnExactFindCert", fn := fun _ => fun
  | [d1, d2] => { results := [.lit (.bool false)], args := [d1, d2] }
  | _ => none }
def FnExactFindCertWrongFalsely : Prop := fnExactFindCertRow.holds Try.pinned (OpenSpec.ofChange fnExactFindCertWrong)

/-- 'laws.FnExactIsMethod': WHATEVER THE INPUT: true; the input reads as it did. -/
def fnExactIsMethodSpec : ChangeSpec := { name := "fnExactIsMethod", fn := fun _ => fun
  | [d] => { results := [.lit (.bool true)], args := [d] }
  | _ => none }
def fnExactIsMethodRow : OpenClaim := { program := "ytllkpapkkgfjaaa", sum := "2960284b4b51d422eb65395eee5e8286656f27b644c5543e898603c732d5cfe2", func := "loop.example/g00597/laws.FnExactIsMethod", spec := "fnExactIsMethod", unfollowed := true, recurses := true, apart := false }
def FnExactIsMethodSaid : Prop := fnExactIsMethodRow.holds Try.pinned (OpenSpec.ofChange fnExactIsMethodSpec)

/-- ITS FALSE NEIGHBOUR: 'it returns false'. Refute it at one input. -/
def fnExactIsMethodWrong : ChangeSpec := { name := "fnExactIsMethod", fn := fun _ => fun
  | [d] => { results := [.lit (.bool false)], args := [d] }
  | _ => none }
def FnExactIsMethodWrongFalsely : Prop := fnExactIsMethodRow.holds Try.pinned (OpenSpec.ofChange fnExactIsMethodWrong)

/-- 'laws.FnExactAreMethods': WHATEVER THE INPUT: true; the input reads as it did. -/
def fnExactAreMethodsSpec : ChangeSpec := { name := "fnExactAreMethods", fn := fun _ => fun
  | [d] => { results := [.lit (.bool true)], args := [d] }
  | _ => none }
def fnExactAreMethodsRow : OpenClaim := { program := "ytllkpapkkgfjaaa", sum := "2960284b4b51d422eb65395eee5e8286656f27b644c5543e898603c732d5cfe2", func := "loop.example/g00597/laws.FnExactAreMethods", spec := "fnExactAreMethods", unfollowed := true, recurses := true, apart := false }
def FnExactAreMethodsSaid : Prop := fnExactAreMethodsRow.holds Try.pinned (OpenSpec.ofChange fnExactAreMethodsSpec)

/-- ITS FALSE NEIGHBOUR: 'it returns false'. Refute it at one input. -/
def fnExactAreMethodsWrong : ChangeSpec := { name := "fnExactAreMethods", fn := fun _ => fun
  | [d] => { results := [.lit (.bool false)], args := [d] }
  | _ => none }
def FnExactAreMethodsWrongFalsely : Prop := fnExactAreMethodsRow.holds Try.pinned (OpenSpec.ofChange fnExactAreMethodsWrong)

/- THE SECOND FORM. 'bulk': how many values and letters a reading holds, each counted each time it is reached (what is shared counts as often as it is met; a slice's spare places count too). A statement '..UptoSaid' is the law's where the arguments, and the package variables that the reading takes, are together of bulk at most 1048576: NARROWER than '..Said'. Prove '..Said' where nothing that the law and all that it calls make is longer than what came in: it says more and counts as full. Else prove '..UptoSaid'. A law counts once. -/
mutual
def uptoBulk {H : Type} : DataW H → Nat
  | .lit (.string bytes) => bytes.length + 1
  | .lit _ => 1
  | .nil => 1
  | .ptr d => uptoBulk d + 1
  | .slice elems spare => uptoBulkAll elems + uptoBulkAll spare + 1
  | .agg parts => uptoBulkAll parts + 1
  | .iface _ d => uptoBulk d + 1
  | .map entries => uptoBulkEntries entries + 1
  | .held _ => 1
def uptoBulkAll {H : Type} : List (DataW H) → Nat
  | [] => 0
  | d :: r => uptoBulk d + uptoBulkAll r
def uptoBulkEntries {H : Type} : List (Lit × DataW H) → Nat
  | [] => 0
  | x :: r => uptoBulkEntry x + uptoBulkEntries r
def uptoBulkEntry {H : Type} : Lit × DataW H → Nat
  | (.string bytes, d) => bytes.length + uptoBulk d + 1
  | (_, d) => uptoBulk d + 1
 end
def uptoSmall : (H : Type) → List (DataW H) → Bool := fun _ ds => decide (uptoBulkAll ds ≤ 1048576)
def OpenSpec.upto (s : _root_.Go.ChangeSpec) : _root_.Go.OpenSpec := { _root_.Go.OpenSpec.ofChange s with cond := some uptoSmall }

/-- 'laws.FnKeys', WHERE WHAT IT READS IS OF BULK AT MOST 1048576: true; the input reads as it did. -/
def fnKeysUptoRow : OpenClaim := { program := "ytllkpapkkgfjaaa", sum := "2960284b4b51d422eb65395eee5e8286656f27b644c5543e898603c732d5cfe2", func := "loop.example/g00597/laws.FnKeys", spec := "fnKeys", unfollowed := true, recurses := true, apart := false, narrowed := true }
def FnKeysUptoSaid : Prop := fnKeysUptoRow.holds Try.pinned (OpenSpec.upto fnKeysSpec)

/-- 'laws.FnExactIsKey', WHERE WHAT IT READS IS OF BULK AT MOST 1048576: true; the input reads as it did. -/
def fnExactIsKeyUptoRow : OpenClaim := { program := "ytllkpapkkgfjaaa", sum := "2960284b4b51d422eb65395eee5e8286656f27b644c5543e898603c732d5cfe2", func := "loop.example/g00597/laws.FnExactIsKey", spec := "fnExactIsKey", unfollowed := true, recurses := true, apart := false, narrowed := true }
def FnExactIsKeyUptoSaid : Prop := fnExactIsKeyUptoRow.holds Try.pinned (OpenSpec.upto fnExactIsKeySpec)

/-- 'laws.FnExactAreKeys', WHERE WHAT IT READS IS OF BULK AT MOST 1048576: true; the input reads as it did. -/
def fnExactAreKeysUptoRow : OpenClaim := { program := "ytllkpapkkgfjaaa", sum := "2960284b4b51d422eb65395eee5e8286656f27b644c5543e898603c732d5cfe2", func := "loop.example/g00597/laws.FnExactAreKeys", spec := "fnExactAreKeys", unfollowed := true, recurses := true, apart := false, narrowed := true }
def FnExactAreKeysUptoSaid : Prop := fnExactAreKeysUptoRow.holds Try.pinned (OpenSpec.upto fnExactAreKeysSpec)

/-- 'laws.FnExactFindKey', WHERE WHAT IT READS IS OF BULK AT MOST 1048576: true; the input reads as it did. -/
def fnExactFindKeyUptoRow : OpenClaim := { program := "ytllkpapkkgfjaaa", sum := "2960284b4b51d422eb65395eee5e8286656f27b644c5543e898603c732d5cfe2", func := "loop.example/g00597/laws.FnExactFindKey", spec := "fnExactFindKey", unfollowed := true, recurses := true, apart := false, narrowed := true }
def FnExactFindKeyUptoSaid : Prop := fnExactFindKeyUptoRow.holds Try.pinned (OpenSpec.upto fnExactFindKeySpec)

/-- 'laws.FnExactMarkWith', WHERE WHAT IT READS IS OF BULK AT MOST 1048576: true; the input reads as it did. -/
def fnExactMarkWithUptoRow : OpenClaim := { program := "ytllkpapkkgfjaaa", sum := "2960284b4b51d422eb65395eee5e8286656f27b644c5543e898603c732d5cfe2", func := "loop.example/g00597/laws.FnExactMarkWith", spec := "fnExactMarkWith", apart := false, narrowed := true }
def FnExactMarkWithUptoSaid : Prop := fnExactMarkWithUptoRow.holds Try.pinned (OpenSpec.upto fnExactMarkWithSpec)

/-- 'laws.FnExactCheckMark', WHERE WHAT IT READS IS OF BULK AT MOST 1048576: true; the input reads as it did. -/
def fnExactCheckMarkUptoRow : OpenClaim := { program := "ytllkpapkkgfjaaa", sum := "2960284b4b51d422eb65395eee5e8286656f27b644c5543e898603c732d5cfe2", func := "loop.example/g00597/laws.FnExactCheckMark", spec := "fnExactCheckMark", unfollowed := true, recurses := true, apart := false, narrowed := true }
def FnExactCheckMarkUptoSaid : Prop := fnExactCheckMarkUptoRow.holds Try.pinned (OpenSpec.upto fnExactCheckMarkSpec)

/-- 'laws.FnExactKeysOf', WHERE WHAT IT READS IS OF BULK AT MOST 1048576: true; the input reads as it did. -/
def fnExactKeysOfUptoRow : OpenClaim := { program := "ytllkpapkkgfjaaa", sum := "2960284b4b51d422eb65395eee5e8286656f27b644c5543e898603c732d5cfe2", func := "loop.example/g00597/laws.FnExactKeysOf", spec := "fnExactKeysOf", apart := false, narrowed := true }
def FnExactKeysOfUptoSaid : Prop := fnExactKeysOfUptoRow.holds Try.pinned (OpenSpec.upto fnExactKeysOfSpec)

/-- 'laws.FnExactOwnerOf', WHERE WHAT IT READS IS OF BULK AT MOST 1048576: true; the input reads as it did. -/
def fnExactOwnerOfUptoRow : OpenClaim := { program := "ytllkpapkkgfjaaa", sum := "2960284b4b51d422eb65395eee5e8286656f27b644c5543e898603c732d5cfe2", func := "loop.example/g00597/laws.FnExactOwnerOf", spec := "fnExactOwnerOf", unfollowed := true, recurses := true, apart := false, narrowed := true }
def FnExactOwnerOfUptoSaid : Prop := fnExactOwnerOfUptoRow.holds Try.pinned (OpenSpec.upto fnExactOwnerOfSpec)

/-- 'laws.FnExactIsCert', WHERE WHAT IT READS IS OF BULK AT MOST 1048576: true; the input reads as it did. -/
def fnExactIsCertUptoRow : OpenClaim := { program := "ytllkpapkkgfjaaa", sum := "2960284b4b51d422eb65395eee5e8286656f27b644c5543e898603c732d5cfe2", func := "loop.example/g00597/laws.FnExactIsCert", spec := "fnExactIsCert", apart := false, narrowed := true }
def FnExactIsCertUptoSaid : Prop := fnExactIsCertUptoRow.holds Try.pinned (OpenSpec.upto fnExactIsCertSpec)

/-- 'laws.FnExactCertInts', WHERE WHAT IT READS IS OF BULK AT MOST 1048576: true; the input reads as it did. -/
def fnExactCertIntsUptoRow : OpenClaim := { program := "ytllkpapkkgfjaaa", sum := "2960284b4b51d422eb65395eee5e8286656f27b644c5543e898603c732d5cfe2", func := "loop.example/g00597/laws.FnExactCertInts", spec := "fnExactCertInts", apart := false, narrowed := true }
def FnExactCertIntsUptoSaid : Prop := fnExactCertIntsUptoRow.holds Try.pinned (OpenSpec.upto fnExactCertIntsSpec)

/-- 'laws.FnExactCertSpan', WHERE WHAT IT READS IS OF BULK AT MOST 1048576: true; the input reads as it did. -/
def fnExactCertSpanUptoRow : OpenClaim := { program := "ytllkpapkkgfjaaa", sum := "2960284b4b51d422eb65395eee5e8286656f27b644c5543e898603c732d5cfe2", func := "loop.example/g00597/laws.FnExactCertSpan", spec := "fnExactCertSpan", apart := false, narrowed := true }
def FnExactCertSpanUptoSaid : Prop := fnExactCertSpanUptoRow.holds Try.pinned (OpenSpec.upto fnExactCertSpanSpec)

/-- 'laws.FnExactFindCert', WHERE WHAT IT READS IS OF BULK AT MOST 1048576: true; the input reads as it did. -/
def fnExactFindCertUptoRow : OpenClaim := { program := "ytllkpapkkgfjaaa", sum := "2960284b4b51d422eb65395eee5e8286656f27b644c5543e898603c732d5cfe2", func := "loop.example/g00597/laws.FnExactFindCert", spec := "fnExactFindCert", unfollowed := true, recurses := true, apart := false, narrowed := true }
def FnExactFindCertUptoSaid : Prop := fnExactFindCertUptoRow.holds Try.pinned (OpenSpec.upto fnExactFindCertSpec)

/-- 'laws.FnExactIsMethod', WHERE WHAT IT READS IS OF BULK AT MOST 1048576: true; the input reads as it did. -/
def fnExactIsMethodUptoRow : OpenClaim := { program := "ytllkpapkkgfjaaa", sum := "2960284b4b51d422eb65395eee5e8286656f27b644c5543e898603c732d5cfe2", func := "loop.example/g00597/laws.FnExactIsMethod", spec := "fnExactIsMethod", unfollowed := true, recurses := true, apart := false, narrowed := true }
def FnExactIsMethodUptoSaid : Prop := fnExactIsMethodUptoRow.holds Try.pinned (OpenSpec.upto fnExactIsMethodSpec)

/-- 'laws.FnExactAreMethods', WHERE WHAT IT READS IS OF BULK AT MOST 1048576: true; the input reads as it did. -/
def fnExactAreMethodsUptoRow : OpenClaim := { program := "ytllkpapkkgfjaaa", sum := "2960284b4b51d422eb65395eee5e8286656f27b644c5543e898603c732d5cfe2", func := "loop.example/g00597/laws.FnExactAreMethods", spec := "fnExactAreMethods", unfollowed := true, recurses := true, apart := false, narrowed := true }
def FnExactAreMethodsUptoSaid : Prop := fnExactAreMethodsUptoRow.holds Try.pinned (OpenSpec.upto fnExactAreMethodsSpec)

end Rows
end Go.Proofs.Ytllkpapkkgfjaaa
