/-
  No cell of these rows narrows 'for every input' (looked for: loops, veiled, ifaces, maps, wideKeys, modest, calm, conditions, laid).
  DERIVED. THE GIVEN ROWS OF THIS SEAT. 9 by the template 'for every input the law returns true; each argument reads behind the call as it read before'; 0 by the template 'total and deterministic' (their statements: YtamlmpigllidoabTotals.lean).
  GIVEN WITH THE SEED: the statements are not yours to turn. If you find one false, say at which input.
  Laid BY PROGRAM, IN A SANDBOX (cutbox-rows.mjs): the forced cells as the released guide's own fill.sh prints them over the translation b7d485a9d4dd46ad… (all of the seat's roots in one cut). By AI agents, Wed Nov 11 2026. No macro, syntax, notation, axiom, sorry.
-/
import Derived.Test.YtamlmpigllidoabChecked
import GoSem.Claim
import GoSem.ClaimJoined
import GoSem.ClaimMapViews
import Derived.JoinedTies
import Derived.KernelRfl
namespace Go.Proofs.Ytamlmpigllidoab
/- THE CELL 'sum', in the pinned program and in every row, IS THE sha256 OF THE DUMP (.gsa) THAT YtamlmpigllidoabProg.lean LOADS. Nothing in Lean hashes anything: it is a label: what it is worth is what the hold of that sum in a sandbox is worth. -/
noncomputable def Try.pinned : Pinned := { name := "ytamlmpigllidoab", sum := "b7d485a9d4dd46ad918ae62d06ce89170b91fd79daf14ba4661fe4f75cc47198", checked := Try.checked }
namespace Rows
def none {H : Type} : Left H := { results := [], args := [] }

/-- 'laws.FnExactDeriveFromString': WHATEVER THE INPUT: true; the input reads as it did. -/
def fnExactDeriveFromStringSpec : ChangeSpec := { name := "fnExactDeriveFromString", fn := fun _ => fun
  | [d1, d2] => { results := [.lit (.bool true)], args := [d1, d2] }
  | _ => none }
def fnExactDeriveFromStringRow : OpenClaim := { program := "ytamlmpigllidoab", sum := "b7d485a9d4dd46ad918ae62d06ce89170b91fd79daf14ba4661fe4f75cc47198", func := "loop.example/g00597/laws.FnExactDeriveFromString", spec := "fnExactDeriveFromString", unfollowed := true, recurses := true, apart := false }
def FnExactDeriveFromStringSaid : Prop := fnExactDeriveFromStringRow.holds Try.pinned (OpenSpec.ofChange fnExactDeriveFromStringSpec)

/-- ITS FALSE NEIGHBOUR: 'it returns false'. Refute it at one input. -/
def fnExactDeriveFromStringWrong : ChangeSpec := { name := "fnExactDeriveFromString", fn := fun _ => fun
  | [d1, d2] => { results := [.lit (.bool false)], args := [d1, d2] }
  | _ => none }
def FnExactDeriveFromStringWrongFalsely : Prop := fnExactDeriveFromStringRow.holds Try.pinned (OpenSpec.ofChange fnExactDeriveFromStringWrong)

/-- 'laws.FnExactIsSpan': WHATEVER THE INPUT: true; the input reads as it did. -/
def fnExactIsSpanSpec : ChangeSpec := { name := "fnExactIsSpan", fn := fun _ => fun
  | [d] => { results := [.lit (.bool true)], args := [d] }
  | _ => none }
def fnExactIsSpanRow : OpenClaim := { program := "ytamlmpigllidoab", sum := "b7d485a9d4dd46ad918ae62d06ce89170b91fd79daf14ba4661fe4f75cc47198", func := "loop.example/g00597/laws.FnExactIsSpan", spec := "fnExactIsSpan", apart := false }
def FnExactIsSpanSaid : Prop := fnExactIsSpanRow.holds Try.pinned (OpenSpec.ofChange fnExactIsSpanSpec)

/-- ITS FALSE NEIGHBOUR: 'it returns false'. Refute it at one input. -/
def fnExactIsSpanWrong : ChangeSpec := { name := "fnExactIsSpan", fn := fun _ => fun
  | [d] => { results := [.lit (.bool false)], args := [d] }
  | _ => none }
def FnExactIsSpanWrongFalsely : Prop := fnExactIsSpanRow.holds Try.pinned (OpenSpec.ofChange fnExactIsSpanWrong)

/-- 'laws.FnExactMakeSpan': WHATEVER THE INPUT: true; the input reads as it did. -/
def fnExactMakeSpanSpec : ChangeSpec := { name := "fnExactMakeSpan", fn := fun _ => fun
  | [d1, d2] => { results := [.lit (.bool true)], args := [d1, d2] }
  | _ => none }
def fnExactMakeSpanRow : OpenClaim := { program := "ytamlmpigllidoab", sum := "b7d485a9d4dd46ad918ae62d06ce89170b91fd79daf14ba4661fe4f75cc47198", func := "loop.example/g00597/laws.FnExactMakeSpan", spec := "fnExactMakeSpan", unfollowed := true, recurses := true, apart := false }
def FnExactMakeSpanSaid : Prop := fnExactMakeSpanRow.holds Try.pinned (OpenSpec.ofChange fnExactMakeSpanSpec)

/-- ITS FALSE NEIGHBOUR: 'it returns false'. Refute it at one input. -/
def fnExactMakeSpanWrong : ChangeSpec := { name := "fnExactMakeSpan", fn := fun _ => fun
  | [d1, d2] => { results := [.lit (.bool false)], args := [d1, d2] }
  | _ => none }
def FnExactMakeSpanWrongFalsely : Prop := fnExactMakeSpanRow.holds Try.pinned (OpenSpec.ofChange fnExactMakeSpanWrong)

/-- 'laws.FnExactMeetSpans': WHATEVER THE INPUT: true; the input reads as it did. -/
def fnExactMeetSpansSpec : ChangeSpec := { name := "fnExactMeetSpans", fn := fun _ => fun
  | [d1, d2] => { results := [.lit (.bool true)], args := [d1, d2] }
  | _ => none }
def fnExactMeetSpansRow : OpenClaim := { program := "ytamlmpigllidoab", sum := "b7d485a9d4dd46ad918ae62d06ce89170b91fd79daf14ba4661fe4f75cc47198", func := "loop.example/g00597/laws.FnExactMeetSpans", spec := "fnExactMeetSpans", unfollowed := true, recurses := true, apart := false }
def FnExactMeetSpansSaid : Prop := fnExactMeetSpansRow.holds Try.pinned (OpenSpec.ofChange fnExactMeetSpansSpec)

/-- ITS FALSE NEIGHBOUR: 'it returns false'. Refute it at one input. -/
def fnExactMeetSpansWrong : ChangeSpec := { name := "fnExactMeetSpans", fn := fun _ => fun
  | [d1, d2] => { results := [.lit (.bool false)], args := [d1, d2] }
  | _ => none }
def FnExactMeetSpansWrongFalsely : Prop := fnExactMeetSpansRow.holds Try.pinned (OpenSpec.ofChange fnExactMeetSpansWrong)

/-- 'laws.FnExactIsInside': WHATEVER THE INPUT: true; the input reads as it did. -/
def fnExactIsInsideSpec : ChangeSpec := { name := "fnExactIsInside", fn := fun _ => fun
  | [d1, d2] => { results := [.lit (.bool true)], args := [d1, d2] }
  | _ => none }
def fnExactIsInsideRow : OpenClaim := { program := "ytamlmpigllidoab", sum := "b7d485a9d4dd46ad918ae62d06ce89170b91fd79daf14ba4661fe4f75cc47198", func := "loop.example/g00597/laws.FnExactIsInside", spec := "fnExactIsInside", apart := false }
def FnExactIsInsideSaid : Prop := fnExactIsInsideRow.holds Try.pinned (OpenSpec.ofChange fnExactIsInsideSpec)

/-- ITS FALSE NEIGHBOUR: 'it returns false'. Refute it at one input. -/
def fnExactIsInsideWrong : ChangeSpec := { name := "fnExactIsInside", fn := fun _ => fun
  | [d1, d2] => { results := [.lit (.bool false)], args := [d1, d2] }
  | _ => none }
def FnExactIsInsideWrongFalsely : Prop := fnExactIsInsideRow.holds Try.pinned (OpenSpec.ofChange fnExactIsInsideWrong)

/-- 'laws.FnExactJoinAll': WHATEVER THE INPUT: true; the input reads as it did. -/
def fnExactJoinAllSpec : ChangeSpec := { name := "fnExactJoinAll", fn := fun _ => fun
  | [d] => { results := [.lit (.bool true)], args := [d] }
  | _ => none }
def fnExactJoinAllRow : OpenClaim := { program := "ytamlmpigllidoab", sum := "b7d485a9d4dd46ad918ae62d06ce89170b91fd79daf14ba4661fe4f75cc47198", func := "loop.example/g00597/laws.FnExactJoinAll", spec := "fnExactJoinAll", unfollowed := true, recurses := true, apart := false }
def FnExactJoinAllSaid : Prop := fnExactJoinAllRow.holds Try.pinned (OpenSpec.ofChange fnExactJoinAllSpec)

/-- ITS FALSE NEIGHBOUR: 'it returns false'. Refute it at one input. -/
def fnExactJoinAllWrong : ChangeSpec := { name := "fnExactJoinAll", fn := fun _ => fun
  | [d] => { results := [.lit (.bool false)], args := [d] }
  | _ => none }
def FnExactJoinAllWrongFalsely : Prop := fnExactJoinAllRow.holds Try.pinned (OpenSpec.ofChange fnExactJoinAllWrong)

/-- 'laws.FnExactMeetAll': WHATEVER THE INPUT: true; the input reads as it did. -/
def fnExactMeetAllSpec : ChangeSpec := { name := "fnExactMeetAll", fn := fun _ => fun
  | [d1, d2] => { results := [.lit (.bool true)], args := [d1, d2] }
  | _ => none }
def fnExactMeetAllRow : OpenClaim := { program := "ytamlmpigllidoab", sum := "b7d485a9d4dd46ad918ae62d06ce89170b91fd79daf14ba4661fe4f75cc47198", func := "loop.example/g00597/laws.FnExactMeetAll", spec := "fnExactMeetAll", unfollowed := true, recurses := true, apart := false }
def FnExactMeetAllSaid : Prop := fnExactMeetAllRow.holds Try.pinned (OpenSpec.ofChange fnExactMeetAllSpec)

/-- ITS FALSE NEIGHBOUR: 'it returns false'. Refute it at one input. -/
def fnExactMeetAllWrong : ChangeSpec := { name := "fnExactMeetAll", fn := fun _ => fun
  | [d1, d2] => { results := [.lit (.bool false)], args := [d1, d2] }
  | _ => none }
def FnExactMeetAllWrongFalsely : Prop := fnExactMeetAllRow.holds Try.pinned (OpenSpec.ofChange fnExactMeetAllWrong)

/-- 'laws.FnExactCoversSpan': WHATEVER THE INPUT: true; the input reads as it did. -/
def fnExactCoversSpanSpec : ChangeSpec := { name := "fnExactCoversSpan", fn := fun _ => fun
  | [d1, d2] => { results := [.lit (.bool true)], args := [d1, d2] }
  | _ => none }
def fnExactCoversSpanRow : OpenClaim := { program := "ytamlmpigllidoab", sum := "b7d485a9d4dd46ad918ae62d06ce89170b91fd79daf14ba4661fe4f75cc47198", func := "loop.example/g00597/laws.FnExactCoversSpan", spec := "fnExactCoversSpan", unfollowed := true, recurses := true, apart := false }
def FnExactCoversSpanSaid : Prop := fnExactCoversSpanRow.holds Try.pinned (OpenSpec.ofChange fnExactCoversSpanSpec)

/-- ITS FALSE NEIGHBOUR: 'it returns false'. Refute it at one input. -/
def fnExactCoversSpanWrong : ChangeSpec := { name := "fnExactCoversSpan", fn := fun _ => fun
  | [d1, d2] => { results := [.lit (.bool false)], args := [d1, d2] }
  | _ => none }
def FnExactCoversSpanWrongFalsely : Prop := fnExactCoversSpanRow.holds Try.pinned (OpenSpec.ofChange fnExactCoversSpanWrong)

/-- 'laws.FnExactTouchesSpan': WHATEVER THE INPUT: true; the input reads as it did. -/
def fnExactTouchesSpanSpec : ChangeSpec := { name := "fnExactTouchesSpan", fn := fun _ => fun
  | [d1, d2] => { results := [.lit (.bool true)], args := [d1, d2] }
  | _ => none }
def fnExactTouchesSpanRow : OpenClaim := { program := "ytamlmpigllidoab", sum := "b7d485a9d4dd46ad918ae62d06ce89170b91fd79daf14ba4661fe4f75cc47198", func := "loop.example/g00597/laws.FnExactTouchesSpan", spec := "fnExactTouchesSpan", unfollowed := true, recurses := true, apart := false }
def FnExactTouchesSpanSaid : Prop := fnExactTouchesSpanRow.holds Try.pinned (OpenSpec.ofChange fnExactTouchesSpanSpec)

/-- ITS FALSE NEIGHBOUR: 'it returns false'. Refute it at one input. -/
def fnExactTouchesSpanWrong : ChangeSpec := { name := "fnExactTouchesSpan", fn := fun _ => fun
  | [d1, d2] => { results := [.lit (.bool false)], args := [d1, d2] }
  | _ => none }
def FnExactTouchesSpanWrongFalsely : Prop := fnExactTouchesSpanRow.holds Try.pinned (OpenSpec.ofChange fnExactTouchesSpanWrong)

/- THE SECOND FORM. 'bulk': how many values and letters a reading holds, each counted each time it is reached (what is shared counts as often as it is met; a slice's spare places count too). A statement '..UptoSaid' is the law's where the arguments, and the package variables that the reading takes, are together of bulk at most 1048576: NARROWER than '..Said'. Prove '..Said' where nothing that the law and all that it calls make is longer than what came in: it says more and counts as full. Else prove '..UptoSaid'. A law counts once. -/
mutual
def uptoBulk {H : Type} : DataW H → Nat
  | .lit (.string bytes) => bytes.length + 1
  | .lit _ => 1
  | .nil => 1
  | .ptr d => uptoBulk d + 1
  | .slice elems spare => uptoBulkAll elems + uptoBulkAll spare + 1
  | .agg parts => uptoBulkAll parts + 1
  | .iface _ d => uptoBulk d + 1
  | .map entries => uptoBulkEntries entries + 1
  | .held _ => 1
def uptoBulkAll {H : Type} : List (DataW H) → Nat
  | [] => 0
  | d :: r => uptoBulk d + uptoBulkAll r
def uptoBulkEntries {H : Type} : List (Lit × DataW H) → Nat
  | [] => 0
  | x :: r => uptoBulkEntry x + uptoBulkEntries r
def uptoBulkEntry {H : Type} : Lit × DataW H → Nat
  | (.string bytes, d) => bytes.length + uptoBulk d + 1
  | (_, d) => uptoBulk d + 1
 end
def uptoSmall : (H : Type) → List (DataW H) → Bool := fun _ ds => decide (uptoBulkAll ds ≤ 1048576)
def OpenSpec.upto (s : _root_.Go.ChangeSpec) : _root_.Go.OpenSpec := { _root_.Go.OpenSpec.ofChange s with cond := some uptoSmall }

/-- 'laws.FnExactDeriveFromString', WHERE WHAT IT READS IS OF BULK AT MOST 1048576: true; the input reads as it did. -/
def fnExactDeriveFromStringUptoRow : OpenClaim := { program := "ytamlmpigllidoab", sum := "b7d485a9d4dd46ad918ae62d06ce89170b91fd79daf14ba4661fe4f75cc47198", func := "loop.example/g00597/laws.FnExactDeriveFromString", spec := "fnExactDeriveFromString", unfollowed := true, recurses := true, apart := false, narrowed := true }
def FnExactDeriveFromStringUptoSaid : Prop := fnExactDeriveFromStringUptoRow.holds Try.pinned (OpenSpec.upto fnExactDeriveFromStringSpec)

/-- 'laws.FnExactIsSpan', WHERE WHAT IT READS IS OF BULK AT MOST 1048576: true; the input reads as it did. -/
def fnExactIsSpanUptoRow : OpenClaim := { program := "ytamlmpigllidoab", sum := "b7d485a9d4dd46ad918ae62d06ce89170b91fd79daf14ba4661fe4f75cc47198", func := "loop.example/g00597/laws.FnExactIsSpan", spec := "fnExactIsSpan", apart := false, narrowed := true }
def FnExactIsSpanUptoSaid : Prop := fnExactIsSpanUptoRow.holds Try.pinned (OpenSpec.upto fnExactIsSpanSpec)

/-- 'laws.FnExactMakeSpan', WHERE WHAT IT READS IS OF BULK AT MOST 1048576: true; the input reads as it did. -/
def fnExactMakeSpanUptoRow : OpenClaim := { program := "ytamlmpigllidoab", sum := "b7d485a9d4dd46ad918ae62d06ce89170b91fd79daf14ba4661fe4f75cc47198", func := "loop.example/g00597/laws.FnExactMakeSpan", spec := "fnExactMakeSpan", unfollowed := true, recurses := true, apart := false, narrowed := true }
def FnExactMakeSpanUptoSaid : Prop := fnExactMakeSpanUptoRow.holds Try.pinned (OpenSpec.upto fnExactMakeSpanSpec)

/-- 'laws.FnExactMeetSpans', WHERE WHAT IT READS IS OF BULK AT MOST 1048576: true; the input reads as it did. -/
def fnExactMeetSpansUptoRow : OpenClaim := { program := "ytamlmpigllidoab", sum := "b7d485a9d4dd46ad918ae62d06ce89170b91fd79daf14ba4661fe4f75cc47198", func := "loop.example/g00597/laws.FnExactMeetSpans", spec := "fnExactMeetSpans", unfollowed := true, recurses := true, apart := false, narrowed := true }
def FnExactMeetSpansUptoSaid : Prop := fnExactMeetSpansUptoRow.holds Try.pinned (OpenSpec.upto fnExactMeetSpansSpec)

/-- 'laws.FnExactIsInside', WHERE WHAT IT READS IS OF BULK AT MOST 1048576: true; the input reads as it did. -/
def fnExactIsInsideUptoRow : OpenClaim := { program := "ytamlmpigllidoab", sum := "b7d485a9d4dd46ad918ae62d06ce89170b91fd79daf14ba4661fe4f75cc47198", func := "loop.example/g00597/laws.FnExactIsInside", spec := "fnExactIsInside", apart := false, narrowed := true }
def FnExactIsInsideUptoSaid : Prop := fnExactIsInsideUptoRow.holds Try.pinned (OpenSpec.upto fnExactIsInsideSpec)

/-- 'laws.FnExactJoinAll', WHERE WHAT IT READS IS OF BULK AT MOST 1048576: true; the input reads as it did. -/
def fnExactJoinAllUptoRow : OpenClaim := { program := "ytamlmpigllidoab", sum := "b7d485a9d4dd46ad918ae62d06ce89170b91fd79daf14ba4661fe4f75cc47198", func := "loop.example/g00597/laws.FnExactJoinAll", spec := "fnExactJoinAll", unfollowed := true, recurses := true, apart := false, narrowed := true }
def FnExactJoinAllUptoSaid : Prop := fnExactJoinAllUptoRow.holds Try.pinned (OpenSpec.upto fnExactJoinAllSpec)

/-- 'laws.FnExactMeetAll', WHERE WHAT IT READS IS OF BULK AT MOST 1048576: true; the input reads as it did. -/
def fnExactMeetAllUptoRow : OpenClaim := { program := "ytamlmpigllidoab", sum := "b7d485a9d4dd46ad918ae62d06ce89170b91fd79daf14ba4661fe4f75cc47198", func := "loop.example/g00597/laws.FnExactMeetAll", spec := "fnExactMeetAll", unfollowed := true, recurses := true, apart := false, narrowed := true }
def FnExactMeetAllUptoSaid : Prop := fnExactMeetAllUptoRow.holds Try.pinned (OpenSpec.upto fnExactMeetAllSpec)

/-- 'laws.FnExactCoversSpan', WHERE WHAT IT READS IS OF BULK AT MOST 1048576: true; the input reads as it did. -/
def fnExactCoversSpanUptoRow : OpenClaim := { program := "ytamlmpigllidoab", sum := "b7d485a9d4dd46ad918ae62d06ce89170b91fd79daf14ba4661fe4f75cc47198", func := "loop.example/g00597/laws.FnExactCoversSpan", spec := "fnExactCoversSpan", unfollowed := true, recurses := true, apart := false, narrowed := true }
def FnExactCoversSpanUptoSaid : Prop := fnExactCoversSpanUptoRow.holds Try.pinned (OpenSpec.upto fnExactCoversSpanSpec)

/-- 'laws.FnExactTouchesSpan', WHERE WHAT IT READS IS OF BULK AT MOST 1048576: true; the input reads as it did. -/
def fnExactTouchesSpanUptoRow : OpenClaim := { program := "ytamlmpigllidoab", sum := "b7d485a9d4dd46ad918ae62d06ce89170b91fd79daf14ba4661fe4f75cc47198", func := "loop.example/g00597/laws.FnExactTouchesSpan", spec := "fnExactTouchesSpan", unfollowed := true, recurses := true, apart := false, narrowed := true }
def FnExactTouchesSpanUptoSaid : Prop := fnExactTouchesSpanUptoRow.holds Try.pinned (OpenSpec.upto fnExactTouchesSpanSpec)

end Rows
end Go.Proofs.Ytamlmpigllidoab
