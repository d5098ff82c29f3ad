/- The WorldKeys of a new world. -/
import Derived.Test.YtihnegohhkplbaaDz
import Derived.Test.YtihnegohhkplbaaSlKey
import Derived.OpenShut
import Derived.Outline
namespace Go.Proofs.Ytihnegohhkplbaa.WkKey
open Go.ChangeShapes Go.WideShapes Go.ChangeAt Go.RowKit Sl St
def rows : List (Int × Int × Int × Int × Int) := [(1, 90, 1, 0, 501), (2, 90, 3, 40, 502), (11, 1, 1, 0, 511), (12, 1, 2, 20, 512), (13, 2, 3, 40, 513), (21, 50, 1, 0, 521), (31, 81, 1, 0, 531), (32, 82, 2, 20, 532), (33, 83, 3, 40, 533), (34, 84, 4, 60, 534)]
set_option maxRecDepth 100000 in
set_option maxHeartbeats 4000000 in
theorem made_any (w : World) : Calls Try.prog 17 #[] w fun e w' => ∃ (p : Option Addr) (c : Nat), e = .returned (.slice p 10 c) ∧ OwS SlKey.E 74 w' w.heap.size w'.heap.size p 10 c rows ∧ Below w.heap.size w w' := by
  have HO := Lib.hid (lit_own SlKey.E 74 w w.heap.size rows #[.int .i64 1, .int .i64 90, .int .i64 1, .int .i64 0, .int .i64 501, .int .i64 2, .int .i64 90, .int .i64 3, .int .i64 40, .int .i64 502, .int .i64 11, .int .i64 1, .int .i64 1, .int .i64 0, .int .i64 511, .int .i64 12, .int .i64 1, .int .i64 2, .int .i64 20, .int .i64 512, .int .i64 13, .int .i64 2, .int .i64 3, .int .i64 40, .int .i64 513, .int .i64 21, .int .i64 50, .int .i64 1, .int .i64 0, .int .i64 521, .int .i64 31, .int .i64 81, .int .i64 1, .int .i64 0, .int .i64 531, .int .i64 32, .int .i64 82, .int .i64 2, .int .i64 20, .int .i64 532, .int .i64 33, .int .i64 83, .int .i64 3, .int .i64 40, .int .i64 533, .int .i64 34, .int .i64 84, .int .i64 4, .int .i64 60, .int .i64 534] 10 rfl rfl (by decide) (Nat.le_refl _))
  have HB := Lib.hid (Dz.box1 w (.cells #[.int .i64 1, .int .i64 90, .int .i64 1, .int .i64 0, .int .i64 501, .int .i64 2, .int .i64 90, .int .i64 3, .int .i64 40, .int .i64 502, .int .i64 11, .int .i64 1, .int .i64 1, .int .i64 0, .int .i64 511, .int .i64 12, .int .i64 1, .int .i64 2, .int .i64 20, .int .i64 512, .int .i64 13, .int .i64 2, .int .i64 3, .int .i64 40, .int .i64 513, .int .i64 21, .int .i64 50, .int .i64 1, .int .i64 0, .int .i64 521, .int .i64 31, .int .i64 81, .int .i64 1, .int .i64 0, .int .i64 531, .int .i64 32, .int .i64 82, .int .i64 2, .int .i64 20, .int .i64 532, .int .i64 33, .int .i64 83, .int .i64 3, .int .i64 40, .int .i64 533, .int .i64 34, .int .i64 84, .int .i64 4, .int .i64 60, .int .i64 534] 74))
  go_enter Try.func17, Try.ntmps17
  go_wp2_with fail
  go_ret
  exact ⟨_, _, rfl, HO.out, HB.out⟩
set_option maxRecDepth 100000 in
set_option maxHeartbeats 4000000 in
theorem lit_any (w : World) : Calls Try.prog 53 #[] w fun e w' => ∃ (p : Option Addr) (c : Nat), e = .returned (.slice p 10 c) ∧ OwS SlKey.E 74 w' w.heap.size w'.heap.size p 10 c rows ∧ Below w.heap.size w w' := by
  have HO := Lib.hid (lit_own SlKey.E 74 w w.heap.size rows #[.int .i64 1, .int .i64 90, .int .i64 1, .int .i64 0, .int .i64 501, .int .i64 2, .int .i64 90, .int .i64 3, .int .i64 40, .int .i64 502, .int .i64 11, .int .i64 1, .int .i64 1, .int .i64 0, .int .i64 511, .int .i64 12, .int .i64 1, .int .i64 2, .int .i64 20, .int .i64 512, .int .i64 13, .int .i64 2, .int .i64 3, .int .i64 40, .int .i64 513, .int .i64 21, .int .i64 50, .int .i64 1, .int .i64 0, .int .i64 521, .int .i64 31, .int .i64 81, .int .i64 1, .int .i64 0, .int .i64 531, .int .i64 32, .int .i64 82, .int .i64 2, .int .i64 20, .int .i64 532, .int .i64 33, .int .i64 83, .int .i64 3, .int .i64 40, .int .i64 533, .int .i64 34, .int .i64 84, .int .i64 4, .int .i64 60, .int .i64 534] 10 rfl rfl (by decide) (Nat.le_refl _))
  have HB := Lib.hid (Dz.box1 w (.cells #[.int .i64 1, .int .i64 90, .int .i64 1, .int .i64 0, .int .i64 501, .int .i64 2, .int .i64 90, .int .i64 3, .int .i64 40, .int .i64 502, .int .i64 11, .int .i64 1, .int .i64 1, .int .i64 0, .int .i64 511, .int .i64 12, .int .i64 1, .int .i64 2, .int .i64 20, .int .i64 512, .int .i64 13, .int .i64 2, .int .i64 3, .int .i64 40, .int .i64 513, .int .i64 21, .int .i64 50, .int .i64 1, .int .i64 0, .int .i64 521, .int .i64 31, .int .i64 81, .int .i64 1, .int .i64 0, .int .i64 531, .int .i64 32, .int .i64 82, .int .i64 2, .int .i64 20, .int .i64 532, .int .i64 33, .int .i64 83, .int .i64 3, .int .i64 40, .int .i64 533, .int .i64 34, .int .i64 84, .int .i64 4, .int .i64 60, .int .i64 534] 74))
  go_enter Try.func53, Try.ntmps53
  go_wp2_with fail
  go_ret
  exact ⟨_, _, rfl, HO.out, HB.out⟩
set_option maxRecDepth 100000 in
theorem spec_made_any (w : World) : Calls Try.prog 16 #[] w fun e w' => ∃ (p : Option Addr) (c : Nat), e = .returned (.slice p 10 c) ∧ OwS SlKey.E 74 w' w.heap.size w'.heap.size p 10 c rows ∧ Below w.heap.size w w' := by
  go_enter Try.func16, Try.ntmps16
  go_wp2_with fail
  refine (lit_any _).mono ?_
  rintro e w1 ⟨p, c, rfl, ho, hb⟩
  have HO := Lib.hid ho
  have HB := Lib.hid hb
  clear ho hb
  go_wp2_with fail
  go_ret
  exact ⟨_, _, rfl, HO.out, HB.out⟩
end Go.Proofs.Ytihnegohhkplbaa.WkKey
