/- The WorldMethods of a new world. -/
import Derived.Test.YtihnegohhkplbaaDz
import Derived.Test.YtihnegohhkplbaaSlMethod
import Derived.OpenShut
import Derived.Outline
namespace Go.Proofs.Ytihnegohhkplbaa.WkMethod
open Go.ChangeShapes Go.WideShapes Go.ChangeAt Go.RowKit Sl St
def rows : List (Int × Int × Int × Int) := [(1, 0, 40, 50), (2, 20, 80, 70), (3, 40, 120, 200), (4, 60, 10001, 10001)]
set_option maxRecDepth 100000 in
set_option maxHeartbeats 4000000 in
theorem made_any (w : World) : Calls Try.prog 22 #[] w fun e w' => ∃ (p : Option Addr) (c : Nat), e = .returned (.slice p 4 c) ∧ OwS SlMethod.E 77 w' w.heap.size w'.heap.size p 4 c rows ∧ Below w.heap.size w w' := by
  have HO := Lib.hid (lit_own SlMethod.E 77 w w.heap.size rows #[.int .i64 1, .int .i64 0, .int .i64 40, .int .i64 50, .int .i64 2, .int .i64 20, .int .i64 80, .int .i64 70, .int .i64 3, .int .i64 40, .int .i64 120, .int .i64 200, .int .i64 4, .int .i64 60, .int .i64 10001, .int .i64 10001] 4 rfl rfl (by decide) (Nat.le_refl _))
  have HB := Lib.hid (Dz.box1 w (.cells #[.int .i64 1, .int .i64 0, .int .i64 40, .int .i64 50, .int .i64 2, .int .i64 20, .int .i64 80, .int .i64 70, .int .i64 3, .int .i64 40, .int .i64 120, .int .i64 200, .int .i64 4, .int .i64 60, .int .i64 10001, .int .i64 10001] 77))
  go_enter Try.func22, Try.ntmps22
  go_wp2_with fail
  go_ret
  exact ⟨_, _, rfl, HO.out, HB.out⟩
set_option maxRecDepth 100000 in
set_option maxHeartbeats 4000000 in
theorem lit_any (w : World) : Calls Try.prog 55 #[] w fun e w' => ∃ (p : Option Addr) (c : Nat), e = .returned (.slice p 4 c) ∧ OwS SlMethod.E 77 w' w.heap.size w'.heap.size p 4 c rows ∧ Below w.heap.size w w' := by
  have HO := Lib.hid (lit_own SlMethod.E 77 w w.heap.size rows #[.int .i64 1, .int .i64 0, .int .i64 40, .int .i64 50, .int .i64 2, .int .i64 20, .int .i64 80, .int .i64 70, .int .i64 3, .int .i64 40, .int .i64 120, .int .i64 200, .int .i64 4, .int .i64 60, .int .i64 10001, .int .i64 10001] 4 rfl rfl (by decide) (Nat.le_refl _))
  have HB := Lib.hid (Dz.box1 w (.cells #[.int .i64 1, .int .i64 0, .int .i64 40, .int .i64 50, .int .i64 2, .int .i64 20, .int .i64 80, .int .i64 70, .int .i64 3, .int .i64 40, .int .i64 120, .int .i64 200, .int .i64 4, .int .i64 60, .int .i64 10001, .int .i64 10001] 77))
  go_enter Try.func55, Try.ntmps55
  go_wp2_with fail
  go_ret
  exact ⟨_, _, rfl, HO.out, HB.out⟩
set_option maxRecDepth 100000 in
theorem spec_made_any (w : World) : Calls Try.prog 21 #[] w fun e w' => ∃ (p : Option Addr) (c : Nat), e = .returned (.slice p 4 c) ∧ OwS SlMethod.E 77 w' w.heap.size w'.heap.size p 4 c rows ∧ Below w.heap.size w w' := by
  go_enter Try.func21, Try.ntmps21
  go_wp2_with fail
  refine (lit_any _).mono ?_
  rintro e w1 ⟨p, c, rfl, ho, hb⟩
  have HO := Lib.hid ho
  have HB := Lib.hid hb
  clear ho hb
  go_wp2_with fail
  go_ret
  exact ⟨_, _, rfl, HO.out, HB.out⟩
end Go.Proofs.Ytihnegohhkplbaa.WkMethod
