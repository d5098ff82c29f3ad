/- The walk of the law FnExactEventName. -/
import Derived.Test.YtihnegohhkplbaaNm
import Derived.Laws.Strings
import Derived.OpenShut
namespace Go.Proofs.Ytihnegohhkplbaa.fnExactEventName
open Go.ChangeShapes Go.WideShapes Go.ChangeAt Go.RowKit Sl Nm
set_option maxRecDepth 100000 in
theorem walk {H : Type} {enc : TypeId × Value → H} (W : World) (base : Nat)
    (v0 : Value) (d0 : DataW H) (p0 : List MemPlace) (h0 : DataW.Trod enc Try.prog W 0 (fun _ => true) true 3 v0 d0 p0) (k0 : Value.okWide Try.prog W .any base 3 v0)
    (_hsz : (DataW.weightsEach Try.prog [3] [d0]).all (· ≤ reachBytes) = true) :
    Calls Try.prog 3 #[v0] W fun e w' => e = .returned (.bool true) ∧ Below W.heap.size W w' := by
  obtain ⟨x0, rfl, _, _, _⟩ := open_int Try.underlying3 k0 h0
  clear h0 k0 _hsz
  go_enter Try.func3, Try.ntmps3
  go_wp2_with fail
  refine (spec_eventName_any x0 _).mono ?_
  rintro e w1 ⟨rfl, hb1⟩
  have HB := Lib.hid hb1
  clear hb1
  go_wp2_with fail
  refine (eventName_any x0 _).mono ?_
  rintro e w2 ⟨rfl, hb2⟩
  replace HB := Lib.hid (HB.out.trans (hb2.mono HB.out.size))
  clear hb2
  go_wp2_with fail
  go_ret
  exact ⟨rfl, HB.out⟩
end Go.Proofs.Ytihnegohhkplbaa.fnExactEventName
