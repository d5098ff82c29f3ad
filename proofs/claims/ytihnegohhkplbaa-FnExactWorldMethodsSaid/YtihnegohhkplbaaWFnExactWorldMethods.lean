/- The walk of the law FnExactWorldMethods. -/
import Derived.Test.YtihnegohhkplbaaWkMethod
import Derived.Test.YtihnegohhkplbaaSlB
import Derived.OpenShut
namespace Go.Proofs.Ytihnegohhkplbaa.fnExactWorldMethods
open Go.ChangeShapes Go.WideShapes Go.ChangeAt Go.RowKit Sl St
set_option maxRecDepth 100000 in
set_option maxHeartbeats 4000000 in
theorem walk {H : Type} (W : World) (_base : Nat)
    (_hsz : (DataW.weightsEach (H := H) Try.prog [] []).all (· ≤ reachBytes) = true) :
    Calls Try.prog 5 #[] W fun e w' => e = .returned (.bool true) ∧ Below W.heap.size W w' := by
  clear _hsz
  have HB := Lib.hid (Below.refl W.heap.size W)
  go_enter Try.func5, Try.ntmps5
  go_wp2_with fail
  refine (WkMethod.spec_made_any _).mono ?_
  rintro e wHW ⟨pHW, cHW, rfl, ho, hb⟩
  replace HB := Lib.hid (below_on HB.out hb)
  have HW := Lib.hid ho
  clear ho hb
  have bHW := HW.out.le
  have sW := HB.out.size
  go_wp2_with fail
  refine (WkMethod.made_any _).mono ?_
  rintro e wHG ⟨pHG, cHG, rfl, ho, hb⟩
  replace HB := Lib.hid (below_on HB.out hb)
  replace HW := Lib.hid (HW.out.below hb)
  have HG := Lib.hid ho
  clear ho hb
  have bHG := HG.out.le
  go_wp2_with fail
  refine (SlMethod.eq_any _ _ _ _ _ _ _ HG.out.rd HW.out.rd).mono ?_
  rintro e wq ⟨rfl, hb⟩
  replace HB := Lib.hid (below_on HB.out hb)
  replace HW := Lib.hid (HW.out.below hb)
  replace HG := Lib.hid (HG.out.below hb)
  clear hb
  go_wp2_with fail
  refine (SlMethod.mark_any _ _ _ _ _ _ _ _ HG.out (by omega) (by omega)).mono ?_
  rintro e wm ⟨rfl, ho, hg⟩
  replace HB := Lib.hid (below_rowS HB.out HG.out hg (by have := HW.out.2.2.1; omega))
  replace HW := Lib.hid (HW.out.kept hg (fun g e => by have := HG.out.far g e; omega))
  replace HG := Lib.hid ho
  clear ho hg
  go_wp2_with fail
  refine (SlMethod.held_any _ _ _ _ _ HG.out.rd (by omega) (by omega)).mono ?_
  rintro e wh ⟨rfl, rfl⟩
  go_wp2_with fail
  refine (WkMethod.made_any _).mono ?_
  rintro e wHH ⟨pHH, cHH, rfl, ho, hb⟩
  replace HB := Lib.hid (below_on HB.out hb)
  replace HW := Lib.hid (HW.out.below hb)
  replace HG := Lib.hid (HG.out.below hb)
  have HH := Lib.hid ho
  clear ho hb
  have bHH := HH.out.le
  go_wp2_with fail
  refine (SlMethod.eq_any _ _ _ _ _ _ _ HH.out.rd HW.out.rd).mono ?_
  rintro e wq ⟨rfl, hb⟩
  replace HB := Lib.hid (below_on HB.out hb)
  replace HW := Lib.hid (HW.out.below hb)
  replace HG := Lib.hid (HG.out.below hb)
  replace HH := Lib.hid (HH.out.below hb)
  clear hb
  go_wp2_with fail
  refine (SlMethod.held_any _ _ _ _ _ HG.out.rd (by omega) (by omega)).mono ?_
  rintro e wh ⟨rfl, rfl⟩
  go_wp2_with fail
  go_ret
  exact ⟨rfl, HB.out⟩
end Go.Proofs.Ytihnegohhkplbaa.fnExactWorldMethods
