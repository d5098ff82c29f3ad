/- The walk of the law FnExactIsMethod. -/
import Derived.Test.YtllkpapkkgfjaaaSlMethod
import Derived.Test.YtllkpapkkgfjaaaMm
import Derived.OpenShut
namespace Go.Proofs.Ytllkpapkkgfjaaa.fnExactIsMethod
open Go.ChangeShapes Go.WideShapes Go.ChangeAt Go.RowKit Sl St Mn Mm SlMethod
set_option maxRecDepth 100000 in
set_option maxHeartbeats 4000000 in
theorem walk {H : Type} {enc : TypeId × Value → H} (W : World) (base : Nat)
    (v0 : Value) (d0 : DataW H) (p0 : List MemPlace) (h0 : DataW.Trod enc Try.prog W 0 (fun _ => true) true 74 v0 d0 p0) (k0 : Value.okWide Try.prog W .any base 74 v0)
    (_hsz : (DataW.weightsEach Try.prog [74] [d0]).all (· ≤ reachBytes) = true) :
    Calls Try.prog 15 #[v0] W fun e w' => e = .returned (.bool true) ∧ Below W.heap.size W w' := by
  obtain ⟨x0, x1, x2, x3, rfl, _, _, _, _⟩ := SlMethod.open_val h0 k0
  clear h0 k0 _hsz
  have HB := Lib.hid ((Below.refl W.heap.size W).alloc (Nat.le_refl _) (.cells #[.int .i64 x0, .int .i64 x1, .int .i64 x2, .int .i64 x3] 74))
  have HX := Lib.hid (Bx.new W 74 #[.int .i64 x0, .int .i64 x1, .int .i64 x2, .int .i64 x3])
  go_enter Try.func15, Try.ntmps15
  go_wp2_with fail
  refine (val_any _ _ _ _ _).mono ?_
  rintro e w1 ⟨rfl, hb⟩
  replace HB := Lib.hid (below_on HB.out hb)
  replace HX := Lib.hid (HX.out.below hb)
  clear hb
  go_wp2_with fail
  refine (spec_isMethod_any _ _ _ _ _).mono ?_
  rintro e w2 ⟨rfl, hb⟩
  replace HB := Lib.hid (below_on HB.out hb)
  replace HX := Lib.hid (HX.out.below hb)
  clear hb
  obtain ⟨c0, c1, c2, c3⟩ := bx4 HX.out
  go_wp2_with fail
  refine (val_any _ _ _ _ _).mono ?_
  rintro e w3 ⟨rfl, hb⟩
  replace HB := Lib.hid (below_on HB.out hb)
  replace HX := Lib.hid (HX.out.below hb)
  clear hb
  clear c0 c1 c2 c3
  go_wp2_with fail
  refine (isMethod_any _ _ _ _ _).mono ?_
  rintro e w4 ⟨rfl, hb⟩
  replace HB := Lib.hid (below_on HB.out hb)
  replace HX := Lib.hid (HX.out.below hb)
  clear hb
  go_wp2_with fail
  go_ret
  exact ⟨rfl, HB.out⟩
end Go.Proofs.Ytllkpapkkgfjaaa.fnExactIsMethod
