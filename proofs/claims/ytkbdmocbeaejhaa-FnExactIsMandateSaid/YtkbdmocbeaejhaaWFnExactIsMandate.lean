/- The walk of the law FnExactIsMandate. -/
import Derived.Test.YtkbdmocbeaejhaaSlMandate
import Derived.Test.YtkbdmocbeaejhaaMi
import Derived.Test.YtkbdmocbeaejhaaSlB
import Derived.Test.YtkbdmocbeaejhaaSlI
import Derived.OpenShut
namespace Go.Proofs.Ytkbdmocbeaejhaa.fnExactIsMandate
open Go.ChangeShapes Go.WideShapes Go.ChangeAt Go.RowKit Sl St Fnd SlMandate Mi
set_option maxRecDepth 100000 in
set_option maxHeartbeats 4000000 in
theorem walk {H : Type} {enc : TypeId × Value → H} (W : World) (base : Nat)
    (v0 : Value) (d0 : DataW H) (p0 : List MemPlace) (h0 : DataW.Trod enc Try.prog W 0 (fun _ => true) true 42 v0 d0 p0) (k0 : Value.okWide Try.prog W .any base 42 v0)
    (_hsz : (DataW.weightsEach Try.prog [42] [d0]).all (· ≤ reachBytes) = true) :
    Calls Try.prog 5 #[v0] W fun e w' => e = .returned (.bool true) ∧ Below W.heap.size W w' := by
  obtain ⟨x0_0, x0_1, x0_2, x0_3, x0_4, x0_5, rfl, b0_0, b0_1, b0_2, b0_3, b0_4, b0_5⟩ := SlMandate.open_val h0 k0
  have HG0_0 := Lib.hid b0_0
  have HG0_1 := Lib.hid b0_1
  have HG0_2 := Lib.hid b0_2
  have HG0_3 := Lib.hid b0_3
  have HG0_4 := Lib.hid b0_4
  have HG0_5 := Lib.hid b0_5
  clear b0_0 b0_1 b0_2 b0_3 b0_4 b0_5
  clear h0 k0
  clear _hsz
  have HB := Lib.hid (Below.refl W.heap.size W)
  have HX0 := Lib.hid (Bx.new W 42 #[.int .i64 x0_0, .int .i64 x0_1, .int .i64 x0_2, .int .i64 x0_3, .int .i64 x0_4, .int .i64 x0_5])
  replace HB := Lib.hid (HB.out.alloc HB.out.size (.cells #[.int .i64 x0_0, .int .i64 x0_1, .int .i64 x0_2, .int .i64 x0_3, .int .i64 x0_4, .int .i64 x0_5] 42))
  have lX0 := HX0.out.lt
  go_enter Try.func5, Try.ntmps5
  obtain ⟨cc0, cc1, cc2, cc3, cc4, cc5⟩ := SlMandate.bxc HX0.out
  go_wp2_with fail
  refine (SlMandate.val_any _ _ _ _ _ _ _).mono ?_
  rintro e w1 ⟨rfl, hb⟩
  replace HB := Lib.hid (below_on HB.out hb)
  replace HX0 := Lib.hid (HX0.out.below hb)
  clear hb
  clear cc0 cc1 cc2 cc3 cc4 cc5
  go_wp2_with fail
  refine (spec_isMandate_any _ _ _ _ _ _ _).mono ?_
  rintro e w2 ⟨rfl, hb⟩
  replace HB := Lib.hid (below_on HB.out hb)
  replace HX0 := Lib.hid (HX0.out.below hb)
  clear hb
  obtain ⟨cc0, cc1, cc2, cc3, cc4, cc5⟩ := SlMandate.bxc HX0.out
  go_wp2_with fail
  refine (SlMandate.val_any _ _ _ _ _ _ _).mono ?_
  rintro e w3 ⟨rfl, hb⟩
  replace HB := Lib.hid (below_on HB.out hb)
  replace HX0 := Lib.hid (HX0.out.below hb)
  clear hb
  clear cc0 cc1 cc2 cc3 cc4 cc5
  go_wp2_with fail
  refine (isMandate_any _ _ _ _ _ _ _).mono ?_
  rintro e w4 ⟨rfl, hb⟩
  replace HB := Lib.hid (below_on HB.out hb)
  replace HX0 := Lib.hid (HX0.out.below hb)
  clear hb
  go_wp2_with fail
  go_ret
  exact ⟨rfl, HB.out⟩
end Go.Proofs.Ytkbdmocbeaejhaa.fnExactIsMandate
