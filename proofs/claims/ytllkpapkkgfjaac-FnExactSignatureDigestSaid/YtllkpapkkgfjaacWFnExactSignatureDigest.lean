/- The walk of the law FnExactSignatureDigest. -/
import Derived.Test.YtllkpapkkgfjaacSlSignature
import Derived.Test.YtllkpapkkgfjaacGd
import Derived.Test.YtllkpapkkgfjaacSlB
import Derived.Test.YtllkpapkkgfjaacSlI
import Derived.OpenShut
namespace Go.Proofs.Ytllkpapkkgfjaac.fnExactSignatureDigest
open Go.ChangeShapes Go.WideShapes Go.ChangeAt Go.RowKit Sl St Fnd SlSignature Gi Ge Gd
set_option maxRecDepth 100000 in
set_option maxHeartbeats 4000000 in
theorem walk {H : Type} {enc : TypeId × Value → H} (W : World) (base : Nat)
    (v0 : Value) (d0 : DataW H) (p0 : List MemPlace) (h0 : DataW.Trod enc Try.prog W 0 (fun _ => true) true 3 v0 d0 p0) (k0 : Value.okWide Try.prog W .any base 3 v0)
    (v1 : Value) (d1 : DataW H) (p1 : List MemPlace) (h1 : DataW.Trod enc Try.prog W 0 (fun _ => true) true 42 v1 d1 p1) (k1 : Value.okWide Try.prog W .any base 42 v1)
    (_hsz : (DataW.weightsEach Try.prog [3, 42] [d0, d1]).all (· ≤ reachBytes) = true) :
    Calls Try.prog 8 #[v0, v1] W fun e w' => e = .returned (.bool true) ∧ Below W.heap.size W w' := by
  obtain ⟨x0, rfl, _, _, wf0⟩ := open_int Try.underlying3 k0 h0
  have xb0 := bounds_i64 wf0
  obtain ⟨xl0, xh0⟩ := xb0
  clear wf0
  clear h0 k0
  obtain ⟨x1_0, x1_1, x1_2, x1_3, x1_4, x1_5, x1_6, x1_7, x1_8, rfl, b1_0, b1_1, b1_2, b1_3, b1_4, b1_5, b1_6, b1_7, b1_8⟩ := SlSignature.open_val h1 k1
  have HG1_0 := Lib.hid b1_0
  have HG1_1 := Lib.hid b1_1
  have HG1_2 := Lib.hid b1_2
  have HG1_3 := Lib.hid b1_3
  have HG1_4 := Lib.hid b1_4
  have HG1_5 := Lib.hid b1_5
  have HG1_6 := Lib.hid b1_6
  have HG1_7 := Lib.hid b1_7
  have HG1_8 := Lib.hid b1_8
  clear b1_0 b1_1 b1_2 b1_3 b1_4 b1_5 b1_6 b1_7 b1_8
  clear h1 k1
  clear _hsz
  have HB := Lib.hid (Below.refl W.heap.size W)
  have HX1 := Lib.hid (Bx.new W 42 #[.int .i64 x1_0, .int .i64 x1_1, .int .i64 x1_2, .int .i64 x1_3, .int .i64 x1_4, .int .i64 x1_5, .int .i64 x1_6, .int .i64 x1_7, .int .i64 x1_8])
  replace HB := Lib.hid (HB.out.alloc HB.out.size (.cells #[.int .i64 x1_0, .int .i64 x1_1, .int .i64 x1_2, .int .i64 x1_3, .int .i64 x1_4, .int .i64 x1_5, .int .i64 x1_6, .int .i64 x1_7, .int .i64 x1_8] 42))
  have lX1 := HX1.out.lt
  go_enter Try.func8, Try.ntmps8
  obtain ⟨cc0, cc1, cc2, cc3, cc4, cc5, cc6, cc7, cc8⟩ := SlSignature.bxc HX1.out
  go_wp2_with fail
  refine (SlSignature.val_any _ _ _ _ _ _ _ _ _ _).mono ?_
  rintro e w1 ⟨rfl, hb⟩
  replace HB := Lib.hid (below_on HB.out hb)
  replace HX1 := Lib.hid (HX1.out.below hb)
  clear hb
  clear cc0 cc1 cc2 cc3 cc4 cc5 cc6 cc7 cc8
  go_wp2_with fail
  refine (spec_sigDigest_any _ _ _ _ _ _ _ _ _ _ _ ⟨xl0, xh0⟩ HG1_0.out HG1_1.out HG1_2.out HG1_3.out HG1_4.out HG1_5.out HG1_6.out HG1_7.out HG1_8.out).mono ?_
  rintro e w2 ⟨rfl, hb⟩
  replace HB := Lib.hid (below_on HB.out hb)
  replace HX1 := Lib.hid (HX1.out.below hb)
  clear hb
  obtain ⟨cc0, cc1, cc2, cc3, cc4, cc5, cc6, cc7, cc8⟩ := SlSignature.bxc HX1.out
  go_wp2_with fail
  refine (SlSignature.val_any _ _ _ _ _ _ _ _ _ _).mono ?_
  rintro e w3 ⟨rfl, hb⟩
  replace HB := Lib.hid (below_on HB.out hb)
  replace HX1 := Lib.hid (HX1.out.below hb)
  clear hb
  clear cc0 cc1 cc2 cc3 cc4 cc5 cc6 cc7 cc8
  go_wp2_with fail
  refine (sigDigest_any _ _ _ _ _ _ _ _ _ _ _ HG1_0.out HG1_1.out HG1_2.out HG1_3.out HG1_4.out HG1_5.out HG1_6.out HG1_7.out HG1_8.out).mono ?_
  rintro e w4 ⟨rfl, hb⟩
  replace HB := Lib.hid (below_on HB.out hb)
  replace HX1 := Lib.hid (HX1.out.below hb)
  clear hb
  go_wp2_with fail
  go_ret
  exact ⟨rfl, HB.out⟩
end Go.Proofs.Ytllkpapkkgfjaac.fnExactSignatureDigest
