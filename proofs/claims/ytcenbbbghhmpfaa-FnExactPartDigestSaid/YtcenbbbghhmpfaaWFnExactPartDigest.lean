/- The walk of the law FnExactPartDigest. -/
import Derived.Test.YtcenbbbghhmpfaaDp
import Derived.OpenShut
import Derived.ChangeMaps5
namespace Go.Proofs.Ytcenbbbghhmpfaa.fnExactPartDigest
open Go.ChangeShapes Go.WideShapes Go.ChangeAt Go.RowKit Go.ChangeMaps Sl Hs Dm Dp
set_option maxRecDepth 100000 in
set_option maxHeartbeats 4000000 in
theorem walk {H : Type} {enc : TypeId × Value → H} (W : World) (base : Nat)
    (v0 : Value) (d0 : DataW H) (p0 : List MemPlace) (h0 : DataW.Trod enc Try.prog W 0 (fun _ => true) true 3 v0 d0 p0) (k0 : Value.okWide Try.prog W .any base 3 v0)
    (v1 : Value) (d1 : DataW H) (p1 : List MemPlace) (h1 : DataW.Trod enc Try.prog W 0 (fun _ => true) true 9 v1 d1 p1) (k1 : Value.okWide Try.prog W .any base 9 v1)
    (v2 : Value) (d2 : DataW H) (p2 : List MemPlace) (h2 : DataW.Trod enc Try.prog W 0 (fun _ => true) true 3 v2 d2 p2) (k2 : Value.okWide Try.prog W .any base 3 v2)
    (_hsz : (DataW.weightsEach Try.prog [3, 9, 3] [d0, d1, d2]).all (· ≤ reachBytes) = true) :
    Calls Try.prog 13 #[v0, v1, v2] W fun e w' => e = .returned (.bool true) ∧ Below W.heap.size W w' := by
  obtain ⟨x0, rfl, _, _, wf0⟩ := open_int Try.underlying3 k0 h0
  obtain ⟨s1, rfl, _, _, hs1⟩ := open_string Try.underlying9 k1 h1
  obtain ⟨x2, rfl, _, _, wf2⟩ := open_int Try.underlying3 k2 h2
  have b0 := bounds_i64 wf0
  have b2 := bounds_i64 wf2
  have H0 : Hid (inK .i64 x0) := Lib.hid b0
  have H2 : Hid (inK .i64 x2) := Lib.hid b2
  have HB := Lib.hid (Below.refl W.heap.size W)
  clear h0 h1 h2 k0 k1 k2 _hsz wf0 wf2
  by_cases hbig : 1048576 < s1.size
  · go_enter Try.func13, Try.ntmps13
    go_wp2_with fail
    go_ret
    exact ⟨rfl, HB.out⟩
  go_enter Try.func13, Try.ntmps13
  go_wp2_with fail
  refine (spec_part_any _ _ _ _ (by omega) H0.out H2.out).mono ?_
  rintro e w1 ⟨rfl, hb⟩
  replace HB := Lib.hid (below_on HB.out hb)
  clear hb
  go_wp2_with fail
  refine (part_any _ _ _ _ (by omega) H2.out).mono ?_
  rintro e w2 ⟨rfl, hb⟩
  replace HB := Lib.hid (below_on HB.out hb)
  clear hb
  go_wp2_with fail
  go_ret
  exact ⟨rfl, HB.out⟩
end Go.Proofs.Ytcenbbbghhmpfaa.fnExactPartDigest
