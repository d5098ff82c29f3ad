/- The walk of the law FnExactFollowPath. -/
import Derived.Test.YtpnnmfagdefnmabFp
import Derived.Test.YtpnnmfagdefnmabSlB
import Derived.OpenShut
namespace Go.Proofs.Ytpnnmfagdefnmab.fnExactFollowPath
open Go.ChangeShapes Go.WideShapes Go.ChangeAt Go.RowKit Sl St SlStep Fp
set_option maxRecDepth 100000 in
set_option maxHeartbeats 4000000 in
theorem walk {H : Type} {enc : TypeId × Value → H} (W : World) (base : Nat)
    (v0 : Value) (d0 : DataW H) (p0 : List MemPlace) (h0 : DataW.Trod enc Try.prog W 0 (fun _ => true) true 3 v0 d0 p0) (k0 : Value.okWide Try.prog W .any base 3 v0)
    (v1 : Value) (d1 : DataW H) (p1 : List MemPlace) (h1 : DataW.Trod enc Try.prog W 0 (fun _ => true) true 3 v1 d1 p1) (k1 : Value.okWide Try.prog W .any base 3 v1)
    (v2 : Value) (d2 : DataW H) (p2 : List MemPlace) (h2 : DataW.Trod enc Try.prog W 0 (fun _ => true) true 24 v2 d2 p2) (k2 : Value.okWide Try.prog W .any base 24 v2)
    (_hsz : (DataW.weightsEach Try.prog [3, 3, 24] [d0, d1, d2]).all (· ≤ reachBytes) = true) :
    Calls Try.prog 4 #[v0, v1, v2] W fun e w' => e = .returned (.bool true) ∧ Below W.heap.size W w' := by
  obtain ⟨x0, rfl, _, _, wf0⟩ := open_int Try.underlying3 k0 h0
  have xb0 := bounds_i64 wf0
  have XB0 := Lib.hid xb0
  clear wf0 xb0
  clear h0 k0
  obtain ⟨x1, rfl, _, _, wf1⟩ := open_int Try.underlying3 k1 h1
  have xb1 := bounds_i64 wf1
  have XB1 := Lib.hid xb1
  clear wf1 xb1
  clear h1 k1
  obtain ⟨a0, n0, c0, zs0, rfl, hr0, hi0⟩ := SlStep.open_argR h2 k2
  have HR0 := Lib.hid hr0
  have HI0 := Lib.hid hi0
  have hn0 := hr0.le
  clear hr0 hi0
  clear h2 k2
  clear _hsz
  have HB := Lib.hid (Below.refl W.heap.size W)
  by_cases hbig0 : 1048576 < n0
  · go_enter Try.func4, Try.ntmps4
    go_wp2_with fail
    refine (sz_big _ _ _ _ _ (by omega) (by omega) (by omega) hn0).mono ?_
    rintro e w0 ⟨rfl, rfl⟩
    go_wp2_with fail
    go_ret
    exact ⟨rfl, HB.out⟩
  go_enter Try.func4, Try.ntmps4
  go_wp2_with fail
  refine (sz_fits _ _ _ _ _ (by omega) (by omega)).mono ?_
  rintro e w0 ⟨rfl, rfl⟩
  go_wp2_with fail
  refine (SlStep.to_any _ _ _ _ _ (HR0.out.below HB.out) (by omega)).mono ?_
  rintro e w1 ⟨qHT0, mHT0, eHT0, rfl, ho, hb⟩
  replace HB := Lib.hid (below_on HB.out hb)
  have HT0 := Lib.hid ho
  have bHT0 := HT0.out.le
  obtain rfl : n0 = mHT0 := HR0.out.len.symm.trans HT0.out.len
  have s1 := hb.size
  clear ho hb
  have sW := HB.out.size
  go_wp2_with fail
  refine (spec_follow_any _ _ _ _ _ _ _ HT0.out.rd HI0.out XB0.out XB1.out).mono ?_
  rintro e w2 ⟨rfl, hb⟩
  replace HB := Lib.hid (below_on HB.out hb)
  replace HT0 := Lib.hid (HT0.out.below hb)
  clear hb
  clear HT0
  go_wp2_with fail
  refine (SlStep.to_any _ _ _ _ _ (HR0.out.below HB.out) (by omega)).mono ?_
  rintro e w3 ⟨qHX0, mHX0, eHX0, rfl, ho, hb⟩
  replace HB := Lib.hid (below_on HB.out hb)
  have HX0 := Lib.hid ho
  have bHX0 := HX0.out.le
  obtain rfl : n0 = mHX0 := HR0.out.len.symm.trans HX0.out.len
  have s3 := hb.size
  clear ho hb
  go_wp2_with fail
  refine (follow_any _ _ _ _ _ _ _ HX0.out.rd HI0.out XB0.out XB1.out).mono ?_
  rintro e w4 ⟨rfl, hb⟩
  replace HB := Lib.hid (below_on HB.out hb)
  replace HX0 := Lib.hid (HX0.out.below hb)
  clear hb
  go_wp2_with fail
  refine (SlStep.to_any _ _ _ _ _ (HR0.out.below HB.out) (by omega)).mono ?_
  rintro e w5 ⟨qHY0, mHY0, eHY0, rfl, ho, hb⟩
  replace HB := Lib.hid (below_on HB.out hb)
  replace HX0 := Lib.hid (HX0.out.below hb)
  have HY0 := Lib.hid ho
  have bHY0 := HY0.out.le
  obtain rfl : n0 = mHY0 := HR0.out.len.symm.trans HY0.out.len
  clear ho hb
  go_wp2_with fail
  refine (SlStep.eq_any _ _ _ _ _ _ _ HX0.out.rd HY0.out.rd).mono ?_
  rintro e w6 ⟨rfl, hb⟩
  replace HB := Lib.hid (below_on HB.out hb)
  replace HX0 := Lib.hid (HX0.out.below hb)
  replace HY0 := Lib.hid (HY0.out.below hb)
  clear hb
  clear HY0
  go_wp2_with fail
  go_ret
  exact ⟨rfl, HB.out⟩
end Go.Proofs.Ytpnnmfagdefnmab.fnExactFollowPath
