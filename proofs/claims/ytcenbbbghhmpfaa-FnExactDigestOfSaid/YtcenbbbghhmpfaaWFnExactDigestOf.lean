/- The walk of the law FnExactDigestOf. -/
import Derived.Test.YtcenbbbghhmpfaaDg
import Derived.Test.YtcenbbbghhmpfaaSlB
import Derived.Test.YtcenbbbghhmpfaaSlI
import Derived.OpenShut
namespace Go.Proofs.Ytcenbbbghhmpfaa.fnExactDigestOf
open Go.ChangeShapes Go.WideShapes Go.ChangeAt Go.RowKit Sl Hs Dg
set_option maxRecDepth 100000 in
set_option maxHeartbeats 4000000 in
theorem walk {H : Type} {enc : TypeId × Value → H} (W : World) (base : Nat)
    (v0 : Value) (d0 : DataW H) (p0 : List MemPlace) (h0 : DataW.Trod enc Try.prog W 0 (fun _ => true) true 3 v0 d0 p0) (k0 : Value.okWide Try.prog W .any base 3 v0)
    (v1 : Value) (d1 : DataW H) (p1 : List MemPlace) (h1 : DataW.Trod enc Try.prog W 0 (fun _ => true) true 52 v1 d1 p1) (k1 : Value.okWide Try.prog W .any base 52 v1)
    (_hsz : (DataW.weightsEach Try.prog [3, 52] [d0, d1]).all (· ≤ reachBytes) = true) :
    Calls Try.prog 11 #[v0, v1] W fun e w' => e = .returned (.bool true) ∧ Below W.heap.size W w' := by
  obtain ⟨x0, rfl, _, _, wf0⟩ := open_int Try.underlying3 k0 h0
  have xb0 := bounds_i64 wf0
  obtain ⟨xl0, xh0⟩ := xb0
  clear wf0
  clear h0 k0
  obtain ⟨a1, n1, c1, zs1, rfl, hr1⟩ := SlI.open_arg h1 k1
  have HR1 := Lib.hid hr1
  have hn1 := hr1.le
  clear hr1
  clear h1 k1
  clear _hsz
  have HB := Lib.hid (Below.refl W.heap.size W)
  by_cases hbig1 : 1048576 < n1
  · go_enter Try.func11, Try.ntmps11
    go_wp2_with fail
    go_ret
    exact ⟨rfl, HB.out⟩
  go_enter Try.func11, Try.ntmps11
  go_wp2_with fail
  refine (SlI.to_any _ _ _ _ _ (HR1.out.below HB.out) (by omega)).mono ?_
  rintro e w1 ⟨qHT1, mHT1, eHT1, rfl, ho, hb⟩
  replace HB := Lib.hid (below_on HB.out hb)
  have HT1 := Lib.hid ho
  have bHT1 := HT1.out.le
  obtain rfl : n1 = mHT1 := HR1.out.len.symm.trans HT1.out.len
  have s1 := hb.size
  clear ho hb
  have sW := HB.out.size
  go_wp2_with fail
  refine (spec_dig_any _ _ _ _ _ _ HT1.out.rd ⟨xl0, xh0⟩ (by omega)).mono ?_
  rintro e w2 ⟨rfl, hb⟩
  replace HB := Lib.hid (below_on HB.out hb)
  replace HT1 := Lib.hid (HT1.out.below hb)
  clear hb
  clear HT1
  go_wp2_with fail
  refine (SlI.to_any _ _ _ _ _ (HR1.out.below HB.out) (by omega)).mono ?_
  rintro e w3 ⟨qHX1, mHX1, eHX1, rfl, ho, hb⟩
  replace HB := Lib.hid (below_on HB.out hb)
  have HX1 := Lib.hid ho
  have bHX1 := HX1.out.le
  obtain rfl : n1 = mHX1 := HR1.out.len.symm.trans HX1.out.len
  have s3 := hb.size
  clear ho hb
  go_wp2_with fail
  refine ((dig_any _ _ _ _ _ _ HX1.out.rd).mono (fun _ _ h => num_of h)).mono ?_
  rintro e w4 ⟨rfl, hb⟩
  replace HB := Lib.hid (below_on HB.out hb)
  replace HX1 := Lib.hid (HX1.out.below hb)
  clear hb
  go_wp2_with fail
  refine (SlI.to_any _ _ _ _ _ (HR1.out.below HB.out) (by omega)).mono ?_
  rintro e w5 ⟨qHY1, mHY1, eHY1, rfl, ho, hb⟩
  replace HB := Lib.hid (below_on HB.out hb)
  replace HX1 := Lib.hid (HX1.out.below hb)
  have HY1 := Lib.hid ho
  have bHY1 := HY1.out.le
  obtain rfl : n1 = mHY1 := HR1.out.len.symm.trans HY1.out.len
  clear ho hb
  go_wp2_with fail
  refine (SlI.eq_any _ _ _ _ _ _ _ HX1.out.rd HY1.out.rd).mono ?_
  rintro e w6 ⟨rfl, hb⟩
  replace HB := Lib.hid (below_on HB.out hb)
  replace HX1 := Lib.hid (HX1.out.below hb)
  replace HY1 := Lib.hid (HY1.out.below hb)
  clear hb
  clear HY1
  go_wp2_with fail
  go_ret
  exact ⟨rfl, HB.out⟩
end Go.Proofs.Ytcenbbbghhmpfaa.fnExactDigestOf
