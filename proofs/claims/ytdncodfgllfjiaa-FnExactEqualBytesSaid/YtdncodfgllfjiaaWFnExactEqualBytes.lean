/- The walk of the law FnExactEqualBytes. -/
import Derived.Test.YtdncodfgllfjiaaVarQ
import Derived.Test.YtdncodfgllfjiaaSlB
import Derived.OpenShut
namespace Go.Proofs.Ytdncodfgllfjiaa.fnExactEqualBytes
open Go.ChangeShapes Go.WideShapes Go.ChangeAt Go.RowKit Sl Var
set_option maxRecDepth 100000 in
set_option maxHeartbeats 4000000 in
theorem walk {H : Type} {enc : TypeId × Value → H} (W : World) (base : Nat)
    (v0 : Value) (d0 : DataW H) (p0 : List MemPlace) (h0 : DataW.Trod enc Try.prog W 0 (fun _ => true) true 22 v0 d0 p0) (k0 : Value.okWide Try.prog W .any base 22 v0)
    (v1 : Value) (d1 : DataW H) (p1 : List MemPlace) (h1 : DataW.Trod enc Try.prog W 0 (fun _ => true) true 22 v1 d1 p1) (k1 : Value.okWide Try.prog W .any base 22 v1)
    (_hsz : (DataW.weightsEach Try.prog [22, 22] [d0, d1]).all (· ≤ reachBytes) = true) :
    Calls Try.prog 11 #[v0, v1] W fun e w' => e = .returned (.bool true) ∧ Below W.heap.size W w' := by
  obtain ⟨a0, n0, c0, zs0, rfl, hr0⟩ := SlB.open_arg h0 k0
  have HR0 := Lib.hid hr0
  have hn0 := hr0.le
  clear hr0
  clear h0 k0
  obtain ⟨a1, n1, c1, zs1, rfl, hr1⟩ := SlB.open_arg h1 k1
  have HR1 := Lib.hid hr1
  have hn1 := hr1.le
  clear hr1
  clear h1 k1
  clear _hsz
  have HB := Lib.hid (Below.refl W.heap.size W)
  by_cases hbig0 : 1048576 < n0
  · go_enter Try.func11, Try.ntmps11
    go_wp2_with fail
    go_ret
    exact ⟨rfl, HB.out⟩
  by_cases hbig1 : 1048576 < n1
  · go_enter Try.func11, Try.ntmps11
    go_wp2_with fail
    go_ret
    exact ⟨rfl, HB.out⟩
  go_enter Try.func11, Try.ntmps11
  go_wp2_with fail
  refine (SlB.to_any _ _ _ _ _ (HR0.out.below HB.out) (by omega)).mono ?_
  rintro e w1 ⟨qHT0, mHT0, eHT0, rfl, ho, hb⟩
  replace HB := Lib.hid (below_on HB.out hb)
  have HT0 := Lib.hid ho
  have bHT0 := HT0.out.le
  obtain rfl : n0 = mHT0 := by rw [← HT0.out.len, ← HR0.out.len]
  have s1 := hb.size
  clear ho hb
  go_wp2_with fail
  refine (SlB.to_any _ _ _ _ _ (HR1.out.below HB.out) (by omega)).mono ?_
  rintro e w2 ⟨qHT1, mHT1, eHT1, rfl, ho, hb⟩
  replace HB := Lib.hid (below_on HB.out hb)
  replace HT0 := Lib.hid (HT0.out.below hb)
  have HT1 := Lib.hid ho
  have bHT1 := HT1.out.le
  obtain rfl : n1 = mHT1 := by rw [← HT1.out.len, ← HR1.out.len]
  have s2 := hb.size
  clear ho hb
  have sW := HB.out.size
  go_wp2_with fail
  refine (spec_eqB_any _ _ _ _ _ _ _ _ _ HT0.out.rd HT1.out.rd).mono ?_
  rintro e w3 ⟨rfl, hb⟩
  replace HB := Lib.hid (below_on HB.out hb)
  replace HT0 := Lib.hid (HT0.out.below hb)
  replace HT1 := Lib.hid (HT1.out.below hb)
  clear hb
  clear HT0
  clear HT1
  go_wp2_with fail
  refine (SlB.to_any _ _ _ _ _ (HR0.out.below HB.out) (by omega)).mono ?_
  rintro e w4 ⟨qHX0, mHX0, eHX0, rfl, ho, hb⟩
  replace HB := Lib.hid (below_on HB.out hb)
  have HX0 := Lib.hid ho
  have bHX0 := HX0.out.le
  obtain rfl : n0 = mHX0 := by rw [← HX0.out.len, ← HR0.out.len]
  have s4 := hb.size
  clear ho hb
  go_wp2_with fail
  refine (SlB.to_any _ _ _ _ _ (HR1.out.below HB.out) (by omega)).mono ?_
  rintro e w5 ⟨qHX1, mHX1, eHX1, rfl, ho, hb⟩
  replace HB := Lib.hid (below_on HB.out hb)
  replace HX0 := Lib.hid (HX0.out.below hb)
  have HX1 := Lib.hid ho
  have bHX1 := HX1.out.le
  obtain rfl : n1 = mHX1 := by rw [← HX1.out.len, ← HR1.out.len]
  have s5 := hb.size
  clear ho hb
  go_wp2_with fail
  refine (eqB_any _ _ _ _ _ _ _ _ _ HX0.out.rd HX1.out.rd).mono ?_
  rintro e w6 ⟨rfl, hb⟩
  replace HB := Lib.hid (below_on HB.out hb)
  replace HX0 := Lib.hid (HX0.out.below hb)
  replace HX1 := Lib.hid (HX1.out.below hb)
  clear hb
  go_wp2_with fail
  refine (SlB.to_any _ _ _ _ _ (HR0.out.below HB.out) (by omega)).mono ?_
  rintro e w7 ⟨qHY0, mHY0, eHY0, rfl, ho, hb⟩
  replace HB := Lib.hid (below_on HB.out hb)
  replace HX0 := Lib.hid (HX0.out.below hb)
  replace HX1 := Lib.hid (HX1.out.below hb)
  have HY0 := Lib.hid ho
  have bHY0 := HY0.out.le
  obtain rfl : n0 = mHY0 := by rw [← HY0.out.len, ← HR0.out.len]
  clear ho hb
  go_wp2_with fail
  refine (SlB.eq_any _ _ _ _ _ _ _ HX0.out.rd HY0.out.rd).mono ?_
  rintro e w8 ⟨rfl, hb⟩
  replace HB := Lib.hid (below_on HB.out hb)
  replace HX0 := Lib.hid (HX0.out.below hb)
  replace HX1 := Lib.hid (HX1.out.below hb)
  replace HY0 := Lib.hid (HY0.out.below hb)
  clear hb
  clear HY0
  go_wp2_with fail
  refine (SlB.to_any _ _ _ _ _ (HR1.out.below HB.out) (by omega)).mono ?_
  rintro e w9 ⟨qHY1, mHY1, eHY1, rfl, ho, hb⟩
  replace HB := Lib.hid (below_on HB.out hb)
  replace HX0 := Lib.hid (HX0.out.below hb)
  replace HX1 := Lib.hid (HX1.out.below hb)
  have HY1 := Lib.hid ho
  have bHY1 := HY1.out.le
  obtain rfl : n1 = mHY1 := by rw [← HY1.out.len, ← HR1.out.len]
  clear ho hb
  go_wp2_with fail
  refine (SlB.eq_any _ _ _ _ _ _ _ HX1.out.rd HY1.out.rd).mono ?_
  rintro e w10 ⟨rfl, hb⟩
  replace HB := Lib.hid (below_on HB.out hb)
  replace HX0 := Lib.hid (HX0.out.below hb)
  replace HX1 := Lib.hid (HX1.out.below hb)
  replace HY1 := Lib.hid (HY1.out.below hb)
  clear hb
  clear HY1
  go_wp2_with fail
  go_ret
  exact ⟨rfl, HB.out⟩
end Go.Proofs.Ytdncodfgllfjiaa.fnExactEqualBytes
