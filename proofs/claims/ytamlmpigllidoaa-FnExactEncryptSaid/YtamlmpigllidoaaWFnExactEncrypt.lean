/- The walk of the law FnExactEncrypt. -/
import Derived.Test.YtamlmpigllidoaaEncI
import Derived.Test.YtamlmpigllidoaaSlB
import Derived.OpenShut
namespace Go.Proofs.Ytamlmpigllidoaa.fnExactEncrypt
open Go.ChangeShapes Go.WideShapes Go.ChangeAt Go.RowKit Sl Hs
set_option maxRecDepth 100000 in
set_option maxHeartbeats 4000000 in
theorem walk {H : Type} {enc : TypeId × Value → H} (W : World) (base : Nat)
    (v0 : Value) (d0 : DataW H) (p0 : List MemPlace) (h0 : DataW.Trod enc Try.prog W 0 (fun _ => true) true 3 v0 d0 p0) (k0 : Value.okWide Try.prog W .any base 3 v0)
    (v1 : Value) (d1 : DataW H) (p1 : List MemPlace) (h1 : DataW.Trod enc Try.prog W 0 (fun _ => true) true 22 v1 d1 p1) (k1 : Value.okWide Try.prog W .any base 22 v1)
    (_hsz : (DataW.weightsEach Try.prog [3, 22] [d0, d1]).all (· ≤ reachBytes) = true) :
    Calls Try.prog 10 #[v0, v1] W fun e w' => e = .returned (.bool true) ∧ Below W.heap.size W w' := by
  obtain ⟨x0, rfl, _, _, wf0⟩ := open_int Try.underlying3 k0 h0
  have xb0 := bounds_i64 wf0
  obtain ⟨xl0, xh0⟩ := xb0
  clear wf0
  clear h0 k0
  obtain ⟨a1, n1, c1, zs1, rfl, hr1⟩ := SlB.open_arg h1 k1
  have HR1 := Lib.hid hr1
  have hn1 := hr1.le
  clear hr1
  clear h1 k1
  clear _hsz
  have HB := Lib.hid (Below.refl W.heap.size W)
  by_cases hbig1 : 1048576 < n1
  · go_enter Try.func10, Try.ntmps10
    go_wp2_with fail
    go_ret
    exact ⟨rfl, HB.out⟩
  go_enter Try.func10, Try.ntmps10
  go_wp2_with fail
  refine (SlB.to_any _ _ _ _ _ (HR1.out.below HB.out) (by omega)).mono ?_
  rintro e w1 ⟨qHT1, mHT1, eHT1, rfl, ho, hb⟩
  replace HB := Lib.hid (below_on HB.out hb)
  have HT1 := Lib.hid ho
  have bHT1 := HT1.out.le
  obtain rfl : n1 = mHT1 := by rw [← HT1.out.len, ← HR1.out.len]
  have s1 := hb.size
  clear ho hb
  have sW := HB.out.size
  go_wp2_with fail
  refine (spec_enc_any _ _ _ _ _ _ HT1.out.rd ⟨xl0, xh0⟩ (by omega)).mono ?_
  rintro e w2 ⟨qHW, mHW, eHW, rfl, ho, hb⟩
  replace HB := Lib.hid (below_on HB.out hb)
  replace HT1 := Lib.hid (HT1.out.below hb)
  have HW := Lib.hid ho
  have s2 := hb.size
  clear ho hb
  have bL : mHW ≤ 20000000 := by have h1 := HW.out.len; rw [crL_len] at h1; have h3 := HR1.out.len; omega
  clear HT1
  go_wp2_with fail
  refine (SlB.to_any _ _ _ _ _ (HR1.out.below HB.out) (by omega)).mono ?_
  rintro e w3 ⟨qHX1, mHX1, eHX1, rfl, ho, hb⟩
  replace HB := Lib.hid (below_on HB.out hb)
  replace HW := Lib.hid (HW.out.below hb)
  have HX1 := Lib.hid ho
  have bHX1 := HX1.out.le
  obtain rfl : n1 = mHX1 := by rw [← HX1.out.len, ← HR1.out.len]
  have s3 := hb.size
  clear ho hb
  go_wp2_with fail
  refine (enc_any _ _ _ _ _ _ HX1.out.rd (by omega)).mono ?_
  rintro e w4 ⟨qHG, mHG, eHG, rfl, ho, hb⟩
  replace HB := Lib.hid (below_on HB.out hb)
  replace HW := Lib.hid (HW.out.below hb)
  replace HX1 := Lib.hid (HX1.out.below hb)
  have HG := Lib.hid ho
  have s4 := hb.size
  clear ho hb
  obtain rfl : mHW = mHG := by rw [← HG.out.len, ← HW.out.len]
  go_wp2_with fail
  refine (SlB.eq_any _ _ _ _ _ _ _ HG.out.rd HW.out.rd).mono ?_
  rintro e w5 ⟨rfl, hb⟩
  replace HB := Lib.hid (below_on HB.out hb)
  replace HW := Lib.hid (HW.out.below hb)
  replace HX1 := Lib.hid (HX1.out.below hb)
  replace HG := Lib.hid (HG.out.below hb)
  clear hb
  go_wp2_with fail
  refine (SlB.to_any _ _ _ _ _ (HR1.out.below HB.out) (by omega)).mono ?_
  rintro e w6 ⟨qHY1, mHY1, eHY1, rfl, ho, hb⟩
  replace HB := Lib.hid (below_on HB.out hb)
  replace HW := Lib.hid (HW.out.below hb)
  replace HX1 := Lib.hid (HX1.out.below hb)
  replace HG := Lib.hid (HG.out.below hb)
  have HY1 := Lib.hid ho
  have bHY1 := HY1.out.le
  obtain rfl : n1 = mHY1 := by rw [← HY1.out.len, ← HR1.out.len]
  clear ho hb
  go_wp2_with fail
  refine (SlB.eq_any _ _ _ _ _ _ _ HX1.out.rd HY1.out.rd).mono ?_
  rintro e w7 ⟨rfl, hb⟩
  replace HB := Lib.hid (below_on HB.out hb)
  replace HW := Lib.hid (HW.out.below hb)
  replace HX1 := Lib.hid (HX1.out.below hb)
  replace HG := Lib.hid (HG.out.below hb)
  replace HY1 := Lib.hid (HY1.out.below hb)
  clear hb
  clear HY1
  have bHW := HW.out.le
  have bHG := HG.out.le
  go_wp2_with fail
  refine (SlB.mark_any _ _ _ _ _ _ _ _ HX1.out (by omega) (by have := HX1.out.le; omega)).mono ?_
  rintro e w8 ⟨rfl, ho, hg⟩
  replace HB := Lib.hid (below_row HB.out HX1.out hg (by omega))
  replace HW := Lib.hid (HW.out.apart HX1.out hg (by omega))
  replace HG := Lib.hid (HG.out.apart HX1.out hg (by omega))
  replace HX1 := Lib.hid ho
  clear ho hg
  go_wp2_with fail
  refine (SlB.eq_any _ _ _ _ _ _ _ HG.out.rd HW.out.rd).mono ?_
  rintro e w9 ⟨rfl, hb⟩
  replace HB := Lib.hid (below_on HB.out hb)
  replace HW := Lib.hid (HW.out.below hb)
  replace HX1 := Lib.hid (HX1.out.below hb)
  replace HG := Lib.hid (HG.out.below hb)
  clear hb
  clear HX1
  go_wp2_with fail
  refine (SlB.mark_any _ _ _ _ _ _ _ _ HG.out (by omega) (by have := HG.out.le; omega)).mono ?_
  rintro e w10 ⟨rfl, ho, hg⟩
  replace HB := Lib.hid (below_row HB.out HG.out hg (by omega))
  replace HW := Lib.hid (HW.out.apart HG.out hg (by omega))
  replace HG := Lib.hid ho
  clear ho hg
  go_wp2_with fail
  refine (SlB.held_any _ _ _ _ _ HG.out.rd (by omega) (by omega)).mono ?_
  rintro e w11 ⟨rfl, rfl⟩
  go_wp2_with fail
  refine (SlB.to_any _ _ _ _ _ (HR1.out.below HB.out) (by omega)).mono ?_
  rintro e w12 ⟨qHZ1, mHZ1, eHZ1, rfl, ho, hb⟩
  replace HB := Lib.hid (below_on HB.out hb)
  replace HW := Lib.hid (HW.out.below hb)
  replace HG := Lib.hid (HG.out.below hb)
  have HZ1 := Lib.hid ho
  have bHZ1 := HZ1.out.le
  obtain rfl : n1 = mHZ1 := by rw [← HZ1.out.len, ← HR1.out.len]
  clear ho hb
  go_wp2_with fail
  refine (enc_any _ _ _ _ _ _ HZ1.out.rd (by omega)).mono ?_
  rintro e w13 ⟨qHH, mHH, eHH, rfl, ho, hb⟩
  replace HB := Lib.hid (below_on HB.out hb)
  replace HW := Lib.hid (HW.out.below hb)
  replace HG := Lib.hid (HG.out.below hb)
  replace HZ1 := Lib.hid (HZ1.out.below hb)
  have HH := Lib.hid ho
  clear ho hb
  obtain rfl : mHW = mHH := by rw [← HH.out.len, ← HW.out.len]
  go_wp2_with fail
  refine (SlB.eq_any _ _ _ _ _ _ _ HH.out.rd HW.out.rd).mono ?_
  rintro e w14 ⟨rfl, hb⟩
  replace HB := Lib.hid (below_on HB.out hb)
  replace HW := Lib.hid (HW.out.below hb)
  replace HG := Lib.hid (HG.out.below hb)
  replace HZ1 := Lib.hid (HZ1.out.below hb)
  replace HH := Lib.hid (HH.out.below hb)
  clear hb
  go_wp2_with fail
  refine (SlB.held_any _ _ _ _ _ HG.out.rd (by omega) (by omega)).mono ?_
  rintro e w15 ⟨rfl, rfl⟩
  go_wp2_with fail
  go_ret
  exact ⟨rfl, HB.out⟩
end Go.Proofs.Ytamlmpigllidoaa.fnExactEncrypt
