/- The walk of the law FnExactMeetAll. -/
import Derived.Test.YtamlmpigllidoabJm
import Derived.Test.YtamlmpigllidoabSlB
import Derived.OpenShut
namespace Go.Proofs.Ytamlmpigllidoab.fnExactMeetAll
open Go.ChangeShapes Go.WideShapes Go.ChangeAt Go.RowKit Sl St Jn Sps SlSpan Jo
set_option maxRecDepth 100000 in
set_option maxHeartbeats 4000000 in
theorem walk {H : Type} {enc : TypeId × Value → H} (W : World) (base : Nat)
    (v0 : Value) (d0 : DataW H) (p0 : List MemPlace) (h0 : DataW.Trod enc Try.prog W 0 (fun _ => true) true 36 v0 d0 p0) (k0 : Value.okWide Try.prog W .any base 36 v0)
    (v1 : Value) (d1 : DataW H) (p1 : List MemPlace) (h1 : DataW.Trod enc Try.prog W 0 (fun _ => true) true 36 v1 d1 p1) (k1 : Value.okWide Try.prog W .any base 36 v1)
    (_hsz : (DataW.weightsEach Try.prog [36, 36] [d0, d1]).all (· ≤ reachBytes) = true) :
    Calls Try.prog 9 #[v0, v1] W fun e w' => e = .returned (.bool true) ∧ Below W.heap.size W w' := by
  obtain ⟨a0, n0, c0, zs0, rfl, hr0⟩ := SlSpan.open_arg h0 k0
  have HR0 := Lib.hid hr0
  have hn0 := hr0.le
  clear hr0
  clear h0 k0
  obtain ⟨a1, n1, c1, zs1, rfl, hr1⟩ := SlSpan.open_arg h1 k1
  have HR1 := Lib.hid hr1
  have hn1 := hr1.le
  clear hr1
  clear h1 k1
  clear _hsz
  have HB := Lib.hid (Below.refl W.heap.size W)
  by_cases hbig0 : 1048576 < n0
  · go_enter Try.func9, Try.ntmps9
    go_wp2_with fail
    refine (sz_big _ _ _ _ _ (by omega) (by omega) (by omega) hn0).mono ?_
    rintro e w0 ⟨rfl, rfl⟩
    go_wp2_with fail
    go_ret
    exact ⟨rfl, HB.out⟩
  by_cases hbig1 : 1048576 < n0 + n1
  · go_enter Try.func9, Try.ntmps9
    go_wp2_with fail
    refine (sz_fits _ _ _ _ _ (by omega) (by omega)).mono ?_
    rintro e w0 ⟨rfl, rfl⟩
    go_wp2_with fail
    refine (sz_big _ _ _ _ _ (by omega) (by omega) (by omega) hn1).mono ?_
    rintro e w0 ⟨rfl, rfl⟩
    go_wp2_with fail
    go_ret
    exact ⟨rfl, HB.out⟩
  go_enter Try.func9, Try.ntmps9
  go_wp2_with fail
  refine (sz_fits _ _ _ _ _ (by omega) (by omega)).mono ?_
  rintro e w0 ⟨rfl, rfl⟩
  go_wp2_with fail
  refine (sz_fits _ _ _ _ _ (by omega) (by omega)).mono ?_
  rintro e w0 ⟨rfl, rfl⟩
  go_wp2_with fail
  refine (SlSpan.to_any _ _ _ _ _ (HR0.out.below HB.out) (by omega)).mono ?_
  rintro e w1 ⟨qHT0, mHT0, eHT0, rfl, ho, hb⟩
  replace HB := Lib.hid (below_on HB.out hb)
  have HT0 := Lib.hid ho
  have bHT0 := HT0.out.le
  obtain rfl : n0 = mHT0 := HR0.out.len.symm.trans HT0.out.len
  have s1 := hb.size
  clear ho hb
  go_wp2_with fail
  refine (SlSpan.to_any _ _ _ _ _ (HR1.out.below HB.out) (by omega)).mono ?_
  rintro e w2 ⟨qHT1, mHT1, eHT1, rfl, ho, hb⟩
  replace HB := Lib.hid (below_on HB.out hb)
  replace HT0 := Lib.hid (HT0.out.below hb)
  have HT1 := Lib.hid ho
  have bHT1 := HT1.out.le
  obtain rfl : n1 = mHT1 := HR1.out.len.symm.trans HT1.out.len
  have s2 := hb.size
  clear ho hb
  have sW := HB.out.size
  go_wp2_with fail
  refine (spec_meetAll_any _ _ _ _ _ _ _ _ _ HT0.out.rd HT1.out.rd (by omega) (by omega)).mono ?_
  rintro e w3 ⟨qHW, mHW, eHW, rfl, ho, hb⟩
  replace HB := Lib.hid (below_on HB.out hb)
  replace HT0 := Lib.hid (HT0.out.below hb)
  replace HT1 := Lib.hid (HT1.out.below hb)
  have HW := Lib.hid ho
  have s3 := hb.size
  clear ho hb
  have bL : mHW ≤ 1099511627776 := by have h1 := HW.out.len; have h2 := join_len (mall zs0 zs1); have h3 := HR0.out.len; have h4 := HR1.out.len; have h5 := mall_len zs1 zs0; have h6 : zs0.length * zs1.length ≤ 1048576 * 1048576 := Nat.mul_le_mul (by omega) (by omega); omega
  clear HT0
  clear HT1
  go_wp2_with fail
  refine (SlSpan.to_any _ _ _ _ _ (HR0.out.below HB.out) (by omega)).mono ?_
  rintro e w4 ⟨qHX0, mHX0, eHX0, rfl, ho, hb⟩
  replace HB := Lib.hid (below_on HB.out hb)
  replace HW := Lib.hid (HW.out.below hb)
  have HX0 := Lib.hid ho
  have bHX0 := HX0.out.le
  obtain rfl : n0 = mHX0 := HR0.out.len.symm.trans HX0.out.len
  have s4 := hb.size
  clear ho hb
  go_wp2_with fail
  refine (SlSpan.to_any _ _ _ _ _ (HR1.out.below HB.out) (by omega)).mono ?_
  rintro e w5 ⟨qHX1, mHX1, eHX1, rfl, ho, hb⟩
  replace HB := Lib.hid (below_on HB.out hb)
  replace HW := Lib.hid (HW.out.below hb)
  replace HX0 := Lib.hid (HX0.out.below hb)
  have HX1 := Lib.hid ho
  have bHX1 := HX1.out.le
  obtain rfl : n1 = mHX1 := HR1.out.len.symm.trans HX1.out.len
  have s5 := hb.size
  clear ho hb
  go_wp2_with fail
  refine (Jm.meetAll_any _ _ _ _ _ _ _ _ _ HX0.out.rd HX1.out.rd (by omega) (by omega)).mono ?_
  rintro e w6 ⟨qHG, mHG, eHG, rfl, ho, hb⟩
  replace HB := Lib.hid (below_on HB.out hb)
  replace HW := Lib.hid (HW.out.below hb)
  replace HX0 := Lib.hid (HX0.out.below hb)
  replace HX1 := Lib.hid (HX1.out.below hb)
  have HG := Lib.hid ho
  have s6 := hb.size
  clear ho hb
  obtain rfl : mHW = mHG := HW.out.len.symm.trans HG.out.len
  go_wp2_with fail
  refine (SlSpan.eq_any _ _ _ _ _ _ _ HG.out.rd HW.out.rd).mono ?_
  rintro e w7 ⟨rfl, hb⟩
  replace HB := Lib.hid (below_on HB.out hb)
  replace HW := Lib.hid (HW.out.below hb)
  replace HX0 := Lib.hid (HX0.out.below hb)
  replace HX1 := Lib.hid (HX1.out.below hb)
  replace HG := Lib.hid (HG.out.below hb)
  clear hb
  go_wp2_with fail
  refine (SlSpan.to_any _ _ _ _ _ (HR0.out.below HB.out) (by omega)).mono ?_
  rintro e w8 ⟨qHY0, mHY0, eHY0, rfl, ho, hb⟩
  replace HB := Lib.hid (below_on HB.out hb)
  replace HW := Lib.hid (HW.out.below hb)
  replace HX0 := Lib.hid (HX0.out.below hb)
  replace HX1 := Lib.hid (HX1.out.below hb)
  replace HG := Lib.hid (HG.out.below hb)
  have HY0 := Lib.hid ho
  have bHY0 := HY0.out.le
  obtain rfl : n0 = mHY0 := HR0.out.len.symm.trans HY0.out.len
  clear ho hb
  go_wp2_with fail
  refine (SlSpan.eq_any _ _ _ _ _ _ _ HX0.out.rd HY0.out.rd).mono ?_
  rintro e w9 ⟨rfl, hb⟩
  replace HB := Lib.hid (below_on HB.out hb)
  replace HW := Lib.hid (HW.out.below hb)
  replace HX0 := Lib.hid (HX0.out.below hb)
  replace HX1 := Lib.hid (HX1.out.below hb)
  replace HG := Lib.hid (HG.out.below hb)
  replace HY0 := Lib.hid (HY0.out.below hb)
  clear hb
  clear HY0
  go_wp2_with fail
  refine (SlSpan.to_any _ _ _ _ _ (HR1.out.below HB.out) (by omega)).mono ?_
  rintro e w10 ⟨qHY1, mHY1, eHY1, rfl, ho, hb⟩
  replace HB := Lib.hid (below_on HB.out hb)
  replace HW := Lib.hid (HW.out.below hb)
  replace HX0 := Lib.hid (HX0.out.below hb)
  replace HX1 := Lib.hid (HX1.out.below hb)
  replace HG := Lib.hid (HG.out.below hb)
  have HY1 := Lib.hid ho
  have bHY1 := HY1.out.le
  obtain rfl : n1 = mHY1 := HR1.out.len.symm.trans HY1.out.len
  clear ho hb
  go_wp2_with fail
  refine (SlSpan.eq_any _ _ _ _ _ _ _ HX1.out.rd HY1.out.rd).mono ?_
  rintro e w11 ⟨rfl, hb⟩
  replace HB := Lib.hid (below_on HB.out hb)
  replace HW := Lib.hid (HW.out.below hb)
  replace HX0 := Lib.hid (HX0.out.below hb)
  replace HX1 := Lib.hid (HX1.out.below hb)
  replace HG := Lib.hid (HG.out.below hb)
  replace HY1 := Lib.hid (HY1.out.below hb)
  clear hb
  clear HY1
  have bHW := HW.out.le
  have bHG := HG.out.le
  go_wp2_with fail
  refine (SlSpan.mark_any _ _ _ _ _ _ _ _ HX0.out (by omega) (by have := HX0.out.le; omega)).mono ?_
  rintro e w12 ⟨rfl, ho, hg⟩
  replace HB := Lib.hid (below_rowS HB.out HX0.out hg (by omega))
  replace HW := Lib.hid (HW.out.apart HX0.out hg (by omega))
  replace HG := Lib.hid (HG.out.apart HX0.out hg (by omega))
  replace HX1 := Lib.hid (HX1.out.apart HX0.out hg (by omega))
  replace HX0 := Lib.hid ho
  clear ho hg
  go_wp2_with fail
  refine (SlSpan.mark_any _ _ _ _ _ _ _ _ HX1.out (by omega) (by have := HX1.out.le; omega)).mono ?_
  rintro e w13 ⟨rfl, ho, hg⟩
  replace HB := Lib.hid (below_rowS HB.out HX1.out hg (by omega))
  replace HW := Lib.hid (HW.out.apart HX1.out hg (by omega))
  replace HG := Lib.hid (HG.out.apart HX1.out hg (by omega))
  replace HX0 := Lib.hid (HX0.out.apart HX1.out hg (by omega))
  replace HX1 := Lib.hid ho
  clear ho hg
  go_wp2_with fail
  refine (SlSpan.eq_any _ _ _ _ _ _ _ HG.out.rd HW.out.rd).mono ?_
  rintro e w14 ⟨rfl, hb⟩
  replace HB := Lib.hid (below_on HB.out hb)
  replace HW := Lib.hid (HW.out.below hb)
  replace HX0 := Lib.hid (HX0.out.below hb)
  replace HX1 := Lib.hid (HX1.out.below hb)
  replace HG := Lib.hid (HG.out.below hb)
  clear hb
  clear HX0
  clear HX1
  go_wp2_with fail
  refine (SlSpan.mark_any _ _ _ _ _ _ _ _ HG.out (by omega) (by have := HG.out.le; omega)).mono ?_
  rintro e w15 ⟨rfl, ho, hg⟩
  replace HB := Lib.hid (below_rowS HB.out HG.out hg (by omega))
  replace HW := Lib.hid (HW.out.apart HG.out hg (by omega))
  replace HG := Lib.hid ho
  clear ho hg
  go_wp2_with fail
  refine (SlSpan.held_any _ _ _ _ _ HG.out.rd (by omega) (by omega)).mono ?_
  rintro e w16 ⟨rfl, rfl⟩
  go_wp2_with fail
  refine (SlSpan.to_any _ _ _ _ _ (HR0.out.below HB.out) (by omega)).mono ?_
  rintro e w17 ⟨qHZ0, mHZ0, eHZ0, rfl, ho, hb⟩
  replace HB := Lib.hid (below_on HB.out hb)
  replace HW := Lib.hid (HW.out.below hb)
  replace HG := Lib.hid (HG.out.below hb)
  have HZ0 := Lib.hid ho
  have bHZ0 := HZ0.out.le
  obtain rfl : n0 = mHZ0 := HR0.out.len.symm.trans HZ0.out.len
  clear ho hb
  go_wp2_with fail
  refine (SlSpan.to_any _ _ _ _ _ (HR1.out.below HB.out) (by omega)).mono ?_
  rintro e w18 ⟨qHZ1, mHZ1, eHZ1, rfl, ho, hb⟩
  replace HB := Lib.hid (below_on HB.out hb)
  replace HW := Lib.hid (HW.out.below hb)
  replace HG := Lib.hid (HG.out.below hb)
  replace HZ0 := Lib.hid (HZ0.out.below hb)
  have HZ1 := Lib.hid ho
  have bHZ1 := HZ1.out.le
  obtain rfl : n1 = mHZ1 := HR1.out.len.symm.trans HZ1.out.len
  clear ho hb
  go_wp2_with fail
  refine (Jm.meetAll_any _ _ _ _ _ _ _ _ _ HZ0.out.rd HZ1.out.rd (by omega) (by omega)).mono ?_
  rintro e w19 ⟨qHH, mHH, eHH, rfl, ho, hb⟩
  replace HB := Lib.hid (below_on HB.out hb)
  replace HW := Lib.hid (HW.out.below hb)
  replace HG := Lib.hid (HG.out.below hb)
  replace HZ0 := Lib.hid (HZ0.out.below hb)
  replace HZ1 := Lib.hid (HZ1.out.below hb)
  have HH := Lib.hid ho
  clear ho hb
  obtain rfl : mHW = mHH := HW.out.len.symm.trans HH.out.len
  go_wp2_with fail
  refine (SlSpan.eq_any _ _ _ _ _ _ _ HH.out.rd HW.out.rd).mono ?_
  rintro e w20 ⟨rfl, hb⟩
  replace HB := Lib.hid (below_on HB.out hb)
  replace HW := Lib.hid (HW.out.below hb)
  replace HG := Lib.hid (HG.out.below hb)
  replace HZ0 := Lib.hid (HZ0.out.below hb)
  replace HZ1 := Lib.hid (HZ1.out.below hb)
  replace HH := Lib.hid (HH.out.below hb)
  clear hb
  go_wp2_with fail
  refine (SlSpan.held_any _ _ _ _ _ HG.out.rd (by omega) (by omega)).mono ?_
  rintro e w21 ⟨rfl, rfl⟩
  go_wp2_with fail
  go_ret
  exact ⟨rfl, HB.out⟩
end Go.Proofs.Ytamlmpigllidoab.fnExactMeetAll
