/- The walk of the law FnExactRenewalBreak. -/
import Derived.Test.YtmfnpgeifkcjkaaEd
import Derived.Test.YtmfnpgeifkcjkaaDz
import Derived.Test.YtmfnpgeifkcjkaaSlI
import Derived.Test.YtmfnpgeifkcjkaaSlKey
import Derived.Test.YtmfnpgeifkcjkaaSlAuthority
import Derived.Test.YtmfnpgeifkcjkaaSlMethod
import Derived.Test.YtmfnpgeifkcjkaaDpRenewal
import Derived.Test.YtmfnpgeifkcjkaaFm2B
import Derived.Test.YtmfnpgeifkcjkaaFm3
import Derived.OpenShut
import Derived.Deep.RegionHeld3
import Derived.Laws.Strings
namespace Go.Proofs.Ytmfnpgeifkcjkaa.fnExactRenewalBreak
open Go.ChangeShapes Go.WideShapes Go.ChangeAt Go.RowKit Sl St Ed Fm0
theorem drewB {W w : World} {B : Nat} (h : Below B W w) : Below B W w.drew := below_drewN h 1
set_option maxRecDepth 100000 in
set_option maxHeartbeats 8000000 in
theorem walk {H : Type} {enc : TypeId × Value → H} (W : World) (base : Nat)
    (v0 : Value) (d0 : DataW H) (p0 : List MemPlace) (h0 : DataW.Trod enc Try.prog W 0 (fun _ => true) true 22 v0 d0 p0) (k0 : Value.okWide Try.prog W .any base 22 v0)
    (v1 : Value) (d1 : DataW H) (p1 : List MemPlace) (h1 : DataW.Trod enc Try.prog W 0 (fun _ => true) true 23 v1 d1 p1) (k1 : Value.okWide Try.prog W .any base 23 v1)
    (v2 : Value) (d2 : DataW H) (p2 : List MemPlace) (h2 : DataW.Trod enc Try.prog W 0 (fun _ => true) true 24 v2 d2 p2) (k2 : Value.okWide Try.prog W .any base 24 v2)
    (v3 : Value) (d3 : DataW H) (p3 : List MemPlace) (h3 : DataW.Trod enc Try.prog W 0 (fun _ => true) true 28 v3 d3 p3) (k3 : Value.okWide Try.prog W .any base 28 v3)
    (_hsz : (DataW.weightsEach Try.prog [22, 23, 24, 28] [d0, d1, d2, d3]).all (· ≤ reachBytes) = true) :
    Calls Try.prog 3 #[v0, v1, v2, v3] W fun e w' => e = .returned (.bool true) ∧ Below W.heap.size W w' := by
  obtain ⟨p0, n0, c0, l0, rfl, hr0, hg0⟩ := SlKey.open_argR h0 k0
  have HP0 : Hid (RdD (flat SlKey.E SlKey.InR) (fun _ => True) W p0 n0 l0) := Lib.hid (RdD.ofS hr0 hg0 (fun _ _ _ _ => trivial))
  have hn0 := hr0.le
  clear hr0 hg0
  clear h0 k0
  obtain ⟨p1, n1, c1, l1, rfl, hr1, hg1⟩ := SlAuthority.open_argR h1 k1
  have HP1 : Hid (RdD (flat SlAuthority.E SlAuthority.InR) (fun _ => True) W p1 n1 l1) := Lib.hid (RdD.ofS hr1 hg1 (fun _ _ _ _ => trivial))
  have hn1 := hr1.le
  clear hr1 hg1
  clear h1 k1
  obtain ⟨p2, n2, c2, l2, rfl, hr2, hg2⟩ := SlMethod.open_argR h2 k2
  have HP2 : Hid (RdD (flat SlMethod.E SlMethod.InR) (fun _ => True) W p2 n2 l2) := Lib.hid (RdD.ofS hr2 hg2 (fun _ _ _ _ => trivial))
  have hn2 := hr2.le
  clear hr2 hg2
  clear h2 k2
  obtain ⟨x3_0, x3_1, x3_2, l3_3, l3_4, p3_3, n3_3, c3_3, p3_4, n3_4, c3_4, rfl, b3_0, b3_1, b3_2, h3_3, h3_4⟩ := DpRenewal.open_val h3 k3
  have HG3_0 := Lib.hid b3_0
  have HG3_1 := Lib.hid b3_1
  have HG3_2 := Lib.hid b3_2
  have HP3_3 := Lib.hid h3_3
  have HP3_4 := Lib.hid h3_4
  have hn3_3 := h3_3.le
  have hn3_4 := h3_4.le
  clear b3_0 b3_1 b3_2 h3_3 h3_4
  clear h3 k3
  clear _hsz
  have HB := Lib.hid (Below.refl W.heap.size W)
  have HX3 := Lib.hid (Bx.new W 28 #[.int .i64 x3_0, .int .i64 x3_1, .int .i64 x3_2, .slice p3_3 n3_3 c3_3, .slice p3_4 n3_4 c3_4])
  replace HB := Lib.hid (HB.out.alloc HB.out.size (.cells #[.int .i64 x3_0, .int .i64 x3_1, .int .i64 x3_2, .slice p3_3 n3_3 c3_3, .slice p3_4 n3_4 c3_4] 28))
  have lX3 := HX3.out.lt
  obtain ⟨m3, hm3⟩ : ∃ m : Nat, DpRenewal.E.wt (x3_0, x3_1, x3_2, l3_3, l3_4) = m := ⟨_, rfl⟩
  have HM3 := Lib.hid hm3
  clear hm3
  by_cases hbig0 : 1048576 < n0
  · go_enter Try.func3, Try.ntmps3
    go_wp2_with fail
    refine (SlKey.sz_big _ _ _ _ _ (by omega) (by omega) (by omega) hn0).mono ?_
    rintro e w1 ⟨rfl, rfl⟩
    go_wp2_with fail
    go_ret
    exact ⟨rfl, HB.out⟩
  by_cases hbig1 : 1048576 < n0 + n1
  · go_enter Try.func3, Try.ntmps3
    go_wp2_with fail
    refine (SlKey.sz_fits _ _ _ _ _ (by omega) (by omega)).mono ?_
    rintro e w2 ⟨rfl, rfl⟩
    go_wp2_with fail
    refine (SlAuthority.sz_big _ _ _ _ _ (by omega) (by omega) (by omega) hn1).mono ?_
    rintro e w3 ⟨rfl, rfl⟩
    go_wp2_with fail
    go_ret
    exact ⟨rfl, HB.out⟩
  by_cases hbig2 : 1048576 < n0 + n1 + n2
  · go_enter Try.func3, Try.ntmps3
    go_wp2_with fail
    refine (SlKey.sz_fits _ _ _ _ _ (by omega) (by omega)).mono ?_
    rintro e w4 ⟨rfl, rfl⟩
    go_wp2_with fail
    refine (SlAuthority.sz_fits _ _ _ _ _ (by omega) (by omega)).mono ?_
    rintro e w5 ⟨rfl, rfl⟩
    go_wp2_with fail
    refine (SlMethod.sz_big _ _ _ _ _ (by omega) (by omega) (by omega) hn2).mono ?_
    rintro e w6 ⟨rfl, rfl⟩
    go_wp2_with fail
    go_ret
    exact ⟨rfl, HB.out⟩
  by_cases hbig3 : 1048576 < n0 + n1 + n2 + m3
  · go_enter Try.func3, Try.ntmps3
    go_wp2_with fail
    refine (SlKey.sz_fits _ _ _ _ _ (by omega) (by omega)).mono ?_
    rintro e w7 ⟨rfl, rfl⟩
    go_wp2_with fail
    refine (SlAuthority.sz_fits _ _ _ _ _ (by omega) (by omega)).mono ?_
    rintro e w8 ⟨rfl, rfl⟩
    go_wp2_with fail
    refine (SlMethod.sz_fits _ _ _ _ _ (by omega) (by omega)).mono ?_
    rintro e w9 ⟨rfl, rfl⟩
    obtain ⟨i0, i1, i2, i3, i4⟩ := DpRenewal.bxc HX3.out
    go_wp2_with fail
    refine (DpRenewal.sz_big _ _ _ _ _ _ _ _ _ _ _ _ _ _ HM3.out (HP3_3.out.below HB.out) (HP3_4.out.below HB.out) (by omega) (by omega) (by omega)).mono ?_
    rintro e w10 ⟨rfl, hb⟩
    replace HB := Lib.hid (below_on HB.out hb)
    replace HX3 := Lib.hid (HX3.out.below hb)
    clear hb
    clear i0 i1 i2 i3 i4
    go_wp2_with fail
    go_ret
    exact ⟨rfl, HB.out⟩
  go_enter Try.func3, Try.ntmps3
  go_wp2_with fail
  refine (SlKey.sz_fits _ _ _ _ _ (by omega) (by omega)).mono ?_
  rintro e w11 ⟨rfl, rfl⟩
  go_wp2_with fail
  refine (SlAuthority.sz_fits _ _ _ _ _ (by omega) (by omega)).mono ?_
  rintro e w12 ⟨rfl, rfl⟩
  go_wp2_with fail
  refine (SlMethod.sz_fits _ _ _ _ _ (by omega) (by omega)).mono ?_
  rintro e w13 ⟨rfl, rfl⟩
  obtain ⟨i0, i1, i2, i3, i4⟩ := DpRenewal.bxc HX3.out
  go_wp2_with fail
  refine (DpRenewal.sz_fits _ _ _ _ _ _ _ _ _ _ _ _ _ _ HM3.out (HP3_3.out.below HB.out) (HP3_4.out.below HB.out) (by omega) (by omega)).mono ?_
  rintro e w14 ⟨rfl, hb⟩
  replace HB := Lib.hid (below_on HB.out hb)
  replace HX3 := Lib.hid (HX3.out.below hb)
  clear hb
  clear i0 i1 i2 i3 i4
  have sm0 : n0 ≤ 1048576 := by omega
  have sm1 : n1 ≤ 1048576 := by omega
  have sm2 : n2 ≤ 1048576 := by omega
  have sm3 : m3 ≤ 1048576 := by omega
  have smt : n0 + n1 + n2 + m3 ≤ 1048576 := by omega
  clear hbig0
  clear hbig1
  clear hbig2
  clear hbig3
  have sn3_3 : n3_3 ≤ 1048576 := by have h := HM3.out; have k := HP3_3.out.len; simp only [DpRenewal.wt_eq] at h; omega
  have sn3_4 : n3_4 ≤ 1048576 := by have h := HM3.out; have k := HP3_4.out.len; simp only [DpRenewal.wt_eq] at h; omega
  obtain ⟨j0_0, j0_1, j0_2, j0_3, j0_4⟩ := DpRenewal.bxc HX3.out
  go_wp2_with fail
  replace HB := Lib.hid (drewB HB.out)
  replace HX3 := Lib.hid (HX3.out.below (drewB (Below.refl _ _)))
  go_region_held3 (fun w' => w'.cell? ⟨W.heap.size, 0, none⟩ = some (.int .i64 x3_0) ∧ w'.cell? ⟨W.heap.size, 1, none⟩ = some (.int .i64 x3_1) ∧ w'.cell? ⟨W.heap.size, 2, none⟩ = some (.int .i64 x3_2) ∧ w'.cell? ⟨W.heap.size, 3, none⟩ = some (.slice p3_3 n3_3 c3_3) ∧ w'.cell? ⟨W.heap.size, 4, none⟩ = some (.slice p3_4 n3_4 c3_4)) (first | exact DpRenewal.bxc HX3.out | go_keep) (first | (go_at_call 13; (with_reducible refine (SlKey.to_any _ _ _ _ _ (HP0.out.below HB.out).rdS (by omega)).mono ?_); rintro e w15 ⟨qHT0, mHT0, dHT0, rfl, ho, hb⟩; replace HB := Lib.hid (below_on HB.out hb); replace HX3 := Lib.hid (HX3.out.below hb); have HT0 := Lib.hid (RdD.ofOwS ho HP0.out.allP); obtain rfl : n0 = mHT0 := HP0.out.len.symm.trans HT0.out.len; clear ho; clear hb) | (go_at_call 14; (with_reducible refine (SlAuthority.to_any _ _ _ _ _ (HP1.out.below HB.out).rdS (by omega)).mono ?_); rintro e w16 ⟨qHT1, mHT1, dHT1, rfl, ho, hb⟩; replace HB := Lib.hid (below_on HB.out hb); replace HX3 := Lib.hid (HX3.out.below hb); replace HT0 := Lib.hid (HT0.out.below hb); have HT1 := Lib.hid (RdD.ofOwS ho HP1.out.allP); obtain rfl : n1 = mHT1 := HP1.out.len.symm.trans HT1.out.len; clear ho; clear hb) | (go_at_call 15; (with_reducible refine (SlMethod.to_any _ _ _ _ _ (HP2.out.below HB.out).rdS (by omega)).mono ?_); rintro e w17 ⟨qHT2, mHT2, dHT2, rfl, ho, hb⟩; replace HB := Lib.hid (below_on HB.out hb); replace HX3 := Lib.hid (HX3.out.below hb); replace HT0 := Lib.hid (HT0.out.below hb); replace HT1 := Lib.hid (HT1.out.below hb); have HT2 := Lib.hid (RdD.ofOwS ho HP2.out.allP); obtain rfl : n2 = mHT2 := HP2.out.len.symm.trans HT2.out.len; clear ho; clear hb) | (go_at_call 16; (with_reducible refine (DpRenewal.to_any _ _ _ _ _ _ _ _ _ _ _ _ (HP3_3.out.below HB.out) (HP3_4.out.below HB.out) (by rw [HM3.out]; omega)).mono ?_); rintro e w18 ⟨qHT3_0, dHT3_0, qHT3_1, dHT3_1, rfl, ho0, ho1, hb⟩; replace HB := Lib.hid (below_on HB.out hb); replace HX3 := Lib.hid (HX3.out.below hb); replace HT0 := Lib.hid (HT0.out.below hb); replace HT1 := Lib.hid (HT1.out.below hb); replace HT2 := Lib.hid (HT2.out.below hb); have HT3_0 := Lib.hid ho0; have HT3_1 := Lib.hid ho1; clear ho0 ho1; clear hb) | (go_at_call 12; (with_reducible refine (Fm3.spec_break_any _ _ _ _ _ _ _ _ _ _ _ _ _ _ _ _ _ _ _ _ _ _ _ _ HT0.out HT1.out HT2.out HT3_0.out HT3_1.out).mono ?_); rintro e w19 ⟨rfl, hb⟩; replace HB := Lib.hid (below_on HB.out hb); replace HX3 := Lib.hid (HX3.out.below hb); replace HT0 := Lib.hid (HT0.out.below hb); replace HT1 := Lib.hid (HT1.out.below hb); replace HT2 := Lib.hid (HT2.out.below hb); replace HT3_0 := Lib.hid (HT3_0.out.below hb); replace HT3_1 := Lib.hid (HT3_1.out.below hb); clear hb))
  clear j0_0 j0_1 j0_2 j0_3 j0_4
  clear HT0
  clear HT1
  clear HT2
  clear HT3_0
  clear HT3_1
  go_wp2_with fail
  refine (SlKey.to_any _ _ _ _ _ (HP0.out.below HB.out).rdS (by omega)).mono ?_
  rintro e w20 ⟨qHU0, mHU0, dHU0, rfl, ho, hb⟩
  replace HB := Lib.hid (below_on HB.out hb)
  replace HX3 := Lib.hid (HX3.out.below hb)
  have HU0 := Lib.hid (RdD.ofOwS ho HP0.out.allP)
  obtain rfl : n0 = mHU0 := HP0.out.len.symm.trans HU0.out.len
  clear ho
  clear hb
  go_wp2_with fail
  refine (SlAuthority.to_any _ _ _ _ _ (HP1.out.below HB.out).rdS (by omega)).mono ?_
  rintro e w21 ⟨qHU1, mHU1, dHU1, rfl, ho, hb⟩
  replace HB := Lib.hid (below_on HB.out hb)
  replace HX3 := Lib.hid (HX3.out.below hb)
  replace HU0 := Lib.hid (HU0.out.below hb)
  have HU1 := Lib.hid (RdD.ofOwS ho HP1.out.allP)
  obtain rfl : n1 = mHU1 := HP1.out.len.symm.trans HU1.out.len
  clear ho
  clear hb
  go_wp2_with fail
  refine (SlMethod.to_any _ _ _ _ _ (HP2.out.below HB.out).rdS (by omega)).mono ?_
  rintro e w22 ⟨qHU2, mHU2, dHU2, rfl, ho, hb⟩
  replace HB := Lib.hid (below_on HB.out hb)
  replace HX3 := Lib.hid (HX3.out.below hb)
  replace HU0 := Lib.hid (HU0.out.below hb)
  replace HU1 := Lib.hid (HU1.out.below hb)
  have HU2 := Lib.hid (RdD.ofOwS ho HP2.out.allP)
  obtain rfl : n2 = mHU2 := HP2.out.len.symm.trans HU2.out.len
  clear ho
  clear hb
  obtain ⟨i0, i1, i2, i3, i4⟩ := DpRenewal.bxc HX3.out
  go_wp2_with fail
  refine (DpRenewal.to_any _ _ _ _ _ _ _ _ _ _ _ _ (HP3_3.out.below HB.out) (HP3_4.out.below HB.out) (by rw [HM3.out]; omega)).mono ?_
  rintro e w23 ⟨qHU3_0, dHU3_0, qHU3_1, dHU3_1, rfl, ho0, ho1, hb⟩
  replace HB := Lib.hid (below_on HB.out hb)
  replace HX3 := Lib.hid (HX3.out.below hb)
  replace HU0 := Lib.hid (HU0.out.below hb)
  replace HU1 := Lib.hid (HU1.out.below hb)
  replace HU2 := Lib.hid (HU2.out.below hb)
  have HU3_0 := Lib.hid ho0
  have HU3_1 := Lib.hid ho1
  clear ho0 ho1
  clear hb
  clear i0 i1 i2 i3 i4
  have HS3 := Lib.hid (Bx.new w23 43 #[.int .i64 x3_0, .int .i64 x3_1, .int .i64 x3_2, .slice qHU3_0 n3_3 dHU3_0, .slice qHU3_1 n3_4 dHU3_1])
  have lHS3 := HS3.out.lt
  replace HB := Lib.hid (HB.out.alloc HB.out.size (.cells #[.int .i64 x3_0, .int .i64 x3_1, .int .i64 x3_2, .slice qHU3_0 n3_3 dHU3_0, .slice qHU3_1 n3_4 dHU3_1] 43))
  replace HX3 := Lib.hid (HX3.out.alloc (.cells #[.int .i64 x3_0, .int .i64 x3_1, .int .i64 x3_2, .slice qHU3_0 n3_3 dHU3_0, .slice qHU3_1 n3_4 dHU3_1] 43))
  replace HU0 := Lib.hid (HU0.out.alloc (.cells #[.int .i64 x3_0, .int .i64 x3_1, .int .i64 x3_2, .slice qHU3_0 n3_3 dHU3_0, .slice qHU3_1 n3_4 dHU3_1] 43))
  replace HU1 := Lib.hid (HU1.out.alloc (.cells #[.int .i64 x3_0, .int .i64 x3_1, .int .i64 x3_2, .slice qHU3_0 n3_3 dHU3_0, .slice qHU3_1 n3_4 dHU3_1] 43))
  replace HU2 := Lib.hid (HU2.out.alloc (.cells #[.int .i64 x3_0, .int .i64 x3_1, .int .i64 x3_2, .slice qHU3_0 n3_3 dHU3_0, .slice qHU3_1 n3_4 dHU3_1] 43))
  replace HU3_0 := Lib.hid (HU3_0.out.alloc (.cells #[.int .i64 x3_0, .int .i64 x3_1, .int .i64 x3_2, .slice qHU3_0 n3_3 dHU3_0, .slice qHU3_1 n3_4 dHU3_1] 43))
  replace HU3_1 := Lib.hid (HU3_1.out.alloc (.cells #[.int .i64 x3_0, .int .i64 x3_1, .int .i64 x3_2, .slice qHU3_0 n3_3 dHU3_0, .slice qHU3_1 n3_4 dHU3_1] 43))
  obtain ⟨k3_0, k3_1, k3_2, k3_3, k3_4⟩ := DpRenewal.bxc HS3.out
  go_wp2_with fail
  refine (Fm2B.break_any _ _ _ _ _ _ _ _ _ _ _ _ _ _ _ _ _ _ _ _ _ _ _ HG3_1.out _ HU0.out HU1.out HU2.out HU3_0.out HU3_1.out sn3_4).mono ?_
  rintro e w24 ⟨rfl, hb⟩
  replace HB := Lib.hid (below_on HB.out hb)
  replace HX3 := Lib.hid (HX3.out.below hb)
  replace HU0 := Lib.hid (HU0.out.below hb)
  replace HU1 := Lib.hid (HU1.out.below hb)
  replace HU2 := Lib.hid (HU2.out.below hb)
  replace HU3_0 := Lib.hid (HU3_0.out.below hb)
  replace HU3_1 := Lib.hid (HU3_1.out.below hb)
  replace HS3 := Lib.hid (HS3.out.below hb)
  clear hb
  clear k3_0 k3_1 k3_2 k3_3 k3_4
  go_wp2_with fail
  refine (SlKey.to_any _ _ _ _ _ (HP0.out.below HB.out).rdS (by omega)).mono ?_
  rintro e w25 ⟨qHY0, mHY0, dHY0, rfl, ho, hb⟩
  replace HB := Lib.hid (below_on HB.out hb)
  replace HX3 := Lib.hid (HX3.out.below hb)
  replace HU0 := Lib.hid (HU0.out.below hb)
  replace HU1 := Lib.hid (HU1.out.below hb)
  replace HU2 := Lib.hid (HU2.out.below hb)
  replace HU3_0 := Lib.hid (HU3_0.out.below hb)
  replace HU3_1 := Lib.hid (HU3_1.out.below hb)
  replace HS3 := Lib.hid (HS3.out.below hb)
  have HY0 := Lib.hid (RdD.ofOwS ho HP0.out.allP)
  obtain rfl : n0 = mHY0 := HP0.out.len.symm.trans HY0.out.len
  clear ho
  clear hb
  go_wp2_with fail
  refine (SlKey.eq_any _ _ _ _ _ _ _ HU0.out.rdS HY0.out.rdS).mono ?_
  rintro e w26 ⟨rfl, hb⟩
  replace HB := Lib.hid (below_on HB.out hb)
  replace HX3 := Lib.hid (HX3.out.below hb)
  replace HU0 := Lib.hid (HU0.out.below hb)
  replace HU1 := Lib.hid (HU1.out.below hb)
  replace HU2 := Lib.hid (HU2.out.below hb)
  replace HU3_0 := Lib.hid (HU3_0.out.below hb)
  replace HU3_1 := Lib.hid (HU3_1.out.below hb)
  replace HS3 := Lib.hid (HS3.out.below hb)
  replace HY0 := Lib.hid (HY0.out.below hb)
  clear hb
  clear HY0
  go_wp2_with fail
  refine (SlAuthority.to_any _ _ _ _ _ (HP1.out.below HB.out).rdS (by omega)).mono ?_
  rintro e w27 ⟨qHY1, mHY1, dHY1, rfl, ho, hb⟩
  replace HB := Lib.hid (below_on HB.out hb)
  replace HX3 := Lib.hid (HX3.out.below hb)
  replace HU0 := Lib.hid (HU0.out.below hb)
  replace HU1 := Lib.hid (HU1.out.below hb)
  replace HU2 := Lib.hid (HU2.out.below hb)
  replace HU3_0 := Lib.hid (HU3_0.out.below hb)
  replace HU3_1 := Lib.hid (HU3_1.out.below hb)
  replace HS3 := Lib.hid (HS3.out.below hb)
  have HY1 := Lib.hid (RdD.ofOwS ho HP1.out.allP)
  obtain rfl : n1 = mHY1 := HP1.out.len.symm.trans HY1.out.len
  clear ho
  clear hb
  go_wp2_with fail
  refine (SlAuthority.eq_any _ _ _ _ _ _ _ HU1.out.rdS HY1.out.rdS).mono ?_
  rintro e w28 ⟨rfl, hb⟩
  replace HB := Lib.hid (below_on HB.out hb)
  replace HX3 := Lib.hid (HX3.out.below hb)
  replace HU0 := Lib.hid (HU0.out.below hb)
  replace HU1 := Lib.hid (HU1.out.below hb)
  replace HU2 := Lib.hid (HU2.out.below hb)
  replace HU3_0 := Lib.hid (HU3_0.out.below hb)
  replace HU3_1 := Lib.hid (HU3_1.out.below hb)
  replace HS3 := Lib.hid (HS3.out.below hb)
  replace HY1 := Lib.hid (HY1.out.below hb)
  clear hb
  clear HY1
  go_wp2_with fail
  refine (SlMethod.to_any _ _ _ _ _ (HP2.out.below HB.out).rdS (by omega)).mono ?_
  rintro e w29 ⟨qHY2, mHY2, dHY2, rfl, ho, hb⟩
  replace HB := Lib.hid (below_on HB.out hb)
  replace HX3 := Lib.hid (HX3.out.below hb)
  replace HU0 := Lib.hid (HU0.out.below hb)
  replace HU1 := Lib.hid (HU1.out.below hb)
  replace HU2 := Lib.hid (HU2.out.below hb)
  replace HU3_0 := Lib.hid (HU3_0.out.below hb)
  replace HU3_1 := Lib.hid (HU3_1.out.below hb)
  replace HS3 := Lib.hid (HS3.out.below hb)
  have HY2 := Lib.hid (RdD.ofOwS ho HP2.out.allP)
  obtain rfl : n2 = mHY2 := HP2.out.len.symm.trans HY2.out.len
  clear ho
  clear hb
  go_wp2_with fail
  refine (SlMethod.eq_any _ _ _ _ _ _ _ HU2.out.rdS HY2.out.rdS).mono ?_
  rintro e w30 ⟨rfl, hb⟩
  replace HB := Lib.hid (below_on HB.out hb)
  replace HX3 := Lib.hid (HX3.out.below hb)
  replace HU0 := Lib.hid (HU0.out.below hb)
  replace HU1 := Lib.hid (HU1.out.below hb)
  replace HU2 := Lib.hid (HU2.out.below hb)
  replace HU3_0 := Lib.hid (HU3_0.out.below hb)
  replace HU3_1 := Lib.hid (HU3_1.out.below hb)
  replace HS3 := Lib.hid (HS3.out.below hb)
  replace HY2 := Lib.hid (HY2.out.below hb)
  clear hb
  clear HY2
  obtain ⟨j0_0, j0_1, j0_2, j0_3, j0_4⟩ := DpRenewal.bxc HS3.out
  obtain ⟨j1_0, j1_1, j1_2, j1_3, j1_4⟩ := DpRenewal.bxc HX3.out
  go_wp2_with fail
  replace HB := Lib.hid (drewB HB.out)
  replace HX3 := Lib.hid (HX3.out.below (drewB (Below.refl _ _)))
  replace HU0 := Lib.hid (HU0.out.below (drewB (Below.refl _ _)))
  replace HU1 := Lib.hid (HU1.out.below (drewB (Below.refl _ _)))
  replace HU2 := Lib.hid (HU2.out.below (drewB (Below.refl _ _)))
  replace HU3_0 := Lib.hid (HU3_0.out.below (drewB (Below.refl _ _)))
  replace HU3_1 := Lib.hid (HU3_1.out.below (drewB (Below.refl _ _)))
  replace HS3 := Lib.hid (HS3.out.below (drewB (Below.refl _ _)))
  go_region_held3 (fun w' => (w'.cell? ⟨w23.heap.size, 0, none⟩ = some (.int .i64 x3_0) ∧ w'.cell? ⟨w23.heap.size, 1, none⟩ = some (.int .i64 x3_1) ∧ w'.cell? ⟨w23.heap.size, 2, none⟩ = some (.int .i64 x3_2) ∧ w'.cell? ⟨w23.heap.size, 3, none⟩ = some (.slice qHU3_0 n3_3 dHU3_0) ∧ w'.cell? ⟨w23.heap.size, 4, none⟩ = some (.slice qHU3_1 n3_4 dHU3_1)) ∧ w'.cell? ⟨W.heap.size, 0, none⟩ = some (.int .i64 x3_0) ∧ w'.cell? ⟨W.heap.size, 1, none⟩ = some (.int .i64 x3_1) ∧ w'.cell? ⟨W.heap.size, 2, none⟩ = some (.int .i64 x3_2) ∧ w'.cell? ⟨W.heap.size, 3, none⟩ = some (.slice p3_3 n3_3 c3_3) ∧ w'.cell? ⟨W.heap.size, 4, none⟩ = some (.slice p3_4 n3_4 c3_4)) (first | exact ⟨DpRenewal.bxc HS3.out, DpRenewal.bxc HX3.out⟩ | go_keep) (first | (go_at_call 16; (with_reducible refine (DpRenewal.to_any _ _ _ _ _ _ _ _ _ _ _ _ (HP3_3.out.below HB.out) (HP3_4.out.below HB.out) (by rw [HM3.out]; omega)).mono ?_); rintro e w31 ⟨qHY3_0, dHY3_0, qHY3_1, dHY3_1, rfl, ho0, ho1, hb⟩; replace HB := Lib.hid (below_on HB.out hb); replace HX3 := Lib.hid (HX3.out.below hb); replace HU0 := Lib.hid (HU0.out.below hb); replace HU1 := Lib.hid (HU1.out.below hb); replace HU2 := Lib.hid (HU2.out.below hb); replace HU3_0 := Lib.hid (HU3_0.out.below hb); replace HU3_1 := Lib.hid (HU3_1.out.below hb); replace HS3 := Lib.hid (HS3.out.below hb); have HY3_0 := Lib.hid ho0; have HY3_1 := Lib.hid ho1; clear ho0 ho1; clear hb) | (go_at_call 21; (with_reducible refine (DpRenewal.eq_any _ _ _ _ _ _ _ _ _ _ _ _ _ _ _ _ HU3_0.out HY3_0.out HU3_1.out HY3_1.out).mono ?_); rintro e w32 ⟨rfl, hb⟩; replace HB := Lib.hid (below_on HB.out hb); replace HX3 := Lib.hid (HX3.out.below hb); replace HU0 := Lib.hid (HU0.out.below hb); replace HU1 := Lib.hid (HU1.out.below hb); replace HU2 := Lib.hid (HU2.out.below hb); replace HU3_0 := Lib.hid (HU3_0.out.below hb); replace HU3_1 := Lib.hid (HU3_1.out.below hb); replace HS3 := Lib.hid (HS3.out.below hb); replace HY3_0 := Lib.hid (HY3_0.out.below hb); replace HY3_1 := Lib.hid (HY3_1.out.below hb); clear hb))
  clear j0_0 j0_1 j0_2 j0_3 j0_4
  clear j1_0 j1_1 j1_2 j1_3 j1_4
  clear HY3_0
  clear HY3_1
  go_wp2_with fail
  go_ret
  exact ⟨rfl, HB.out⟩
end Go.Proofs.Ytmfnpgeifkcjkaa.fnExactRenewalBreak
