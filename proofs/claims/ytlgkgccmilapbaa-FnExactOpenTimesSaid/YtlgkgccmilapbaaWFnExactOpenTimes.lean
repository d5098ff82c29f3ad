/- The walk of the law FnExactOpenTimes. -/
import Derived.Test.YtlgkgccmilapbaaSlCert
import Derived.Test.YtlgkgccmilapbaaSlStatus
import Derived.Test.YtlgkgccmilapbaaSlSpan
import Derived.Test.YtlgkgccmilapbaaEg3
import Derived.Test.YtlgkgccmilapbaaEg4
import Derived.Test.YtlgkgccmilapbaaSlB
import Derived.Test.YtlgkgccmilapbaaSlI
import Derived.OpenShut
namespace Go.Proofs.Ytlgkgccmilapbaa.fnExactOpenTimes
open Go.ChangeShapes Go.WideShapes Go.ChangeAt Go.RowKit Sl St Jn Sps
set_option maxRecDepth 100000 in
set_option maxHeartbeats 16000000 in
theorem walk {H : Type} {enc : TypeId × Value → H} (W : World) (base : Nat)
    (v0 : Value) (d0 : DataW H) (p0 : List MemPlace) (h0 : DataW.Trod enc Try.prog W 0 (fun _ => true) true 23 v0 d0 p0) (k0 : Value.okWide Try.prog W .any base 23 v0)
    (v1 : Value) (d1 : DataW H) (p1 : List MemPlace) (h1 : DataW.Trod enc Try.prog W 0 (fun _ => true) true 24 v1 d1 p1) (k1 : Value.okWide Try.prog W .any base 24 v1)
    (_hsz : (DataW.weightsEach Try.prog [23, 24] [d0, d1]).all (· ≤ reachBytes) = true) :
    Calls Try.prog 5 #[v0, v1] W fun e w' => e = .returned (.bool true) ∧ Below W.heap.size W w' := by
  obtain ⟨x0_0, x0_1, x0_2, x0_3, x0_4, x0_5, x0_6, rfl, b0_0, b0_1, b0_2, b0_3, b0_4, b0_5, b0_6⟩ := SlCert.open_val h0 k0
  have HG0_0 := Lib.hid b0_0
  have HG0_1 := Lib.hid b0_1
  have HG0_2 := Lib.hid b0_2
  have HG0_3 := Lib.hid b0_3
  have HG0_4 := Lib.hid b0_4
  have HG0_5 := Lib.hid b0_5
  have HG0_6 := Lib.hid b0_6
  clear b0_0 b0_1 b0_2 b0_3 b0_4 b0_5 b0_6
  clear h0 k0
  obtain ⟨a1, n1, c1, zs1, rfl, hr1, hg1⟩ := SlStatus.open_argR h1 k1
  have HR1 := Lib.hid hr1
  have hn1 := hr1.le
  clear hr1
  clear h1 k1
  clear _hsz
  have HC0 : Hid (SlCert.InR (x0_0, x0_1, x0_2, x0_3, x0_4, x0_5, x0_6)) := Lib.hid ⟨HG0_0.out, HG0_1.out, HG0_2.out, HG0_3.out, HG0_4.out, HG0_5.out, HG0_6.out⟩
  have HB := Lib.hid (Below.refl W.heap.size W)
  have HX0 := Lib.hid (Bx.new W 23 #[.int .i64 x0_0, .int .i64 x0_1, .int .i64 x0_2, .int .i64 x0_3, .int .i64 x0_4, .int .i64 x0_5, .int .i64 x0_6])
  replace HB := Lib.hid (HB.out.alloc HB.out.size (.cells #[.int .i64 x0_0, .int .i64 x0_1, .int .i64 x0_2, .int .i64 x0_3, .int .i64 x0_4, .int .i64 x0_5, .int .i64 x0_6] 23))
  have lX0 := HX0.out.lt
  by_cases hbig1 : 1048576 < n1
  · go_enter Try.func5, Try.ntmps5
    go_wp2_with fail
    refine (SlStatus.sz_big _ _ _ _ _ (by omega) (by omega) (by omega) hn1).mono ?_
    rintro e w0 ⟨rfl, rfl⟩
    go_wp2_with fail
    go_ret
    exact ⟨rfl, HB.out⟩
  go_enter Try.func5, Try.ntmps5
  go_wp2_with fail
  refine (SlStatus.sz_fits _ _ _ _ _ (by omega) (by omega)).mono ?_
  rintro e w0 ⟨rfl, rfl⟩
  have sW := HB.out.size
  obtain ⟨cc0, cc1, cc2, cc3, cc4, cc5, cc6⟩ := SlCert.bxc HX0.out
  go_wp2_with fail
  refine (SlCert.val_any _ _ _ _ _ _ _ _).mono ?_
  rintro e w1 ⟨rfl, hb⟩
  replace HB := Lib.hid (below_on HB.out hb)
  replace HX0 := Lib.hid (HX0.out.below hb)
  have s1 := hb.size
  clear hb
  clear cc0 cc1 cc2 cc3 cc4 cc5 cc6
  go_wp2_with fail
  refine (SlStatus.to_any _ _ _ _ _ (HR1.out.below HB.out) (by omega)).mono ?_
  rintro e w2 ⟨qHT1, mHT1, eHT1, rfl, ho, hb⟩
  replace HB := Lib.hid (below_on HB.out hb)
  replace HX0 := Lib.hid (HX0.out.below hb)
  have HT1 := Lib.hid ho
  have bHT1 := HT1.out.le
  obtain rfl : n1 = mHT1 := HR1.out.len.symm.trans HT1.out.len
  have s2 := hb.size
  clear ho hb
  go_wp2_with fail
  refine (Eg4.spec_openS_any x0_0 x0_1 x0_2 x0_3 x0_4 x0_5 x0_6 HC0.out _ _ _ zs1 hg1 _ HT1.out.rd).mono ?_
  rintro e w3 ⟨qHW, mHW, eHW, rfl, ho, hb⟩
  replace HB := Lib.hid (below_on HB.out hb)
  replace HX0 := Lib.hid (HX0.out.below hb)
  replace HT1 := Lib.hid (HT1.out.below hb)
  have HW := Lib.hid ho
  have s3 := hb.size
  clear ho hb
  have bL : mHW ≤ 10001 := by have h1 := HW.out.len; have h2 := Egm.cov_len (Egm.openB x0_3 x0_4 (Gu.goodU zs1 x0_0) (Gu.badF zs1 x0_0)); omega
  clear HT1
  go_wp2_with fail
  refine (SlStatus.to_any _ _ _ _ _ (HR1.out.below HB.out) (by omega)).mono ?_
  rintro e w4 ⟨qHK1, mHK1, eHK1, rfl, ho, hb⟩
  replace HB := Lib.hid (below_on HB.out hb)
  replace HX0 := Lib.hid (HX0.out.below hb)
  replace HW := Lib.hid (HW.out.below hb)
  have HK1 := Lib.hid ho
  have bHK1 := HK1.out.le
  obtain rfl : n1 = mHK1 := HR1.out.len.symm.trans HK1.out.len
  have s4 := hb.size
  clear ho hb
  obtain ⟨cc0, cc1, cc2, cc3, cc4, cc5, cc6⟩ := SlCert.bxc HX0.out
  go_wp2_with fail
  refine (SlCert.val_any _ _ _ _ _ _ _ _).mono ?_
  rintro e w5 ⟨rfl, hb⟩
  replace HB := Lib.hid (below_on HB.out hb)
  replace HX0 := Lib.hid (HX0.out.below hb)
  replace HW := Lib.hid (HW.out.below hb)
  replace HK1 := Lib.hid (HK1.out.below hb)
  have s5 := hb.size
  clear hb
  clear cc0 cc1 cc2 cc3 cc4 cc5 cc6
  go_wp2_with fail
  refine (Eg3.openS_any x0_0 x0_1 x0_2 x0_3 x0_4 x0_5 x0_6 HC0.out _ _ _ zs1 hg1 _ HK1.out.rd).mono ?_
  rintro e w6 ⟨qHG, mHG, eHG, rfl, ho, hb⟩
  replace HB := Lib.hid (below_on HB.out hb)
  replace HX0 := Lib.hid (HX0.out.below hb)
  replace HW := Lib.hid (HW.out.below hb)
  replace HK1 := Lib.hid (HK1.out.below hb)
  have HG := Lib.hid ho
  have s6 := hb.size
  clear ho hb
  obtain rfl : mHW = mHG := HW.out.len.symm.trans HG.out.len
  go_wp2_with fail
  refine (SlSpan.eq_any _ _ _ _ _ _ _ HG.out.rd HW.out.rd).mono ?_
  rintro e w7 ⟨rfl, hb⟩
  replace HB := Lib.hid (below_on HB.out hb)
  replace HX0 := Lib.hid (HX0.out.below hb)
  replace HW := Lib.hid (HW.out.below hb)
  replace HK1 := Lib.hid (HK1.out.below hb)
  replace HG := Lib.hid (HG.out.below hb)
  have s7 := hb.size
  clear hb
  go_wp2_with fail
  refine (SlStatus.to_any _ _ _ _ _ (HR1.out.below HB.out) (by omega)).mono ?_
  rintro e w8 ⟨qHY1, mHY1, eHY1, rfl, ho, hb⟩
  replace HB := Lib.hid (below_on HB.out hb)
  replace HX0 := Lib.hid (HX0.out.below hb)
  replace HW := Lib.hid (HW.out.below hb)
  replace HK1 := Lib.hid (HK1.out.below hb)
  replace HG := Lib.hid (HG.out.below hb)
  have HY1 := Lib.hid ho
  have bHY1 := HY1.out.le
  obtain rfl : n1 = mHY1 := HR1.out.len.symm.trans HY1.out.len
  have s8 := hb.size
  clear ho hb
  go_wp2_with fail
  refine (SlStatus.eq_any _ _ _ _ _ _ _ HK1.out.rd HY1.out.rd).mono ?_
  rintro e w9 ⟨rfl, hb⟩
  replace HB := Lib.hid (below_on HB.out hb)
  replace HX0 := Lib.hid (HX0.out.below hb)
  replace HW := Lib.hid (HW.out.below hb)
  replace HK1 := Lib.hid (HK1.out.below hb)
  replace HG := Lib.hid (HG.out.below hb)
  replace HY1 := Lib.hid (HY1.out.below hb)
  have s9 := hb.size
  clear hb
  clear HY1
  have bHW := HW.out.le
  have bHG := HG.out.le
  go_wp2_with fail
  refine (SlStatus.mark_any _ _ _ _ _ _ _ _ HK1.out (by omega) (by have := HK1.out.le; omega)).mono ?_
  rintro e w10 ⟨rfl, ho, hg⟩
  replace HB := Lib.hid (below_rowS HB.out HK1.out hg (by omega))
  replace HW := Lib.hid (HW.out.kept hg (fun g e => by have := HK1.out.far g e; omega))
  replace HG := Lib.hid (HG.out.kept hg (fun g e => by have := HK1.out.far g e; omega))
  replace HX0 := Lib.hid (HX0.out.grown hg (fun e => by have := HK1.out.far _ e.symm; have := HX0.out.lt; omega))
  replace HK1 := Lib.hid ho
  clear ho hg
  go_wp2_with fail
  refine (SlSpan.eq_any _ _ _ _ _ _ _ HG.out.rd HW.out.rd).mono ?_
  rintro e w11 ⟨rfl, hb⟩
  replace HB := Lib.hid (below_on HB.out hb)
  replace HX0 := Lib.hid (HX0.out.below hb)
  replace HW := Lib.hid (HW.out.below hb)
  replace HK1 := Lib.hid (HK1.out.below hb)
  replace HG := Lib.hid (HG.out.below hb)
  have s11 := hb.size
  clear hb
  clear HK1
  go_wp2_with fail
  refine (SlSpan.mark_any _ _ _ _ _ _ _ _ HG.out (by omega) (by have := HG.out.le; omega)).mono ?_
  rintro e w12 ⟨rfl, ho, hg⟩
  replace HB := Lib.hid (below_rowS HB.out HG.out hg (by omega))
  replace HW := Lib.hid (HW.out.kept hg (fun g e => by have := HG.out.far g e; omega))
  replace HX0 := Lib.hid (HX0.out.grown hg (fun e => by have := HG.out.far _ e.symm; have := HX0.out.lt; omega))
  replace HG := Lib.hid ho
  clear ho hg
  go_wp2_with fail
  refine (SlSpan.held_any _ _ _ _ _ HG.out.rd (by omega) (by omega)).mono ?_
  rintro e w13 ⟨rfl, rfl⟩
  obtain ⟨cc0, cc1, cc2, cc3, cc4, cc5, cc6⟩ := SlCert.bxc HX0.out
  go_wp2_with fail
  refine (SlCert.val_any _ _ _ _ _ _ _ _).mono ?_
  rintro e w14 ⟨rfl, hb⟩
  replace HB := Lib.hid (below_on HB.out hb)
  replace HX0 := Lib.hid (HX0.out.below hb)
  replace HW := Lib.hid (HW.out.below hb)
  replace HG := Lib.hid (HG.out.below hb)
  clear hb
  clear cc0 cc1 cc2 cc3 cc4 cc5 cc6
  go_wp2_with fail
  refine (SlStatus.to_any _ _ _ _ _ (HR1.out.below HB.out) (by omega)).mono ?_
  rintro e w15 ⟨qHZ1, mHZ1, eHZ1, rfl, ho, hb⟩
  replace HB := Lib.hid (below_on HB.out hb)
  replace HX0 := Lib.hid (HX0.out.below hb)
  replace HW := Lib.hid (HW.out.below hb)
  replace HG := Lib.hid (HG.out.below hb)
  have HZ1 := Lib.hid ho
  have bHZ1 := HZ1.out.le
  obtain rfl : n1 = mHZ1 := HR1.out.len.symm.trans HZ1.out.len
  clear ho hb
  go_wp2_with fail
  refine (Eg3.openS_any x0_0 x0_1 x0_2 x0_3 x0_4 x0_5 x0_6 HC0.out _ _ _ zs1 hg1 _ HZ1.out.rd).mono ?_
  rintro e w16 ⟨qHH, mHH, eHH, rfl, ho, hb⟩
  replace HB := Lib.hid (below_on HB.out hb)
  replace HX0 := Lib.hid (HX0.out.below hb)
  replace HW := Lib.hid (HW.out.below hb)
  replace HG := Lib.hid (HG.out.below hb)
  replace HZ1 := Lib.hid (HZ1.out.below hb)
  have HH := Lib.hid ho
  clear ho hb
  obtain rfl : mHW = mHH := HW.out.len.symm.trans HH.out.len
  go_wp2_with fail
  refine (SlSpan.eq_any _ _ _ _ _ _ _ HH.out.rd HW.out.rd).mono ?_
  rintro e w17 ⟨rfl, hb⟩
  replace HB := Lib.hid (below_on HB.out hb)
  replace HX0 := Lib.hid (HX0.out.below hb)
  replace HW := Lib.hid (HW.out.below hb)
  replace HG := Lib.hid (HG.out.below hb)
  replace HZ1 := Lib.hid (HZ1.out.below hb)
  replace HH := Lib.hid (HH.out.below hb)
  clear hb
  go_wp2_with fail
  refine (SlSpan.held_any _ _ _ _ _ HG.out.rd (by omega) (by omega)).mono ?_
  rintro e w18 ⟨rfl, rfl⟩
  go_wp2_with fail
  go_ret
  exact ⟨rfl, HB.out⟩
end Go.Proofs.Ytlgkgccmilapbaa.fnExactOpenTimes
