/- The walk of the law FnExactStampAll. -/
import Derived.Test.YtbjocgnogcnedaaSlKey
import Derived.Test.YtbjocgnogcnedaaSlAuthority
import Derived.Test.YtbjocgnogcnedaaSlStamp
import Derived.Test.YtbjocgnogcnedaaSta
import Derived.Test.YtbjocgnogcnedaaSlB
import Derived.Test.YtbjocgnogcnedaaSlI
import Derived.OpenShut
namespace Go.Proofs.Ytbjocgnogcnedaa.fnExactStampAll
open Go.ChangeShapes Go.WideShapes Go.ChangeAt Go.RowKit Sl St Fnd Kn Sta
set_option maxRecDepth 100000 in
set_option maxHeartbeats 8000000 in
theorem walk {H : Type} {enc : TypeId × Value → H} (W : World) (base : Nat)
    (v0 : Value) (d0 : DataW H) (p0 : List MemPlace) (h0 : DataW.Trod enc Try.prog W 0 (fun _ => true) true 22 v0 d0 p0) (k0 : Value.okWide Try.prog W .any base 22 v0)
    (v1 : Value) (d1 : DataW H) (p1 : List MemPlace) (h1 : DataW.Trod enc Try.prog W 0 (fun _ => true) true 41 v1 d1 p1) (k1 : Value.okWide Try.prog W .any base 41 v1)
    (v2 : Value) (d2 : DataW H) (p2 : List MemPlace) (h2 : DataW.Trod enc Try.prog W 0 (fun _ => true) true 24 v2 d2 p2) (k2 : Value.okWide Try.prog W .any base 24 v2)
    (v3 : Value) (d3 : DataW H) (p3 : List MemPlace) (h3 : DataW.Trod enc Try.prog W 0 (fun _ => true) true 3 v3 d3 p3) (k3 : Value.okWide Try.prog W .any base 3 v3)
    (v4 : Value) (d4 : DataW H) (p4 : List MemPlace) (h4 : DataW.Trod enc Try.prog W 0 (fun _ => true) true 24 v4 d4 p4) (k4 : Value.okWide Try.prog W .any base 24 v4)
    (v5 : Value) (d5 : DataW H) (p5 : List MemPlace) (h5 : DataW.Trod enc Try.prog W 0 (fun _ => true) true 3 v5 d5 p5) (k5 : Value.okWide Try.prog W .any base 3 v5)
    (_hsz : (DataW.weightsEach Try.prog [22, 41, 24, 3, 24, 3] [d0, d1, d2, d3, d4, d5]).all (· ≤ reachBytes) = true) :
    Calls Try.prog 4 #[v0, v1, v2, v3, v4, v5] W fun e w' => e = .returned (.bool true) ∧ Below W.heap.size W w' := by
  obtain ⟨a0, n0, c0, zs0, rfl, hr0, hg0⟩ := SlKey.open_argR h0 k0
  have HR0 := Lib.hid hr0
  have hn0 := hr0.le
  clear hr0
  clear h0 k0
  obtain ⟨a1, n1, c1, zs1, rfl, hr1, hg1⟩ := SlAuthority.open_argR h1 k1
  have HR1 := Lib.hid hr1
  have hn1 := hr1.le
  clear hr1
  clear h1 k1
  obtain ⟨a2, n2, c2, zs2, rfl, hr2⟩ := SlI.open_arg h2 k2
  have HR2 := Lib.hid hr2
  have hn2 := hr2.le
  clear hr2
  clear h2 k2
  obtain ⟨x3, rfl, _, _, wf3⟩ := open_int Try.underlying3 k3 h3
  have xb3 := bounds_i64 wf3
  obtain ⟨xl3, xh3⟩ := xb3
  clear wf3
  clear h3 k3
  obtain ⟨a4, n4, c4, zs4, rfl, hr4⟩ := SlI.open_arg h4 k4
  have HR4 := Lib.hid hr4
  have hn4 := hr4.le
  clear hr4
  clear h4 k4
  obtain ⟨x5, rfl, _, _, wf5⟩ := open_int Try.underlying3 k5 h5
  have xb5 := bounds_i64 wf5
  obtain ⟨xl5, xh5⟩ := xb5
  clear wf5
  clear h5 k5
  clear _hsz
  have HB := Lib.hid (Below.refl W.heap.size W)
  by_cases hbig2 : 1048576 < n2
  · go_enter Try.func4, Try.ntmps4
    go_wp2_with fail
    go_ret
    exact ⟨rfl, HB.out⟩
  by_cases hbig4 : 1048576 < n4
  · go_enter Try.func4, Try.ntmps4
    go_wp2_with fail
    go_ret
    exact ⟨rfl, HB.out⟩
  by_cases hbig0 : 1048576 < n0
  · go_enter Try.func4, Try.ntmps4
    go_wp2_with fail
    refine (SlKey.sz_big _ _ _ _ _ (by omega) (by omega) (by omega) hn0).mono ?_
    rintro e w0 ⟨rfl, rfl⟩
    go_wp2_with fail
    go_ret
    exact ⟨rfl, HB.out⟩
  by_cases hbig1 : 1048576 < n0 + n1
  · go_enter Try.func4, Try.ntmps4
    go_wp2_with fail
    refine (SlKey.sz_fits _ _ _ _ _ (by omega) (by omega)).mono ?_
    rintro e w0 ⟨rfl, rfl⟩
    go_wp2_with fail
    refine (SlAuthority.sz_big _ _ _ _ _ (by omega) (by omega) (by omega) hn1).mono ?_
    rintro e w0 ⟨rfl, rfl⟩
    go_wp2_with fail
    go_ret
    exact ⟨rfl, HB.out⟩
  go_enter Try.func4, Try.ntmps4
  go_wp2_with fail
  refine (SlKey.sz_fits _ _ _ _ _ (by omega) (by omega)).mono ?_
  rintro e w0 ⟨rfl, rfl⟩
  go_wp2_with fail
  refine (SlAuthority.sz_fits _ _ _ _ _ (by omega) (by omega)).mono ?_
  rintro e w0 ⟨rfl, rfl⟩
  have sW := HB.out.size
  go_wp2_with fail
  refine (SlKey.to_any _ _ _ _ _ (HR0.out.below HB.out) (by omega)).mono ?_
  rintro e w1 ⟨qHT0, mHT0, eHT0, rfl, ho, hb⟩
  replace HB := Lib.hid (below_on HB.out hb)
  have HT0 := Lib.hid ho
  have bHT0 := HT0.out.le
  obtain rfl : n0 = mHT0 := HR0.out.len.symm.trans HT0.out.len
  have s1 := hb.size
  clear ho hb
  go_wp2_with fail
  refine (SlAuthority.to_any _ _ _ _ _ (HR1.out.below HB.out) (by omega)).mono ?_
  rintro e w2 ⟨qHT1, mHT1, eHT1, rfl, ho, hb⟩
  replace HB := Lib.hid (below_on HB.out hb)
  replace HT0 := Lib.hid (HT0.out.below hb)
  have HT1 := Lib.hid ho
  have bHT1 := HT1.out.le
  obtain rfl : n1 = mHT1 := HR1.out.len.symm.trans HT1.out.len
  have s2 := hb.size
  clear ho hb
  go_wp2_with fail
  refine (SlI.to_any _ _ _ _ _ (HR2.out.below HB.out) (by omega)).mono ?_
  rintro e w3 ⟨qHT2, mHT2, eHT2, rfl, ho, hb⟩
  replace HB := Lib.hid (below_on HB.out hb)
  replace HT0 := Lib.hid (HT0.out.below hb)
  replace HT1 := Lib.hid (HT1.out.below hb)
  have HT2 := Lib.hid ho
  have bHT2 := HT2.out.le
  obtain rfl : n2 = mHT2 := HR2.out.len.symm.trans HT2.out.len
  have s3 := hb.size
  clear ho hb
  go_wp2_with fail
  refine (SlI.to_any _ _ _ _ _ (HR4.out.below HB.out) (by omega)).mono ?_
  rintro e w4 ⟨qHT4, mHT4, eHT4, rfl, ho, hb⟩
  replace HB := Lib.hid (below_on HB.out hb)
  replace HT0 := Lib.hid (HT0.out.below hb)
  replace HT1 := Lib.hid (HT1.out.below hb)
  replace HT2 := Lib.hid (HT2.out.below hb)
  have HT4 := Lib.hid ho
  have bHT4 := HT4.out.le
  obtain rfl : n4 = mHT4 := HR4.out.len.symm.trans HT4.out.len
  have s4 := hb.size
  clear ho hb
  go_wp2_with fail
  refine (spec_all_any _ _ _ _ hg0 _ _ _ _ _ _ _ _ _ _ _ _ _ _ ⟨xl3, xh3⟩ ⟨xl5, xh5⟩ _ HT0.out.rd HT1.out.rd HT2.out.rd HT4.out.rd (by omega)).mono ?_
  rintro e w5 ⟨qHW, mHW, eHW, rfl, ho, hb⟩
  replace HB := Lib.hid (below_on HB.out hb)
  replace HT0 := Lib.hid (HT0.out.below hb)
  replace HT1 := Lib.hid (HT1.out.below hb)
  replace HT2 := Lib.hid (HT2.out.below hb)
  replace HT4 := Lib.hid (HT4.out.below hb)
  have HW := Lib.hid ho
  have s5 := hb.size
  clear ho hb
  have bL : mHW ≤ 1048576 := by have h1 := HW.out.len; have h2 := sta_len zs0 zs1 zs2 zs4 x3 x5 (min n2 n4); omega
  clear HT0
  clear HT1
  clear HT2
  clear HT4
  go_wp2_with fail
  refine (SlKey.to_any _ _ _ _ _ (HR0.out.below HB.out) (by omega)).mono ?_
  rintro e w6 ⟨qHK0, mHK0, eHK0, rfl, ho, hb⟩
  replace HB := Lib.hid (below_on HB.out hb)
  replace HW := Lib.hid (HW.out.below hb)
  have HK0 := Lib.hid ho
  have bHK0 := HK0.out.le
  obtain rfl : n0 = mHK0 := HR0.out.len.symm.trans HK0.out.len
  have s6 := hb.size
  clear ho hb
  go_wp2_with fail
  refine (SlAuthority.to_any _ _ _ _ _ (HR1.out.below HB.out) (by omega)).mono ?_
  rintro e w7 ⟨qHK1, mHK1, eHK1, rfl, ho, hb⟩
  replace HB := Lib.hid (below_on HB.out hb)
  replace HW := Lib.hid (HW.out.below hb)
  replace HK0 := Lib.hid (HK0.out.below hb)
  have HK1 := Lib.hid ho
  have bHK1 := HK1.out.le
  obtain rfl : n1 = mHK1 := HR1.out.len.symm.trans HK1.out.len
  have s7 := hb.size
  clear ho hb
  go_wp2_with fail
  refine (SlI.to_any _ _ _ _ _ (HR2.out.below HB.out) (by omega)).mono ?_
  rintro e w8 ⟨qHK2, mHK2, eHK2, rfl, ho, hb⟩
  replace HB := Lib.hid (below_on HB.out hb)
  replace HW := Lib.hid (HW.out.below hb)
  replace HK0 := Lib.hid (HK0.out.below hb)
  replace HK1 := Lib.hid (HK1.out.below hb)
  have HK2 := Lib.hid ho
  have bHK2 := HK2.out.le
  obtain rfl : n2 = mHK2 := HR2.out.len.symm.trans HK2.out.len
  have s8 := hb.size
  clear ho hb
  go_wp2_with fail
  refine (SlI.to_any _ _ _ _ _ (HR4.out.below HB.out) (by omega)).mono ?_
  rintro e w9 ⟨qHK4, mHK4, eHK4, rfl, ho, hb⟩
  replace HB := Lib.hid (below_on HB.out hb)
  replace HW := Lib.hid (HW.out.below hb)
  replace HK0 := Lib.hid (HK0.out.below hb)
  replace HK1 := Lib.hid (HK1.out.below hb)
  replace HK2 := Lib.hid (HK2.out.below hb)
  have HK4 := Lib.hid ho
  have bHK4 := HK4.out.le
  obtain rfl : n4 = mHK4 := HR4.out.len.symm.trans HK4.out.len
  have s9 := hb.size
  clear ho hb
  go_wp2_with fail
  refine (all_any _ _ _ _ hg0 _ _ _ _ hg1 _ _ _ _ _ _ _ _ _ _ ⟨xl3, xh3⟩ ⟨xl5, xh5⟩ _ HK0.out.rd HK1.out.rd HK2.out.rd HK4.out.rd (by omega)).mono ?_
  rintro e w10 ⟨qHG, mHG, eHG, rfl, ho, hb⟩
  replace HB := Lib.hid (below_on HB.out hb)
  replace HW := Lib.hid (HW.out.below hb)
  replace HK0 := Lib.hid (HK0.out.below hb)
  replace HK1 := Lib.hid (HK1.out.below hb)
  replace HK2 := Lib.hid (HK2.out.below hb)
  replace HK4 := Lib.hid (HK4.out.below hb)
  have HG := Lib.hid ho
  have s10 := hb.size
  clear ho hb
  obtain rfl : mHW = mHG := HW.out.len.symm.trans HG.out.len
  go_wp2_with fail
  refine (SlStamp.eq_any _ _ _ _ _ _ _ HG.out.rd HW.out.rd).mono ?_
  rintro e w11 ⟨rfl, hb⟩
  replace HB := Lib.hid (below_on HB.out hb)
  replace HW := Lib.hid (HW.out.below hb)
  replace HK0 := Lib.hid (HK0.out.below hb)
  replace HK1 := Lib.hid (HK1.out.below hb)
  replace HK2 := Lib.hid (HK2.out.below hb)
  replace HK4 := Lib.hid (HK4.out.below hb)
  replace HG := Lib.hid (HG.out.below hb)
  have s11 := hb.size
  clear hb
  go_wp2_with fail
  refine (SlKey.to_any _ _ _ _ _ (HR0.out.below HB.out) (by omega)).mono ?_
  rintro e w12 ⟨qHY0, mHY0, eHY0, rfl, ho, hb⟩
  replace HB := Lib.hid (below_on HB.out hb)
  replace HW := Lib.hid (HW.out.below hb)
  replace HK0 := Lib.hid (HK0.out.below hb)
  replace HK1 := Lib.hid (HK1.out.below hb)
  replace HK2 := Lib.hid (HK2.out.below hb)
  replace HK4 := Lib.hid (HK4.out.below hb)
  replace HG := Lib.hid (HG.out.below hb)
  have HY0 := Lib.hid ho
  have bHY0 := HY0.out.le
  obtain rfl : n0 = mHY0 := HR0.out.len.symm.trans HY0.out.len
  have s12 := hb.size
  clear ho hb
  go_wp2_with fail
  refine (SlKey.eq_any _ _ _ _ _ _ _ HK0.out.rd HY0.out.rd).mono ?_
  rintro e w13 ⟨rfl, hb⟩
  replace HB := Lib.hid (below_on HB.out hb)
  replace HW := Lib.hid (HW.out.below hb)
  replace HK0 := Lib.hid (HK0.out.below hb)
  replace HK1 := Lib.hid (HK1.out.below hb)
  replace HK2 := Lib.hid (HK2.out.below hb)
  replace HK4 := Lib.hid (HK4.out.below hb)
  replace HG := Lib.hid (HG.out.below hb)
  replace HY0 := Lib.hid (HY0.out.below hb)
  have s13 := hb.size
  clear hb
  clear HY0
  go_wp2_with fail
  refine (SlAuthority.to_any _ _ _ _ _ (HR1.out.below HB.out) (by omega)).mono ?_
  rintro e w14 ⟨qHY1, mHY1, eHY1, rfl, ho, hb⟩
  replace HB := Lib.hid (below_on HB.out hb)
  replace HW := Lib.hid (HW.out.below hb)
  replace HK0 := Lib.hid (HK0.out.below hb)
  replace HK1 := Lib.hid (HK1.out.below hb)
  replace HK2 := Lib.hid (HK2.out.below hb)
  replace HK4 := Lib.hid (HK4.out.below hb)
  replace HG := Lib.hid (HG.out.below hb)
  have HY1 := Lib.hid ho
  have bHY1 := HY1.out.le
  obtain rfl : n1 = mHY1 := HR1.out.len.symm.trans HY1.out.len
  have s14 := hb.size
  clear ho hb
  go_wp2_with fail
  refine (SlAuthority.eq_any _ _ _ _ _ _ _ HK1.out.rd HY1.out.rd).mono ?_
  rintro e w15 ⟨rfl, hb⟩
  replace HB := Lib.hid (below_on HB.out hb)
  replace HW := Lib.hid (HW.out.below hb)
  replace HK0 := Lib.hid (HK0.out.below hb)
  replace HK1 := Lib.hid (HK1.out.below hb)
  replace HK2 := Lib.hid (HK2.out.below hb)
  replace HK4 := Lib.hid (HK4.out.below hb)
  replace HG := Lib.hid (HG.out.below hb)
  replace HY1 := Lib.hid (HY1.out.below hb)
  have s15 := hb.size
  clear hb
  clear HY1
  go_wp2_with fail
  refine (SlI.to_any _ _ _ _ _ (HR2.out.below HB.out) (by omega)).mono ?_
  rintro e w16 ⟨qHY2, mHY2, eHY2, rfl, ho, hb⟩
  replace HB := Lib.hid (below_on HB.out hb)
  replace HW := Lib.hid (HW.out.below hb)
  replace HK0 := Lib.hid (HK0.out.below hb)
  replace HK1 := Lib.hid (HK1.out.below hb)
  replace HK2 := Lib.hid (HK2.out.below hb)
  replace HK4 := Lib.hid (HK4.out.below hb)
  replace HG := Lib.hid (HG.out.below hb)
  have HY2 := Lib.hid ho
  have bHY2 := HY2.out.le
  obtain rfl : n2 = mHY2 := HR2.out.len.symm.trans HY2.out.len
  have s16 := hb.size
  clear ho hb
  go_wp2_with fail
  refine (SlI.eq_any _ _ _ _ _ _ _ HK2.out.rd HY2.out.rd).mono ?_
  rintro e w17 ⟨rfl, hb⟩
  replace HB := Lib.hid (below_on HB.out hb)
  replace HW := Lib.hid (HW.out.below hb)
  replace HK0 := Lib.hid (HK0.out.below hb)
  replace HK1 := Lib.hid (HK1.out.below hb)
  replace HK2 := Lib.hid (HK2.out.below hb)
  replace HK4 := Lib.hid (HK4.out.below hb)
  replace HG := Lib.hid (HG.out.below hb)
  replace HY2 := Lib.hid (HY2.out.below hb)
  have s17 := hb.size
  clear hb
  clear HY2
  go_wp2_with fail
  refine (SlI.to_any _ _ _ _ _ (HR4.out.below HB.out) (by omega)).mono ?_
  rintro e w18 ⟨qHY4, mHY4, eHY4, rfl, ho, hb⟩
  replace HB := Lib.hid (below_on HB.out hb)
  replace HW := Lib.hid (HW.out.below hb)
  replace HK0 := Lib.hid (HK0.out.below hb)
  replace HK1 := Lib.hid (HK1.out.below hb)
  replace HK2 := Lib.hid (HK2.out.below hb)
  replace HK4 := Lib.hid (HK4.out.below hb)
  replace HG := Lib.hid (HG.out.below hb)
  have HY4 := Lib.hid ho
  have bHY4 := HY4.out.le
  obtain rfl : n4 = mHY4 := HR4.out.len.symm.trans HY4.out.len
  have s18 := hb.size
  clear ho hb
  go_wp2_with fail
  refine (SlI.eq_any _ _ _ _ _ _ _ HK4.out.rd HY4.out.rd).mono ?_
  rintro e w19 ⟨rfl, hb⟩
  replace HB := Lib.hid (below_on HB.out hb)
  replace HW := Lib.hid (HW.out.below hb)
  replace HK0 := Lib.hid (HK0.out.below hb)
  replace HK1 := Lib.hid (HK1.out.below hb)
  replace HK2 := Lib.hid (HK2.out.below hb)
  replace HK4 := Lib.hid (HK4.out.below hb)
  replace HG := Lib.hid (HG.out.below hb)
  replace HY4 := Lib.hid (HY4.out.below hb)
  have s19 := hb.size
  clear hb
  clear HY4
  have bHW := HW.out.le
  have bHG := HG.out.le
  go_wp2_with fail
  refine (SlKey.mark_any _ _ _ _ _ _ _ _ HK0.out (by omega) (by have := HK0.out.le; omega)).mono ?_
  rintro e w20 ⟨rfl, ho, hg⟩
  replace HB := Lib.hid (below_rowS HB.out HK0.out hg (by omega))
  replace HW := Lib.hid (HW.out.kept hg (fun g e => by have := HK0.out.far g e; omega))
  replace HG := Lib.hid (HG.out.kept hg (fun g e => by have := HK0.out.far g e; omega))
  replace HK1 := Lib.hid (HK1.out.kept hg (fun g e => by have := HK0.out.far g e; omega))
  replace HK2 := Lib.hid (HK2.out.kept hg (fun g e => by have := HK0.out.far g e; omega))
  replace HK4 := Lib.hid (HK4.out.kept hg (fun g e => by have := HK0.out.far g e; omega))
  replace HK0 := Lib.hid ho
  clear ho hg
  go_wp2_with fail
  refine (SlAuthority.mark_any _ _ _ _ _ _ _ _ HK1.out (by omega) (by have := HK1.out.le; omega)).mono ?_
  rintro e w21 ⟨rfl, ho, hg⟩
  replace HB := Lib.hid (below_rowS HB.out HK1.out hg (by omega))
  replace HW := Lib.hid (HW.out.kept hg (fun g e => by have := HK1.out.far g e; omega))
  replace HG := Lib.hid (HG.out.kept hg (fun g e => by have := HK1.out.far g e; omega))
  replace HK0 := Lib.hid (HK0.out.kept hg (fun g e => by have := HK1.out.far g e; omega))
  replace HK2 := Lib.hid (HK2.out.kept hg (fun g e => by have := HK1.out.far g e; omega))
  replace HK4 := Lib.hid (HK4.out.kept hg (fun g e => by have := HK1.out.far g e; omega))
  replace HK1 := Lib.hid ho
  clear ho hg
  go_wp2_with fail
  refine (SlI.mark_any _ _ _ _ _ _ _ _ HK2.out (by omega) (by have := HK2.out.le; omega)).mono ?_
  rintro e w22 ⟨rfl, ho, hg⟩
  replace HB := Lib.hid (below_row HB.out HK2.out hg (by omega))
  replace HW := Lib.hid (HW.out.kept hg (fun g e => by have := HK2.out.far g e; omega))
  replace HG := Lib.hid (HG.out.kept hg (fun g e => by have := HK2.out.far g e; omega))
  replace HK0 := Lib.hid (HK0.out.kept hg (fun g e => by have := HK2.out.far g e; omega))
  replace HK1 := Lib.hid (HK1.out.kept hg (fun g e => by have := HK2.out.far g e; omega))
  replace HK4 := Lib.hid (HK4.out.kept hg (fun g e => by have := HK2.out.far g e; omega))
  replace HK2 := Lib.hid ho
  clear ho hg
  go_wp2_with fail
  refine (SlI.mark_any _ _ _ _ _ _ _ _ HK4.out (by omega) (by have := HK4.out.le; omega)).mono ?_
  rintro e w23 ⟨rfl, ho, hg⟩
  replace HB := Lib.hid (below_row HB.out HK4.out hg (by omega))
  replace HW := Lib.hid (HW.out.kept hg (fun g e => by have := HK4.out.far g e; omega))
  replace HG := Lib.hid (HG.out.kept hg (fun g e => by have := HK4.out.far g e; omega))
  replace HK0 := Lib.hid (HK0.out.kept hg (fun g e => by have := HK4.out.far g e; omega))
  replace HK1 := Lib.hid (HK1.out.kept hg (fun g e => by have := HK4.out.far g e; omega))
  replace HK2 := Lib.hid (HK2.out.kept hg (fun g e => by have := HK4.out.far g e; omega))
  replace HK4 := Lib.hid ho
  clear ho hg
  have kk : ¬ ((1 : Int) + ((n0 * 5 : Nat) : Int) + ((n1 * 3 : Nat) : Int) + (n2 : Int) + (n4 : Int) < 0) := by omega
  go_wp2_with fail
  refine (SlStamp.eq_any _ _ _ _ _ _ _ HG.out.rd HW.out.rd).mono ?_
  rintro e w24 ⟨rfl, hb⟩
  replace HB := Lib.hid (below_on HB.out hb)
  replace HW := Lib.hid (HW.out.below hb)
  replace HK0 := Lib.hid (HK0.out.below hb)
  replace HK1 := Lib.hid (HK1.out.below hb)
  replace HK2 := Lib.hid (HK2.out.below hb)
  replace HK4 := Lib.hid (HK4.out.below hb)
  replace HG := Lib.hid (HG.out.below hb)
  have s24 := hb.size
  clear hb
  clear HK0
  clear HK1
  clear HK2
  clear HK4
  clear kk
  go_wp2_with fail
  refine (SlStamp.mark_any _ _ _ _ _ _ _ _ HG.out (by omega) (by have := HG.out.le; omega)).mono ?_
  rintro e w25 ⟨rfl, ho, hg⟩
  replace HB := Lib.hid (below_rowS HB.out HG.out hg (by omega))
  replace HW := Lib.hid (HW.out.kept hg (fun g e => by have := HG.out.far g e; omega))
  replace HG := Lib.hid ho
  clear ho hg
  go_wp2_with fail
  refine (SlStamp.held_any _ _ _ _ _ HG.out.rd (by omega) (by omega)).mono ?_
  rintro e w26 ⟨rfl, rfl⟩
  go_wp2_with fail
  refine (SlKey.to_any _ _ _ _ _ (HR0.out.below HB.out) (by omega)).mono ?_
  rintro e w27 ⟨qHZ0, mHZ0, eHZ0, rfl, ho, hb⟩
  replace HB := Lib.hid (below_on HB.out hb)
  replace HW := Lib.hid (HW.out.below hb)
  replace HG := Lib.hid (HG.out.below hb)
  have HZ0 := Lib.hid ho
  have bHZ0 := HZ0.out.le
  obtain rfl : n0 = mHZ0 := HR0.out.len.symm.trans HZ0.out.len
  clear ho hb
  go_wp2_with fail
  refine (SlAuthority.to_any _ _ _ _ _ (HR1.out.below HB.out) (by omega)).mono ?_
  rintro e w28 ⟨qHZ1, mHZ1, eHZ1, rfl, ho, hb⟩
  replace HB := Lib.hid (below_on HB.out hb)
  replace HW := Lib.hid (HW.out.below hb)
  replace HG := Lib.hid (HG.out.below hb)
  replace HZ0 := Lib.hid (HZ0.out.below hb)
  have HZ1 := Lib.hid ho
  have bHZ1 := HZ1.out.le
  obtain rfl : n1 = mHZ1 := HR1.out.len.symm.trans HZ1.out.len
  clear ho hb
  go_wp2_with fail
  refine (SlI.to_any _ _ _ _ _ (HR2.out.below HB.out) (by omega)).mono ?_
  rintro e w29 ⟨qHZ2, mHZ2, eHZ2, rfl, ho, hb⟩
  replace HB := Lib.hid (below_on HB.out hb)
  replace HW := Lib.hid (HW.out.below hb)
  replace HG := Lib.hid (HG.out.below hb)
  replace HZ0 := Lib.hid (HZ0.out.below hb)
  replace HZ1 := Lib.hid (HZ1.out.below hb)
  have HZ2 := Lib.hid ho
  have bHZ2 := HZ2.out.le
  obtain rfl : n2 = mHZ2 := HR2.out.len.symm.trans HZ2.out.len
  clear ho hb
  go_wp2_with fail
  refine (SlI.to_any _ _ _ _ _ (HR4.out.below HB.out) (by omega)).mono ?_
  rintro e w30 ⟨qHZ4, mHZ4, eHZ4, rfl, ho, hb⟩
  replace HB := Lib.hid (below_on HB.out hb)
  replace HW := Lib.hid (HW.out.below hb)
  replace HG := Lib.hid (HG.out.below hb)
  replace HZ0 := Lib.hid (HZ0.out.below hb)
  replace HZ1 := Lib.hid (HZ1.out.below hb)
  replace HZ2 := Lib.hid (HZ2.out.below hb)
  have HZ4 := Lib.hid ho
  have bHZ4 := HZ4.out.le
  obtain rfl : n4 = mHZ4 := HR4.out.len.symm.trans HZ4.out.len
  clear ho hb
  go_wp2_with fail
  refine (all_any _ _ _ _ hg0 _ _ _ _ hg1 _ _ _ _ _ _ _ _ _ _ ⟨xl3, xh3⟩ ⟨xl5, xh5⟩ _ HZ0.out.rd HZ1.out.rd HZ2.out.rd HZ4.out.rd (by omega)).mono ?_
  rintro e w31 ⟨qHH, mHH, eHH, rfl, ho, hb⟩
  replace HB := Lib.hid (below_on HB.out hb)
  replace HW := Lib.hid (HW.out.below hb)
  replace HG := Lib.hid (HG.out.below hb)
  replace HZ0 := Lib.hid (HZ0.out.below hb)
  replace HZ1 := Lib.hid (HZ1.out.below hb)
  replace HZ2 := Lib.hid (HZ2.out.below hb)
  replace HZ4 := Lib.hid (HZ4.out.below hb)
  have HH := Lib.hid ho
  clear ho hb
  obtain rfl : mHW = mHH := HW.out.len.symm.trans HH.out.len
  go_wp2_with fail
  refine (SlStamp.eq_any _ _ _ _ _ _ _ HH.out.rd HW.out.rd).mono ?_
  rintro e w32 ⟨rfl, hb⟩
  replace HB := Lib.hid (below_on HB.out hb)
  replace HW := Lib.hid (HW.out.below hb)
  replace HG := Lib.hid (HG.out.below hb)
  replace HZ0 := Lib.hid (HZ0.out.below hb)
  replace HZ1 := Lib.hid (HZ1.out.below hb)
  replace HZ2 := Lib.hid (HZ2.out.below hb)
  replace HZ4 := Lib.hid (HZ4.out.below hb)
  replace HH := Lib.hid (HH.out.below hb)
  clear hb
  go_wp2_with fail
  refine (SlStamp.held_any _ _ _ _ _ HG.out.rd (by omega) (by omega)).mono ?_
  rintro e w33 ⟨rfl, rfl⟩
  go_wp2_with fail
  go_ret
  exact ⟨rfl, HB.out⟩
end Go.Proofs.Ytbjocgnogcnedaa.fnExactStampAll
