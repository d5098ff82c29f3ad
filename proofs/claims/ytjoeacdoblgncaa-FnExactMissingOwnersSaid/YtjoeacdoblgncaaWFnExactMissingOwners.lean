/- The walk of the law FnExactMissingOwners. -/
import Derived.Test.YtjoeacdoblgncaaSlKey
import Derived.Test.YtjoeacdoblgncaaSlSignature
import Derived.Test.YtjoeacdoblgncaaSlRule
import Derived.Test.YtjoeacdoblgncaaMf
import Derived.Test.YtjoeacdoblgncaaRu
import Derived.Test.YtjoeacdoblgncaaSlB
import Derived.Test.YtjoeacdoblgncaaSlI
import Derived.OpenShut
import Derived.Deep.RegionHeld3
namespace Go.Proofs.Ytjoeacdoblgncaa.fnExactMissingOwners
open Go.ChangeShapes Go.WideShapes Go.ChangeAt Go.RowKit Sl St Fnd Kn Mo Me Mf
theorem drewB {W w : World} {B : Nat} (h : Below B W w) : Below B W w.drew := below_drewN h 1
set_option maxRecDepth 100000 in
set_option maxHeartbeats 16000000 in
theorem walk {H : Type} {enc : TypeId × Value → H} (W : World) (base : Nat)
    (v0 : Value) (d0 : DataW H) (p0 : List MemPlace) (h0 : DataW.Trod enc Try.prog W 0 (fun _ => true) true 22 v0 d0 p0) (k0 : Value.okWide Try.prog W .any base 22 v0)
    (v1 : Value) (d1 : DataW H) (p1 : List MemPlace) (h1 : DataW.Trod enc Try.prog W 0 (fun _ => true) true 25 v1 d1 p1) (k1 : Value.okWide Try.prog W .any base 25 v1)
    (v2 : Value) (d2 : DataW H) (p2 : List MemPlace) (h2 : DataW.Trod enc Try.prog W 0 (fun _ => true) true 26 v2 d2 p2) (k2 : Value.okWide Try.prog W .any base 26 v2)
    (v3 : Value) (d3 : DataW H) (p3 : List MemPlace) (h3 : DataW.Trod enc Try.prog W 0 (fun _ => true) true 3 v3 d3 p3) (k3 : Value.okWide Try.prog W .any base 3 v3)
    (_hsz : (DataW.weightsEach Try.prog [22, 25, 26, 3] [d0, d1, d2, d3]).all (· ≤ reachBytes) = true) :
    Calls Try.prog 4 #[v0, v1, v2, v3] W fun e w' => e = .returned (.bool true) ∧ Below W.heap.size W w' := by
  obtain ⟨a0, n0, c0, zs0, rfl, hr0, hg0⟩ := SlKey.open_argR h0 k0
  have HR0 := Lib.hid hr0
  have hn0 := hr0.le
  clear hr0
  clear h0 k0
  obtain ⟨a1, n1, c1, m1, zs1, rfl, hr1⟩ := SlRule.open_val h1 k1
  have HR1 := Lib.hid hr1
  have hn1 := hr1.le
  clear hr1
  clear h1 k1
  obtain ⟨a2, n2, c2, zs2, rfl, hr2, hg2⟩ := SlSignature.open_argR h2 k2
  have HR2 := Lib.hid hr2
  have hn2 := hr2.le
  clear hr2
  clear h2 k2
  obtain ⟨x3, rfl, _, _, wf3⟩ := open_int Try.underlying3 k3 h3
  have xb3 := bounds_i64 wf3
  obtain ⟨xl3, xh3⟩ := xb3
  clear wf3
  clear h3 k3
  clear _hsz
  have HB := Lib.hid (Below.refl W.heap.size W)
  have HX1 := Lib.hid (Bx.new W 25 #[.slice a1 n1 c1, .bool m1])
  replace HB := Lib.hid (HB.out.alloc HB.out.size (.cells #[.slice a1 n1 c1, .bool m1] 25))
  have lX1 := HX1.out.lt
  by_cases hbig0 : 1048576 < n0
  · go_enter Try.func4, Try.ntmps4
    go_wp2_with fail
    refine (SlKey.sz_big _ _ _ _ _ (by omega) (by omega) (by omega) hn0).mono ?_
    rintro e w0 ⟨rfl, rfl⟩
    go_wp2_with fail
    go_ret
    exact ⟨rfl, HB.out⟩
  by_cases hbig1 : 1048576 < n0 + n1
  · go_enter Try.func4, Try.ntmps4
    go_wp2_with fail
    refine (SlKey.sz_fits _ _ _ _ _ (by omega) (by omega)).mono ?_
    rintro e w0 ⟨rfl, rfl⟩
    obtain ⟨z0, z1⟩ := SlRule.bx2 HX1.out
    go_wp2_with fail
    refine (SlRule.sz_big _ _ _ _ _ _ (by omega) (by omega) (by omega) hn1).mono ?_
    rintro e w1 ⟨rfl, hb⟩
    replace HB := Lib.hid (below_on HB.out hb)
    replace HX1 := Lib.hid (HX1.out.below hb)
    clear hb
    clear z0 z1
    go_wp2_with fail
    go_ret
    exact ⟨rfl, HB.out⟩
  by_cases hbig2 : 1048576 < n0 + n1 + n2
  · go_enter Try.func4, Try.ntmps4
    go_wp2_with fail
    refine (SlKey.sz_fits _ _ _ _ _ (by omega) (by omega)).mono ?_
    rintro e w0 ⟨rfl, rfl⟩
    obtain ⟨z0, z1⟩ := SlRule.bx2 HX1.out
    go_wp2_with fail
    refine (SlRule.sz_fits _ _ _ _ _ _ (by omega) (by omega)).mono ?_
    rintro e w2 ⟨rfl, hb⟩
    replace HB := Lib.hid (below_on HB.out hb)
    replace HX1 := Lib.hid (HX1.out.below hb)
    clear hb
    clear z0 z1
    go_wp2_with fail
    refine (SlSignature.sz_big _ _ _ _ _ (by omega) (by omega) (by omega) hn2).mono ?_
    rintro e w0 ⟨rfl, rfl⟩
    go_wp2_with fail
    go_ret
    exact ⟨rfl, HB.out⟩
  go_enter Try.func4, Try.ntmps4
  go_wp2_with fail
  refine (SlKey.sz_fits _ _ _ _ _ (by omega) (by omega)).mono ?_
  rintro e w0 ⟨rfl, rfl⟩
  obtain ⟨z0, z1⟩ := SlRule.bx2 HX1.out
  go_wp2_with fail
  refine (SlRule.sz_fits _ _ _ _ _ _ (by omega) (by omega)).mono ?_
  rintro e w3 ⟨rfl, hb⟩
  replace HB := Lib.hid (below_on HB.out hb)
  replace HX1 := Lib.hid (HX1.out.below hb)
  clear hb
  clear z0 z1
  go_wp2_with fail
  refine (SlSignature.sz_fits _ _ _ _ _ (by omega) (by omega)).mono ?_
  rintro e w0 ⟨rfl, rfl⟩
  have hsm : n0 + n1 + n2 ≤ 1048576 := by omega
  clear hbig0 hbig1 hbig2
  go_wp2_with fail
  replace HB := Lib.hid (drewB HB.out)
  replace HX1 := Lib.hid (HX1.out.below (drewB (Below.refl _ _)))
  go_region_held3 (fun w' => w'.cell? ⟨W.heap.size, 0, none⟩ = some (.slice a1 n1 c1) ∧ w'.cell? ⟨W.heap.size, 1, none⟩ = some (.bool m1)) (first | exact SlRule.bx2 HX1.out | go_keep) (first | (go_at_call 13; (with_reducible refine (SlKey.to_any _ _ _ _ _ (HR0.out.below HB.out) (by omega)).mono ?_); rintro e w4 ⟨qHT0, mHT0, eHT0, rfl, ho, hb⟩; replace HB := Lib.hid (below_on HB.out hb); replace HX1 := Lib.hid (HX1.out.below hb); have HT0 := Lib.hid ho; have bHT0 := HT0.out.le; have s4 := hb.size; obtain rfl : n0 = mHT0 := HR0.out.len.symm.trans HT0.out.len; clear ho hb) | (go_at_call 14; (with_reducible refine (SlRule.to_any _ _ _ _ _ _ (HR1.out.below HB.out) (by omega)).mono ?_); rintro e w5 ⟨qHT1, mHT1, eHT1, rfl, ho, hb⟩; replace HB := Lib.hid (below_on HB.out hb); replace HX1 := Lib.hid (HX1.out.below hb); replace HT0 := Lib.hid (HT0.out.below hb); have HT1 := Lib.hid ho; have bHT1 := HT1.out.le; have s5 := hb.size; obtain rfl : n1 = mHT1 := HR1.out.len.symm.trans HT1.out.len; clear ho hb) | (go_at_call 15; (with_reducible refine (SlSignature.to_any _ _ _ _ _ (HR2.out.below HB.out) (by omega)).mono ?_); rintro e w6 ⟨qHT2, mHT2, eHT2, rfl, ho, hb⟩; replace HB := Lib.hid (below_on HB.out hb); replace HX1 := Lib.hid (HX1.out.below hb); replace HT0 := Lib.hid (HT0.out.below hb); replace HT1 := Lib.hid (HT1.out.below hb); have HT2 := Lib.hid ho; have bHT2 := HT2.out.le; have s6 := hb.size; obtain rfl : n2 = mHT2 := HR2.out.len.symm.trans HT2.out.len; clear ho hb) | (go_at_call 20; (with_reducible refine (spec_missing_any _ _ _ _ hg0 _ n1 _ m1 zs1 _ _ _ _ hg2 _ _ HT0.out.rd HT1.out.rd HT2.out.rd (by omega)).mono ?_); rintro e w7 ⟨qHW, mHW, eHW, rfl, ho, hb⟩; replace HB := Lib.hid (below_on HB.out hb); replace HX1 := Lib.hid (HX1.out.below hb); replace HT0 := Lib.hid (HT0.out.below hb); replace HT1 := Lib.hid (HT1.out.below hb); replace HT2 := Lib.hid (HT2.out.below hb); have HW := Lib.hid ho; clear ho; have s7 := hb.size; clear hb))
  have lX1 := HX1.out.lt
  have bL : mHW ≤ 1048576 := by have h1 := HW.out.len; have h2 : (miss zs0 zs2 x3 zs1).length ≤ zs1.length := (by unfold miss; exact List.length_filter_le _ _); have h3 := HR1.out.len; omega
  clear HT0
  clear HT1
  clear HT2
  go_wp2_with fail
  refine (SlKey.to_any _ _ _ _ _ (HR0.out.below HB.out) (by omega)).mono ?_
  rintro e w8 ⟨qHK0, mHK0, eHK0, rfl, ho, hb⟩
  replace HB := Lib.hid (below_on HB.out hb)
  replace HX1 := Lib.hid (HX1.out.below hb)
  replace HW := Lib.hid (HW.out.below hb)
  have HK0 := Lib.hid ho
  have bHK0 := HK0.out.le
  obtain rfl : n0 = mHK0 := HR0.out.len.symm.trans HK0.out.len
  have s8 := hb.size
  clear ho hb
  obtain ⟨z0, z1⟩ := SlRule.bx2 HX1.out
  go_wp2_with fail
  refine (SlRule.to_any _ _ _ _ _ _ (HR1.out.below HB.out) (by omega)).mono ?_
  rintro e w9 ⟨qHK1, mHK1, eHK1, rfl, ho, hb⟩
  replace HB := Lib.hid (below_on HB.out hb)
  replace HX1 := Lib.hid (HX1.out.below hb)
  replace HW := Lib.hid (HW.out.below hb)
  replace HK0 := Lib.hid (HK0.out.below hb)
  have HK1 := Lib.hid ho
  have bHK1 := HK1.out.le
  obtain rfl : n1 = mHK1 := HR1.out.len.symm.trans HK1.out.len
  have s9 := hb.size
  clear ho hb z0 z1
  have HG := Lib.hid (Bx.new w9 33 #[.slice qHK1 n1 eHK1, .bool m1])
  replace HB := Lib.hid (HB.out.alloc HB.out.size (.cells #[.slice qHK1 n1 eHK1, .bool m1] 33))
  replace HX1 := Lib.hid (HX1.out.alloc (.cells #[.slice qHK1 n1 eHK1, .bool m1] 33))
  replace HW := Lib.hid (HW.out.alloc (.cells #[.slice qHK1 n1 eHK1, .bool m1] 33))
  replace HK0 := Lib.hid (HK0.out.alloc (.cells #[.slice qHK1 n1 eHK1, .bool m1] 33))
  replace HK1 := Lib.hid (HK1.out.alloc (.cells #[.slice qHK1 n1 eHK1, .bool m1] 33))
  go_wp2_with fail
  have sV : (w9.alloc (.cells #[.slice qHK1 n1 eHK1, .bool m1] 33)).heap.size = w9.heap.size + 1 := by rw [World.size_alloc]
  obtain ⟨gX, hgX⟩ : ∃ g, w9.heap.size = g := ⟨_, rfl⟩
  clear hgX
  generalize w9.alloc (.cells #[.slice qHK1 n1 eHK1, .bool m1] 33) = V at HB sV HX1 HW HK0 HK1 HG ⊢
  go_wp2_with fail
  refine (SlSignature.to_any _ _ _ _ _ (HR2.out.below HB.out) (by omega)).mono ?_
  rintro e w10 ⟨qHK2, mHK2, eHK2, rfl, ho, hb⟩
  replace HB := Lib.hid (below_on HB.out hb)
  replace HX1 := Lib.hid (HX1.out.below hb)
  replace HW := Lib.hid (HW.out.below hb)
  replace HK0 := Lib.hid (HK0.out.below hb)
  replace HK1 := Lib.hid (HK1.out.below hb)
  replace HG := Lib.hid (HG.out.below hb)
  have HK2 := Lib.hid ho
  have bHK2 := HK2.out.le
  obtain rfl : n2 = mHK2 := HR2.out.len.symm.trans HK2.out.len
  have s10 := hb.size
  clear ho hb
  obtain ⟨y0, y1⟩ := SlRule.bx2 HG.out
  go_wp2_with fail
  refine (missing_any _ _ _ _ hg0 _ n1 _ m1 zs1 _ _ _ _ hg2 _ _ HK0.out.rd HK1.out.rd HK2.out.rd (by omega)).mono ?_
  rintro e w11 ⟨qHQ, mHQ, eHQ, rfl, ho, hb⟩
  replace HB := Lib.hid (below_on HB.out hb)
  replace HX1 := Lib.hid (HX1.out.below hb)
  replace HW := Lib.hid (HW.out.below hb)
  replace HK0 := Lib.hid (HK0.out.below hb)
  replace HK1 := Lib.hid (HK1.out.below hb)
  replace HG := Lib.hid (HG.out.below hb)
  replace HK2 := Lib.hid (HK2.out.below hb)
  have HQ := Lib.hid ho
  have s11 := hb.size
  clear ho hb
  clear y0 y1
  obtain rfl : mHW = mHQ := HW.out.len.symm.trans HQ.out.len
  go_wp2_with fail
  refine (SlI.eq_any _ _ _ _ _ _ _ HQ.out.rd HW.out.rd).mono ?_
  rintro e w12 ⟨rfl, hb⟩
  replace HB := Lib.hid (below_on HB.out hb)
  replace HX1 := Lib.hid (HX1.out.below hb)
  replace HW := Lib.hid (HW.out.below hb)
  replace HK0 := Lib.hid (HK0.out.below hb)
  replace HK1 := Lib.hid (HK1.out.below hb)
  replace HG := Lib.hid (HG.out.below hb)
  replace HK2 := Lib.hid (HK2.out.below hb)
  replace HQ := Lib.hid (HQ.out.below hb)
  have s12 := hb.size
  clear hb
  go_wp2_with fail
  refine (SlKey.to_any _ _ _ _ _ (HR0.out.below HB.out) (by omega)).mono ?_
  rintro e w13 ⟨qHY0, mHY0, eHY0, rfl, ho, hb⟩
  replace HB := Lib.hid (below_on HB.out hb)
  replace HX1 := Lib.hid (HX1.out.below hb)
  replace HW := Lib.hid (HW.out.below hb)
  replace HK0 := Lib.hid (HK0.out.below hb)
  replace HK1 := Lib.hid (HK1.out.below hb)
  replace HG := Lib.hid (HG.out.below hb)
  replace HK2 := Lib.hid (HK2.out.below hb)
  replace HQ := Lib.hid (HQ.out.below hb)
  have HY0 := Lib.hid ho
  have bHY0 := HY0.out.le
  obtain rfl : n0 = mHY0 := HR0.out.len.symm.trans HY0.out.len
  have s13 := hb.size
  clear ho hb
  go_wp2_with fail
  refine (SlKey.eq_any _ _ _ _ _ _ _ HK0.out.rd HY0.out.rd).mono ?_
  rintro e w14 ⟨rfl, hb⟩
  replace HB := Lib.hid (below_on HB.out hb)
  replace HX1 := Lib.hid (HX1.out.below hb)
  replace HW := Lib.hid (HW.out.below hb)
  replace HK0 := Lib.hid (HK0.out.below hb)
  replace HK1 := Lib.hid (HK1.out.below hb)
  replace HG := Lib.hid (HG.out.below hb)
  replace HK2 := Lib.hid (HK2.out.below hb)
  replace HQ := Lib.hid (HQ.out.below hb)
  replace HY0 := Lib.hid (HY0.out.below hb)
  have s14 := hb.size
  clear hb
  clear HY0
  go_wp2_with fail
  replace HB := Lib.hid (drewB HB.out)
  replace HX1 := Lib.hid (HX1.out.below (drewB (Below.refl _ _)))
  replace HW := Lib.hid (HW.out.below (drewB (Below.refl _ _)))
  replace HK0 := Lib.hid (HK0.out.below (drewB (Below.refl _ _)))
  replace HK1 := Lib.hid (HK1.out.below (drewB (Below.refl _ _)))
  replace HG := Lib.hid (HG.out.below (drewB (Below.refl _ _)))
  replace HK2 := Lib.hid (HK2.out.below (drewB (Below.refl _ _)))
  replace HQ := Lib.hid (HQ.out.below (drewB (Below.refl _ _)))
  go_region_held3 (fun w' => (w'.cell? ⟨W.heap.size, 0, none⟩ = some (.slice a1 n1 c1) ∧ w'.cell? ⟨W.heap.size, 1, none⟩ = some (.bool m1)) ∧ (w'.cell? ⟨w9.heap.size, 0, none⟩ = some (.slice qHK1 n1 eHK1) ∧ w'.cell? ⟨w9.heap.size, 1, none⟩ = some (.bool m1))) (first | exact ⟨SlRule.bx2 HX1.out, SlRule.bx2 HG.out⟩ | go_keep) (first | (go_at_call 14; (with_reducible refine (SlRule.to_any _ _ _ _ _ _ (HR1.out.below HB.out) (by omega)).mono ?_); rintro e w15 ⟨qHY, mHY, eHY, rfl, ho, hb⟩; replace HB := Lib.hid (below_on HB.out hb); replace HX1 := Lib.hid (HX1.out.below hb); replace HW := Lib.hid (HW.out.below hb); replace HK0 := Lib.hid (HK0.out.below hb); replace HK1 := Lib.hid (HK1.out.below hb); replace HG := Lib.hid (HG.out.below hb); replace HK2 := Lib.hid (HK2.out.below hb); replace HQ := Lib.hid (HQ.out.below hb); have s15 := hb.size; have HY := Lib.hid ho; obtain rfl : n1 = mHY := HR1.out.len.symm.trans HY.out.len; clear ho hb) | (go_at_call 18; (with_reducible refine (SlRule.eq_any _ _ _ _ _ _ _ _ HK1.out.rd HY.out.rd).mono ?_); rintro e w16 ⟨rfl, hb⟩; replace HB := Lib.hid (below_on HB.out hb); replace HX1 := Lib.hid (HX1.out.below hb); replace HW := Lib.hid (HW.out.below hb); replace HK0 := Lib.hid (HK0.out.below hb); replace HK1 := Lib.hid (HK1.out.below hb); replace HG := Lib.hid (HG.out.below hb); replace HK2 := Lib.hid (HK2.out.below hb); replace HQ := Lib.hid (HQ.out.below hb); have s16 := hb.size; clear hb))
  try clear HY
  go_wp2_with fail
  refine (SlSignature.to_any _ _ _ _ _ (HR2.out.below HB.out) (by omega)).mono ?_
  rintro e w17 ⟨qHY2, mHY2, eHY2, rfl, ho, hb⟩
  replace HB := Lib.hid (below_on HB.out hb)
  replace HX1 := Lib.hid (HX1.out.below hb)
  replace HW := Lib.hid (HW.out.below hb)
  replace HK0 := Lib.hid (HK0.out.below hb)
  replace HK1 := Lib.hid (HK1.out.below hb)
  replace HG := Lib.hid (HG.out.below hb)
  replace HK2 := Lib.hid (HK2.out.below hb)
  replace HQ := Lib.hid (HQ.out.below hb)
  have HY2 := Lib.hid ho
  have bHY2 := HY2.out.le
  obtain rfl : n2 = mHY2 := HR2.out.len.symm.trans HY2.out.len
  have s17 := hb.size
  clear ho hb
  go_wp2_with fail
  refine (SlSignature.eq_any _ _ _ _ _ _ _ HK2.out.rd HY2.out.rd).mono ?_
  rintro e w18 ⟨rfl, hb⟩
  replace HB := Lib.hid (below_on HB.out hb)
  replace HX1 := Lib.hid (HX1.out.below hb)
  replace HW := Lib.hid (HW.out.below hb)
  replace HK0 := Lib.hid (HK0.out.below hb)
  replace HK1 := Lib.hid (HK1.out.below hb)
  replace HG := Lib.hid (HG.out.below hb)
  replace HK2 := Lib.hid (HK2.out.below hb)
  replace HQ := Lib.hid (HQ.out.below hb)
  replace HY2 := Lib.hid (HY2.out.below hb)
  have s18 := hb.size
  clear hb
  clear HY2
  have bHW := HW.out.le
  have bHQ := HQ.out.le
  go_wp2_with fail
  refine (SlKey.mark_any _ _ _ _ _ _ _ _ HK0.out (by omega) (by have := HK0.out.le; omega)).mono ?_
  rintro e w19 ⟨rfl, ho, hg⟩
  replace HB := Lib.hid (below_rowS HB.out HK0.out hg (by omega))
  replace HX1 := Lib.hid (HX1.out.grown hg (fun e => by have := HK0.out.far _ e.symm; omega))
  replace HG := Lib.hid (HG.out.grown hg (fun e => by have := HK0.out.far _ e.symm; omega))
  replace HK1 := Lib.hid (HK1.out.kept hg (fun g e => by have := HK0.out.far g e; omega))
  replace HK2 := Lib.hid (HK2.out.kept hg (fun g e => by have := HK0.out.far g e; omega))
  replace HW := Lib.hid (HW.out.kept hg (fun g e => by have := HK0.out.far g e; omega))
  replace HQ := Lib.hid (HQ.out.kept hg (fun g e => by have := HK0.out.far g e; omega))
  replace HK0 := Lib.hid ho
  clear ho hg
  obtain ⟨y0, y1⟩ := SlRule.bx2 HG.out
  go_wp2_with fail
  refine (Ru.mark_any _ _ _ _ _ _ _ _ _ HK1.out (by omega) (by have := HK1.out.le; omega)).mono ?_
  rintro e w20 ⟨rfl, ho, hg⟩
  clear y0 y1
  replace HB := Lib.hid (below_row HB.out HK1.out hg (by omega))
  replace HX1 := Lib.hid (HX1.out.grown hg (fun e => by have := HK1.out.far _ e.symm; omega))
  replace HG := Lib.hid (HG.out.grown hg (fun e => by have := HK1.out.far _ e.symm; omega))
  replace HK0 := Lib.hid (HK0.out.kept hg (fun g e => by have := HK1.out.far g e; omega))
  replace HK2 := Lib.hid (HK2.out.kept hg (fun g e => by have := HK1.out.far g e; omega))
  replace HW := Lib.hid (HW.out.kept hg (fun g e => by have := HK1.out.far g e; omega))
  replace HQ := Lib.hid (HQ.out.kept hg (fun g e => by have := HK1.out.far g e; omega))
  replace HK1 := Lib.hid ho
  clear ho hg
  go_wp2_with fail
  refine (SlSignature.mark_any _ _ _ _ _ _ _ _ HK2.out (by omega) (by have := HK2.out.le; omega)).mono ?_
  rintro e w21 ⟨rfl, ho, hg⟩
  replace HB := Lib.hid (below_rowS HB.out HK2.out hg (by omega))
  replace HX1 := Lib.hid (HX1.out.grown hg (fun e => by have := HK2.out.far _ e.symm; omega))
  replace HG := Lib.hid (HG.out.grown hg (fun e => by have := HK2.out.far _ e.symm; omega))
  replace HK0 := Lib.hid (HK0.out.kept hg (fun g e => by have := HK2.out.far g e; omega))
  replace HK1 := Lib.hid (HK1.out.kept hg (fun g e => by have := HK2.out.far g e; omega))
  replace HW := Lib.hid (HW.out.kept hg (fun g e => by have := HK2.out.far g e; omega))
  replace HQ := Lib.hid (HQ.out.kept hg (fun g e => by have := HK2.out.far g e; omega))
  replace HK2 := Lib.hid ho
  clear ho hg
  have kk : ¬ ((1 : Int) + ((n0 * 5 : Nat) : Int) + (n1 : Int) + ((n2 * 9 : Nat) : Int) < 0) := by omega
  go_wp2_with fail
  refine (SlI.eq_any _ _ _ _ _ _ _ HQ.out.rd HW.out.rd).mono ?_
  rintro e w22 ⟨rfl, hb⟩
  replace HB := Lib.hid (below_on HB.out hb)
  replace HX1 := Lib.hid (HX1.out.below hb)
  replace HW := Lib.hid (HW.out.below hb)
  replace HK0 := Lib.hid (HK0.out.below hb)
  replace HK1 := Lib.hid (HK1.out.below hb)
  replace HG := Lib.hid (HG.out.below hb)
  replace HK2 := Lib.hid (HK2.out.below hb)
  replace HQ := Lib.hid (HQ.out.below hb)
  have s22 := hb.size
  clear hb
  clear kk
  clear HK0
  clear HK1
  clear HK2
  clear HG
  go_wp2_with fail
  refine (SlI.mark_any _ _ _ _ _ _ _ _ HQ.out (by omega) (by have := HQ.out.le; omega)).mono ?_
  rintro e w23 ⟨rfl, ho, hg⟩
  replace HB := Lib.hid (below_row HB.out HQ.out hg (by omega))
  replace HW := Lib.hid (HW.out.kept hg (fun g e => by have := HQ.out.far g e; omega))
  replace HX1 := Lib.hid (HX1.out.grown hg (fun e => by have := HQ.out.far _ e.symm; omega))
  replace HQ := Lib.hid ho
  clear ho hg
  go_wp2_with fail
  refine (SlI.held_any _ _ _ _ _ HQ.out.rd (by omega) (by omega)).mono ?_
  rintro e w24 ⟨rfl, rfl⟩
  go_wp2_with fail
  replace HB := Lib.hid (drewB HB.out)
  replace HX1 := Lib.hid (HX1.out.below (drewB (Below.refl _ _)))
  replace HW := Lib.hid (HW.out.below (drewB (Below.refl _ _)))
  replace HQ := Lib.hid (HQ.out.below (drewB (Below.refl _ _)))
  go_region_held3 (fun w' => w'.cell? ⟨W.heap.size, 0, none⟩ = some (.slice a1 n1 c1) ∧ w'.cell? ⟨W.heap.size, 1, none⟩ = some (.bool m1)) (first | exact SlRule.bx2 HX1.out | go_keep) (first | (go_at_call 13; (with_reducible refine (SlKey.to_any _ _ _ _ _ (HR0.out.below HB.out) (by omega)).mono ?_); rintro e w25 ⟨qHZ0, mHZ0, eHZ0, rfl, ho, hb⟩; replace HB := Lib.hid (below_on HB.out hb); replace HX1 := Lib.hid (HX1.out.below hb); replace HW := Lib.hid (HW.out.below hb); replace HQ := Lib.hid (HQ.out.below hb); have HZ0 := Lib.hid ho; have bHZ0 := HZ0.out.le; obtain rfl : n0 = mHZ0 := HR0.out.len.symm.trans HZ0.out.len; clear ho hb) | (go_at_call 14; (with_reducible refine (SlRule.to_any _ _ _ _ _ _ (HR1.out.below HB.out) (by omega)).mono ?_); rintro e w26 ⟨qHZ1, mHZ1, eHZ1, rfl, ho, hb⟩; replace HB := Lib.hid (below_on HB.out hb); replace HX1 := Lib.hid (HX1.out.below hb); replace HW := Lib.hid (HW.out.below hb); replace HQ := Lib.hid (HQ.out.below hb); replace HZ0 := Lib.hid (HZ0.out.below hb); have HZ1 := Lib.hid ho; have bHZ1 := HZ1.out.le; obtain rfl : n1 = mHZ1 := HR1.out.len.symm.trans HZ1.out.len; clear ho hb) | (go_at_call 15; (with_reducible refine (SlSignature.to_any _ _ _ _ _ (HR2.out.below HB.out) (by omega)).mono ?_); rintro e w27 ⟨qHZ2, mHZ2, eHZ2, rfl, ho, hb⟩; replace HB := Lib.hid (below_on HB.out hb); replace HX1 := Lib.hid (HX1.out.below hb); replace HW := Lib.hid (HW.out.below hb); replace HQ := Lib.hid (HQ.out.below hb); replace HZ0 := Lib.hid (HZ0.out.below hb); replace HZ1 := Lib.hid (HZ1.out.below hb); have HZ2 := Lib.hid ho; have bHZ2 := HZ2.out.le; obtain rfl : n2 = mHZ2 := HR2.out.len.symm.trans HZ2.out.len; clear ho hb) | (go_at_call 21; (with_reducible refine (missing_any _ _ _ _ hg0 _ n1 _ m1 zs1 _ _ _ _ hg2 _ _ HZ0.out.rd HZ1.out.rd HZ2.out.rd (by omega)).mono ?_); rintro e w28 ⟨qHH, mHH, eHH, rfl, ho, hb⟩; replace HB := Lib.hid (below_on HB.out hb); replace HX1 := Lib.hid (HX1.out.below hb); replace HW := Lib.hid (HW.out.below hb); replace HQ := Lib.hid (HQ.out.below hb); replace HZ0 := Lib.hid (HZ0.out.below hb); replace HZ1 := Lib.hid (HZ1.out.below hb); replace HZ2 := Lib.hid (HZ2.out.below hb); have HH := Lib.hid ho; clear ho; clear hb))
  obtain rfl : mHW = mHH := HW.out.len.symm.trans HH.out.len
  go_wp2_with fail
  refine (SlI.eq_any _ _ _ _ _ _ _ HH.out.rd HW.out.rd).mono ?_
  rintro e w29 ⟨rfl, hb⟩
  replace HB := Lib.hid (below_on HB.out hb)
  replace HX1 := Lib.hid (HX1.out.below hb)
  replace HW := Lib.hid (HW.out.below hb)
  replace HQ := Lib.hid (HQ.out.below hb)
  replace HZ0 := Lib.hid (HZ0.out.below hb)
  replace HZ1 := Lib.hid (HZ1.out.below hb)
  replace HZ2 := Lib.hid (HZ2.out.below hb)
  replace HH := Lib.hid (HH.out.below hb)
  clear hb
  go_wp2_with fail
  refine (SlI.held_any _ _ _ _ _ HQ.out.rd (by omega) (by omega)).mono ?_
  rintro e w30 ⟨rfl, rfl⟩
  go_wp2_with fail
  go_ret
  exact ⟨rfl, HB.out⟩
end Go.Proofs.Ytjoeacdoblgncaa.fnExactMissingOwners
