/- The walk of the law FnExactKeyLine. -/
import Derived.Test.YtlipcnaimpplpaaSlKey
import Derived.Test.YtlipcnaimpplpaaSlSuccession
import Derived.Test.YtlipcnaimpplpaaKlb
import Derived.Test.YtlipcnaimpplpaaSlB
import Derived.Test.YtlipcnaimpplpaaSlI
import Derived.OpenShut
namespace Go.Proofs.Ytlipcnaimpplpaa.fnExactKeyLine
open Go.ChangeShapes Go.WideShapes Go.ChangeAt Go.RowKit Sl St Fnd Kn Hx Kl
set_option maxRecDepth 100000 in
set_option maxHeartbeats 8000000 in
theorem walk {H : Type} {enc : TypeId × Value → H} (W : World) (base : Nat)
    (v0 : Value) (d0 : DataW H) (p0 : List MemPlace) (h0 : DataW.Trod enc Try.prog W 0 (fun _ => true) true 22 v0 d0 p0) (k0 : Value.okWide Try.prog W .any base 22 v0)
    (v1 : Value) (d1 : DataW H) (p1 : List MemPlace) (h1 : DataW.Trod enc Try.prog W 0 (fun _ => true) true 41 v1 d1 p1) (k1 : Value.okWide Try.prog W .any base 41 v1)
    (v2 : Value) (d2 : DataW H) (p2 : List MemPlace) (h2 : DataW.Trod enc Try.prog W 0 (fun _ => true) true 3 v2 d2 p2) (k2 : Value.okWide Try.prog W .any base 3 v2)
    (v3 : Value) (d3 : DataW H) (p3 : List MemPlace) (h3 : DataW.Trod enc Try.prog W 0 (fun _ => true) true 3 v3 d3 p3) (k3 : Value.okWide Try.prog W .any base 3 v3)
    (_hsz : (DataW.weightsEach Try.prog [22, 41, 3, 3] [d0, d1, d2, d3]).all (· ≤ reachBytes) = true) :
    Calls Try.prog 4 #[v0, v1, v2, v3] W fun e w' => e = .returned (.bool true) ∧ Below W.heap.size W w' := by
  obtain ⟨a0, n0, c0, zs0, rfl, hr0, hg0⟩ := SlKey.open_argR h0 k0
  have HR0 := Lib.hid hr0
  have hn0 := hr0.le
  clear hr0
  clear h0 k0
  obtain ⟨a1, n1, c1, zs1, rfl, hr1, hg1⟩ := SlSuccession.open_argR h1 k1
  have HR1 := Lib.hid hr1
  have hn1 := hr1.le
  clear hr1
  clear h1 k1
  obtain ⟨x2, rfl, _, _, wf2⟩ := open_int Try.underlying3 k2 h2
  have xb2 := bounds_i64 wf2
  obtain ⟨xl2, xh2⟩ := xb2
  clear wf2
  clear h2 k2
  obtain ⟨x3, rfl, _, _, wf3⟩ := open_int Try.underlying3 k3 h3
  have xb3 := bounds_i64 wf3
  obtain ⟨xl3, xh3⟩ := xb3
  clear wf3
  clear h3 k3
  clear _hsz
  have HB := Lib.hid (Below.refl W.heap.size W)
  by_cases hbig0 : 1048576 < n0
  · go_enter Try.func4, Try.ntmps4
    go_wp2_with fail
    refine (SlKey.sz_big _ _ _ _ _ (by omega) (by omega) (by omega) hn0).mono ?_
    rintro e w0 ⟨rfl, rfl⟩
    go_wp2_with fail
    go_ret
    exact ⟨rfl, HB.out⟩
  by_cases hbig1 : 1048576 < n0 + n1
  · go_enter Try.func4, Try.ntmps4
    go_wp2_with fail
    refine (SlKey.sz_fits _ _ _ _ _ (by omega) (by omega)).mono ?_
    rintro e w0 ⟨rfl, rfl⟩
    go_wp2_with fail
    refine (SlSuccession.sz_big _ _ _ _ _ (by omega) (by omega) (by omega) hn1).mono ?_
    rintro e w0 ⟨rfl, rfl⟩
    go_wp2_with fail
    go_ret
    exact ⟨rfl, HB.out⟩
  go_enter Try.func4, Try.ntmps4
  go_wp2_with fail
  refine (SlKey.sz_fits _ _ _ _ _ (by omega) (by omega)).mono ?_
  rintro e w0 ⟨rfl, rfl⟩
  go_wp2_with fail
  refine (SlSuccession.sz_fits _ _ _ _ _ (by omega) (by omega)).mono ?_
  rintro e w0 ⟨rfl, rfl⟩
  have hM2 : inK .i64 x2 := ⟨xl2, xh2⟩
  have HM2 := Lib.hid hM2
  clear hM2
  have sW := HB.out.size
  go_wp2_with fail
  refine (SlKey.to_any _ _ _ _ _ (HR0.out.below HB.out) (by omega)).mono ?_
  rintro e w1 ⟨qHT0, mHT0, eHT0, rfl, ho, hb⟩
  replace HB := Lib.hid (below_on HB.out hb)
  have HT0 := Lib.hid ho
  have bHT0 := HT0.out.le
  obtain rfl : n0 = mHT0 := HR0.out.len.symm.trans HT0.out.len
  have s1 := hb.size
  clear ho hb
  go_wp2_with fail
  refine (SlSuccession.to_any _ _ _ _ _ (HR1.out.below HB.out) (by omega)).mono ?_
  rintro e w2 ⟨qHT1, mHT1, eHT1, rfl, ho, hb⟩
  replace HB := Lib.hid (below_on HB.out hb)
  replace HT0 := Lib.hid (HT0.out.below hb)
  have HT1 := Lib.hid ho
  have bHT1 := HT1.out.le
  obtain rfl : n1 = mHT1 := HR1.out.len.symm.trans HT1.out.len
  have s2 := hb.size
  clear ho hb
  go_wp2_with fail
  refine (spec_keyLine_any _ _ _ _ hg0 _ _ _ _ hg1 _ _ HM2.out _ HT0.out.rd HT1.out.rd (by omega)).mono ?_
  rintro e w3 ⟨qHW, mHW, eHW, rfl, ho, hb⟩
  replace HB := Lib.hid (below_on HB.out hb)
  replace HT0 := Lib.hid (HT0.out.below hb)
  replace HT1 := Lib.hid (HT1.out.below hb)
  have HW := Lib.hid ho
  have s3 := hb.size
  clear ho hb
  have bL : mHW ≤ 1048577 := by have h1 := HW.out.len; have h2 := Kl.lineOf_len zs0 zs1 x2 x3; have h4 := HR1.out.len; omega
  clear HT0
  clear HT1
  go_wp2_with fail
  refine (SlKey.to_any _ _ _ _ _ (HR0.out.below HB.out) (by omega)).mono ?_
  rintro e w4 ⟨qHK0, mHK0, eHK0, rfl, ho, hb⟩
  replace HB := Lib.hid (below_on HB.out hb)
  replace HW := Lib.hid (HW.out.below hb)
  have HK0 := Lib.hid ho
  have bHK0 := HK0.out.le
  obtain rfl : n0 = mHK0 := HR0.out.len.symm.trans HK0.out.len
  have s4 := hb.size
  clear ho hb
  go_wp2_with fail
  refine (SlSuccession.to_any _ _ _ _ _ (HR1.out.below HB.out) (by omega)).mono ?_
  rintro e w5 ⟨qHK1, mHK1, eHK1, rfl, ho, hb⟩
  replace HB := Lib.hid (below_on HB.out hb)
  replace HW := Lib.hid (HW.out.below hb)
  replace HK0 := Lib.hid (HK0.out.below hb)
  have HK1 := Lib.hid ho
  have bHK1 := HK1.out.le
  obtain rfl : n1 = mHK1 := HR1.out.len.symm.trans HK1.out.len
  have s5 := hb.size
  clear ho hb
  go_wp2_with fail
  refine (keyLine_any _ _ _ _ hg0 _ _ _ _ hg1 _ _ HM2.out _ HK0.out.rd HK1.out.rd (by omega)).mono ?_
  rintro e w6 ⟨qHG, mHG, eHG, rfl, ho, hb⟩
  replace HB := Lib.hid (below_on HB.out hb)
  replace HW := Lib.hid (HW.out.below hb)
  replace HK0 := Lib.hid (HK0.out.below hb)
  replace HK1 := Lib.hid (HK1.out.below hb)
  have HG := Lib.hid ho
  have s6 := hb.size
  clear ho hb
  obtain rfl : mHW = mHG := HW.out.len.symm.trans HG.out.len
  go_wp2_with fail
  refine (SlI.eq_any _ _ _ _ _ _ _ HG.out.rd HW.out.rd).mono ?_
  rintro e w7 ⟨rfl, hb⟩
  replace HB := Lib.hid (below_on HB.out hb)
  replace HW := Lib.hid (HW.out.below hb)
  replace HK0 := Lib.hid (HK0.out.below hb)
  replace HK1 := Lib.hid (HK1.out.below hb)
  replace HG := Lib.hid (HG.out.below hb)
  have s7 := hb.size
  clear hb
  go_wp2_with fail
  refine (SlKey.to_any _ _ _ _ _ (HR0.out.below HB.out) (by omega)).mono ?_
  rintro e w8 ⟨qHY0, mHY0, eHY0, rfl, ho, hb⟩
  replace HB := Lib.hid (below_on HB.out hb)
  replace HW := Lib.hid (HW.out.below hb)
  replace HK0 := Lib.hid (HK0.out.below hb)
  replace HK1 := Lib.hid (HK1.out.below hb)
  replace HG := Lib.hid (HG.out.below hb)
  have HY0 := Lib.hid ho
  have bHY0 := HY0.out.le
  obtain rfl : n0 = mHY0 := HR0.out.len.symm.trans HY0.out.len
  have s8 := hb.size
  clear ho hb
  go_wp2_with fail
  refine (SlKey.eq_any _ _ _ _ _ _ _ HK0.out.rd HY0.out.rd).mono ?_
  rintro e w9 ⟨rfl, hb⟩
  replace HB := Lib.hid (below_on HB.out hb)
  replace HW := Lib.hid (HW.out.below hb)
  replace HK0 := Lib.hid (HK0.out.below hb)
  replace HK1 := Lib.hid (HK1.out.below hb)
  replace HG := Lib.hid (HG.out.below hb)
  replace HY0 := Lib.hid (HY0.out.below hb)
  have s9 := hb.size
  clear hb
  clear HY0
  go_wp2_with fail
  refine (SlSuccession.to_any _ _ _ _ _ (HR1.out.below HB.out) (by omega)).mono ?_
  rintro e w10 ⟨qHY1, mHY1, eHY1, rfl, ho, hb⟩
  replace HB := Lib.hid (below_on HB.out hb)
  replace HW := Lib.hid (HW.out.below hb)
  replace HK0 := Lib.hid (HK0.out.below hb)
  replace HK1 := Lib.hid (HK1.out.below hb)
  replace HG := Lib.hid (HG.out.below hb)
  have HY1 := Lib.hid ho
  have bHY1 := HY1.out.le
  obtain rfl : n1 = mHY1 := HR1.out.len.symm.trans HY1.out.len
  have s10 := hb.size
  clear ho hb
  go_wp2_with fail
  refine (SlSuccession.eq_any _ _ _ _ _ _ _ HK1.out.rd HY1.out.rd).mono ?_
  rintro e w11 ⟨rfl, hb⟩
  replace HB := Lib.hid (below_on HB.out hb)
  replace HW := Lib.hid (HW.out.below hb)
  replace HK0 := Lib.hid (HK0.out.below hb)
  replace HK1 := Lib.hid (HK1.out.below hb)
  replace HG := Lib.hid (HG.out.below hb)
  replace HY1 := Lib.hid (HY1.out.below hb)
  have s11 := hb.size
  clear hb
  clear HY1
  have bHW := HW.out.le
  have bHG := HG.out.le
  go_wp2_with fail
  refine (SlKey.mark_any _ _ _ _ _ _ _ _ HK0.out (by omega) (by have := HK0.out.le; omega)).mono ?_
  rintro e w12 ⟨rfl, ho, hg⟩
  replace HB := Lib.hid (below_rowS HB.out HK0.out hg (by omega))
  replace HW := Lib.hid (HW.out.kept hg (fun g e => by have := HK0.out.far g e; omega))
  replace HG := Lib.hid (HG.out.kept hg (fun g e => by have := HK0.out.far g e; omega))
  replace HK1 := Lib.hid (HK1.out.kept hg (fun g e => by have := HK0.out.far g e; omega))
  replace HK0 := Lib.hid ho
  clear ho hg
  go_wp2_with fail
  refine (SlSuccession.mark_any _ _ _ _ _ _ _ _ HK1.out (by omega) (by have := HK1.out.le; omega)).mono ?_
  rintro e w13 ⟨rfl, ho, hg⟩
  replace HB := Lib.hid (below_rowS HB.out HK1.out hg (by omega))
  replace HW := Lib.hid (HW.out.kept hg (fun g e => by have := HK1.out.far g e; omega))
  replace HG := Lib.hid (HG.out.kept hg (fun g e => by have := HK1.out.far g e; omega))
  replace HK0 := Lib.hid (HK0.out.kept hg (fun g e => by have := HK1.out.far g e; omega))
  replace HK1 := Lib.hid ho
  clear ho hg
  have kk : ¬ ((1 : Int) + ((n0 * 5 : Nat) : Int) + ((n1 * 4 : Nat) : Int) < 0) := by omega
  go_wp2_with fail
  refine (SlI.eq_any _ _ _ _ _ _ _ HG.out.rd HW.out.rd).mono ?_
  rintro e w14 ⟨rfl, hb⟩
  replace HB := Lib.hid (below_on HB.out hb)
  replace HW := Lib.hid (HW.out.below hb)
  replace HK0 := Lib.hid (HK0.out.below hb)
  replace HK1 := Lib.hid (HK1.out.below hb)
  replace HG := Lib.hid (HG.out.below hb)
  have s14 := hb.size
  clear hb
  clear HK0
  clear HK1
  clear kk
  go_wp2_with fail
  refine (SlI.mark_any _ _ _ _ _ _ _ _ HG.out (by omega) (by have := HG.out.le; omega)).mono ?_
  rintro e w15 ⟨rfl, ho, hg⟩
  replace HB := Lib.hid (below_row HB.out HG.out hg (by omega))
  replace HW := Lib.hid (HW.out.kept hg (fun g e => by have := HG.out.far g e; omega))
  replace HG := Lib.hid ho
  clear ho hg
  go_wp2_with fail
  refine (SlI.held_any _ _ _ _ _ HG.out.rd (by omega) (by omega)).mono ?_
  rintro e w16 ⟨rfl, rfl⟩
  go_wp2_with fail
  refine (SlKey.to_any _ _ _ _ _ (HR0.out.below HB.out) (by omega)).mono ?_
  rintro e w17 ⟨qHZ0, mHZ0, eHZ0, rfl, ho, hb⟩
  replace HB := Lib.hid (below_on HB.out hb)
  replace HW := Lib.hid (HW.out.below hb)
  replace HG := Lib.hid (HG.out.below hb)
  have HZ0 := Lib.hid ho
  have bHZ0 := HZ0.out.le
  obtain rfl : n0 = mHZ0 := HR0.out.len.symm.trans HZ0.out.len
  clear ho hb
  go_wp2_with fail
  refine (SlSuccession.to_any _ _ _ _ _ (HR1.out.below HB.out) (by omega)).mono ?_
  rintro e w18 ⟨qHZ1, mHZ1, eHZ1, rfl, ho, hb⟩
  replace HB := Lib.hid (below_on HB.out hb)
  replace HW := Lib.hid (HW.out.below hb)
  replace HG := Lib.hid (HG.out.below hb)
  replace HZ0 := Lib.hid (HZ0.out.below hb)
  have HZ1 := Lib.hid ho
  have bHZ1 := HZ1.out.le
  obtain rfl : n1 = mHZ1 := HR1.out.len.symm.trans HZ1.out.len
  clear ho hb
  go_wp2_with fail
  refine (keyLine_any _ _ _ _ hg0 _ _ _ _ hg1 _ _ HM2.out _ HZ0.out.rd HZ1.out.rd (by omega)).mono ?_
  rintro e w19 ⟨qHH, mHH, eHH, rfl, ho, hb⟩
  replace HB := Lib.hid (below_on HB.out hb)
  replace HW := Lib.hid (HW.out.below hb)
  replace HG := Lib.hid (HG.out.below hb)
  replace HZ0 := Lib.hid (HZ0.out.below hb)
  replace HZ1 := Lib.hid (HZ1.out.below hb)
  have HH := Lib.hid ho
  clear ho hb
  obtain rfl : mHW = mHH := HW.out.len.symm.trans HH.out.len
  go_wp2_with fail
  refine (SlI.eq_any _ _ _ _ _ _ _ HH.out.rd HW.out.rd).mono ?_
  rintro e w20 ⟨rfl, hb⟩
  replace HB := Lib.hid (below_on HB.out hb)
  replace HW := Lib.hid (HW.out.below hb)
  replace HG := Lib.hid (HG.out.below hb)
  replace HZ0 := Lib.hid (HZ0.out.below hb)
  replace HZ1 := Lib.hid (HZ1.out.below hb)
  replace HH := Lib.hid (HH.out.below hb)
  clear hb
  go_wp2_with fail
  refine (SlI.held_any _ _ _ _ _ HG.out.rd (by omega) (by omega)).mono ?_
  rintro e w21 ⟨rfl, rfl⟩
  go_wp2_with fail
  go_ret
  exact ⟨rfl, HB.out⟩
end Go.Proofs.Ytlipcnaimpplpaa.fnExactKeyLine
