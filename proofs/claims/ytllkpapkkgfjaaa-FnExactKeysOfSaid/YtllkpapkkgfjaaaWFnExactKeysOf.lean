/- The walk of the law FnExactKeysOf. -/
import Derived.Test.YtllkpapkkgfjaaaKo
import Derived.Test.YtllkpapkkgfjaaaSlB
import Derived.Test.YtllkpapkkgfjaaaSlI
import Derived.OpenShut
namespace Go.Proofs.Ytllkpapkkgfjaaa.fnExactKeysOf
open Go.ChangeShapes Go.WideShapes Go.ChangeAt Go.RowKit Sl St Fnd Kn SlKey Kr Ko
set_option maxRecDepth 100000 in
set_option maxHeartbeats 4000000 in
theorem walk {H : Type} {enc : TypeId × Value → H} (W : World) (base : Nat)
    (v0 : Value) (d0 : DataW H) (p0 : List MemPlace) (h0 : DataW.Trod enc Try.prog W 0 (fun _ => true) true 44 v0 d0 p0) (k0 : Value.okWide Try.prog W .any base 44 v0)
    (v1 : Value) (d1 : DataW H) (p1 : List MemPlace) (h1 : DataW.Trod enc Try.prog W 0 (fun _ => true) true 3 v1 d1 p1) (k1 : Value.okWide Try.prog W .any base 3 v1)
    (_hsz : (DataW.weightsEach Try.prog [44, 3] [d0, d1]).all (· ≤ reachBytes) = true) :
    Calls Try.prog 9 #[v0, v1] W fun e w' => e = .returned (.bool true) ∧ Below W.heap.size W w' := by
  obtain ⟨a0, n0, c0, zs0, rfl, hr0, hg0⟩ := SlKey.open_argR h0 k0
  have HR0 := Lib.hid hr0
  have hn0 := hr0.le
  clear hr0
  clear h0 k0
  obtain ⟨x1, rfl, _, _, wf1⟩ := open_int Try.underlying3 k1 h1
  have xb1 := bounds_i64 wf1
  obtain ⟨xl1, xh1⟩ := xb1
  clear wf1
  clear h1 k1
  clear _hsz
  have HB := Lib.hid (Below.refl W.heap.size W)
  by_cases hbig0 : 1048576 < n0
  · go_enter Try.func9, Try.ntmps9
    go_wp2_with fail
    refine (sz_big _ _ _ _ _ (by omega) (by omega) (by omega) hn0).mono ?_
    rintro e w0 ⟨rfl, rfl⟩
    go_wp2_with fail
    go_ret
    exact ⟨rfl, HB.out⟩
  go_enter Try.func9, Try.ntmps9
  go_wp2_with fail
  refine (sz_fits _ _ _ _ _ (by omega) (by omega)).mono ?_
  rintro e w0 ⟨rfl, rfl⟩
  go_wp2_with fail
  refine (SlKey.to_any _ _ _ _ _ (HR0.out.below HB.out) (by omega)).mono ?_
  rintro e w1 ⟨qHT0, mHT0, eHT0, rfl, ho, hb⟩
  replace HB := Lib.hid (below_on HB.out hb)
  have HT0 := Lib.hid ho
  have bHT0 := HT0.out.le
  obtain rfl : n0 = mHT0 := HR0.out.len.symm.trans HT0.out.len
  have s1 := hb.size
  clear ho hb
  have sW := HB.out.size
  go_wp2_with fail
  refine (spec_keysOf_any _ _ _ _ hg0 _ _ HT0.out.rd (by omega)).mono ?_
  rintro e w2 ⟨qHW, mHW, eHW, rfl, ho, hb⟩
  replace HB := Lib.hid (below_on HB.out hb)
  replace HT0 := Lib.hid (HT0.out.below hb)
  have HW := Lib.hid ho
  have s2 := hb.size
  clear ho hb
  have bL : mHW ≤ 1099511627776 := by have h1 := HW.out.len; have h2 := keysOf_len zs0 x1; have h3 := HR0.out.len; omega
  clear HT0
  go_wp2_with fail
  refine (SlKey.to_any _ _ _ _ _ (HR0.out.below HB.out) (by omega)).mono ?_
  rintro e w3 ⟨qHX0, mHX0, eHX0, rfl, ho, hb⟩
  replace HB := Lib.hid (below_on HB.out hb)
  replace HW := Lib.hid (HW.out.below hb)
  have HX0 := Lib.hid ho
  have bHX0 := HX0.out.le
  obtain rfl : n0 = mHX0 := HR0.out.len.symm.trans HX0.out.len
  have s3 := hb.size
  clear ho hb
  go_wp2_with fail
  refine (keysOf_any _ _ _ _ hg0 _ _ HX0.out.rd (by omega)).mono ?_
  rintro e w4 ⟨qHG, mHG, eHG, rfl, ho, hb⟩
  replace HB := Lib.hid (below_on HB.out hb)
  replace HW := Lib.hid (HW.out.below hb)
  replace HX0 := Lib.hid (HX0.out.below hb)
  have HG := Lib.hid ho
  have s4 := hb.size
  clear ho hb
  obtain rfl : mHW = mHG := HW.out.len.symm.trans HG.out.len
  go_wp2_with fail
  refine (SlI.eq_any _ _ _ _ _ _ _ HG.out.rd HW.out.rd).mono ?_
  rintro e w5 ⟨rfl, hb⟩
  replace HB := Lib.hid (below_on HB.out hb)
  replace HW := Lib.hid (HW.out.below hb)
  replace HX0 := Lib.hid (HX0.out.below hb)
  replace HG := Lib.hid (HG.out.below hb)
  clear hb
  go_wp2_with fail
  refine (SlKey.to_any _ _ _ _ _ (HR0.out.below HB.out) (by omega)).mono ?_
  rintro e w6 ⟨qHY0, mHY0, eHY0, rfl, ho, hb⟩
  replace HB := Lib.hid (below_on HB.out hb)
  replace HW := Lib.hid (HW.out.below hb)
  replace HX0 := Lib.hid (HX0.out.below hb)
  replace HG := Lib.hid (HG.out.below hb)
  have HY0 := Lib.hid ho
  have bHY0 := HY0.out.le
  obtain rfl : n0 = mHY0 := HR0.out.len.symm.trans HY0.out.len
  clear ho hb
  go_wp2_with fail
  refine (SlKey.eq_any _ _ _ _ _ _ _ HX0.out.rd HY0.out.rd).mono ?_
  rintro e w7 ⟨rfl, hb⟩
  replace HB := Lib.hid (below_on HB.out hb)
  replace HW := Lib.hid (HW.out.below hb)
  replace HX0 := Lib.hid (HX0.out.below hb)
  replace HG := Lib.hid (HG.out.below hb)
  replace HY0 := Lib.hid (HY0.out.below hb)
  clear hb
  clear HY0
  have bHW := HW.out.le
  have bHG := HG.out.le
  go_wp2_with fail
  refine (SlKey.mark_any _ _ _ _ _ _ _ _ HX0.out (by omega) (by have := HX0.out.le; omega)).mono ?_
  rintro e w8 ⟨rfl, ho, hg⟩
  replace HB := Lib.hid (below_rowS HB.out HX0.out hg (by omega))
  replace HW := Lib.hid (HW.out.kept hg (fun g e => by have := HX0.out.far g e; omega))
  replace HG := Lib.hid (HG.out.kept hg (fun g e => by have := HX0.out.far g e; omega))
  replace HX0 := Lib.hid ho
  clear ho hg
  go_wp2_with fail
  refine (SlI.eq_any _ _ _ _ _ _ _ HG.out.rd HW.out.rd).mono ?_
  rintro e w9 ⟨rfl, hb⟩
  replace HB := Lib.hid (below_on HB.out hb)
  replace HW := Lib.hid (HW.out.below hb)
  replace HX0 := Lib.hid (HX0.out.below hb)
  replace HG := Lib.hid (HG.out.below hb)
  clear hb
  clear HX0
  go_wp2_with fail
  refine (SlI.mark_any _ _ _ _ _ _ _ _ HG.out (by omega) (by have := HG.out.le; omega)).mono ?_
  rintro e w10 ⟨rfl, ho, hg⟩
  replace HB := Lib.hid (below_row HB.out HG.out hg (by omega))
  replace HW := Lib.hid (HW.out.kept hg (fun g e => by have := HG.out.far g e; omega))
  replace HG := Lib.hid ho
  clear ho hg
  go_wp2_with fail
  refine (SlI.held_any _ _ _ _ _ HG.out.rd (by omega) (by omega)).mono ?_
  rintro e w11 ⟨rfl, rfl⟩
  go_wp2_with fail
  refine (SlKey.to_any _ _ _ _ _ (HR0.out.below HB.out) (by omega)).mono ?_
  rintro e w12 ⟨qHZ0, mHZ0, eHZ0, rfl, ho, hb⟩
  replace HB := Lib.hid (below_on HB.out hb)
  replace HW := Lib.hid (HW.out.below hb)
  replace HG := Lib.hid (HG.out.below hb)
  have HZ0 := Lib.hid ho
  have bHZ0 := HZ0.out.le
  obtain rfl : n0 = mHZ0 := HR0.out.len.symm.trans HZ0.out.len
  clear ho hb
  go_wp2_with fail
  refine (keysOf_any _ _ _ _ hg0 _ _ HZ0.out.rd (by omega)).mono ?_
  rintro e w13 ⟨qHH, mHH, eHH, rfl, ho, hb⟩
  replace HB := Lib.hid (below_on HB.out hb)
  replace HW := Lib.hid (HW.out.below hb)
  replace HG := Lib.hid (HG.out.below hb)
  replace HZ0 := Lib.hid (HZ0.out.below hb)
  have HH := Lib.hid ho
  clear ho hb
  obtain rfl : mHW = mHH := HW.out.len.symm.trans HH.out.len
  go_wp2_with fail
  refine (SlI.eq_any _ _ _ _ _ _ _ HH.out.rd HW.out.rd).mono ?_
  rintro e w14 ⟨rfl, hb⟩
  replace HB := Lib.hid (below_on HB.out hb)
  replace HW := Lib.hid (HW.out.below hb)
  replace HG := Lib.hid (HG.out.below hb)
  replace HZ0 := Lib.hid (HZ0.out.below hb)
  replace HH := Lib.hid (HH.out.below hb)
  clear hb
  go_wp2_with fail
  refine (SlI.held_any _ _ _ _ _ HG.out.rd (by omega) (by omega)).mono ?_
  rintro e w15 ⟨rfl, rfl⟩
  go_wp2_with fail
  go_ret
  exact ⟨rfl, HB.out⟩
end Go.Proofs.Ytllkpapkkgfjaaa.fnExactKeysOf
