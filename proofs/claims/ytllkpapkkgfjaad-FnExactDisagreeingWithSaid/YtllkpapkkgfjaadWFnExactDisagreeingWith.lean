/- The walk of the law FnExactDisagreeingWith. -/
import Derived.Test.YtllkpapkkgfjaadSlSpan
import Derived.Test.YtllkpapkkgfjaadCd
import Derived.Test.YtllkpapkkgfjaadSlB
import Derived.Test.YtllkpapkkgfjaadSlI
import Derived.OpenShut
import Derived.Deep.RegionHeld3
namespace Go.Proofs.Ytllkpapkkgfjaad.fnExactDisagreeingWith
open Go.ChangeShapes Go.WideShapes Go.ChangeAt Go.RowKit Sl St Jn Sps SlSpan Co Cd
theorem drewB {W w : World} {B : Nat} (h : Below B W w) : Below B W w.drew := below_drewN h 1
set_option maxRecDepth 100000 in
set_option maxHeartbeats 4000000 in
theorem walk {H : Type} {enc : TypeId × Value → H} (W : World) (base : Nat)
    (v0 : Value) (d0 : DataW H) (p0 : List MemPlace) (h0 : DataW.Trod enc Try.prog W 0 (fun _ => true) true 40 v0 d0 p0) (k0 : Value.okWide Try.prog W .any base 40 v0)
    (v1 : Value) (d1 : DataW H) (p1 : List MemPlace) (h1 : DataW.Trod enc Try.prog W 0 (fun _ => true) true 46 v1 d1 p1) (k1 : Value.okWide Try.prog W .any base 46 v1)
    (_hsz : (DataW.weightsEach Try.prog [40, 46] [d0, d1]).all (· ≤ reachBytes) = true) :
    Calls Try.prog 6 #[v0, v1] W fun e w' => e = .returned (.bool true) ∧ Below W.heap.size W w' := by
  obtain ⟨a0, n0, c0, zs0, rfl, hr0⟩ := SlSpan.open_arg h0 k0
  have HR0 := Lib.hid hr0
  have hn0 := hr0.le
  clear hr0
  clear h0 k0
  obtain ⟨x1_0, x1_1, rfl, b1_0, b1_1⟩ := SlSpan.open_val h1 k1
  have HG1_0 := Lib.hid b1_0
  have HG1_1 := Lib.hid b1_1
  clear b1_0 b1_1
  clear h1 k1
  clear _hsz
  have HB := Lib.hid (Below.refl W.heap.size W)
  have HX1 := Lib.hid (Bx.new W 46 #[.int .i64 x1_0, .int .i64 x1_1])
  replace HB := Lib.hid (HB.out.alloc HB.out.size (.cells #[.int .i64 x1_0, .int .i64 x1_1] 46))
  have lX1 := HX1.out.lt
  by_cases hbig0 : 1048576 < n0
  · go_enter Try.func6, Try.ntmps6
    go_wp2_with fail
    refine (SlSpan.sz_big _ _ _ _ _ (by omega) (by omega) (by omega) hn0).mono ?_
    rintro e w0 ⟨rfl, rfl⟩
    go_wp2_with fail
    go_ret
    exact ⟨rfl, HB.out⟩
  go_enter Try.func6, Try.ntmps6
  go_wp2_with fail
  refine (SlSpan.sz_fits _ _ _ _ _ (by omega) (by omega)).mono ?_
  rintro e w0 ⟨rfl, rfl⟩
  go_wp2_with fail
  replace HB := Lib.hid (drewB HB.out)
  replace HX1 := Lib.hid (HX1.out.below (drewB (Below.refl _ _)))
  go_region_held3 (fun w' => w'.cell? ⟨W.heap.size, 0, none⟩ = some (.int .i64 x1_0) ∧ w'.cell? ⟨W.heap.size, 1, none⟩ = some (.int .i64 x1_1)) (first | exact ⟨HX1.out.two.1, HX1.out.two.2.1⟩ | go_keep) (first | (go_at_call 20; (with_reducible refine (SlSpan.to_any _ _ _ _ _ (HR0.out.below HB.out) (by omega)).mono ?_); rintro e w1 ⟨qHT0, mHT0, eHT0, rfl, ho, hb⟩; replace HB := Lib.hid (below_on HB.out hb); replace HX1 := Lib.hid (HX1.out.below hb); have HT0 := Lib.hid ho; have bHT0 := HT0.out.le; obtain rfl : n0 = mHT0 := HR0.out.len.symm.trans HT0.out.len; clear ho hb) | (go_at_call 25; (with_reducible refine (SlSpan.val_any _ _ _).mono ?_); rintro e w2 ⟨rfl, hb⟩; replace HB := Lib.hid (below_on HB.out hb); replace HX1 := Lib.hid (HX1.out.below hb); replace HT0 := Lib.hid (HT0.out.below hb); clear hb) | (go_at_call 24; (with_reducible refine (spec_who_any _ _ _ _ _ _ _ HT0.out.rd (by omega)).mono ?_); rintro e w3 ⟨qHW, mHW, eHW, rfl, ho, hb⟩; replace HB := Lib.hid (below_on HB.out hb); replace HX1 := Lib.hid (HX1.out.below hb); replace HT0 := Lib.hid (HT0.out.below hb); have HW := Lib.hid ho; clear ho; clear hb))
  have lX1 := HX1.out.lt
  have bL : mHW ≤ 1048576 := by have h1 := HW.out.len; have h2 := dis_len zs0 (x1_0, x1_1) zs0.length; have h3 := HR0.out.len; omega
  clear HT0
  go_wp2_with fail
  refine (SlSpan.to_any _ _ _ _ _ (HR0.out.below HB.out) (by omega)).mono ?_
  rintro e w4 ⟨qHK0, mHK0, eHK0, rfl, ho, hb⟩
  replace HB := Lib.hid (below_on HB.out hb)
  replace HX1 := Lib.hid (HX1.out.below hb)
  replace HW := Lib.hid (HW.out.below hb)
  have HK0 := Lib.hid ho
  have bHK0 := HK0.out.le
  obtain rfl : n0 = mHK0 := HR0.out.len.symm.trans HK0.out.len
  have s4 := hb.size
  clear ho hb
  obtain ⟨cc0, cc1, _, _⟩ := HX1.out.two
  go_wp2_with fail
  refine (SlSpan.val_any _ _ _).mono ?_
  rintro e w5 ⟨rfl, hb⟩
  replace HB := Lib.hid (below_on HB.out hb)
  replace HX1 := Lib.hid (HX1.out.below hb)
  replace HW := Lib.hid (HW.out.below hb)
  replace HK0 := Lib.hid (HK0.out.below hb)
  have s5 := hb.size
  clear hb
  clear cc0 cc1
  go_wp2_with fail
  refine (who_any _ _ _ _ _ _ _ HK0.out.rd (by omega)).mono ?_
  rintro e w6 ⟨qHG, mHG, eHG, rfl, ho, hb⟩
  replace HB := Lib.hid (below_on HB.out hb)
  replace HX1 := Lib.hid (HX1.out.below hb)
  replace HW := Lib.hid (HW.out.below hb)
  replace HK0 := Lib.hid (HK0.out.below hb)
  have HG := Lib.hid ho
  have s6 := hb.size
  clear ho hb
  obtain rfl : mHW = mHG := HW.out.len.symm.trans HG.out.len
  go_wp2_with fail
  refine (SlI.eq_any _ _ _ _ _ _ _ HG.out.rd HW.out.rd).mono ?_
  rintro e w7 ⟨rfl, hb⟩
  replace HB := Lib.hid (below_on HB.out hb)
  replace HX1 := Lib.hid (HX1.out.below hb)
  replace HW := Lib.hid (HW.out.below hb)
  replace HK0 := Lib.hid (HK0.out.below hb)
  replace HG := Lib.hid (HG.out.below hb)
  have s7 := hb.size
  clear hb
  go_wp2_with fail
  refine (SlSpan.to_any _ _ _ _ _ (HR0.out.below HB.out) (by omega)).mono ?_
  rintro e w8 ⟨qHY0, mHY0, eHY0, rfl, ho, hb⟩
  replace HB := Lib.hid (below_on HB.out hb)
  replace HX1 := Lib.hid (HX1.out.below hb)
  replace HW := Lib.hid (HW.out.below hb)
  replace HK0 := Lib.hid (HK0.out.below hb)
  replace HG := Lib.hid (HG.out.below hb)
  have HY0 := Lib.hid ho
  have bHY0 := HY0.out.le
  obtain rfl : n0 = mHY0 := HR0.out.len.symm.trans HY0.out.len
  have s8 := hb.size
  clear ho hb
  go_wp2_with fail
  refine (SlSpan.eq_any _ _ _ _ _ _ _ HK0.out.rd HY0.out.rd).mono ?_
  rintro e w9 ⟨rfl, hb⟩
  replace HB := Lib.hid (below_on HB.out hb)
  replace HX1 := Lib.hid (HX1.out.below hb)
  replace HW := Lib.hid (HW.out.below hb)
  replace HK0 := Lib.hid (HK0.out.below hb)
  replace HG := Lib.hid (HG.out.below hb)
  replace HY0 := Lib.hid (HY0.out.below hb)
  have s9 := hb.size
  clear hb
  clear HY0
  have bHW := HW.out.le
  have bHG := HG.out.le
  go_wp2_with fail
  refine (SlSpan.mark_any _ _ _ _ _ _ _ _ HK0.out (by omega) (by have := HK0.out.le; omega)).mono ?_
  rintro e w10 ⟨rfl, ho, hg⟩
  replace HB := Lib.hid (below_rowS HB.out HK0.out hg (by omega))
  replace HW := Lib.hid (HW.out.kept hg (fun g e => by have := HK0.out.far g e; omega))
  replace HG := Lib.hid (HG.out.kept hg (fun g e => by have := HK0.out.far g e; omega))
  replace HX1 := Lib.hid (HX1.out.grown hg (fun e => by have := HK0.out.far _ e.symm; have := HX1.out.lt; omega))
  replace HK0 := Lib.hid ho
  clear ho hg
  go_wp2_with fail
  refine (SlI.eq_any _ _ _ _ _ _ _ HG.out.rd HW.out.rd).mono ?_
  rintro e w11 ⟨rfl, hb⟩
  replace HB := Lib.hid (below_on HB.out hb)
  replace HX1 := Lib.hid (HX1.out.below hb)
  replace HW := Lib.hid (HW.out.below hb)
  replace HK0 := Lib.hid (HK0.out.below hb)
  replace HG := Lib.hid (HG.out.below hb)
  have s11 := hb.size
  clear hb
  clear HK0
  go_wp2_with fail
  refine (SlI.mark_any _ _ _ _ _ _ _ _ HG.out (by omega) (by have := HG.out.le; omega)).mono ?_
  rintro e w12 ⟨rfl, ho, hg⟩
  replace HB := Lib.hid (below_row HB.out HG.out hg (by omega))
  replace HW := Lib.hid (HW.out.kept hg (fun g e => by have := HG.out.far g e; omega))
  replace HX1 := Lib.hid (HX1.out.grown hg (fun e => by have := HG.out.far _ e.symm; have := HX1.out.lt; omega))
  replace HG := Lib.hid ho
  clear ho hg
  go_wp2_with fail
  refine (SlI.held_any _ _ _ _ _ HG.out.rd (by omega) (by omega)).mono ?_
  rintro e w13 ⟨rfl, rfl⟩
  go_wp2_with fail
  replace HB := Lib.hid (drewB HB.out)
  replace HX1 := Lib.hid (HX1.out.below (drewB (Below.refl _ _)))
  replace HW := Lib.hid (HW.out.below (drewB (Below.refl _ _)))
  replace HG := Lib.hid (HG.out.below (drewB (Below.refl _ _)))
  go_region_held3 (fun w' => w'.cell? ⟨W.heap.size, 0, none⟩ = some (.int .i64 x1_0) ∧ w'.cell? ⟨W.heap.size, 1, none⟩ = some (.int .i64 x1_1)) (first | exact ⟨HX1.out.two.1, HX1.out.two.2.1⟩ | go_keep) (first | (go_at_call 20; (with_reducible refine (SlSpan.to_any _ _ _ _ _ (HR0.out.below HB.out) (by omega)).mono ?_); rintro e w14 ⟨qHZ0, mHZ0, eHZ0, rfl, ho, hb⟩; replace HB := Lib.hid (below_on HB.out hb); replace HX1 := Lib.hid (HX1.out.below hb); replace HW := Lib.hid (HW.out.below hb); replace HG := Lib.hid (HG.out.below hb); have HZ0 := Lib.hid ho; have bHZ0 := HZ0.out.le; obtain rfl : n0 = mHZ0 := HR0.out.len.symm.trans HZ0.out.len; clear ho hb) | (go_at_call 25; (with_reducible refine (SlSpan.val_any _ _ _).mono ?_); rintro e w15 ⟨rfl, hb⟩; replace HB := Lib.hid (below_on HB.out hb); replace HX1 := Lib.hid (HX1.out.below hb); replace HW := Lib.hid (HW.out.below hb); replace HG := Lib.hid (HG.out.below hb); replace HZ0 := Lib.hid (HZ0.out.below hb); clear hb) | (go_at_call 15; (with_reducible refine (who_any _ _ _ _ _ _ _ HZ0.out.rd (by omega)).mono ?_); rintro e w16 ⟨qHH, mHH, eHH, rfl, ho, hb⟩; replace HB := Lib.hid (below_on HB.out hb); replace HX1 := Lib.hid (HX1.out.below hb); replace HW := Lib.hid (HW.out.below hb); replace HG := Lib.hid (HG.out.below hb); replace HZ0 := Lib.hid (HZ0.out.below hb); have HH := Lib.hid ho; clear ho; clear hb))
  obtain rfl : mHW = mHH := HW.out.len.symm.trans HH.out.len
  go_wp2_with fail
  refine (SlI.eq_any _ _ _ _ _ _ _ HH.out.rd HW.out.rd).mono ?_
  rintro e w17 ⟨rfl, hb⟩
  replace HB := Lib.hid (below_on HB.out hb)
  replace HX1 := Lib.hid (HX1.out.below hb)
  replace HW := Lib.hid (HW.out.below hb)
  replace HG := Lib.hid (HG.out.below hb)
  replace HZ0 := Lib.hid (HZ0.out.below hb)
  replace HH := Lib.hid (HH.out.below hb)
  clear hb
  go_wp2_with fail
  refine (SlI.held_any _ _ _ _ _ HG.out.rd (by omega) (by omega)).mono ?_
  rintro e w18 ⟨rfl, rfl⟩
  go_wp2_with fail
  go_ret
  exact ⟨rfl, HB.out⟩
end Go.Proofs.Ytllkpapkkgfjaad.fnExactDisagreeingWith
