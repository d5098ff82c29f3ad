/- The walk of the law FnExactCheckMandate. -/
import Derived.Test.YtkbdmocbeaejhaaSlKey
import Derived.Test.YtkbdmocbeaejhaaSlMandate
import Derived.Test.YtkbdmocbeaejhaaMMandate
import Derived.Test.YtkbdmocbeaejhaaKo
import Derived.Test.YtkbdmocbeaejhaaSlB
import Derived.Test.YtkbdmocbeaejhaaSlI
import Derived.OpenShut
import Derived.Deep.RegionHeld3
namespace Go.Proofs.Ytkbdmocbeaejhaa.fnExactCheckMandate
open Go.ChangeShapes Go.WideShapes Go.ChangeAt Go.RowKit Sl St Fnd Kn SlKey Kr Ki Km Ko SlMandate MMandate
theorem drewB {W w : World} {B : Nat} (h : Below B W w) : Below B W w.drew := below_drewN h 1
set_option maxRecDepth 100000 in
set_option maxHeartbeats 4000000 in
theorem walk {H : Type} {enc : TypeId × Value → H} (W : World) (base : Nat)
    (v0 : Value) (d0 : DataW H) (p0 : List MemPlace) (h0 : DataW.Trod enc Try.prog W 0 (fun _ => true) true 22 v0 d0 p0) (k0 : Value.okWide Try.prog W .any base 22 v0)
    (v1 : Value) (d1 : DataW H) (p1 : List MemPlace) (h1 : DataW.Trod enc Try.prog W 0 (fun _ => true) true 42 v1 d1 p1) (k1 : Value.okWide Try.prog W .any base 42 v1)
    (_hsz : (DataW.weightsEach Try.prog [22, 42] [d0, d1]).all (· ≤ reachBytes) = true) :
    Calls Try.prog 8 #[v0, v1] W fun e w' => e = .returned (.bool true) ∧ Below W.heap.size W w' := by
  obtain ⟨a0, n0, c0, zs0, rfl, hr0, hg0⟩ := SlKey.open_argR h0 k0
  have HR0 := Lib.hid hr0
  have hn0 := hr0.le
  clear hr0
  clear h0 k0
  obtain ⟨x1_0, x1_1, x1_2, x1_3, x1_4, x1_5, rfl, b1_0, b1_1, b1_2, b1_3, b1_4, b1_5⟩ := SlMandate.open_val h1 k1
  have HG1_0 := Lib.hid b1_0
  have HG1_1 := Lib.hid b1_1
  have HG1_2 := Lib.hid b1_2
  have HG1_3 := Lib.hid b1_3
  have HG1_4 := Lib.hid b1_4
  have HG1_5 := Lib.hid b1_5
  clear b1_0 b1_1 b1_2 b1_3 b1_4 b1_5
  clear h1 k1
  clear _hsz
  have HB := Lib.hid (Below.refl W.heap.size W)
  have HX1 := Lib.hid (Bx.new W 42 #[.int .i64 x1_0, .int .i64 x1_1, .int .i64 x1_2, .int .i64 x1_3, .int .i64 x1_4, .int .i64 x1_5])
  replace HB := Lib.hid (HB.out.alloc HB.out.size (.cells #[.int .i64 x1_0, .int .i64 x1_1, .int .i64 x1_2, .int .i64 x1_3, .int .i64 x1_4, .int .i64 x1_5] 42))
  have lX1 := HX1.out.lt
  by_cases hbig0 : 1048576 < n0
  · go_enter Try.func8, Try.ntmps8
    go_wp2_with fail
    refine (SlKey.sz_big _ _ _ _ _ (by omega) (by omega) (by omega) hn0).mono ?_
    rintro e w0 ⟨rfl, rfl⟩
    go_wp2_with fail
    go_ret
    exact ⟨rfl, HB.out⟩
  go_enter Try.func8, Try.ntmps8
  go_wp2_with fail
  refine (SlKey.sz_fits _ _ _ _ _ (by omega) (by omega)).mono ?_
  rintro e w0 ⟨rfl, rfl⟩
  go_wp2_with fail
  replace HB := Lib.hid (drewB HB.out)
  replace HX1 := Lib.hid (HX1.out.below (drewB (Below.refl _ _)))
  go_region_held3 (fun w' => w'.cell? ⟨W.heap.size, 0, none⟩ = some (.int .i64 x1_0) ∧ w'.cell? ⟨W.heap.size, 1, none⟩ = some (.int .i64 x1_1) ∧ w'.cell? ⟨W.heap.size, 2, none⟩ = some (.int .i64 x1_2) ∧ w'.cell? ⟨W.heap.size, 3, none⟩ = some (.int .i64 x1_3) ∧ w'.cell? ⟨W.heap.size, 4, none⟩ = some (.int .i64 x1_4) ∧ w'.cell? ⟨W.heap.size, 5, none⟩ = some (.int .i64 x1_5)) (first | exact SlMandate.bxc HX1.out | go_keep) (first | (go_at_call 18; (with_reducible refine (SlKey.to_any _ _ _ _ _ (HR0.out.below HB.out) (by omega)).mono ?_); rintro e w1 ⟨qHT0, mHT0, eHT0, rfl, ho, hb⟩; replace HB := Lib.hid (below_on HB.out hb); replace HX1 := Lib.hid (HX1.out.below hb); have HT0 := Lib.hid ho; have bHT0 := HT0.out.le; obtain rfl : n0 = mHT0 := HR0.out.len.symm.trans HT0.out.len; clear ho hb) | (go_at_call 28; (with_reducible refine (SlMandate.val_any _ _ _ _ _ _ _).mono ?_); rintro e w2 ⟨rfl, hb⟩; replace HB := Lib.hid (below_on HB.out hb); replace HX1 := Lib.hid (HX1.out.below hb); replace HT0 := Lib.hid (HT0.out.below hb); clear hb) | (go_at_call 38; (with_reducible refine (MMandate.spec_check_any _ _ _ _ hg0 _ _ _ _ _ _ HG1_0.out HG1_1.out HG1_2.out HG1_3.out HG1_4.out HG1_5.out _ HT0.out.rd).mono ?_); rintro e w3 ⟨rfl, hb⟩; replace HB := Lib.hid (below_on HB.out hb); replace HX1 := Lib.hid (HX1.out.below hb); replace HT0 := Lib.hid (HT0.out.below hb); clear hb))
  clear HT0
  go_wp2_with fail
  refine (SlKey.to_any _ _ _ _ _ (HR0.out.below HB.out) (by omega)).mono ?_
  rintro e w4 ⟨qHK0, mHK0, eHK0, rfl, ho, hb⟩
  replace HB := Lib.hid (below_on HB.out hb)
  replace HX1 := Lib.hid (HX1.out.below hb)
  have HK0 := Lib.hid ho
  have bHK0 := HK0.out.le
  obtain rfl : n0 = mHK0 := HR0.out.len.symm.trans HK0.out.len
  clear ho hb
  obtain ⟨cc0, cc1, cc2, cc3, cc4, cc5⟩ := SlMandate.bxc HX1.out
  go_wp2_with fail
  refine (SlMandate.val_any _ _ _ _ _ _ _).mono ?_
  rintro e w5 ⟨rfl, hb⟩
  replace HB := Lib.hid (below_on HB.out hb)
  replace HX1 := Lib.hid (HX1.out.below hb)
  replace HK0 := Lib.hid (HK0.out.below hb)
  clear hb
  clear cc0 cc1 cc2 cc3 cc4 cc5
  go_wp2_with fail
  refine (MMandate.check_any _ _ _ _ hg0 _ _ _ _ _ _ HG1_0.out HG1_1.out HG1_2.out HG1_3.out HG1_4.out HG1_5.out _ HK0.out.rd).mono ?_
  rintro e w6 ⟨rfl, hb⟩
  replace HB := Lib.hid (below_on HB.out hb)
  replace HX1 := Lib.hid (HX1.out.below hb)
  replace HK0 := Lib.hid (HK0.out.below hb)
  clear hb
  go_wp2_with fail
  refine (SlKey.to_any _ _ _ _ _ (HR0.out.below HB.out) (by omega)).mono ?_
  rintro e w7 ⟨qHY0, mHY0, eHY0, rfl, ho, hb⟩
  replace HB := Lib.hid (below_on HB.out hb)
  replace HX1 := Lib.hid (HX1.out.below hb)
  replace HK0 := Lib.hid (HK0.out.below hb)
  have HY0 := Lib.hid ho
  have bHY0 := HY0.out.le
  obtain rfl : n0 = mHY0 := HR0.out.len.symm.trans HY0.out.len
  clear ho hb
  go_wp2_with fail
  refine (SlKey.eq_any _ _ _ _ _ _ _ HK0.out.rd HY0.out.rd).mono ?_
  rintro e w8 ⟨rfl, hb⟩
  replace HB := Lib.hid (below_on HB.out hb)
  replace HX1 := Lib.hid (HX1.out.below hb)
  replace HK0 := Lib.hid (HK0.out.below hb)
  replace HY0 := Lib.hid (HY0.out.below hb)
  clear hb
  clear HY0
  go_wp2_with fail
  go_ret
  exact ⟨rfl, HB.out⟩
end Go.Proofs.Ytkbdmocbeaejhaa.fnExactCheckMandate
