/- The walk of the law FnExactIsBarred. -/
import Derived.Test.YtlgkgccmilapbaaSlCert
import Derived.Test.YtlgkgccmilapbaaSlStatus
import Derived.Test.YtlgkgccmilapbaaSlSpan
import Derived.Test.YtlgkgccmilapbaaEg3
import Derived.Test.YtlgkgccmilapbaaEg4
import Derived.Test.YtlgkgccmilapbaaSlB
import Derived.Test.YtlgkgccmilapbaaSlI
import Derived.OpenShut
import Derived.Deep.RegionHeld3
namespace Go.Proofs.Ytlgkgccmilapbaa.fnExactIsBarred
open Go.ChangeShapes Go.WideShapes Go.ChangeAt Go.RowKit Sl St Jn Sps
theorem drewB {W w : World} {B : Nat} (h : Below B W w) : Below B W w.drew := below_drewN h 1
set_option maxRecDepth 100000 in
set_option maxHeartbeats 16000000 in
theorem walk {H : Type} {enc : TypeId × Value → H} (W : World) (base : Nat)
    (v0 : Value) (d0 : DataW H) (p0 : List MemPlace) (h0 : DataW.Trod enc Try.prog W 0 (fun _ => true) true 23 v0 d0 p0) (k0 : Value.okWide Try.prog W .any base 23 v0)
    (v1 : Value) (d1 : DataW H) (p1 : List MemPlace) (h1 : DataW.Trod enc Try.prog W 0 (fun _ => true) true 24 v1 d1 p1) (k1 : Value.okWide Try.prog W .any base 24 v1)
    (v2 : Value) (d2 : DataW H) (p2 : List MemPlace) (h2 : DataW.Trod enc Try.prog W 0 (fun _ => true) true 38 v2 d2 p2) (k2 : Value.okWide Try.prog W .any base 38 v2)
    (_hsz : (DataW.weightsEach Try.prog [23, 24, 38] [d0, d1, d2]).all (· ≤ reachBytes) = true) :
    Calls Try.prog 7 #[v0, v1, v2] W fun e w' => e = .returned (.bool true) ∧ Below W.heap.size W w' := by
  obtain ⟨x0_0, x0_1, x0_2, x0_3, x0_4, x0_5, x0_6, rfl, b0_0, b0_1, b0_2, b0_3, b0_4, b0_5, b0_6⟩ := SlCert.open_val h0 k0
  have HG0_0 := Lib.hid b0_0
  have HG0_1 := Lib.hid b0_1
  have HG0_2 := Lib.hid b0_2
  have HG0_3 := Lib.hid b0_3
  have HG0_4 := Lib.hid b0_4
  have HG0_5 := Lib.hid b0_5
  have HG0_6 := Lib.hid b0_6
  clear b0_0 b0_1 b0_2 b0_3 b0_4 b0_5 b0_6
  clear h0 k0
  obtain ⟨a1, n1, c1, zs1, rfl, hr1, hg1⟩ := SlStatus.open_argR h1 k1
  have HR1 := Lib.hid hr1
  have hn1 := hr1.le
  clear hr1
  clear h1 k1
  obtain ⟨x2_0, x2_1, rfl, b2_0, b2_1⟩ := SlSpan.open_val h2 k2
  have HG2_0 := Lib.hid b2_0
  have HG2_1 := Lib.hid b2_1
  clear b2_0 b2_1
  clear h2 k2
  clear _hsz
  have HC0 : Hid (SlCert.InR (x0_0, x0_1, x0_2, x0_3, x0_4, x0_5, x0_6)) := Lib.hid ⟨HG0_0.out, HG0_1.out, HG0_2.out, HG0_3.out, HG0_4.out, HG0_5.out, HG0_6.out⟩
  have HB := Lib.hid (Below.refl W.heap.size W)
  have HX0 := Lib.hid (Bx.new W 23 #[.int .i64 x0_0, .int .i64 x0_1, .int .i64 x0_2, .int .i64 x0_3, .int .i64 x0_4, .int .i64 x0_5, .int .i64 x0_6])
  replace HB := Lib.hid (HB.out.alloc HB.out.size (.cells #[.int .i64 x0_0, .int .i64 x0_1, .int .i64 x0_2, .int .i64 x0_3, .int .i64 x0_4, .int .i64 x0_5, .int .i64 x0_6] 23))
  have lX0 := HX0.out.lt
  have hbx2 := Bx.new (W.alloc (.cells #[.int .i64 x0_0, .int .i64 x0_1, .int .i64 x0_2, .int .i64 x0_3, .int .i64 x0_4, .int .i64 x0_5, .int .i64 x0_6] 23)) 38 #[.int .i64 x2_0, .int .i64 x2_1]
  rw [World.size_alloc] at hbx2
  have HX2 := Lib.hid hbx2
  clear hbx2
  replace HX0 := Lib.hid (HX0.out.alloc (.cells #[.int .i64 x2_0, .int .i64 x2_1] 38))
  replace HB := Lib.hid (HB.out.alloc HB.out.size (.cells #[.int .i64 x2_0, .int .i64 x2_1] 38))
  have lX2 := HX2.out.lt
  by_cases hbig1 : 1048576 < n1
  · go_enter Try.func7, Try.ntmps7
    go_wp2_with fail
    refine (SlStatus.sz_big _ _ _ _ _ (by omega) (by omega) (by omega) hn1).mono ?_
    rintro e w0 ⟨rfl, rfl⟩
    go_wp2_with fail
    go_ret
    exact ⟨rfl, HB.out⟩
  go_enter Try.func7, Try.ntmps7
  go_wp2_with fail
  refine (SlStatus.sz_fits _ _ _ _ _ (by omega) (by omega)).mono ?_
  rintro e w0 ⟨rfl, rfl⟩
  go_wp2_with fail
  replace HB := Lib.hid (drewB HB.out)
  replace HX0 := Lib.hid (HX0.out.below (drewB (Below.refl _ _)))
  replace HX2 := Lib.hid (HX2.out.below (drewB (Below.refl _ _)))
  go_region_held3 (fun w' => (w'.cell? ⟨W.heap.size, 0, none⟩ = some (.int .i64 x0_0) ∧ w'.cell? ⟨W.heap.size, 1, none⟩ = some (.int .i64 x0_1) ∧ w'.cell? ⟨W.heap.size, 2, none⟩ = some (.int .i64 x0_2) ∧ w'.cell? ⟨W.heap.size, 3, none⟩ = some (.int .i64 x0_3) ∧ w'.cell? ⟨W.heap.size, 4, none⟩ = some (.int .i64 x0_4) ∧ w'.cell? ⟨W.heap.size, 5, none⟩ = some (.int .i64 x0_5) ∧ w'.cell? ⟨W.heap.size, 6, none⟩ = some (.int .i64 x0_6)) ∧ (w'.cell? ⟨W.heap.size + 1, 0, none⟩ = some (.int .i64 x2_0) ∧ w'.cell? ⟨W.heap.size + 1, 1, none⟩ = some (.int .i64 x2_1))) (first | with_reducible exact ⟨SlCert.bxc HX0.out, ⟨HX2.out.two.1, HX2.out.two.2.1⟩⟩ | go_keep | fail) (first | (go_at_call 11; (with_reducible refine (SlCert.val_any x0_0 x0_1 x0_2 x0_3 x0_4 x0_5 x0_6 _).mono ?_); rintro e w1 ⟨rfl, hb⟩; replace HB := Lib.hid (below_on HB.out hb); replace HX0 := Lib.hid (HX0.out.below hb); replace HX2 := Lib.hid (HX2.out.below hb); clear hb) | (go_at_call 12; (with_reducible refine (SlStatus.to_any _ _ _ _ _ (HR1.out.below HB.out) (by omega)).mono ?_); rintro e w2 ⟨qHT1, mHT1, eHT1, rfl, ho, hb⟩; replace HB := Lib.hid (below_on HB.out hb); replace HX0 := Lib.hid (HX0.out.below hb); replace HX2 := Lib.hid (HX2.out.below hb); have HT1 := Lib.hid ho; have bHT1 := HT1.out.le; obtain rfl : n1 = mHT1 := HR1.out.len.symm.trans HT1.out.len; clear ho hb) | (go_at_call 24; (with_reducible refine (SlSpan.val_any x2_0 x2_1 _).mono ?_); rintro e w3 ⟨rfl, hb⟩; replace HB := Lib.hid (below_on HB.out hb); replace HX0 := Lib.hid (HX0.out.below hb); replace HX2 := Lib.hid (HX2.out.below hb); replace HT1 := Lib.hid (HT1.out.below hb); clear hb) | (go_at_call 26; (with_reducible refine (Eg4.spec_barB_any x0_0 x0_1 x0_2 x0_3 x0_4 x0_5 x0_6 HC0.out _ _ _ zs1 hg1 x2_0 x2_1 _ HT1.out.rd).mono ?_); rintro e w4 ⟨rfl, hb⟩; replace HB := Lib.hid (below_on HB.out hb); replace HX0 := Lib.hid (HX0.out.below hb); replace HX2 := Lib.hid (HX2.out.below hb); replace HT1 := Lib.hid (HT1.out.below hb); clear hb) | fail)
  have lX0 := HX0.out.lt
  have lX2 := HX2.out.lt
  clear HT1
  go_wp2_with fail
  refine (SlStatus.to_any _ _ _ _ _ (HR1.out.below HB.out) (by omega)).mono ?_
  rintro e w5 ⟨qHK1, mHK1, eHK1, rfl, ho, hb⟩
  replace HB := Lib.hid (below_on HB.out hb)
  replace HX0 := Lib.hid (HX0.out.below hb)
  replace HX2 := Lib.hid (HX2.out.below hb)
  have HK1 := Lib.hid ho
  have bHK1 := HK1.out.le
  obtain rfl : n1 = mHK1 := HR1.out.len.symm.trans HK1.out.len
  clear ho hb
  go_wp2_with fail
  replace HB := Lib.hid (drewB HB.out)
  replace HX0 := Lib.hid (HX0.out.below (drewB (Below.refl _ _)))
  replace HX2 := Lib.hid (HX2.out.below (drewB (Below.refl _ _)))
  replace HK1 := Lib.hid (HK1.out.below (drewB (Below.refl _ _)))
  go_region_held3 (fun w' => (w'.cell? ⟨W.heap.size, 0, none⟩ = some (.int .i64 x0_0) ∧ w'.cell? ⟨W.heap.size, 1, none⟩ = some (.int .i64 x0_1) ∧ w'.cell? ⟨W.heap.size, 2, none⟩ = some (.int .i64 x0_2) ∧ w'.cell? ⟨W.heap.size, 3, none⟩ = some (.int .i64 x0_3) ∧ w'.cell? ⟨W.heap.size, 4, none⟩ = some (.int .i64 x0_4) ∧ w'.cell? ⟨W.heap.size, 5, none⟩ = some (.int .i64 x0_5) ∧ w'.cell? ⟨W.heap.size, 6, none⟩ = some (.int .i64 x0_6)) ∧ (w'.cell? ⟨W.heap.size + 1, 0, none⟩ = some (.int .i64 x2_0) ∧ w'.cell? ⟨W.heap.size + 1, 1, none⟩ = some (.int .i64 x2_1))) (first | with_reducible exact ⟨SlCert.bxc HX0.out, ⟨HX2.out.two.1, HX2.out.two.2.1⟩⟩ | go_keep | fail) (first | (go_at_call 11; (with_reducible refine (SlCert.val_any x0_0 x0_1 x0_2 x0_3 x0_4 x0_5 x0_6 _).mono ?_); rintro e w6 ⟨rfl, hb⟩; replace HB := Lib.hid (below_on HB.out hb); replace HX0 := Lib.hid (HX0.out.below hb); replace HX2 := Lib.hid (HX2.out.below hb); replace HK1 := Lib.hid (HK1.out.below hb); clear hb) | (go_at_call 24; (with_reducible refine (SlSpan.val_any x2_0 x2_1 _).mono ?_); rintro e w7 ⟨rfl, hb⟩; replace HB := Lib.hid (below_on HB.out hb); replace HX0 := Lib.hid (HX0.out.below hb); replace HX2 := Lib.hid (HX2.out.below hb); replace HK1 := Lib.hid (HK1.out.below hb); clear hb) | (go_at_call 27; (with_reducible refine (Eg3.barB_any x0_0 x0_1 x0_2 x0_3 x0_4 x0_5 x0_6 HC0.out _ _ _ zs1 hg1 x2_0 x2_1 _ HK1.out.rd).mono ?_); rintro e w8 ⟨rfl, hb⟩; replace HB := Lib.hid (below_on HB.out hb); replace HX0 := Lib.hid (HX0.out.below hb); replace HX2 := Lib.hid (HX2.out.below hb); replace HK1 := Lib.hid (HK1.out.below hb); clear hb) | fail)
  have lX0 := HX0.out.lt
  have lX2 := HX2.out.lt
  go_wp2_with fail
  refine (SlStatus.to_any _ _ _ _ _ (HR1.out.below HB.out) (by omega)).mono ?_
  rintro e w9 ⟨qHY1, mHY1, eHY1, rfl, ho, hb⟩
  replace HB := Lib.hid (below_on HB.out hb)
  replace HX0 := Lib.hid (HX0.out.below hb)
  replace HX2 := Lib.hid (HX2.out.below hb)
  replace HK1 := Lib.hid (HK1.out.below hb)
  have HY1 := Lib.hid ho
  have bHY1 := HY1.out.le
  obtain rfl : n1 = mHY1 := HR1.out.len.symm.trans HY1.out.len
  clear ho hb
  go_wp2_with fail
  refine (SlStatus.eq_any _ _ _ _ _ _ _ HK1.out.rd HY1.out.rd).mono ?_
  rintro e w10 ⟨rfl, hb⟩
  replace HB := Lib.hid (below_on HB.out hb)
  replace HX0 := Lib.hid (HX0.out.below hb)
  replace HX2 := Lib.hid (HX2.out.below hb)
  replace HK1 := Lib.hid (HK1.out.below hb)
  replace HY1 := Lib.hid (HY1.out.below hb)
  clear hb
  clear HY1
  go_wp2_with fail
  go_ret
  exact ⟨rfl, HB.out⟩
end Go.Proofs.Ytlgkgccmilapbaa.fnExactIsBarred
