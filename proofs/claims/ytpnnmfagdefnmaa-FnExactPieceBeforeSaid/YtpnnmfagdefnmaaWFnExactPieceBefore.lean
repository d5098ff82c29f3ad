/- The walk of the law FnExactPieceBefore. -/
import Derived.Test.YtpnnmfagdefnmaaSlPiece
import Derived.Test.YtpnnmfagdefnmaaCp
import Derived.Test.YtpnnmfagdefnmaaCq
import Derived.Test.YtpnnmfagdefnmaaSlB
import Derived.Test.YtpnnmfagdefnmaaSlI
import Derived.OpenShut
import Derived.Deep.RegionHeld3
namespace Go.Proofs.Ytpnnmfagdefnmaa.fnExactPieceBefore
open Go.ChangeShapes Go.WideShapes Go.ChangeAt Go.RowKit Sl St SlPiece Cp Cq
theorem six3 {w : World} {g h : Nat} {T T' : TypeId} {x0 x1 x2 y0 y1 y2 : Value} (a : Bx w g T #[x0, x1, x2]) (b : Bx w h T' #[y0, y1, y2]) : w.cell? ⟨g, 0, none⟩ = some x0 ∧ w.cell? ⟨g, 1, none⟩ = some x1 ∧ w.cell? ⟨g, 2, none⟩ = some x2 ∧ w.cell? ⟨h, 0, none⟩ = some y0 ∧ w.cell? ⟨h, 1, none⟩ = some y1 ∧ w.cell? ⟨h, 2, none⟩ = some y2 := ⟨a.cell rfl, a.cell rfl, a.cell rfl, b.cell rfl, b.cell rfl, b.cell rfl⟩
theorem drewB {W w : World} {B : Nat} (h : Below B W w) : Below B W w.drew := below_drewN h 1
set_option maxRecDepth 100000 in
set_option maxHeartbeats 8000000 in
theorem walk {H : Type} {enc : TypeId × Value → H} (W : World) (base : Nat)
    (v0 : Value) (d0 : DataW H) (p0 : List MemPlace) (h0 : DataW.Trod enc Try.prog W 0 (fun _ => true) true 24 v0 d0 p0) (k0 : Value.okWide Try.prog W .any base 24 v0)
    (v1 : Value) (d1 : DataW H) (p1 : List MemPlace) (h1 : DataW.Trod enc Try.prog W 0 (fun _ => true) true 24 v1 d1 p1) (k1 : Value.okWide Try.prog W .any base 24 v1)
    (_hsz : (DataW.weightsEach Try.prog [24, 24] [d0, d1]).all (· ≤ reachBytes) = true) :
    Calls Try.prog 14 #[v0, v1] W fun e w' => e = .returned (.bool true) ∧ Below W.heap.size W w' := by
  obtain ⟨k0_, p0_, n0, c0_, m0_, zs0, rfl, hr0, bk0, bm0⟩ := SlPiece.open_val h0 k0
  have HR0 := Lib.hid hr0
  have HK0 := Lib.hid bk0
  have HM0 := Lib.hid bm0
  have hn0 := hr0.le
  clear hr0 bk0 bm0
  clear h0 k0
  obtain ⟨k1_, p1_, n1, c1_, m1_, zs1, rfl, hr1, bk1, bm1⟩ := SlPiece.open_val h1 k1
  have HR1 := Lib.hid hr1
  have HK1 := Lib.hid bk1
  have HM1 := Lib.hid bm1
  have hn1 := hr1.le
  clear hr1 bk1 bm1
  clear h1 k1
  clear _hsz
  have HB := Lib.hid (Below.refl W.heap.size W)
  have HX0 := Lib.hid (Bx.new W 24 #[.int .i64 k0_, .slice p0_ n0 c0_, .int .i64 m0_])
  replace HB := Lib.hid (HB.out.alloc HB.out.size (.cells #[.int .i64 k0_, .slice p0_ n0 c0_, .int .i64 m0_] 24))
  have lX0 := HX0.out.lt
  have hbx1 := Bx.new (W.alloc (.cells #[.int .i64 k0_, .slice p0_ n0 c0_, .int .i64 m0_] 24)) 24 #[.int .i64 k1_, .slice p1_ n1 c1_, .int .i64 m1_]
  rw [World.size_alloc] at hbx1
  have HX1 := Lib.hid hbx1
  clear hbx1
  replace HX0 := Lib.hid (HX0.out.alloc (.cells #[.int .i64 k1_, .slice p1_ n1 c1_, .int .i64 m1_] 24))
  replace HB := Lib.hid (HB.out.alloc HB.out.size (.cells #[.int .i64 k1_, .slice p1_ n1 c1_, .int .i64 m1_] 24))
  have lX1 := HX1.out.lt
  by_cases hbig0 : 1048576 < n0
  · go_enter Try.func14, Try.ntmps14
    obtain ⟨i00, i01, i02⟩ := SlPiece.bx3 HX0.out
    go_wp2_with fail
    refine (SlPiece.sz_big _ _ _ _ _ _ _ (by omega) (by omega) (by omega) hn0).mono ?_
    rintro e w1 ⟨rfl, hb⟩
    replace HB := Lib.hid (below_on HB.out hb)
    replace HX0 := Lib.hid (HX0.out.below hb)
    replace HX1 := Lib.hid (HX1.out.below hb)
    clear hb
    clear i00 i01 i02
    go_wp2_with fail
    go_ret
    exact ⟨rfl, HB.out⟩
  by_cases hbig1 : 1048576 < n0 + n1
  · go_enter Try.func14, Try.ntmps14
    obtain ⟨i00, i01, i02⟩ := SlPiece.bx3 HX0.out
    go_wp2_with fail
    refine (SlPiece.sz_fits _ _ _ _ _ _ _ (by omega) (by omega)).mono ?_
    rintro e w2 ⟨rfl, hb⟩
    replace HB := Lib.hid (below_on HB.out hb)
    replace HX0 := Lib.hid (HX0.out.below hb)
    replace HX1 := Lib.hid (HX1.out.below hb)
    clear hb
    clear i00 i01 i02
    obtain ⟨i10, i11, i12⟩ := SlPiece.bx3 HX1.out
    go_wp2_with fail
    refine (SlPiece.sz_big _ _ _ _ _ _ _ (by omega) (by omega) (by omega) hn1).mono ?_
    rintro e w3 ⟨rfl, hb⟩
    replace HB := Lib.hid (below_on HB.out hb)
    replace HX0 := Lib.hid (HX0.out.below hb)
    replace HX1 := Lib.hid (HX1.out.below hb)
    clear hb
    clear i10 i11 i12
    go_wp2_with fail
    go_ret
    exact ⟨rfl, HB.out⟩
  go_enter Try.func14, Try.ntmps14
  obtain ⟨i00, i01, i02⟩ := SlPiece.bx3 HX0.out
  go_wp2_with fail
  refine (SlPiece.sz_fits _ _ _ _ _ _ _ (by omega) (by omega)).mono ?_
  rintro e w4 ⟨rfl, hb⟩
  replace HB := Lib.hid (below_on HB.out hb)
  replace HX0 := Lib.hid (HX0.out.below hb)
  replace HX1 := Lib.hid (HX1.out.below hb)
  clear hb
  clear i00 i01 i02
  obtain ⟨i10, i11, i12⟩ := SlPiece.bx3 HX1.out
  go_wp2_with fail
  refine (SlPiece.sz_fits _ _ _ _ _ _ _ (by omega) (by omega)).mono ?_
  rintro e w5 ⟨rfl, hb⟩
  replace HB := Lib.hid (below_on HB.out hb)
  replace HX0 := Lib.hid (HX0.out.below hb)
  replace HX1 := Lib.hid (HX1.out.below hb)
  clear hb
  clear i10 i11 i12
  obtain ⟨j0, j1, j2, j3, j4, j5⟩ := six3 HX0.out HX1.out
  go_wp2_with fail
  replace HB := Lib.hid (drewB HB.out)
  replace HX0 := Lib.hid (HX0.out.below (drewB (Below.refl _ _)))
  replace HX1 := Lib.hid (HX1.out.below (drewB (Below.refl _ _)))
  go_region_held3 (fun w' => w'.cell? ⟨W.heap.size, 0, none⟩ = some (.int .i64 k0_) ∧ w'.cell? ⟨W.heap.size, 1, none⟩ = some (.slice p0_ n0 c0_) ∧ w'.cell? ⟨W.heap.size, 2, none⟩ = some (.int .i64 m0_) ∧ w'.cell? ⟨W.heap.size + 1, 0, none⟩ = some (.int .i64 k1_) ∧ w'.cell? ⟨W.heap.size + 1, 1, none⟩ = some (.slice p1_ n1 c1_) ∧ w'.cell? ⟨W.heap.size + 1, 2, none⟩ = some (.int .i64 m1_)) (first | exact six3 HX0.out HX1.out | go_keep) (first | (go_at_call 18; (with_reducible refine (SlPiece.to_any k0_ p0_ n0 c0_ m0_ zs0 _ (HR0.out.below HB.out) (by omega)).mono ?_); rintro e w6 ⟨qHT0, mHT0, eHT0, rfl, ho, hb⟩; replace HB := Lib.hid (below_on HB.out hb); replace HX0 := Lib.hid (HX0.out.below hb); replace HX1 := Lib.hid (HX1.out.below hb); have HT0 := Lib.hid ho; obtain rfl : n0 = mHT0 := HR0.out.len.symm.trans HT0.out.len; clear ho hb) | (go_at_call 18; (with_reducible refine (SlPiece.to_any k1_ p1_ n1 c1_ m1_ zs1 _ (HR1.out.below HB.out) (by omega)).mono ?_); rintro e w7 ⟨qHT1, mHT1, eHT1, rfl, ho, hb⟩; replace HB := Lib.hid (below_on HB.out hb); replace HX0 := Lib.hid (HX0.out.below hb); replace HX1 := Lib.hid (HX1.out.below hb); replace HT0 := Lib.hid (HT0.out.below hb); have HT1 := Lib.hid ho; obtain rfl : n1 = mHT1 := HR1.out.len.symm.trans HT1.out.len; clear ho hb) | (go_at_call 53; (with_reducible refine (spec_before_any _ _ _ _ _ _ _ _ _ _ _ _ _ HT0.out.rd HT1.out.rd).mono ?_); rintro e w8 ⟨rfl, hb⟩; replace HB := Lib.hid (below_on HB.out hb); replace HX0 := Lib.hid (HX0.out.below hb); replace HX1 := Lib.hid (HX1.out.below hb); replace HT0 := Lib.hid (HT0.out.below hb); replace HT1 := Lib.hid (HT1.out.below hb); clear hb))
  clear j0 j1 j2 j3 j4 j5
  clear HT0
  clear HT1
  obtain ⟨i00, i01, i02⟩ := SlPiece.bx3 HX0.out
  go_wp2_with fail
  refine (SlPiece.to_any _ _ _ _ _ zs0 _ (HR0.out.below HB.out) (by omega)).mono ?_
  rintro e w9 ⟨qHU0, mHU0, eHU0, rfl, ho, hb⟩
  replace HB := Lib.hid (below_on HB.out hb)
  replace HX0 := Lib.hid (HX0.out.below hb)
  replace HX1 := Lib.hid (HX1.out.below hb)
  have HU0 := Lib.hid ho
  obtain rfl : n0 = mHU0 := HR0.out.len.symm.trans HU0.out.len
  clear ho hb
  clear i00 i01 i02
  have HS0 := Lib.hid (Bx.new w9 27 #[.int .i64 k0_, .slice qHU0 n0 eHU0, .int .i64 m0_])
  have lHS0 := HS0.out.lt
  replace HB := Lib.hid (HB.out.alloc HB.out.size (.cells #[.int .i64 k0_, .slice qHU0 n0 eHU0, .int .i64 m0_] 27))
  replace HX0 := Lib.hid (HX0.out.alloc (.cells #[.int .i64 k0_, .slice qHU0 n0 eHU0, .int .i64 m0_] 27))
  replace HX1 := Lib.hid (HX1.out.alloc (.cells #[.int .i64 k0_, .slice qHU0 n0 eHU0, .int .i64 m0_] 27))
  replace HU0 := Lib.hid (HU0.out.alloc (.cells #[.int .i64 k0_, .slice qHU0 n0 eHU0, .int .i64 m0_] 27))
  obtain ⟨i10, i11, i12⟩ := SlPiece.bx3 HX1.out
  go_wp2_with fail
  refine (SlPiece.to_any _ _ _ _ _ zs1 _ (HR1.out.below HB.out) (by omega)).mono ?_
  rintro e w10 ⟨qHU1, mHU1, eHU1, rfl, ho, hb⟩
  replace HB := Lib.hid (below_on HB.out hb)
  replace HX0 := Lib.hid (HX0.out.below hb)
  replace HX1 := Lib.hid (HX1.out.below hb)
  replace HU0 := Lib.hid (HU0.out.below hb)
  replace HS0 := Lib.hid (HS0.out.below hb)
  have HU1 := Lib.hid ho
  obtain rfl : n1 = mHU1 := HR1.out.len.symm.trans HU1.out.len
  clear ho hb
  clear i10 i11 i12
  have HS1 := Lib.hid (Bx.new w10 27 #[.int .i64 k1_, .slice qHU1 n1 eHU1, .int .i64 m1_])
  have lHS1 := HS1.out.lt
  replace HB := Lib.hid (HB.out.alloc HB.out.size (.cells #[.int .i64 k1_, .slice qHU1 n1 eHU1, .int .i64 m1_] 27))
  replace HX0 := Lib.hid (HX0.out.alloc (.cells #[.int .i64 k1_, .slice qHU1 n1 eHU1, .int .i64 m1_] 27))
  replace HX1 := Lib.hid (HX1.out.alloc (.cells #[.int .i64 k1_, .slice qHU1 n1 eHU1, .int .i64 m1_] 27))
  replace HU0 := Lib.hid (HU0.out.alloc (.cells #[.int .i64 k1_, .slice qHU1 n1 eHU1, .int .i64 m1_] 27))
  replace HS0 := Lib.hid (HS0.out.alloc (.cells #[.int .i64 k1_, .slice qHU1 n1 eHU1, .int .i64 m1_] 27))
  replace HU1 := Lib.hid (HU1.out.alloc (.cells #[.int .i64 k1_, .slice qHU1 n1 eHU1, .int .i64 m1_] 27))
  obtain ⟨j0, j1, j2⟩ := SlPiece.bx3 HS0.out
  obtain ⟨j3, j4, j5⟩ := SlPiece.bx3 HS1.out
  go_wp2_with fail
  refine (before_any _ _ _ _ _ _ _ _ _ _ _ _ _ HU0.out.rd HU1.out.rd).mono ?_
  rintro e w11 ⟨rfl, hb⟩
  replace HB := Lib.hid (below_on HB.out hb)
  replace HX0 := Lib.hid (HX0.out.below hb)
  replace HX1 := Lib.hid (HX1.out.below hb)
  replace HU0 := Lib.hid (HU0.out.below hb)
  replace HS0 := Lib.hid (HS0.out.below hb)
  replace HU1 := Lib.hid (HU1.out.below hb)
  replace HS1 := Lib.hid (HS1.out.below hb)
  clear hb
  clear j0 j1 j2 j3 j4 j5
  obtain ⟨j0, j1, j2, j3, j4, j5⟩ := six3 HS0.out HX0.out
  go_wp2_with fail
  replace HB := Lib.hid (drewB HB.out)
  replace HX0 := Lib.hid (HX0.out.below (drewB (Below.refl _ _)))
  replace HX1 := Lib.hid (HX1.out.below (drewB (Below.refl _ _)))
  replace HU0 := Lib.hid (HU0.out.below (drewB (Below.refl _ _)))
  replace HS0 := Lib.hid (HS0.out.below (drewB (Below.refl _ _)))
  replace HU1 := Lib.hid (HU1.out.below (drewB (Below.refl _ _)))
  replace HS1 := Lib.hid (HS1.out.below (drewB (Below.refl _ _)))
  go_region_held3 (fun w' => w'.cell? ⟨w9.heap.size, 0, none⟩ = some (.int .i64 k0_) ∧ w'.cell? ⟨w9.heap.size, 1, none⟩ = some (.slice qHU0 n0 eHU0) ∧ w'.cell? ⟨w9.heap.size, 2, none⟩ = some (.int .i64 m0_) ∧ w'.cell? ⟨W.heap.size, 0, none⟩ = some (.int .i64 k0_) ∧ w'.cell? ⟨W.heap.size, 1, none⟩ = some (.slice p0_ n0 c0_) ∧ w'.cell? ⟨W.heap.size, 2, none⟩ = some (.int .i64 m0_)) (first | exact six3 HS0.out HX0.out | go_keep) (first | (go_at_call 18; (with_reducible refine (SlPiece.to_any _ _ _ _ _ zs0 _ (HR0.out.below HB.out) (by omega)).mono ?_); rintro e w12 ⟨qHY0, mHY0, eHY0, rfl, ho, hb⟩; replace HB := Lib.hid (below_on HB.out hb); replace HX0 := Lib.hid (HX0.out.below hb); replace HX1 := Lib.hid (HX1.out.below hb); replace HU0 := Lib.hid (HU0.out.below hb); replace HS0 := Lib.hid (HS0.out.below hb); replace HU1 := Lib.hid (HU1.out.below hb); replace HS1 := Lib.hid (HS1.out.below hb); have HY0 := Lib.hid ho; obtain rfl : n0 = mHY0 := HR0.out.len.symm.trans HY0.out.len; clear ho hb) | (go_at_call 20; (with_reducible refine (SlPiece.eq_any _ _ _ _ _ _ _ _ _ HU0.out.rd HY0.out.rd).mono ?_); rintro e w13 ⟨rfl, hb⟩; replace HB := Lib.hid (below_on HB.out hb); replace HX0 := Lib.hid (HX0.out.below hb); replace HX1 := Lib.hid (HX1.out.below hb); replace HU0 := Lib.hid (HU0.out.below hb); replace HS0 := Lib.hid (HS0.out.below hb); replace HU1 := Lib.hid (HU1.out.below hb); replace HS1 := Lib.hid (HS1.out.below hb); clear hb))
  clear j0 j1 j2 j3 j4 j5
  obtain ⟨j0, j1, j2, j3, j4, j5⟩ := six3 HS1.out HX1.out
  go_wp2_with fail
  replace HB := Lib.hid (drewB HB.out)
  replace HX0 := Lib.hid (HX0.out.below (drewB (Below.refl _ _)))
  replace HX1 := Lib.hid (HX1.out.below (drewB (Below.refl _ _)))
  replace HU0 := Lib.hid (HU0.out.below (drewB (Below.refl _ _)))
  replace HS0 := Lib.hid (HS0.out.below (drewB (Below.refl _ _)))
  replace HU1 := Lib.hid (HU1.out.below (drewB (Below.refl _ _)))
  replace HS1 := Lib.hid (HS1.out.below (drewB (Below.refl _ _)))
  go_region_held3 (fun w' => w'.cell? ⟨w10.heap.size, 0, none⟩ = some (.int .i64 k1_) ∧ w'.cell? ⟨w10.heap.size, 1, none⟩ = some (.slice qHU1 n1 eHU1) ∧ w'.cell? ⟨w10.heap.size, 2, none⟩ = some (.int .i64 m1_) ∧ w'.cell? ⟨W.heap.size + 1, 0, none⟩ = some (.int .i64 k1_) ∧ w'.cell? ⟨W.heap.size + 1, 1, none⟩ = some (.slice p1_ n1 c1_) ∧ w'.cell? ⟨W.heap.size + 1, 2, none⟩ = some (.int .i64 m1_)) (first | exact six3 HS1.out HX1.out | go_keep) (first | (go_at_call 18; (with_reducible refine (SlPiece.to_any _ _ _ _ _ zs1 _ (HR1.out.below HB.out) (by omega)).mono ?_); rintro e w14 ⟨qHY1, mHY1, eHY1, rfl, ho, hb⟩; replace HB := Lib.hid (below_on HB.out hb); replace HX0 := Lib.hid (HX0.out.below hb); replace HX1 := Lib.hid (HX1.out.below hb); replace HU0 := Lib.hid (HU0.out.below hb); replace HS0 := Lib.hid (HS0.out.below hb); replace HU1 := Lib.hid (HU1.out.below hb); replace HS1 := Lib.hid (HS1.out.below hb); have HY1 := Lib.hid ho; obtain rfl : n1 = mHY1 := HR1.out.len.symm.trans HY1.out.len; clear ho hb) | (go_at_call 20; (with_reducible refine (SlPiece.eq_any _ _ _ _ _ _ _ _ _ HU1.out.rd HY1.out.rd).mono ?_); rintro e w15 ⟨rfl, hb⟩; replace HB := Lib.hid (below_on HB.out hb); replace HX0 := Lib.hid (HX0.out.below hb); replace HX1 := Lib.hid (HX1.out.below hb); replace HU0 := Lib.hid (HU0.out.below hb); replace HS0 := Lib.hid (HS0.out.below hb); replace HU1 := Lib.hid (HU1.out.below hb); replace HS1 := Lib.hid (HS1.out.below hb); clear hb))
  clear j0 j1 j2 j3 j4 j5
  go_wp2_with fail
  go_ret
  exact ⟨rfl, HB.out⟩
end Go.Proofs.Ytpnnmfagdefnmaa.fnExactPieceBefore
