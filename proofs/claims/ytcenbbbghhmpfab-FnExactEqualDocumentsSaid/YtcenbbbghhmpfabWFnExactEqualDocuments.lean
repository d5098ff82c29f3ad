/- The walk of the law FnExactEqualDocuments. -/
import Derived.Test.YtcenbbbghhmpfabDe
import Derived.Test.YtcenbbbghhmpfabSlDoc
import Derived.Deep.RegionHeld3
import Derived.OpenShut
namespace Go.Proofs.Ytcenbbbghhmpfab.fnExactEqualDocuments
open Go.ChangeShapes Go.WideShapes Go.ChangeAt Go.RowKit Sl St Dm Dk De
set_option maxRecDepth 100000 in
set_option maxHeartbeats 8000000 in
theorem walk {H : Type} {enc : TypeId × Value → H} (W : World) (base : Nat)
    (v0 : Value) (d0 : DataW H) (p0 : List MemPlace) (h0 : DataW.Trod enc Try.prog W 0 (fun _ => true) true 38 v0 d0 p0) (k0 : Value.okWide Try.prog W .any base 38 v0)
    (v1 : Value) (d1 : DataW H) (p1 : List MemPlace) (h1 : DataW.Trod enc Try.prog W 0 (fun _ => true) true 38 v1 d1 p1) (k1 : Value.okWide Try.prog W .any base 38 v1)
    (_hsz : (DataW.weightsEach Try.prog [38, 38] [d0, d1]).all (· ≤ reachBytes) = true) :
    Calls Try.prog 6 #[v0, v1] W fun e w' => e = .returned (.bool true) ∧ Below W.heap.size W w' := by
  obtain ⟨t0, a0, n0, c0, b0, m0, e0, pl0, sl0, rfl, hr0, hs0, hz0, _⟩ := SlDoc.open_val h0 k0
  have HP0 := Lib.hid hr0
  have HQ0 := Lib.hid hs0
  have hn0 := hr0.len
  have hm0 := hs0.len
  clear h0 k0 hr0 hs0
  obtain ⟨t1, a1, n1, c1, b1, m1, e1, pl1, sl1, rfl, hr1, hs1, hz1, _⟩ := SlDoc.open_val h1 k1
  have HP1 := Lib.hid hr1
  have HQ1 := Lib.hid hs1
  have hn1 := hr1.len
  have hm1 := hs1.len
  clear h1 k1 hr1 hs1
  clear _hsz
  have hB := (Below.refl W.heap.size W).alloc (Nat.le_refl _) (.cells #[.int .i64 t0, .slice a0 n0 c0, .slice b0 m0 e0] 38)
  have hA0 := Bx.new W 38 #[.int .i64 t0, .slice a0 n0 c0, .slice b0 m0 e0]
  have hA1 := Bx.new (W.alloc (.cells #[.int .i64 t0, .slice a0 n0 c0, .slice b0 m0 e0] 38)) 38 #[.int .i64 t1, .slice a1 n1 c1, .slice b1 m1 e1]
  rw [World.size_alloc] at hA1
  replace hB := hB.alloc (by simp) (.cells #[.int .i64 t1, .slice a1 n1 c1, .slice b1 m1 e1] 38)
  replace hA0 := hA0.alloc (.cells #[.int .i64 t1, .slice a1 n1 c1, .slice b1 m1 e1] 38)
  have HB := Lib.hid hB
  have HA0 := Lib.hid hA0
  have HA1 := Lib.hid hA1
  clear hB hA0 hA1
  by_cases hf0 : SlDoc.fits pl0 sl0 (1048576)
  rotate_left
  · go_enter Try.func6, Try.ntmps6
    go_wp2_with fail
    refine (SlDoc.sz_bigL _ _ _ _ _ _ _ _ pl0 sl0 (1048576) rfl _ (HP0.out.below HB.out) (HQ0.out.below HB.out) hz0 (by omega) hf0).mono ?_
    rintro e w0 ⟨rfl, hb⟩
    replace HB := Lib.hid (below_on HB.out hb)
    clear hb
    go_wp2_with fail
    go_ret
    exact ⟨rfl, HB.out⟩
  obtain ⟨τ0, hτ0⟩ : ∃ τ, SlStr.tot pl0 = τ := ⟨_, rfl⟩
  have T0 := Lib.hid hτ0
  have g0 : n0 + τ0 + m0 ≤ 1048576 := by have h := hf0; unfold SlDoc.fits at h; omega
  clear hτ0
  by_cases hf1 : SlDoc.fits pl1 sl1 (1048576 - n0 - τ0 - m0)
  rotate_left
  · go_enter Try.func6, Try.ntmps6
    go_wp2_with fail
    refine (SlDoc.sz_fitsL _ _ _ _ _ _ _ _ pl0 sl0 (1048576) rfl _ (HP0.out.below HB.out) (HQ0.out.below HB.out) hz0 (by omega) hf0).mono ?_
    rintro e w0 ⟨rfl, hb⟩
    replace HB := Lib.hid (below_on HB.out hb)
    replace HA0 := Lib.hid (HA0.out.below hb)
    replace HA1 := Lib.hid (HA1.out.below hb)
    obtain ⟨u00, u01, u02⟩ := bx3 HA0.out
    obtain ⟨u10, u11, u12⟩ := bx3 HA1.out
    clear hb
    rw [T0.out]
    go_wp2_with fail
    refine (SlDoc.sz_bigL _ _ _ _ _ _ _ _ pl1 sl1 (1048576 - n0 - τ0 - m0) (by omega) _ (HP1.out.below HB.out) (HQ1.out.below HB.out) hz1 (by omega) hf1).mono ?_
    rintro e w0 ⟨rfl, hb⟩
    replace HB := Lib.hid (below_on HB.out hb)
    clear hb
    go_wp2_with fail
    go_ret
    exact ⟨rfl, HB.out⟩
  obtain ⟨τ1, hτ1⟩ : ∃ τ, SlStr.tot pl1 = τ := ⟨_, rfl⟩
  have T1 := Lib.hid hτ1
  have g1 : n1 + τ1 + m1 ≤ 1048576 - n0 - τ0 - m0 := by have h := hf1; unfold SlDoc.fits at h; omega
  clear hτ1
  go_enter Try.func6, Try.ntmps6
  go_wp2_with fail
  refine (SlDoc.sz_fitsL _ _ _ _ _ _ _ _ pl0 sl0 (1048576) rfl _ (HP0.out.below HB.out) (HQ0.out.below HB.out) hz0 (by omega) hf0).mono ?_
  rintro e w1 ⟨rfl, hb⟩
  rw [T0.out]
  replace HB := Lib.hid (below_on HB.out hb)
  replace HA0 := Lib.hid (HA0.out.below hb)
  replace HA1 := Lib.hid (HA1.out.below hb)
  clear hb
  obtain ⟨u00, u01, u02⟩ := bx3 HA0.out
  obtain ⟨u10, u11, u12⟩ := bx3 HA1.out
  go_wp2_with fail
  refine (SlDoc.sz_fitsL _ _ _ _ _ _ _ _ pl1 sl1 (1048576 - n0 - τ0 - m0) (by omega) _ (HP1.out.below HB.out) (HQ1.out.below HB.out) hz1 (by omega) hf1).mono ?_
  rintro e w2 ⟨rfl, hb⟩
  rw [T1.out]
  replace HB := Lib.hid (below_on HB.out hb)
  replace HA0 := Lib.hid (HA0.out.below hb)
  replace HA1 := Lib.hid (HA1.out.below hb)
  clear hb
  obtain ⟨u00, u01, u02⟩ := bx3 HA0.out
  obtain ⟨u10, u11, u12⟩ := bx3 HA1.out
  go_wp2_with fail
  go_region_held3 (fun w' => w'.cell? ⟨W.heap.size, 0, none⟩ = some (.int .i64 t0) ∧ w'.cell? ⟨W.heap.size, 1, none⟩ = some (.slice a0 n0 c0) ∧ w'.cell? ⟨W.heap.size, 2, none⟩ = some (.slice b0 m0 e0) ∧ w'.cell? ⟨W.heap.size + 1, 0, none⟩ = some (.int .i64 t1) ∧ w'.cell? ⟨W.heap.size + 1, 1, none⟩ = some (.slice a1 n1 c1) ∧ w'.cell? ⟨W.heap.size + 1, 2, none⟩ = some (.slice b1 m1 e1)) (first | exact SlDoc.two3 HY3.out HZ3.out | exact SlDoc.two3 HY2.out HZ2.out | exact SlDoc.two3 HY1.out HZ1.out | exact SlDoc.two3 HA0.out HA1.out | go_keep) (first
    | (go_at_call 24; refine (SlDoc.to_any t1 _ _ _ _ _ _ pl1 sl1 _ (HP1.out.below HB1.out) (HQ1.out.below HB1.out) (by omega) (by omega)).mono ?_; rintro e v2 ⟨ps1, ys1, cs1, qs1, zs1, ds1, mids1, rfl, hoP, hoQ, hb⟩; obtain rfl : n1 = ys1 := hn1.symm.trans hoP.len; obtain rfl : m1 = zs1 := hm1.symm.trans hoQ.len; have HB2 := Lib.hid (below_on HB1.out hb); have HY2 := Lib.hid ((HY1.out).below hb); have HZ2 := Lib.hid ((HZ1.out).below hb); have Ps1 := Lib.hid hoP; have Qs1 := Lib.hid hoQ; replace Ps0 := Lib.hid (Ps0.out.below hb); replace Qs0 := Lib.hid (Qs0.out.below hb); clear hoP hoQ hb)
    | (go_at_call 24; refine (SlDoc.to_any t0 _ _ _ _ _ _ pl0 sl0 _ (HP0.out.below HB1.out) (HQ0.out.below HB1.out) (by omega) (by omega)).mono ?_; rintro e v2 ⟨ps0, ys0, cs0, qs0, zs0, ds0, mids0, rfl, hoP, hoQ, hb⟩; obtain rfl : n0 = ys0 := hn0.symm.trans hoP.len; obtain rfl : m0 = zs0 := hm0.symm.trans hoQ.len; have HB2 := Lib.hid (below_on HB1.out hb); have HY2 := Lib.hid ((HY1.out).below hb); have HZ2 := Lib.hid ((HZ1.out).below hb); have Ps0 := Lib.hid hoP; have Qs0 := Lib.hid hoQ; replace Ps1 := Lib.hid (Ps1.out.below hb); replace Qs1 := Lib.hid (Qs1.out.below hb); clear hoP hoQ hb)
    | (go_at_call 24; refine (SlDoc.to_any t0 _ _ _ _ _ _ pl0 sl0 _ (HP0.out.below (below_drewN HB.out 1)) (HQ0.out.below (below_drewN HB.out 1)) (by omega) (by omega)).mono ?_; rintro e v1 ⟨ps0, ys0, cs0, qs0, zs0, ds0, mids0, rfl, hoP, hoQ, hb⟩; obtain rfl : n0 = ys0 := hn0.symm.trans hoP.len; obtain rfl : m0 = zs0 := hm0.symm.trans hoQ.len; have HB1 := Lib.hid (below_on (below_drewN HB.out 1) hb); have HY1 := Lib.hid ((HA0.out.drew1).below hb); have HZ1 := Lib.hid ((HA1.out.drew1).below hb); have Ps0 := Lib.hid hoP; have Qs0 := Lib.hid hoQ; clear hoP hoQ hb)
    | (go_at_call 24; refine (SlDoc.to_any t1 _ _ _ _ _ _ pl1 sl1 _ (HP1.out.below (below_drewN HB.out 1)) (HQ1.out.below (below_drewN HB.out 1)) (by omega) (by omega)).mono ?_; rintro e v1 ⟨ps1, ys1, cs1, qs1, zs1, ds1, mids1, rfl, hoP, hoQ, hb⟩; obtain rfl : n1 = ys1 := hn1.symm.trans hoP.len; obtain rfl : m1 = zs1 := hm1.symm.trans hoQ.len; have HB1 := Lib.hid (below_on (below_drewN HB.out 1) hb); have HY1 := Lib.hid ((HA0.out.drew1).below hb); have HZ1 := Lib.hid ((HA1.out.drew1).below hb); have Ps1 := Lib.hid hoP; have Qs1 := Lib.hid hoQ; clear hoP hoQ hb)
    | (go_at_call 33; refine (spec_eqDoc_any _ _ _ _ _ _ _ _ _ _ _ _ _ _ _ _ _ _ _ Ps0.out.rd Qs0.out.rd Ps1.out.rd Qs1.out.rd).mono ?_; rintro e v3 ⟨rfl, hb⟩; have HB3 := Lib.hid (below_on HB2.out hb); have HY3 := Lib.hid (HY2.out.below hb); have HZ3 := Lib.hid (HZ2.out.below hb); clear hb Ps0 Qs0 Ps1 Qs1))
  all_goals
    replace HB := Lib.hid HB3.out
    replace HA0 := Lib.hid HY3.out
    replace HA1 := Lib.hid HZ3.out
    clear HB1 HB2 HB3 HY1 HY2 HY3 HZ1 HZ2 HZ3
    clear u00 u01 u02 u10 u11 u12
    obtain ⟨u00, u01, u02⟩ := bx3 HA0.out
    obtain ⟨u10, u11, u12⟩ := bx3 HA1.out
    go_wp2_with fail
    refine (SlDoc.to_any _ _ _ _ _ _ _ pl0 sl0 _ (HP0.out.below HB.out) (HQ0.out.below HB.out) (by omega) (by omega)).mono ?_
    rintro e w3 ⟨px0, yx0, cx0, qx0, zx0, dx0, midx0, rfl, hoP, hoQ, hb⟩
    replace HB := Lib.hid (below_on HB.out hb)
    replace HA0 := Lib.hid (HA0.out.below hb)
    replace HA1 := Lib.hid (HA1.out.below hb)
    have Px0 := Lib.hid hoP
    have Qx0 := Lib.hid hoQ
    obtain rfl : n0 = yx0 := hn0.symm.trans hoP.len
    obtain rfl : m0 = zx0 := hm0.symm.trans hoQ.len
    clear u00 u01 u02 u10 u11 u12
    clear hoP hoQ hb
    obtain ⟨u00, u01, u02⟩ := bx3 HA0.out
    obtain ⟨u10, u11, u12⟩ := bx3 HA1.out
    have X0 := Lib.hid (Bx.new w3 27 #[.int .i64 t0, .slice px0 n0 cx0, .slice qx0 m0 dx0])
    replace HB := Lib.hid (HB.out.alloc HB.out.size (.cells #[.int .i64 t0, .slice px0 n0 cx0, .slice qx0 m0 dx0] 27))
    replace HA0 := Lib.hid (HA0.out.alloc (.cells #[.int .i64 t0, .slice px0 n0 cx0, .slice qx0 m0 dx0] 27))
    replace HA1 := Lib.hid (HA1.out.alloc (.cells #[.int .i64 t0, .slice px0 n0 cx0, .slice qx0 m0 dx0] 27))
    replace Px0 := Lib.hid (Px0.out.alloc (.cells #[.int .i64 t0, .slice px0 n0 cx0, .slice qx0 m0 dx0] 27))
    replace Qx0 := Lib.hid (Qx0.out.alloc (.cells #[.int .i64 t0, .slice px0 n0 cx0, .slice qx0 m0 dx0] 27))
    clear u00 u01 u02 u10 u11 u12
    obtain ⟨u00, u01, u02⟩ := bx3 HA0.out
    obtain ⟨u10, u11, u12⟩ := bx3 HA1.out
    go_wp2_with fail
    refine (SlDoc.to_any _ _ _ _ _ _ _ pl1 sl1 _ (HP1.out.below HB.out) (HQ1.out.below HB.out) (by omega) (by omega)).mono ?_
    rintro e w4 ⟨px1, yx1, cx1, qx1, zx1, dx1, midx1, rfl, hoP, hoQ, hb⟩
    replace HB := Lib.hid (below_on HB.out hb)
    replace HA0 := Lib.hid (HA0.out.below hb)
    replace HA1 := Lib.hid (HA1.out.below hb)
    replace Px0 := Lib.hid (Px0.out.below hb)
    replace Qx0 := Lib.hid (Qx0.out.below hb)
    replace X0 := Lib.hid (X0.out.below hb)
    have Px1 := Lib.hid hoP
    have Qx1 := Lib.hid hoQ
    obtain rfl : n1 = yx1 := hn1.symm.trans hoP.len
    obtain rfl : m1 = zx1 := hm1.symm.trans hoQ.len
    clear u00 u01 u02 u10 u11 u12
    clear hoP hoQ hb
    obtain ⟨u00, u01, u02⟩ := bx3 HA0.out
    obtain ⟨u10, u11, u12⟩ := bx3 HA1.out
    have X1 := Lib.hid (Bx.new w4 27 #[.int .i64 t1, .slice px1 n1 cx1, .slice qx1 m1 dx1])
    replace HB := Lib.hid (HB.out.alloc HB.out.size (.cells #[.int .i64 t1, .slice px1 n1 cx1, .slice qx1 m1 dx1] 27))
    replace HA0 := Lib.hid (HA0.out.alloc (.cells #[.int .i64 t1, .slice px1 n1 cx1, .slice qx1 m1 dx1] 27))
    replace HA1 := Lib.hid (HA1.out.alloc (.cells #[.int .i64 t1, .slice px1 n1 cx1, .slice qx1 m1 dx1] 27))
    replace Px0 := Lib.hid (Px0.out.alloc (.cells #[.int .i64 t1, .slice px1 n1 cx1, .slice qx1 m1 dx1] 27))
    replace Qx0 := Lib.hid (Qx0.out.alloc (.cells #[.int .i64 t1, .slice px1 n1 cx1, .slice qx1 m1 dx1] 27))
    replace X0 := Lib.hid (X0.out.alloc (.cells #[.int .i64 t1, .slice px1 n1 cx1, .slice qx1 m1 dx1] 27))
    replace Px1 := Lib.hid (Px1.out.alloc (.cells #[.int .i64 t1, .slice px1 n1 cx1, .slice qx1 m1 dx1] 27))
    replace Qx1 := Lib.hid (Qx1.out.alloc (.cells #[.int .i64 t1, .slice px1 n1 cx1, .slice qx1 m1 dx1] 27))
    clear u00 u01 u02 u10 u11 u12
    obtain ⟨u00, u01, u02⟩ := bx3 HA0.out
    obtain ⟨u10, u11, u12⟩ := bx3 HA1.out
    obtain ⟨z00, z01, z02⟩ := bx3 X0.out
    go_wp2_with fail
    refine (eqDoc_any _ _ _ _ _ _ _ _ _ _ _ _ _ _ _ _ _ _ _ Px0.out.rd Qx0.out.rd Px1.out.rd Qx1.out.rd).mono ?_
    rintro e w5 ⟨rfl, hb⟩
    replace HB := Lib.hid (below_on HB.out hb)
    replace HA0 := Lib.hid (HA0.out.below hb)
    replace HA1 := Lib.hid (HA1.out.below hb)
    replace Px0 := Lib.hid (Px0.out.below hb)
    replace Qx0 := Lib.hid (Qx0.out.below hb)
    replace X0 := Lib.hid (X0.out.below hb)
    replace Px1 := Lib.hid (Px1.out.below hb)
    replace Qx1 := Lib.hid (Qx1.out.below hb)
    replace X1 := Lib.hid (X1.out.below hb)
    clear u00 u01 u02 u10 u11 u12
    clear hb
    obtain ⟨u00, u01, u02⟩ := bx3 HA0.out
    obtain ⟨u10, u11, u12⟩ := bx3 HA1.out
    clear z00 z01 z02
    obtain ⟨z00, z01, z02⟩ := bx3 X0.out
    obtain ⟨z10, z11, z12⟩ := bx3 X1.out
    go_wp2_with fail
    go_region_held3 (fun w' => w'.cell? ⟨w3.heap.size, 0, none⟩ = some (.int .i64 t0) ∧ w'.cell? ⟨w3.heap.size, 1, none⟩ = some (.slice px0 n0 cx0) ∧ w'.cell? ⟨w3.heap.size, 2, none⟩ = some (.slice qx0 m0 dx0) ∧ w'.cell? ⟨W.heap.size, 0, none⟩ = some (.int .i64 t0) ∧ w'.cell? ⟨W.heap.size, 1, none⟩ = some (.slice a0 n0 c0) ∧ w'.cell? ⟨W.heap.size, 2, none⟩ = some (.slice b0 m0 e0)) (first | exact SlDoc.two3 X0r.out A0r.out | exact SlDoc.two3 X0.out HA0.out | go_keep) (first
      | (go_at_call 24; refine (SlDoc.to_any t0 _ _ _ _ _ _ pl0 sl0 _ (HP0.out.below (below_drewN HB.out 1)) (HQ0.out.below (below_drewN HB.out 1)) (by omega) (by omega)).mono ?_; rintro e v01 ⟨pr, yr, cr, qr, zr, dr, midr, rfl, hoP, hoQ, hb⟩; obtain rfl : n0 = yr := hn0.symm.trans hoP.len; obtain rfl : m0 = zr := hm0.symm.trans hoQ.len; have HBr := Lib.hid (below_on (below_drewN HB.out 1) hb); have Px0r := Lib.hid ((Px0.out.drewN 1).below hb); have Qx0r := Lib.hid ((Qx0.out.drewN 1).below hb); have X0r := Lib.hid ((X0.out.drewN 1).below hb); have Px1r := Lib.hid ((Px1.out.drewN 1).below hb); have Qx1r := Lib.hid ((Qx1.out.drewN 1).below hb); have X1r := Lib.hid ((X1.out.drewN 1).below hb); have A0r := Lib.hid ((HA0.out.drewN 1).below hb); have A1r := Lib.hid ((HA1.out.drewN 1).below hb); have Pr := Lib.hid hoP; have Qr := Lib.hid hoQ; clear hoP hoQ hb)
      | (go_at_call 25; refine (SlDoc.eq_any t0 _ _ _ _ _ _ _ _ _ _ pl0 sl0 _ Px0r.out.rd Pr.out.rd Qx0r.out.rd Qr.out.rd).mono ?_; rintro e v02 ⟨rfl, hb⟩; replace HBr := Lib.hid (below_on HBr.out hb); replace Px0r := Lib.hid (Px0r.out.below hb); replace Qx0r := Lib.hid (Qx0r.out.below hb); replace X0r := Lib.hid (X0r.out.below hb); replace Px1r := Lib.hid (Px1r.out.below hb); replace Qx1r := Lib.hid (Qx1r.out.below hb); replace X1r := Lib.hid (X1r.out.below hb); replace A0r := Lib.hid (A0r.out.below hb); replace A1r := Lib.hid (A1r.out.below hb); clear hb Pr Qr))
    replace HB := Lib.hid HBr.out
    replace Px0 := Lib.hid Px0r.out
    replace Qx0 := Lib.hid Qx0r.out
    replace X0 := Lib.hid X0r.out
    replace Px1 := Lib.hid Px1r.out
    replace Qx1 := Lib.hid Qx1r.out
    replace X1 := Lib.hid X1r.out
    replace HA0 := Lib.hid A0r.out
    replace HA1 := Lib.hid A1r.out
    clear HBr Px0r Qx0r X0r Px1r Qx1r X1r A0r A1r
    clear u00 u01 u02 u10 u11 u12
    clear z00 z01 z02 z10 z11 z12
    obtain ⟨u00, u01, u02⟩ := bx3 HA0.out
    obtain ⟨u10, u11, u12⟩ := bx3 HA1.out
    obtain ⟨z00, z01, z02⟩ := bx3 X0.out
    obtain ⟨z10, z11, z12⟩ := bx3 X1.out
    go_wp2_with fail
    go_region_held3 (fun w' => w'.cell? ⟨w4.heap.size, 0, none⟩ = some (.int .i64 t1) ∧ w'.cell? ⟨w4.heap.size, 1, none⟩ = some (.slice px1 n1 cx1) ∧ w'.cell? ⟨w4.heap.size, 2, none⟩ = some (.slice qx1 m1 dx1) ∧ w'.cell? ⟨W.heap.size + 1, 0, none⟩ = some (.int .i64 t1) ∧ w'.cell? ⟨W.heap.size + 1, 1, none⟩ = some (.slice a1 n1 c1) ∧ w'.cell? ⟨W.heap.size + 1, 2, none⟩ = some (.slice b1 m1 e1)) (first | exact SlDoc.two3 X1r.out A1r.out | exact SlDoc.two3 X1.out HA1.out | go_keep) (first
      | (go_at_call 24; refine (SlDoc.to_any t1 _ _ _ _ _ _ pl1 sl1 _ (HP1.out.below (below_drewN HB.out 1)) (HQ1.out.below (below_drewN HB.out 1)) (by omega) (by omega)).mono ?_; rintro e v11 ⟨pr, yr, cr, qr, zr, dr, midr, rfl, hoP, hoQ, hb⟩; obtain rfl : n1 = yr := hn1.symm.trans hoP.len; obtain rfl : m1 = zr := hm1.symm.trans hoQ.len; have HBr := Lib.hid (below_on (below_drewN HB.out 1) hb); have Px0r := Lib.hid ((Px0.out.drewN 1).below hb); have Qx0r := Lib.hid ((Qx0.out.drewN 1).below hb); have X0r := Lib.hid ((X0.out.drewN 1).below hb); have Px1r := Lib.hid ((Px1.out.drewN 1).below hb); have Qx1r := Lib.hid ((Qx1.out.drewN 1).below hb); have X1r := Lib.hid ((X1.out.drewN 1).below hb); have A0r := Lib.hid ((HA0.out.drewN 1).below hb); have A1r := Lib.hid ((HA1.out.drewN 1).below hb); have Pr := Lib.hid hoP; have Qr := Lib.hid hoQ; clear hoP hoQ hb)
      | (go_at_call 25; refine (SlDoc.eq_any t1 _ _ _ _ _ _ _ _ _ _ pl1 sl1 _ Px1r.out.rd Pr.out.rd Qx1r.out.rd Qr.out.rd).mono ?_; rintro e v12 ⟨rfl, hb⟩; replace HBr := Lib.hid (below_on HBr.out hb); replace Px0r := Lib.hid (Px0r.out.below hb); replace Qx0r := Lib.hid (Qx0r.out.below hb); replace X0r := Lib.hid (X0r.out.below hb); replace Px1r := Lib.hid (Px1r.out.below hb); replace Qx1r := Lib.hid (Qx1r.out.below hb); replace X1r := Lib.hid (X1r.out.below hb); replace A0r := Lib.hid (A0r.out.below hb); replace A1r := Lib.hid (A1r.out.below hb); clear hb Pr Qr))
    replace HB := Lib.hid HBr.out
    replace Px0 := Lib.hid Px0r.out
    replace Qx0 := Lib.hid Qx0r.out
    replace X0 := Lib.hid X0r.out
    replace Px1 := Lib.hid Px1r.out
    replace Qx1 := Lib.hid Qx1r.out
    replace X1 := Lib.hid X1r.out
    replace HA0 := Lib.hid A0r.out
    replace HA1 := Lib.hid A1r.out
    clear HBr Px0r Qx0r X0r Px1r Qx1r X1r A0r A1r
    clear u00 u01 u02 u10 u11 u12
    clear z00 z01 z02 z10 z11 z12
    obtain ⟨u00, u01, u02⟩ := bx3 HA0.out
    obtain ⟨u10, u11, u12⟩ := bx3 HA1.out
    obtain ⟨z00, z01, z02⟩ := bx3 X0.out
    obtain ⟨z10, z11, z12⟩ := bx3 X1.out
    go_wp2_with fail
    go_ret
    exact ⟨rfl, HB.out⟩
end Go.Proofs.Ytcenbbbghhmpfab.fnExactEqualDocuments
