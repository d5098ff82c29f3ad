/- The walk of the law FnExactDocDigest. -/
import Derived.Test.YtcenbbbghhmpfabDs
import Derived.Test.YtcenbbbghhmpfabSlDoc
import Derived.Deep.RegionHeld3
import Derived.OpenShut
namespace Go.Proofs.Ytcenbbbghhmpfab.fnExactDocDigest
open Go.ChangeShapes Go.WideShapes Go.ChangeAt Go.RowKit Sl St Dm Dk Dd Ds
set_option maxRecDepth 100000 in
set_option maxHeartbeats 8000000 in
theorem walk {H : Type} {enc : TypeId × Value → H} (W : World) (base : Nat)
    (v0 : Value) (d0 : DataW H) (p0 : List MemPlace) (h0 : DataW.Trod enc Try.prog W 0 (fun _ => true) true 3 v0 d0 p0) (k0 : Value.okWide Try.prog W .any base 3 v0)
    (v1 : Value) (d1 : DataW H) (p1 : List MemPlace) (h1 : DataW.Trod enc Try.prog W 0 (fun _ => true) true 38 v1 d1 p1) (k1 : Value.okWide Try.prog W .any base 38 v1)
    (_hsz : (DataW.weightsEach Try.prog [3, 38] [d0, d1]).all (· ≤ reachBytes) = true) :
    Calls Try.prog 4 #[v0, v1] W fun e w' => e = .returned (.bool true) ∧ Below W.heap.size W w' := by
  obtain ⟨x0, rfl, _, _, wf0⟩ := open_int Try.underlying3 k0 h0
  have xb0 := bounds_i64 wf0
  obtain ⟨xl0, xh0⟩ := xb0
  clear wf0
  clear h0 k0
  obtain ⟨t1, a1, n1, c1, b1, m1, e1, pl1, sl1, rfl, hr1, hs1, hz1, _⟩ := SlDoc.open_val h1 k1
  have HP1 := Lib.hid hr1
  have HQ1 := Lib.hid hs1
  have hn1 := hr1.len
  have hm1 := hs1.len
  clear h1 k1 hr1 hs1
  clear _hsz
  have hB := (Below.refl W.heap.size W).alloc (Nat.le_refl _) (.cells #[.int .i64 t1, .slice a1 n1 c1, .slice b1 m1 e1] 38)
  have hA1 := Bx.new W 38 #[.int .i64 t1, .slice a1 n1 c1, .slice b1 m1 e1]
  have HB := Lib.hid hB
  have HA1 := Lib.hid hA1
  clear hB hA1
  by_cases hf1 : SlDoc.fits pl1 sl1 (1048576)
  rotate_left
  · go_enter Try.func4, Try.ntmps4
    go_wp2_with fail
    refine (SlDoc.sz_bigL _ _ _ _ _ _ _ _ pl1 sl1 (1048576) rfl _ (HP1.out.below HB.out) (HQ1.out.below HB.out) hz1 (by omega) hf1).mono ?_
    rintro e w0 ⟨rfl, hb⟩
    replace HB := Lib.hid (below_on HB.out hb)
    clear hb
    go_wp2_with fail
    go_ret
    exact ⟨rfl, HB.out⟩
  obtain ⟨τ1, hτ1⟩ : ∃ τ, SlStr.tot pl1 = τ := ⟨_, rfl⟩
  have T1 := Lib.hid hτ1
  have g1 : n1 + τ1 + m1 ≤ 1048576 := by have h := hf1; unfold SlDoc.fits at h; omega
  clear hτ1
  go_enter Try.func4, Try.ntmps4
  go_wp2_with fail
  refine (SlDoc.sz_fitsL _ _ _ _ _ _ _ _ pl1 sl1 (1048576) rfl _ (HP1.out.below HB.out) (HQ1.out.below HB.out) hz1 (by omega) hf1).mono ?_
  rintro e w1 ⟨rfl, hb⟩
  rw [T1.out]
  replace HB := Lib.hid (below_on HB.out hb)
  replace HA1 := Lib.hid (HA1.out.below hb)
  clear hb
  obtain ⟨u10, u11, u12⟩ := bx3 HA1.out
  go_wp2_with fail
  refine (SlDoc.to_any _ _ _ _ _ _ _ pl1 sl1 _ (HP1.out.below HB.out) (HQ1.out.below HB.out) (by omega) (by omega)).mono ?_
  rintro e w2 ⟨ps0, ys0, cs0, qs0, zs0, ds0, mids0, rfl, hoP, hoQ, hb⟩
  replace HB := Lib.hid (below_on HB.out hb)
  replace HA1 := Lib.hid (HA1.out.below hb)
  have Ps0 := Lib.hid hoP
  have Qs0 := Lib.hid hoQ
  obtain rfl : n1 = ys0 := hn1.symm.trans hoP.len
  obtain rfl : m1 = zs0 := hm1.symm.trans hoQ.len
  clear u10 u11 u12
  clear hoP hoQ hb
  obtain ⟨u10, u11, u12⟩ := bx3 HA1.out
  go_wp2_with fail
  refine (spec_docD_any _ _ _ _ _ _ _ _ _ _ _ Ps0.out.rd Qs0.out.rd ⟨xl0, xh0⟩).mono ?_
  rintro e w3 ⟨rfl, hb⟩
  replace HB := Lib.hid (below_on HB.out hb)
  replace HA1 := Lib.hid (HA1.out.below hb)
  replace Ps0 := Lib.hid (Ps0.out.below hb)
  replace Qs0 := Lib.hid (Qs0.out.below hb)
  clear u10 u11 u12
  clear hb
  obtain ⟨u10, u11, u12⟩ := bx3 HA1.out
  clear Ps0
  clear Qs0
  go_wp2_with fail
  refine (SlDoc.to_any _ _ _ _ _ _ _ pl1 sl1 _ (HP1.out.below HB.out) (HQ1.out.below HB.out) (by omega) (by omega)).mono ?_
  rintro e w4 ⟨px1, yx1, cx1, qx1, zx1, dx1, midx1, rfl, hoP, hoQ, hb⟩
  replace HB := Lib.hid (below_on HB.out hb)
  replace HA1 := Lib.hid (HA1.out.below hb)
  have Px1 := Lib.hid hoP
  have Qx1 := Lib.hid hoQ
  obtain rfl : n1 = yx1 := hn1.symm.trans hoP.len
  obtain rfl : m1 = zx1 := hm1.symm.trans hoQ.len
  clear u10 u11 u12
  clear hoP hoQ hb
  obtain ⟨u10, u11, u12⟩ := bx3 HA1.out
  have X1 := Lib.hid (Bx.new w4 27 #[.int .i64 t1, .slice px1 n1 cx1, .slice qx1 m1 dx1])
  replace HB := Lib.hid (HB.out.alloc HB.out.size (.cells #[.int .i64 t1, .slice px1 n1 cx1, .slice qx1 m1 dx1] 27))
  replace HA1 := Lib.hid (HA1.out.alloc (.cells #[.int .i64 t1, .slice px1 n1 cx1, .slice qx1 m1 dx1] 27))
  replace Px1 := Lib.hid (Px1.out.alloc (.cells #[.int .i64 t1, .slice px1 n1 cx1, .slice qx1 m1 dx1] 27))
  replace Qx1 := Lib.hid (Qx1.out.alloc (.cells #[.int .i64 t1, .slice px1 n1 cx1, .slice qx1 m1 dx1] 27))
  clear u10 u11 u12
  obtain ⟨u10, u11, u12⟩ := bx3 HA1.out
  go_wp2_with fail
  refine (docD_any _ _ _ _ _ _ _ _ _ _ _ Px1.out.rd Qx1.out.rd).mono ?_
  rintro e w5 ⟨rfl, hb⟩
  replace HB := Lib.hid (below_on HB.out hb)
  replace HA1 := Lib.hid (HA1.out.below hb)
  replace Px1 := Lib.hid (Px1.out.below hb)
  replace Qx1 := Lib.hid (Qx1.out.below hb)
  replace X1 := Lib.hid (X1.out.below hb)
  clear u10 u11 u12
  clear hb
  obtain ⟨u10, u11, u12⟩ := bx3 HA1.out
  obtain ⟨z10, z11, z12⟩ := bx3 X1.out
  go_wp2_with fail
  go_region_held3 (fun w' => w'.cell? ⟨w4.heap.size, 0, none⟩ = some (.int .i64 t1) ∧ w'.cell? ⟨w4.heap.size, 1, none⟩ = some (.slice px1 n1 cx1) ∧ w'.cell? ⟨w4.heap.size, 2, none⟩ = some (.slice qx1 m1 dx1) ∧ w'.cell? ⟨W.heap.size, 0, none⟩ = some (.int .i64 t1) ∧ w'.cell? ⟨W.heap.size, 1, none⟩ = some (.slice a1 n1 c1) ∧ w'.cell? ⟨W.heap.size, 2, none⟩ = some (.slice b1 m1 e1)) (first | exact SlDoc.two3 X1r.out A1r.out | exact SlDoc.two3 X1.out HA1.out | go_keep) (first
    | (go_at_call 24; refine (SlDoc.to_any t1 _ _ _ _ _ _ pl1 sl1 _ (HP1.out.below (below_drewN HB.out 1)) (HQ1.out.below (below_drewN HB.out 1)) (by omega) (by omega)).mono ?_; rintro e v11 ⟨pr, yr, cr, qr, zr, dr, midr, rfl, hoP, hoQ, hb⟩; obtain rfl : n1 = yr := hn1.symm.trans hoP.len; obtain rfl : m1 = zr := hm1.symm.trans hoQ.len; have HBr := Lib.hid (below_on (below_drewN HB.out 1) hb); have Px1r := Lib.hid ((Px1.out.drewN 1).below hb); have Qx1r := Lib.hid ((Qx1.out.drewN 1).below hb); have X1r := Lib.hid ((X1.out.drewN 1).below hb); have A1r := Lib.hid ((HA1.out.drewN 1).below hb); have Pr := Lib.hid hoP; have Qr := Lib.hid hoQ; clear hoP hoQ hb)
    | (go_at_call 25; refine (SlDoc.eq_any t1 _ _ _ _ _ _ _ _ _ _ pl1 sl1 _ Px1r.out.rd Pr.out.rd Qx1r.out.rd Qr.out.rd).mono ?_; rintro e v12 ⟨rfl, hb⟩; replace HBr := Lib.hid (below_on HBr.out hb); replace Px1r := Lib.hid (Px1r.out.below hb); replace Qx1r := Lib.hid (Qx1r.out.below hb); replace X1r := Lib.hid (X1r.out.below hb); replace A1r := Lib.hid (A1r.out.below hb); clear hb Pr Qr))
  replace HB := Lib.hid HBr.out
  replace Px1 := Lib.hid Px1r.out
  replace Qx1 := Lib.hid Qx1r.out
  replace X1 := Lib.hid X1r.out
  replace HA1 := Lib.hid A1r.out
  clear HBr Px1r Qx1r X1r A1r
  clear u10 u11 u12
  clear z10 z11 z12
  obtain ⟨u10, u11, u12⟩ := bx3 HA1.out
  obtain ⟨z10, z11, z12⟩ := bx3 X1.out
  go_wp2_with fail
  go_ret
  exact ⟨rfl, HB.out⟩
end Go.Proofs.Ytcenbbbghhmpfab.fnExactDocDigest
