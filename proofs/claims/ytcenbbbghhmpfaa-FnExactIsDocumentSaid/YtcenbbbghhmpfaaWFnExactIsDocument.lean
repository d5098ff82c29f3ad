/- The walk of the law FnExactIsDocument. -/
import Derived.Test.YtcenbbbghhmpfaaDk
import Derived.Test.YtcenbbbghhmpfaaSlDoc
import Derived.Deep.RegionHeld3
import Derived.OpenShut
namespace Go.Proofs.Ytcenbbbghhmpfaa.fnExactIsDocument
open Go.ChangeShapes Go.WideShapes Go.ChangeAt Go.RowKit Sl St Dm Dk
set_option maxRecDepth 100000 in
set_option maxHeartbeats 8000000 in
theorem walk {H : Type} {enc : TypeId × Value → H} (W : World) (base : Nat)
    (v0 : Value) (d0 : DataW H) (p0 : List MemPlace) (h0 : DataW.Trod enc Try.prog W 0 (fun _ => true) true 72 v0 d0 p0) (k0 : Value.okWide Try.prog W .any base 72 v0)
    (_hsz : (DataW.weightsEach Try.prog [72] [d0]).all (· ≤ reachBytes) = true) :
    Calls Try.prog 12 #[v0] W fun e w' => e = .returned (.bool true) ∧ Below W.heap.size W w' := by
  obtain ⟨t0, a0, n0, c0, b0, m0, e0, pl0, sl0, rfl, hr0, hs0, hz0, _⟩ := SlDoc.open_val h0 k0
  have HP0 := Lib.hid hr0
  have HQ0 := Lib.hid hs0
  have hn0 := hr0.len
  have hm0 := hs0.len
  clear h0 k0 hr0 hs0
  clear _hsz
  have hB := (Below.refl W.heap.size W).alloc (Nat.le_refl _) (.cells #[.int .i64 t0, .slice a0 n0 c0, .slice b0 m0 e0] 72)
  have hA0 := Bx.new W 72 #[.int .i64 t0, .slice a0 n0 c0, .slice b0 m0 e0]
  have HB := Lib.hid hB
  have HA0 := Lib.hid hA0
  clear hB hA0
  by_cases hf0 : SlDoc.fits pl0 sl0 (1048576)
  rotate_left
  · go_enter Try.func12, Try.ntmps12
    go_wp2_with fail
    refine (SlDoc.sz_bigL _ _ _ _ _ _ _ _ pl0 sl0 (1048576) rfl _ (HP0.out.below HB.out) (HQ0.out.below HB.out) hz0 (by omega) hf0).mono ?_
    rintro e w0 ⟨rfl, hb⟩
    replace HB := Lib.hid (below_on HB.out hb)
    clear hb
    go_wp2_with fail
    go_ret
    exact ⟨rfl, HB.out⟩
  obtain ⟨τ0, hτ0⟩ : ∃ τ, SlStr.tot pl0 = τ := ⟨_, rfl⟩
  have T0 := Lib.hid hτ0
  have g0 : n0 + τ0 + m0 ≤ 1048576 := by have h := hf0; unfold SlDoc.fits at h; omega
  clear hτ0
  go_enter Try.func12, Try.ntmps12
  go_wp2_with fail
  refine (SlDoc.sz_fitsL _ _ _ _ _ _ _ _ pl0 sl0 (1048576) rfl _ (HP0.out.below HB.out) (HQ0.out.below HB.out) hz0 (by omega) hf0).mono ?_
  rintro e w1 ⟨rfl, hb⟩
  rw [T0.out]
  replace HB := Lib.hid (below_on HB.out hb)
  replace HA0 := Lib.hid (HA0.out.below hb)
  clear hb
  obtain ⟨u00, u01, u02⟩ := bx3 HA0.out
  go_wp2_with fail
  refine (SlDoc.to_any _ _ _ _ _ _ _ pl0 sl0 _ (HP0.out.below HB.out) (HQ0.out.below HB.out) (by omega) (by omega)).mono ?_
  rintro e w2 ⟨ps0, ys0, cs0, qs0, zs0, ds0, mids0, rfl, hoP, hoQ, hb⟩
  replace HB := Lib.hid (below_on HB.out hb)
  replace HA0 := Lib.hid (HA0.out.below hb)
  have Ps0 := Lib.hid hoP
  have Qs0 := Lib.hid hoQ
  obtain rfl : n0 = ys0 := hn0.symm.trans hoP.len
  obtain rfl : m0 = zs0 := hm0.symm.trans hoQ.len
  clear u00 u01 u02
  clear hoP hoQ hb
  obtain ⟨u00, u01, u02⟩ := bx3 HA0.out
  go_wp2_with fail
  refine (spec_isDoc_any _ _ _ _ _ _ _ _ _ _ Ps0.out.rd Qs0.out.rd).mono ?_
  rintro e w3 ⟨rfl, hb⟩
  replace HB := Lib.hid (below_on HB.out hb)
  replace HA0 := Lib.hid (HA0.out.below hb)
  replace Ps0 := Lib.hid (Ps0.out.below hb)
  replace Qs0 := Lib.hid (Qs0.out.below hb)
  clear u00 u01 u02
  clear hb
  obtain ⟨u00, u01, u02⟩ := bx3 HA0.out
  clear Ps0
  clear Qs0
  go_wp2_with fail
  refine (SlDoc.to_any _ _ _ _ _ _ _ pl0 sl0 _ (HP0.out.below HB.out) (HQ0.out.below HB.out) (by omega) (by omega)).mono ?_
  rintro e w4 ⟨px0, yx0, cx0, qx0, zx0, dx0, midx0, rfl, hoP, hoQ, hb⟩
  replace HB := Lib.hid (below_on HB.out hb)
  replace HA0 := Lib.hid (HA0.out.below hb)
  have Px0 := Lib.hid hoP
  have Qx0 := Lib.hid hoQ
  obtain rfl : n0 = yx0 := hn0.symm.trans hoP.len
  obtain rfl : m0 = zx0 := hm0.symm.trans hoQ.len
  clear u00 u01 u02
  clear hoP hoQ hb
  obtain ⟨u00, u01, u02⟩ := bx3 HA0.out
  have X0 := Lib.hid (Bx.new w4 75 #[.int .i64 t0, .slice px0 n0 cx0, .slice qx0 m0 dx0])
  replace HB := Lib.hid (HB.out.alloc HB.out.size (.cells #[.int .i64 t0, .slice px0 n0 cx0, .slice qx0 m0 dx0] 75))
  replace HA0 := Lib.hid (HA0.out.alloc (.cells #[.int .i64 t0, .slice px0 n0 cx0, .slice qx0 m0 dx0] 75))
  replace Px0 := Lib.hid (Px0.out.alloc (.cells #[.int .i64 t0, .slice px0 n0 cx0, .slice qx0 m0 dx0] 75))
  replace Qx0 := Lib.hid (Qx0.out.alloc (.cells #[.int .i64 t0, .slice px0 n0 cx0, .slice qx0 m0 dx0] 75))
  clear u00 u01 u02
  obtain ⟨u00, u01, u02⟩ := bx3 HA0.out
  go_wp2_with fail
  refine (isDoc_any _ _ _ _ _ _ _ _ _ _ Px0.out.rd Qx0.out.rd).mono ?_
  rintro e w5 ⟨rfl, hb⟩
  replace HB := Lib.hid (below_on HB.out hb)
  replace HA0 := Lib.hid (HA0.out.below hb)
  replace Px0 := Lib.hid (Px0.out.below hb)
  replace Qx0 := Lib.hid (Qx0.out.below hb)
  replace X0 := Lib.hid (X0.out.below hb)
  clear u00 u01 u02
  clear hb
  obtain ⟨u00, u01, u02⟩ := bx3 HA0.out
  obtain ⟨z00, z01, z02⟩ := bx3 X0.out
  go_wp2_with fail
  go_region_held3 (fun w' => w'.cell? ⟨w4.heap.size, 0, none⟩ = some (.int .i64 t0) ∧ w'.cell? ⟨w4.heap.size, 1, none⟩ = some (.slice px0 n0 cx0) ∧ w'.cell? ⟨w4.heap.size, 2, none⟩ = some (.slice qx0 m0 dx0) ∧ w'.cell? ⟨W.heap.size, 0, none⟩ = some (.int .i64 t0) ∧ w'.cell? ⟨W.heap.size, 1, none⟩ = some (.slice a0 n0 c0) ∧ w'.cell? ⟨W.heap.size, 2, none⟩ = some (.slice b0 m0 e0)) (first | exact SlDoc.two3 X0r.out A0r.out | exact SlDoc.two3 X0.out HA0.out | go_keep) (first
    | (go_at_call 54; refine (SlDoc.to_any t0 _ _ _ _ _ _ pl0 sl0 _ (HP0.out.below (below_drewN HB.out 1)) (HQ0.out.below (below_drewN HB.out 1)) (by omega) (by omega)).mono ?_; rintro e v01 ⟨pr, yr, cr, qr, zr, dr, midr, rfl, hoP, hoQ, hb⟩; obtain rfl : n0 = yr := hn0.symm.trans hoP.len; obtain rfl : m0 = zr := hm0.symm.trans hoQ.len; have HBr := Lib.hid (below_on (below_drewN HB.out 1) hb); have Px0r := Lib.hid ((Px0.out.drewN 1).below hb); have Qx0r := Lib.hid ((Qx0.out.drewN 1).below hb); have X0r := Lib.hid ((X0.out.drewN 1).below hb); have A0r := Lib.hid ((HA0.out.drewN 1).below hb); have Pr := Lib.hid hoP; have Qr := Lib.hid hoQ; clear hoP hoQ hb)
    | (go_at_call 56; refine (SlDoc.eq_any t0 _ _ _ _ _ _ _ _ _ _ pl0 sl0 _ Px0r.out.rd Pr.out.rd Qx0r.out.rd Qr.out.rd).mono ?_; rintro e v02 ⟨rfl, hb⟩; replace HBr := Lib.hid (below_on HBr.out hb); replace Px0r := Lib.hid (Px0r.out.below hb); replace Qx0r := Lib.hid (Qx0r.out.below hb); replace X0r := Lib.hid (X0r.out.below hb); replace A0r := Lib.hid (A0r.out.below hb); clear hb Pr Qr))
  replace HB := Lib.hid HBr.out
  replace Px0 := Lib.hid Px0r.out
  replace Qx0 := Lib.hid Qx0r.out
  replace X0 := Lib.hid X0r.out
  replace HA0 := Lib.hid A0r.out
  clear HBr Px0r Qx0r X0r A0r
  clear u00 u01 u02
  clear z00 z01 z02
  obtain ⟨u00, u01, u02⟩ := bx3 HA0.out
  obtain ⟨z00, z01, z02⟩ := bx3 X0.out
  go_wp2_with fail
  go_ret
  exact ⟨rfl, HB.out⟩
end Go.Proofs.Ytcenbbbghhmpfaa.fnExactIsDocument
