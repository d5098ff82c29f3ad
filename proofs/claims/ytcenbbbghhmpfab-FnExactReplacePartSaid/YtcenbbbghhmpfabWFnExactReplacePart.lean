/- The walk of the law FnExactReplacePart. -/
import Derived.Test.YtcenbbbghhmpfabDl
import Derived.Test.YtcenbbbghhmpfabSlDoc
import Derived.ChangeMaps5
import Derived.Deep.RegionHeld3
import Derived.OpenShut
namespace Go.Proofs.Ytcenbbbghhmpfab.fnExactReplacePart
open Go.ChangeShapes Go.WideShapes Go.ChangeAt Go.RowKit Go.ChangeMaps Sl St Dm Dk SlDoc Mk Dt Dr Dl
theorem bx_two {w w' : World} {lo hi b : Nat} {T : TypeId} {cs : Array Value} (h : Bx w b T cs) (ht : Two lo hi w w') (hd : b < lo ∨ hi ≤ b) : Bx w' b T cs := by
  obtain ⟨_, _, _, g1, g2, h1, h2⟩ := ht
  exact (h.grown g1 (fun e => by have := h1 _ e.symm; omega)).grown g2 (fun e => by have := h2 _ e.symm; omega)
set_option maxRecDepth 100000 in
set_option maxHeartbeats 8000000 in
theorem walk {H : Type} {enc : TypeId × Value → H} (W : World) (base : Nat)
    (v0 : Value) (d0 : DataW H) (p0 : List MemPlace) (h0 : DataW.Trod enc Try.prog W 0 (fun _ => true) true 38 v0 d0 p0) (k0 : Value.okWide Try.prog W .any base 38 v0)
    (v1 : Value) (d1 : DataW H) (p1 : List MemPlace) (h1 : DataW.Trod enc Try.prog W 0 (fun _ => true) true 3 v1 d1 p1) (k1 : Value.okWide Try.prog W .any base 3 v1)
    (v2 : Value) (d2 : DataW H) (p2 : List MemPlace) (h2 : DataW.Trod enc Try.prog W 0 (fun _ => true) true 9 v2 d2 p2) (k2 : Value.okWide Try.prog W .any base 9 v2)
    (_hsz : (DataW.weightsEach Try.prog [38, 3, 9] [d0, d1, d2]).all (· ≤ reachBytes) = true) :
    Calls Try.prog 7 #[v0, v1, v2] W fun e w' => e = .returned (.bool true) ∧ Below W.heap.size W w' := by
  obtain ⟨t0, a0, n0, c0, b0, m0, e0, pl, sl, rfl, hr0, hs0, hz0, _⟩ := SlDoc.open_val h0 k0
  have HP := Lib.hid hr0
  have HQ := Lib.hid hs0
  have hn0 := hr0.len
  have hm0 := hs0.len
  obtain ⟨i1, rfl, _, _, wf1⟩ := open_int Try.underlying3 k1 h1
  obtain ⟨s2, rfl, _, _, hs2⟩ := open_string Try.underlying9 k2 h2
  clear h0 k0 h1 k1 h2 k2 hr0 hs0 _hsz wf1
  obtain ⟨⟨td, pd, sd⟩, hD⟩ : ∃ x, rpD (t0, pl, sl) i1 s2 = x := ⟨_, rfl⟩
  obtain ⟨β, hβ⟩ : ∃ x, rpB (t0, pl, sl) i1 s2 = x := ⟨_, rfl⟩
  by_cases hbig : 1048576 < s2.size
  · clear hD hβ
    go_enter Try.func7, Try.ntmps7
    go_wp2_with fail
    go_ret
    exact ⟨rfl, box1 W (.cells #[.int .i64 t0, .slice a0 n0 c0, .slice b0 m0 e0] 38)⟩
  have HB := Lib.hid (box1 W (.cells #[.int .i64 t0, .slice a0 n0 c0, .slice b0 m0 e0] 38))
  have A := Lib.hid (Bx.new W 38 #[.int .i64 t0, .slice a0 n0 c0, .slice b0 m0 e0])
  by_cases hf : SlDoc.fits pl sl 1048576
  rotate_left
  · clear hD hβ
    go_enter Try.func7, Try.ntmps7
    go_wp2_with fail
    refine (SlDoc.sz_bigL _ _ _ _ _ _ _ _ pl sl 1048576 rfl _ (HP.out.below HB.out) (HQ.out.below HB.out) hz0 (by omega) hf).mono ?_
    rintro e w0 ⟨rfl, hb⟩
    replace HB := Lib.hid (below_on HB.out hb)
    clear hb
    go_wp2_with fail
    go_ret
    exact ⟨rfl, HB.out⟩
  have hlim : n0 + SlStr.tot pl + m0 ≤ 1048576 := by have h := hf; unfold SlDoc.fits at h; omega
  have hpd : pd.length ≤ 1048576 ∧ sd.length ≤ 1048576 := by
    have h1 : pd = (rpD (t0, pl, sl) i1 s2).2.1 := by rw [hD]
    have h2 : sd = (rpD (t0, pl, sl) i1 s2).2.2 := by rw [hD]
    unfold rpD at h1 h2
    split at h1
    · rw [if_pos (by assumption)] at h2; rw [h1, h2]; simp only [List.length_set]; omega
    · rw [if_neg (by assumption)] at h2; rw [h1, h2]; simp only; omega
  have SP : Hid (∀ (p : Option Addr) (c : Nat) (q : Option Addr) (d : Nat) (w : World), RdS SlStr.E w p n0 pl → Rd .i64 w q m0 sl → Calls Try.prog 34 #[.agg #[.int .i64 t0, .slice p n0 c, .slice q m0 d], .int .i64 i1, .string s2] w (GivesDB (td, pd, sd) β w)) := Lib.hid fun p c q d w h1 h2 => by
    have h := spec_rep_any (Lib.hid l6copy_any) t0 p n0 c q m0 d pl sl i1 s2 w h1 h2 (by omega) (by omega)
    rw [hD, hβ] at h
    exact h
  have IM : Hid (∀ (p : Option Addr) (c : Nat) (q : Option Addr) (d : Nat) (w : World), RdS SlStr.E w p n0 pl → Rd .i64 w q m0 sl → Calls Try.prog 16 #[.agg #[.int .i64 t0, .slice p n0 c, .slice q m0 d], .int .i64 i1, .string s2] w (GivesDB (td, pd, sd) β w)) := Lib.hid fun p c q d w h1 h2 => by
    have h := rep_any t0 p n0 c q m0 d pl sl i1 s2 w h1 h2 (by omega) (by omega)
    rw [hD, hβ] at h
    exact h
  obtain ⟨hpd, hsd⟩ := hpd
  obtain ⟨N, hN⟩ : ∃ N, pd.length = N := ⟨_, rfl⟩
  obtain ⟨M, hM⟩ : ∃ N, sd.length = N := ⟨_, rfl⟩
  have HN := Lib.hid hN
  have HM := Lib.hid hM
  rw [hN] at hpd
  rw [hM] at hsd
  clear hN hM
  clear hD hβ
  obtain ⟨τ, hτ⟩ : ∃ τ, SlStr.tot pl = τ := ⟨_, rfl⟩
  have HT := Lib.hid hτ
  rw [hτ] at hlim
  clear hτ
  go_enter Try.func7, Try.ntmps7
  obtain ⟨uA0, uA1, uA2⟩ := bx3 A.out
  go_wp2_with fail
  refine (SlDoc.sz_fitsL _ _ _ _ _ _ _ _ pl sl 1048576 rfl _ (HP.out.below HB.out) (HQ.out.below HB.out) hz0 (by omega) hf).mono ?_
  rintro e w1 ⟨rfl, hb⟩
  have hsw1 := hb.size
  rw [World.size_alloc] at hsw1
  replace HB := Lib.hid (below_on HB.out hb)
  replace A := Lib.hid (A.out.below hb)
  clear hb
  rw [HT.out]
  clear uA0 uA1 uA2
  obtain ⟨uA0, uA1, uA2⟩ := bx3 A.out
  go_wp2_with fail
  refine (toD_any t0 _ _ _ _ _ _ pl sl _ (HP.out.below HB.out) (HQ.out.below HB.out) (by omega) (by omega)).mono ?_
  rintro e w2 ⟨ps, ys, cs, qs, zs, ds, rfl, ho, hb⟩
  have hsw2 := hb.size
  replace HB := Lib.hid (below_on HB.out hb)
  replace A := Lib.hid (A.out.below hb)
  obtain rfl : n0 = ys := hn0.symm.trans ho.2.1.len
  obtain rfl : m0 = zs := hm0.symm.trans ho.2.2.len
  have Os := Lib.hid ho
  clear ho
  clear hb
  clear uA0 uA1 uA2
  obtain ⟨uA0, uA1, uA2⟩ := bx3 A.out
  go_wp2_with fail
  refine (SP.out ps cs qs ds _ Os.out.rdS Os.out.rdI).mono ?_
  rintro e w3 ⟨pr, yr, cr, qr, zr, dr, rfl, ho, hb⟩
  have hsw3 := hb.size
  replace HB := Lib.hid (below_on HB.out hb)
  replace A := Lib.hid (A.out.below hb)
  replace Os := Lib.hid (Os.out.below hb)
  obtain rfl : N = yr := HN.out.symm.trans ho.2.1.len
  obtain rfl : M = zr := HM.out.symm.trans ho.2.2.len
  have Or := Lib.hid ho
  clear ho
  clear hb
  clear uA0 uA1 uA2
  have XrN := Lib.hid (Bx.new w3 27 #[.int .i64 td, .slice pr N cr, .slice qr M dr])
  replace HB := Lib.hid (HB.out.alloc HB.out.size (.cells #[.int .i64 td, .slice pr N cr, .slice qr M dr] 27))
  replace A := Lib.hid (A.out.alloc (.cells #[.int .i64 td, .slice pr N cr, .slice qr M dr] 27))
  replace Os := Lib.hid (Os.out.below (box1 w3 (.cells #[.int .i64 td, .slice pr N cr, .slice qr M dr] 27)))
  replace Or := Lib.hid (Or.out.below (box1 w3 (.cells #[.int .i64 td, .slice pr N cr, .slice qr M dr] 27)))
  have Xr := XrN
  clear XrN
  clear Os
  obtain ⟨uA0, uA1, uA2⟩ := bx3 A.out
  obtain ⟨uXr0, uXr1, uXr2⟩ := bx3 Xr.out
  go_wp2_with fail
  refine (toD_any t0 _ _ _ _ _ _ pl sl _ (HP.out.below HB.out) (HQ.out.below HB.out) (by omega) (by omega)).mono ?_
  rintro e w4 ⟨px, yx, cx, qx, zx, dx, rfl, ho, hb⟩
  have hsw4 := hb.size
  rw [World.size_alloc] at hsw4
  rw [World.size_alloc] at ho
  replace HB := Lib.hid (below_on HB.out hb)
  replace A := Lib.hid (A.out.below hb)
  replace Or := Lib.hid (Or.out.below hb)
  replace Xr := Lib.hid (Xr.out.below hb)
  obtain rfl : n0 = yx := hn0.symm.trans ho.2.1.len
  obtain rfl : m0 = zx := hm0.symm.trans ho.2.2.len
  have Ox := Lib.hid ho
  clear ho
  clear hb
  clear uA0 uA1 uA2 uXr0 uXr1 uXr2
  have XxN := Lib.hid (Bx.new w4 27 #[.int .i64 t0, .slice px n0 cx, .slice qx m0 dx])
  replace HB := Lib.hid (HB.out.alloc HB.out.size (.cells #[.int .i64 t0, .slice px n0 cx, .slice qx m0 dx] 27))
  replace A := Lib.hid (A.out.alloc (.cells #[.int .i64 t0, .slice px n0 cx, .slice qx m0 dx] 27))
  replace Or := Lib.hid (Or.out.below (box1 w4 (.cells #[.int .i64 t0, .slice px n0 cx, .slice qx m0 dx] 27)))
  replace Xr := Lib.hid (Xr.out.alloc (.cells #[.int .i64 t0, .slice px n0 cx, .slice qx m0 dx] 27))
  replace Ox := Lib.hid (Ox.out.below (box1 w4 (.cells #[.int .i64 t0, .slice px n0 cx, .slice qx m0 dx] 27)))
  have Xx := XxN
  clear XxN
  obtain ⟨uA0, uA1, uA2⟩ := bx3 A.out
  obtain ⟨uXr0, uXr1, uXr2⟩ := bx3 Xr.out
  obtain ⟨uXx0, uXx1, uXx2⟩ := bx3 Xx.out
  go_wp2_with fail
  refine (IM.out px cx qx dx _ Ox.out.rdS Ox.out.rdI).mono ?_
  rintro e w5 ⟨pg, yg, cg, qg, zg, dg, rfl, ho, hb⟩
  have hsw5 := hb.size
  rw [World.size_alloc] at hsw5
  rw [World.size_alloc] at ho
  replace HB := Lib.hid (below_on HB.out hb)
  replace A := Lib.hid (A.out.below hb)
  replace Or := Lib.hid (Or.out.below hb)
  replace Xr := Lib.hid (Xr.out.below hb)
  replace Ox := Lib.hid (Ox.out.below hb)
  replace Xx := Lib.hid (Xx.out.below hb)
  obtain rfl : N = yg := HN.out.symm.trans ho.2.1.len
  obtain rfl : M = zg := HM.out.symm.trans ho.2.2.len
  have Og := Lib.hid ho
  clear ho
  clear hb
  clear uA0 uA1 uA2 uXr0 uXr1 uXr2 uXx0 uXx1 uXx2
  have XgN := Lib.hid (Bx.new w5 27 #[.int .i64 td, .slice pg N cg, .slice qg M dg])
  replace HB := Lib.hid (HB.out.alloc HB.out.size (.cells #[.int .i64 td, .slice pg N cg, .slice qg M dg] 27))
  replace A := Lib.hid (A.out.alloc (.cells #[.int .i64 td, .slice pg N cg, .slice qg M dg] 27))
  replace Or := Lib.hid (Or.out.below (box1 w5 (.cells #[.int .i64 td, .slice pg N cg, .slice qg M dg] 27)))
  replace Xr := Lib.hid (Xr.out.alloc (.cells #[.int .i64 td, .slice pg N cg, .slice qg M dg] 27))
  replace Ox := Lib.hid (Ox.out.below (box1 w5 (.cells #[.int .i64 td, .slice pg N cg, .slice qg M dg] 27)))
  replace Xx := Lib.hid (Xx.out.alloc (.cells #[.int .i64 td, .slice pg N cg, .slice qg M dg] 27))
  replace Og := Lib.hid (Og.out.below (box1 w5 (.cells #[.int .i64 td, .slice pg N cg, .slice qg M dg] 27)))
  have Xg := XgN
  clear XgN
  obtain ⟨uA0, uA1, uA2⟩ := bx3 A.out
  obtain ⟨uXr0, uXr1, uXr2⟩ := bx3 Xr.out
  obtain ⟨uXx0, uXx1, uXx2⟩ := bx3 Xx.out
  obtain ⟨uXg0, uXg1, uXg2⟩ := bx3 Xg.out
  go_wp2_with fail
  refine (SlDoc.eq_any td _ _ _ _ _ _ _ _ _ _ pd sd _ Og.out.rdS Or.out.rdS Og.out.rdI Or.out.rdI).mono ?_
  rintro e w6 ⟨rfl, hb⟩
  have hsw6 := hb.size
  rw [World.size_alloc] at hsw6
  replace HB := Lib.hid (below_on HB.out hb)
  replace A := Lib.hid (A.out.below hb)
  replace Or := Lib.hid (Or.out.below hb)
  replace Xr := Lib.hid (Xr.out.below hb)
  replace Ox := Lib.hid (Ox.out.below hb)
  replace Xx := Lib.hid (Xx.out.below hb)
  replace Og := Lib.hid (Og.out.below hb)
  replace Xg := Lib.hid (Xg.out.below hb)
  clear hb
  clear uA0 uA1 uA2 uXr0 uXr1 uXr2 uXx0 uXx1 uXx2 uXg0 uXg1 uXg2
  have K0 : Hid (Below w6.heap.size w6 w6.drew) := Lib.hid (below_drewN (Below.refl _ _) 1)
  obtain ⟨uXx0, uXx1, uXx2⟩ := bx3 Xx.out
  obtain ⟨uA0, uA1, uA2⟩ := bx3 A.out
  go_wp2_with fail
  go_region_held3 (fun w' => w'.cell? ⟨w4.heap.size, 0, none⟩ = some (.int .i64 t0) ∧ w'.cell? ⟨w4.heap.size, 1, none⟩ = some (.slice px n0 cx) ∧ w'.cell? ⟨w4.heap.size, 2, none⟩ = some (.slice qx m0 dx) ∧ w'.cell? ⟨W.heap.size, 0, none⟩ = some (.int .i64 t0) ∧ w'.cell? ⟨W.heap.size, 1, none⟩ = some (.slice a0 n0 c0) ∧ w'.cell? ⟨W.heap.size, 2, none⟩ = some (.slice b0 m0 e0)) (first | exact SlDoc.two3 (Xx.out.below K2.out) (A.out.below K2.out) | exact SlDoc.two3 (Xx.out.below K1.out) (A.out.below K1.out) | exact SlDoc.two3 (Xx.out.below K0.out) (A.out.below K0.out) | go_keep) (first
    | (go_at_call 24; refine (toD_any t0 _ _ _ _ _ _ pl sl _ (HP.out.below (below_on HB.out K0.out)) (HQ.out.below (below_on HB.out K0.out)) (by omega) (by omega)).mono ?_; rintro e v1 ⟨pe, ye, ce, qe, ze, de, rfl, ho, hb⟩; obtain rfl : n0 = ye := hn0.symm.trans ho.2.1.len; obtain rfl : m0 = ze := hm0.symm.trans ho.2.2.len; have K1 := Lib.hid (below_on K0.out hb); have Pe := Lib.hid ho.rdS; have Qe := Lib.hid ho.rdI; clear ho hb)
    | (go_at_call 25; refine (SlDoc.eq_any t0 _ _ _ _ _ _ _ _ _ _ pl sl _ (Ox.out.below K1.out).rdS Pe.out (Ox.out.below K1.out).rdI Qe.out).mono ?_; rintro e v2 ⟨rfl, hb⟩; have K2 := Lib.hid (below_on K1.out hb); clear hb))
  clear uXx0 uXx1 uXx2 uA0 uA1 uA2
  have hb := K2.out
  have hsv2 := hb.size
  replace HB := Lib.hid (below_on HB.out hb)
  replace A := Lib.hid (A.out.below hb)
  replace Or := Lib.hid (Or.out.below hb)
  replace Xr := Lib.hid (Xr.out.below hb)
  replace Ox := Lib.hid (Ox.out.below hb)
  replace Xx := Lib.hid (Xx.out.below hb)
  replace Og := Lib.hid (Og.out.below hb)
  replace Xg := Lib.hid (Xg.out.below hb)
  clear hb K0 K1 K2
  obtain ⟨uA0, uA1, uA2⟩ := bx3 A.out
  obtain ⟨uXr0, uXr1, uXr2⟩ := bx3 Xr.out
  obtain ⟨uXx0, uXx1, uXx2⟩ := bx3 Xx.out
  obtain ⟨uXg0, uXg1, uXg2⟩ := bx3 Xg.out
  go_wp2_with fail
  refine (markD_any _ _ t0 _ _ _ _ _ _ pl sl 1 _ Ox.out (Nat.le_refl _) (by omega)).mono ?_
  rintro e w7 ⟨rfl, ho, ht⟩
  have hsw7 := ht.size
  replace HB := Lib.hid (ht.below HB.out HB.out.size (by omega))
  replace A := Lib.hid (bx_two A.out ht (by omega))
  replace Or := Lib.hid (Or.out.two ht (by omega))
  replace Xr := Lib.hid (bx_two Xr.out ht (by omega))
  replace Xx := Lib.hid (bx_two Xx.out ht (by omega))
  replace Og := Lib.hid (Og.out.two ht (by omega))
  replace Xg := Lib.hid (bx_two Xg.out ht (by omega))
  replace Ox := Lib.hid ho
  clear ho ht
  clear uA0 uA1 uA2 uXr0 uXr1 uXr2 uXx0 uXx1 uXx2 uXg0 uXg1 uXg2
  clear Ox
  clear Xx
  obtain ⟨uA0, uA1, uA2⟩ := bx3 A.out
  obtain ⟨uXr0, uXr1, uXr2⟩ := bx3 Xr.out
  obtain ⟨uXg0, uXg1, uXg2⟩ := bx3 Xg.out
  go_wp2_with fail
  refine (SlDoc.eq_any td _ _ _ _ _ _ _ _ _ _ pd sd _ Og.out.rdS Or.out.rdS Og.out.rdI Or.out.rdI).mono ?_
  rintro e w8 ⟨rfl, hb⟩
  have hsw8 := hb.size
  replace HB := Lib.hid (below_on HB.out hb)
  replace A := Lib.hid (A.out.below hb)
  replace Or := Lib.hid (Or.out.below hb)
  replace Xr := Lib.hid (Xr.out.below hb)
  replace Og := Lib.hid (Og.out.below hb)
  replace Xg := Lib.hid (Xg.out.below hb)
  clear hb
  clear uA0 uA1 uA2 uXr0 uXr1 uXr2 uXg0 uXg1 uXg2
  obtain ⟨uA0, uA1, uA2⟩ := bx3 A.out
  obtain ⟨uXr0, uXr1, uXr2⟩ := bx3 Xr.out
  obtain ⟨uXg0, uXg1, uXg2⟩ := bx3 Xg.out
  go_wp2_with fail
  refine (markD_any _ _ td _ _ _ _ _ _ pd sd 1 _ Og.out (Nat.le_refl _) (by omega)).mono ?_
  rintro e w9 ⟨rfl, ho, ht⟩
  have hsw9 := ht.size
  replace HB := Lib.hid (ht.below HB.out HB.out.size (by omega))
  replace A := Lib.hid (bx_two A.out ht (by omega))
  replace Or := Lib.hid (Or.out.two ht (by omega))
  replace Xr := Lib.hid (bx_two Xr.out ht (by omega))
  replace Xg := Lib.hid (bx_two Xg.out ht (by omega))
  replace Og := Lib.hid ho
  clear ho ht
  clear uA0 uA1 uA2 uXr0 uXr1 uXr2 uXg0 uXg1 uXg2
  obtain ⟨uA0, uA1, uA2⟩ := bx3 A.out
  obtain ⟨uXr0, uXr1, uXr2⟩ := bx3 Xr.out
  obtain ⟨uXg0, uXg1, uXg2⟩ := bx3 Xg.out
  go_wp2_with fail
  refine (heldD_any td _ _ _ _ _ _ 1 _ Og.out.rdS Og.out.rdI (Nat.le_refl _) (by omega)).mono ?_
  rintro e w10 ⟨rfl, hb⟩
  have hsw10 := hb.size
  replace HB := Lib.hid (below_on HB.out hb)
  replace A := Lib.hid (A.out.below hb)
  replace Or := Lib.hid (Or.out.below hb)
  replace Xr := Lib.hid (Xr.out.below hb)
  replace Og := Lib.hid (Og.out.below hb)
  replace Xg := Lib.hid (Xg.out.below hb)
  clear hb
  clear uA0 uA1 uA2 uXr0 uXr1 uXr2 uXg0 uXg1 uXg2
  obtain ⟨uA0, uA1, uA2⟩ := bx3 A.out
  obtain ⟨uXr0, uXr1, uXr2⟩ := bx3 Xr.out
  obtain ⟨uXg0, uXg1, uXg2⟩ := bx3 Xg.out
  go_wp2_with fail
  refine (toD_any t0 _ _ _ _ _ _ pl sl _ (HP.out.below HB.out) (HQ.out.below HB.out) (by omega) (by omega)).mono ?_
  rintro e w11 ⟨ph, yh, ch, qh, zh, dh, rfl, ho, hb⟩
  have hsw11 := hb.size
  replace HB := Lib.hid (below_on HB.out hb)
  replace A := Lib.hid (A.out.below hb)
  replace Or := Lib.hid (Or.out.below hb)
  replace Xr := Lib.hid (Xr.out.below hb)
  replace Og := Lib.hid (Og.out.below hb)
  replace Xg := Lib.hid (Xg.out.below hb)
  obtain rfl : n0 = yh := hn0.symm.trans ho.2.1.len
  obtain rfl : m0 = zh := hm0.symm.trans ho.2.2.len
  have Oh := Lib.hid ho
  clear ho
  clear hb
  clear uA0 uA1 uA2 uXr0 uXr1 uXr2 uXg0 uXg1 uXg2
  obtain ⟨uA0, uA1, uA2⟩ := bx3 A.out
  obtain ⟨uXr0, uXr1, uXr2⟩ := bx3 Xr.out
  obtain ⟨uXg0, uXg1, uXg2⟩ := bx3 Xg.out
  go_wp2_with fail
  refine (IM.out ph ch qh dh _ Oh.out.rdS Oh.out.rdI).mono ?_
  rintro e w12 ⟨pk, yk, ck, qk, zk, dk, rfl, ho, hb⟩
  have hsw12 := hb.size
  replace HB := Lib.hid (below_on HB.out hb)
  replace A := Lib.hid (A.out.below hb)
  replace Or := Lib.hid (Or.out.below hb)
  replace Xr := Lib.hid (Xr.out.below hb)
  replace Og := Lib.hid (Og.out.below hb)
  replace Xg := Lib.hid (Xg.out.below hb)
  replace Oh := Lib.hid (Oh.out.below hb)
  obtain rfl : N = yk := HN.out.symm.trans ho.2.1.len
  obtain rfl : M = zk := HM.out.symm.trans ho.2.2.len
  have Ok := Lib.hid ho
  clear ho
  clear hb
  clear uA0 uA1 uA2 uXr0 uXr1 uXr2 uXg0 uXg1 uXg2
  have XkN := Lib.hid (Bx.new w12 27 #[.int .i64 td, .slice pk N ck, .slice qk M dk])
  replace HB := Lib.hid (HB.out.alloc HB.out.size (.cells #[.int .i64 td, .slice pk N ck, .slice qk M dk] 27))
  replace A := Lib.hid (A.out.alloc (.cells #[.int .i64 td, .slice pk N ck, .slice qk M dk] 27))
  replace Or := Lib.hid (Or.out.below (box1 w12 (.cells #[.int .i64 td, .slice pk N ck, .slice qk M dk] 27)))
  replace Xr := Lib.hid (Xr.out.alloc (.cells #[.int .i64 td, .slice pk N ck, .slice qk M dk] 27))
  replace Og := Lib.hid (Og.out.below (box1 w12 (.cells #[.int .i64 td, .slice pk N ck, .slice qk M dk] 27)))
  replace Xg := Lib.hid (Xg.out.alloc (.cells #[.int .i64 td, .slice pk N ck, .slice qk M dk] 27))
  replace Oh := Lib.hid (Oh.out.below (box1 w12 (.cells #[.int .i64 td, .slice pk N ck, .slice qk M dk] 27)))
  replace Ok := Lib.hid (Ok.out.below (box1 w12 (.cells #[.int .i64 td, .slice pk N ck, .slice qk M dk] 27)))
  have Xk := XkN
  clear XkN
  clear Oh
  obtain ⟨uA0, uA1, uA2⟩ := bx3 A.out
  obtain ⟨uXr0, uXr1, uXr2⟩ := bx3 Xr.out
  obtain ⟨uXg0, uXg1, uXg2⟩ := bx3 Xg.out
  obtain ⟨uXk0, uXk1, uXk2⟩ := bx3 Xk.out
  go_wp2_with fail
  refine (SlDoc.eq_any td _ _ _ _ _ _ _ _ _ _ pd sd _ Ok.out.rdS Or.out.rdS Ok.out.rdI Or.out.rdI).mono ?_
  rintro e w13 ⟨rfl, hb⟩
  have hsw13 := hb.size
  rw [World.size_alloc] at hsw13
  replace HB := Lib.hid (below_on HB.out hb)
  replace A := Lib.hid (A.out.below hb)
  replace Or := Lib.hid (Or.out.below hb)
  replace Xr := Lib.hid (Xr.out.below hb)
  replace Og := Lib.hid (Og.out.below hb)
  replace Xg := Lib.hid (Xg.out.below hb)
  replace Ok := Lib.hid (Ok.out.below hb)
  replace Xk := Lib.hid (Xk.out.below hb)
  clear hb
  clear uA0 uA1 uA2 uXr0 uXr1 uXr2 uXg0 uXg1 uXg2 uXk0 uXk1 uXk2
  obtain ⟨uA0, uA1, uA2⟩ := bx3 A.out
  obtain ⟨uXr0, uXr1, uXr2⟩ := bx3 Xr.out
  obtain ⟨uXg0, uXg1, uXg2⟩ := bx3 Xg.out
  obtain ⟨uXk0, uXk1, uXk2⟩ := bx3 Xk.out
  go_wp2_with fail
  refine (heldD_any td _ _ _ _ _ _ 1 _ Og.out.rdS Og.out.rdI (Nat.le_refl _) (by omega)).mono ?_
  rintro e w14 ⟨rfl, hb⟩
  have hsw14 := hb.size
  replace HB := Lib.hid (below_on HB.out hb)
  replace A := Lib.hid (A.out.below hb)
  replace Or := Lib.hid (Or.out.below hb)
  replace Xr := Lib.hid (Xr.out.below hb)
  replace Og := Lib.hid (Og.out.below hb)
  replace Xg := Lib.hid (Xg.out.below hb)
  replace Ok := Lib.hid (Ok.out.below hb)
  replace Xk := Lib.hid (Xk.out.below hb)
  clear hb
  clear uA0 uA1 uA2 uXr0 uXr1 uXr2 uXg0 uXg1 uXg2 uXk0 uXk1 uXk2
  obtain ⟨uXg0, uXg1, uXg2⟩ := bx3 Xg.out
  go_wp2_with fail
  go_ret
  exact ⟨rfl, HB.out⟩
end Go.Proofs.Ytcenbbbghhmpfab.fnExactReplacePart
