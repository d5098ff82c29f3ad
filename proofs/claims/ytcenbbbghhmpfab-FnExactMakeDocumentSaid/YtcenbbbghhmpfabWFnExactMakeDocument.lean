/- The walk of the law FnExactMakeDocument. -/
import Derived.Test.YtcenbbbghhmpfabDo
import Derived.Test.YtcenbbbghhmpfabSlDoc
import Derived.ChangeMaps5
import Derived.Deep.RegionHeld3
import Derived.OpenShut
namespace Go.Proofs.Ytcenbbbghhmpfab.fnExactMakeDocument
open Go.ChangeShapes Go.WideShapes Go.ChangeAt Go.RowKit Go.ChangeMaps Sl St Dm Dk SlDoc Mk Dt Dr Ints Hs Dn Do
theorem bx_two {w w' : World} {lo hi b : Nat} {T : TypeId} {cs : Array Value} (h : Bx w b T cs) (ht : Two lo hi w w') (hd : b < lo ∨ hi ≤ b) : Bx w' b T cs := by
  obtain ⟨_, _, _, g1, g2, h1, h2⟩ := ht
  exact (h.grown g1 (fun e => by have := h1 _ e.symm; omega)).grown g2 (fun e => by have := h2 _ e.symm; omega)
set_option maxRecDepth 100000 in
theorem open_arg {H : Type} {enc : TypeId × Value → H} {W : World} {base : Nat} {v : Value} {d : DataW H} {pl : List MemPlace} (h : DataW.Trod enc Try.prog W 0 (fun _ => true) true 24 v d pl) (hk : Value.okWide Try.prog W .any base 24 v) :
    ∃ p n c xs, v = .slice p n c ∧ RdS SlStr.E W p n xs ∧ ∀ s ∈ xs, s.size ≤ 9223372036854775807 := by
  obtain ⟨a1, len, cap, rfl⟩ := okWide_slice Try.underlying24 hk
  obtain ⟨fuel, hf⟩ := h
  obtain ⟨p, n, c, xs, e, hr, hs⟩ := SlStr.open_cells hf
  simp only [Value.cells, List.cons.injEq, Value.slice.injEq, and_true] at e
  obtain ⟨rfl, rfl, rfl⟩ := e
  exact ⟨_, _, _, xs, rfl, hr, hs⟩
set_option maxRecDepth 100000 in
set_option maxHeartbeats 8000000 in
theorem walk {H : Type} {enc : TypeId × Value → H} (W : World) (base : Nat)
    (v0 : Value) (d0 : DataW H) (p0 : List MemPlace) (h0 : DataW.Trod enc Try.prog W 0 (fun _ => true) true 3 v0 d0 p0) (k0 : Value.okWide Try.prog W .any base 3 v0)
    (v1 : Value) (d1 : DataW H) (p1 : List MemPlace) (h1 : DataW.Trod enc Try.prog W 0 (fun _ => true) true 24 v1 d1 p1) (k1 : Value.okWide Try.prog W .any base 24 v1)
    (v2 : Value) (d2 : DataW H) (p2 : List MemPlace) (h2 : DataW.Trod enc Try.prog W 0 (fun _ => true) true 3 v2 d2 p2) (k2 : Value.okWide Try.prog W .any base 3 v2)
    (_hsz : (DataW.weightsEach Try.prog [3, 24, 3] [d0, d1, d2]).all (· ≤ reachBytes) = true) :
    Calls Try.prog 5 #[v0, v1, v2] W fun e w' => e = .returned (.bool true) ∧ Below W.heap.size W w' := by
  obtain ⟨t0, rfl, _, _, wf0⟩ := open_int Try.underlying3 k0 h0
  obtain ⟨a0, n0, c0, pl, rfl, hr0, hz0⟩ := open_arg h1 k1
  obtain ⟨i1, rfl, _, _, wf2⟩ := open_int Try.underlying3 k2 h2
  have HP := Lib.hid hr0
  have hn0 := hr0.len
  have HT0 : Hid (inK .i64 t0) := Lib.hid (bounds_i64 wf0)
  have HI1 : Hid (inK .i64 i1) := Lib.hid (bounds_i64 wf2)
  clear h0 k0 h1 k1 h2 k2 hr0 _hsz wf0 wf2
  obtain ⟨⟨td, pd, sd⟩, hD⟩ : ∃ x, mkD t0 i1 pl = x := ⟨_, rfl⟩
  obtain ⟨β, hβ⟩ : ∃ x, mkB t0 i1 pl = x := ⟨_, rfl⟩
  have HB := Lib.hid (Below.refl W.heap.size W)
  have hszI : SlStr.szI pl 1048576 = if n0 + SlStr.tot pl ≤ 1048576 then ((1048576 : Nat) : Int) - n0 - SlStr.tot pl else -1 := by rw [← hn0]; rfl
  by_cases hf : n0 + SlStr.tot pl ≤ 1048576
  rotate_left
  · rw [if_neg hf] at hszI
    have HS := Lib.hid hszI
    clear hD hβ hszI
    go_enter Try.func5, Try.ntmps5
    go_wp2_with fail
    refine (SlStr.sz_any _ _ _ pl 1048576 _ HP.out hz0 (by omega)).mono ?_
    rintro e w0 ⟨rfl, rfl⟩
    rw [HS.out]
    go_wp2_with fail
    go_ret
    exact ⟨rfl, HB.out⟩
  rw [if_pos hf] at hszI
  have HS := Lib.hid hszI
  have hpd : pd.length ≤ 1048576 ∧ sd.length ≤ 1048576 := by
    have h1 : pd = (mkD t0 i1 pl).2.1 := by rw [hD]
    have h2 : sd = (mkD t0 i1 pl).2.2 := by rw [hD]
    unfold mkD at h1 h2
    split at h1
    · rw [if_pos (by assumption)] at h2; rw [h1, h2]; simp only [salts_len]; omega
    · rw [if_neg (by assumption)] at h2; rw [h1, h2]; simp
  have SP : Hid (∀ (p : Option Addr) (c : Nat) (w : World), RdS SlStr.E w p n0 pl → Calls Try.prog 27 #[.int .i64 t0, .slice p n0 c, .int .i64 i1] w (GivesDB (td, pd, sd) β w)) := Lib.hid fun p c w h1 => by
    have h := spec_mk_any t0 p n0 c pl i1 w h1 (by omega) HT0.out HI1.out
    rw [hD, hβ] at h
    exact h
  have IM : Hid (∀ (p : Option Addr) (c : Nat) (w : World), RdS SlStr.E w p n0 pl → Calls Try.prog 18 #[.int .i64 t0, .slice p n0 c, .int .i64 i1] w (GivesDB (td, pd, sd) β w)) := Lib.hid fun p c w h1 => by
    have h := mk_any t0 p n0 c pl i1 w h1 (by omega) HT0.out
    rw [hD, hβ] at h
    exact h
  obtain ⟨hpd, hsd⟩ := hpd
  obtain ⟨N, hN⟩ : ∃ N, pd.length = N := ⟨_, rfl⟩
  obtain ⟨M, hM⟩ : ∃ N, sd.length = N := ⟨_, rfl⟩
  have HN := Lib.hid hN
  have HM := Lib.hid hM
  rw [hN] at hpd
  rw [hM] at hsd
  clear hN hM
  clear hD hβ hszI
  obtain ⟨τ, hτ⟩ : ∃ τ, SlStr.tot pl = τ := ⟨_, rfl⟩
  rw [hτ] at HS hf
  clear hτ
  go_enter Try.func5, Try.ntmps5
  go_wp2_with fail
  refine (SlStr.sz_any _ _ _ pl 1048576 _ HP.out hz0 (by omega)).mono ?_
  rintro e w0 ⟨rfl, rfl⟩
  rw [HS.out]
  go_wp2_with fail
  refine (SlStr.to_any _ _ _ pl _ (HP.out.below HB.out) (by omega)).mono ?_
  rintro e w1 ⟨ps, ys, cs, rfl, ho, hb⟩
  have hsw1 := hb.size
  replace HB := Lib.hid (below_on HB.out hb)
  obtain rfl : n0 = ys := hn0.symm.trans ho.len
  have Os := Lib.hid ho
  clear ho
  clear hb
  go_wp2_with fail
  refine (SP.out ps cs _ Os.out.rd).mono ?_
  rintro e w2 ⟨pr, yr, cr, qr, zr, dr, rfl, ho, hb⟩
  have hsw2 := hb.size
  replace HB := Lib.hid (below_on HB.out hb)
  replace Os := Lib.hid (Os.out.below hb)
  obtain rfl : N = yr := HN.out.symm.trans ho.2.1.len
  obtain rfl : M = zr := HM.out.symm.trans ho.2.2.len
  have Or := Lib.hid ho
  clear ho
  clear hb
  have XrN := Lib.hid (Bx.new w2 27 #[.int .i64 td, .slice pr N cr, .slice qr M dr])
  replace HB := Lib.hid (HB.out.alloc HB.out.size (.cells #[.int .i64 td, .slice pr N cr, .slice qr M dr] 27))
  replace Os := Lib.hid (Os.out.below (box1 w2 (.cells #[.int .i64 td, .slice pr N cr, .slice qr M dr] 27)))
  replace Or := Lib.hid (Or.out.below (box1 w2 (.cells #[.int .i64 td, .slice pr N cr, .slice qr M dr] 27)))
  have Xr := XrN
  clear XrN
  clear Os
  obtain ⟨uXr0, uXr1, uXr2⟩ := bx3 Xr.out
  go_wp2_with fail
  refine (SlStr.to_any _ _ _ pl _ (HP.out.below HB.out) (by omega)).mono ?_
  rintro e w3 ⟨px, yx, cx, rfl, ho, hb⟩
  have hsw3 := hb.size
  rw [World.size_alloc] at hsw3
  rw [World.size_alloc] at ho
  replace HB := Lib.hid (below_on HB.out hb)
  replace Or := Lib.hid (Or.out.below hb)
  replace Xr := Lib.hid (Xr.out.below hb)
  obtain rfl : n0 = yx := hn0.symm.trans ho.len
  have Ox := Lib.hid ho
  clear ho
  clear hb
  clear uXr0 uXr1 uXr2
  obtain ⟨uXr0, uXr1, uXr2⟩ := bx3 Xr.out
  go_wp2_with fail
  refine (IM.out px cx _ Ox.out.rd).mono ?_
  rintro e w4 ⟨pg, yg, cg, qg, zg, dg, rfl, ho, hb⟩
  have hsw4 := hb.size
  replace HB := Lib.hid (below_on HB.out hb)
  replace Or := Lib.hid (Or.out.below hb)
  replace Xr := Lib.hid (Xr.out.below hb)
  replace Ox := Lib.hid (Ox.out.below hb)
  obtain rfl : N = yg := HN.out.symm.trans ho.2.1.len
  obtain rfl : M = zg := HM.out.symm.trans ho.2.2.len
  have Og := Lib.hid ho
  clear ho
  clear hb
  clear uXr0 uXr1 uXr2
  have XgN := Lib.hid (Bx.new w4 27 #[.int .i64 td, .slice pg N cg, .slice qg M dg])
  replace HB := Lib.hid (HB.out.alloc HB.out.size (.cells #[.int .i64 td, .slice pg N cg, .slice qg M dg] 27))
  replace Or := Lib.hid (Or.out.below (box1 w4 (.cells #[.int .i64 td, .slice pg N cg, .slice qg M dg] 27)))
  replace Xr := Lib.hid (Xr.out.alloc (.cells #[.int .i64 td, .slice pg N cg, .slice qg M dg] 27))
  replace Ox := Lib.hid (Ox.out.below (box1 w4 (.cells #[.int .i64 td, .slice pg N cg, .slice qg M dg] 27)))
  replace Og := Lib.hid (Og.out.below (box1 w4 (.cells #[.int .i64 td, .slice pg N cg, .slice qg M dg] 27)))
  have Xg := XgN
  clear XgN
  obtain ⟨uXr0, uXr1, uXr2⟩ := bx3 Xr.out
  obtain ⟨uXg0, uXg1, uXg2⟩ := bx3 Xg.out
  go_wp2_with fail
  refine (SlDoc.eq_any td _ _ _ _ _ _ _ _ _ _ pd sd _ Og.out.rdS Or.out.rdS Og.out.rdI Or.out.rdI).mono ?_
  rintro e w5 ⟨rfl, hb⟩
  have hsw5 := hb.size
  rw [World.size_alloc] at hsw5
  replace HB := Lib.hid (below_on HB.out hb)
  replace Or := Lib.hid (Or.out.below hb)
  replace Xr := Lib.hid (Xr.out.below hb)
  replace Ox := Lib.hid (Ox.out.below hb)
  replace Og := Lib.hid (Og.out.below hb)
  replace Xg := Lib.hid (Xg.out.below hb)
  clear hb
  clear uXr0 uXr1 uXr2 uXg0 uXg1 uXg2
  obtain ⟨uXr0, uXr1, uXr2⟩ := bx3 Xr.out
  obtain ⟨uXg0, uXg1, uXg2⟩ := bx3 Xg.out
  go_wp2_with fail
  refine (SlStr.to_any _ _ _ pl _ (HP.out.below HB.out) (by omega)).mono ?_
  rintro e w6 ⟨pe, ye, ce, rfl, ho, hb⟩
  have hsw6 := hb.size
  replace HB := Lib.hid (below_on HB.out hb)
  replace Or := Lib.hid (Or.out.below hb)
  replace Xr := Lib.hid (Xr.out.below hb)
  replace Ox := Lib.hid (Ox.out.below hb)
  replace Og := Lib.hid (Og.out.below hb)
  replace Xg := Lib.hid (Xg.out.below hb)
  obtain rfl : n0 = ye := hn0.symm.trans ho.len
  have Oe := Lib.hid ho
  clear ho
  clear hb
  clear uXr0 uXr1 uXr2 uXg0 uXg1 uXg2
  obtain ⟨uXr0, uXr1, uXr2⟩ := bx3 Xr.out
  obtain ⟨uXg0, uXg1, uXg2⟩ := bx3 Xg.out
  go_wp2_with fail
  refine (SlStr.eq_any px pe n0 cx ce pl _ Ox.out.rd Oe.out.rd).mono ?_
  rintro e w7 ⟨rfl, hb⟩
  have hsw7 := hb.size
  replace HB := Lib.hid (below_on HB.out hb)
  replace Or := Lib.hid (Or.out.below hb)
  replace Xr := Lib.hid (Xr.out.below hb)
  replace Ox := Lib.hid (Ox.out.below hb)
  replace Og := Lib.hid (Og.out.below hb)
  replace Xg := Lib.hid (Xg.out.below hb)
  replace Oe := Lib.hid (Oe.out.below hb)
  clear hb
  clear uXr0 uXr1 uXr2 uXg0 uXg1 uXg2
  clear Oe
  obtain ⟨uXr0, uXr1, uXr2⟩ := bx3 Xr.out
  obtain ⟨uXg0, uXg1, uXg2⟩ := bx3 Xg.out
  go_wp2_with fail
  refine (Mk.mark_any _ _ px n0 cx pl 1 _ Ox.out (Nat.le_refl _) (by omega)).mono ?_
  rintro e w8 ⟨rfl, ho, hg⟩
  have ht := two_of hg Ox.out.far
  have hsw8 := ht.size
  replace HB := Lib.hid (ht.below HB.out HB.out.size (by omega))
  replace Or := Lib.hid (Or.out.two ht (by omega))
  replace Xr := Lib.hid (bx_two Xr.out ht (by omega))
  replace Og := Lib.hid (Og.out.two ht (by omega))
  replace Xg := Lib.hid (bx_two Xg.out ht (by omega))
  clear ho hg ht
  clear uXr0 uXr1 uXr2 uXg0 uXg1 uXg2
  clear Ox
  obtain ⟨uXr0, uXr1, uXr2⟩ := bx3 Xr.out
  obtain ⟨uXg0, uXg1, uXg2⟩ := bx3 Xg.out
  go_wp2_with fail
  refine (SlDoc.eq_any td _ _ _ _ _ _ _ _ _ _ pd sd _ Og.out.rdS Or.out.rdS Og.out.rdI Or.out.rdI).mono ?_
  rintro e w9 ⟨rfl, hb⟩
  have hsw9 := hb.size
  replace HB := Lib.hid (below_on HB.out hb)
  replace Or := Lib.hid (Or.out.below hb)
  replace Xr := Lib.hid (Xr.out.below hb)
  replace Og := Lib.hid (Og.out.below hb)
  replace Xg := Lib.hid (Xg.out.below hb)
  clear hb
  clear uXr0 uXr1 uXr2 uXg0 uXg1 uXg2
  obtain ⟨uXr0, uXr1, uXr2⟩ := bx3 Xr.out
  obtain ⟨uXg0, uXg1, uXg2⟩ := bx3 Xg.out
  go_wp2_with fail
  refine (markD_any _ _ td _ _ _ _ _ _ pd sd 1 _ Og.out (Nat.le_refl _) (by omega)).mono ?_
  rintro e w10 ⟨rfl, ho, ht⟩
  have hsw10 := ht.size
  replace HB := Lib.hid (ht.below HB.out HB.out.size (by omega))
  replace Or := Lib.hid (Or.out.two ht (by omega))
  replace Xr := Lib.hid (bx_two Xr.out ht (by omega))
  replace Xg := Lib.hid (bx_two Xg.out ht (by omega))
  replace Og := Lib.hid ho
  clear ho ht
  clear uXr0 uXr1 uXr2 uXg0 uXg1 uXg2
  obtain ⟨uXr0, uXr1, uXr2⟩ := bx3 Xr.out
  obtain ⟨uXg0, uXg1, uXg2⟩ := bx3 Xg.out
  go_wp2_with fail
  refine (heldD_any td _ _ _ _ _ _ 1 _ Og.out.rdS Og.out.rdI (Nat.le_refl _) (by omega)).mono ?_
  rintro e w11 ⟨rfl, hb⟩
  have hsw11 := hb.size
  replace HB := Lib.hid (below_on HB.out hb)
  replace Or := Lib.hid (Or.out.below hb)
  replace Xr := Lib.hid (Xr.out.below hb)
  replace Og := Lib.hid (Og.out.below hb)
  replace Xg := Lib.hid (Xg.out.below hb)
  clear hb
  clear uXr0 uXr1 uXr2 uXg0 uXg1 uXg2
  obtain ⟨uXr0, uXr1, uXr2⟩ := bx3 Xr.out
  obtain ⟨uXg0, uXg1, uXg2⟩ := bx3 Xg.out
  go_wp2_with fail
  refine (SlStr.to_any _ _ _ pl _ (HP.out.below HB.out) (by omega)).mono ?_
  rintro e w12 ⟨ph, yh, ch, rfl, ho, hb⟩
  have hsw12 := hb.size
  replace HB := Lib.hid (below_on HB.out hb)
  replace Or := Lib.hid (Or.out.below hb)
  replace Xr := Lib.hid (Xr.out.below hb)
  replace Og := Lib.hid (Og.out.below hb)
  replace Xg := Lib.hid (Xg.out.below hb)
  obtain rfl : n0 = yh := hn0.symm.trans ho.len
  have Oh := Lib.hid ho
  clear ho
  clear hb
  clear uXr0 uXr1 uXr2 uXg0 uXg1 uXg2
  obtain ⟨uXr0, uXr1, uXr2⟩ := bx3 Xr.out
  obtain ⟨uXg0, uXg1, uXg2⟩ := bx3 Xg.out
  go_wp2_with fail
  refine (IM.out ph ch _ Oh.out.rd).mono ?_
  rintro e w13 ⟨pk, yk, ck, qk, zk, dk, rfl, ho, hb⟩
  have hsw13 := hb.size
  replace HB := Lib.hid (below_on HB.out hb)
  replace Or := Lib.hid (Or.out.below hb)
  replace Xr := Lib.hid (Xr.out.below hb)
  replace Og := Lib.hid (Og.out.below hb)
  replace Xg := Lib.hid (Xg.out.below hb)
  replace Oh := Lib.hid (Oh.out.below hb)
  obtain rfl : N = yk := HN.out.symm.trans ho.2.1.len
  obtain rfl : M = zk := HM.out.symm.trans ho.2.2.len
  have Ok := Lib.hid ho
  clear ho
  clear hb
  clear uXr0 uXr1 uXr2 uXg0 uXg1 uXg2
  have XkN := Lib.hid (Bx.new w13 27 #[.int .i64 td, .slice pk N ck, .slice qk M dk])
  replace HB := Lib.hid (HB.out.alloc HB.out.size (.cells #[.int .i64 td, .slice pk N ck, .slice qk M dk] 27))
  replace Or := Lib.hid (Or.out.below (box1 w13 (.cells #[.int .i64 td, .slice pk N ck, .slice qk M dk] 27)))
  replace Xr := Lib.hid (Xr.out.alloc (.cells #[.int .i64 td, .slice pk N ck, .slice qk M dk] 27))
  replace Og := Lib.hid (Og.out.below (box1 w13 (.cells #[.int .i64 td, .slice pk N ck, .slice qk M dk] 27)))
  replace Xg := Lib.hid (Xg.out.alloc (.cells #[.int .i64 td, .slice pk N ck, .slice qk M dk] 27))
  replace Oh := Lib.hid (Oh.out.below (box1 w13 (.cells #[.int .i64 td, .slice pk N ck, .slice qk M dk] 27)))
  replace Ok := Lib.hid (Ok.out.below (box1 w13 (.cells #[.int .i64 td, .slice pk N ck, .slice qk M dk] 27)))
  have Xk := XkN
  clear XkN
  clear Oh
  obtain ⟨uXr0, uXr1, uXr2⟩ := bx3 Xr.out
  obtain ⟨uXg0, uXg1, uXg2⟩ := bx3 Xg.out
  obtain ⟨uXk0, uXk1, uXk2⟩ := bx3 Xk.out
  go_wp2_with fail
  refine (SlDoc.eq_any td _ _ _ _ _ _ _ _ _ _ pd sd _ Ok.out.rdS Or.out.rdS Ok.out.rdI Or.out.rdI).mono ?_
  rintro e w14 ⟨rfl, hb⟩
  have hsw14 := hb.size
  rw [World.size_alloc] at hsw14
  replace HB := Lib.hid (below_on HB.out hb)
  replace Or := Lib.hid (Or.out.below hb)
  replace Xr := Lib.hid (Xr.out.below hb)
  replace Og := Lib.hid (Og.out.below hb)
  replace Xg := Lib.hid (Xg.out.below hb)
  replace Ok := Lib.hid (Ok.out.below hb)
  replace Xk := Lib.hid (Xk.out.below hb)
  clear hb
  clear uXr0 uXr1 uXr2 uXg0 uXg1 uXg2 uXk0 uXk1 uXk2
  obtain ⟨uXr0, uXr1, uXr2⟩ := bx3 Xr.out
  obtain ⟨uXg0, uXg1, uXg2⟩ := bx3 Xg.out
  obtain ⟨uXk0, uXk1, uXk2⟩ := bx3 Xk.out
  go_wp2_with fail
  refine (heldD_any td _ _ _ _ _ _ 1 _ Og.out.rdS Og.out.rdI (Nat.le_refl _) (by omega)).mono ?_
  rintro e w15 ⟨rfl, hb⟩
  have hsw15 := hb.size
  replace HB := Lib.hid (below_on HB.out hb)
  replace Or := Lib.hid (Or.out.below hb)
  replace Xr := Lib.hid (Xr.out.below hb)
  replace Og := Lib.hid (Og.out.below hb)
  replace Xg := Lib.hid (Xg.out.below hb)
  replace Ok := Lib.hid (Ok.out.below hb)
  replace Xk := Lib.hid (Xk.out.below hb)
  clear hb
  clear uXr0 uXr1 uXr2 uXg0 uXg1 uXg2 uXk0 uXk1 uXk2
  obtain ⟨uXg0, uXg1, uXg2⟩ := bx3 Xg.out
  go_wp2_with fail
  go_ret
  exact ⟨rfl, HB.out⟩
end Go.Proofs.Ytcenbbbghhmpfab.fnExactMakeDocument
