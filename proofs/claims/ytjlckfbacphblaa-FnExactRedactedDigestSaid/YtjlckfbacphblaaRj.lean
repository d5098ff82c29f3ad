/- Contract of the reference's IsRedacted. -/
import Derived.Test.YtjlckfbacphblaaRi
namespace Go.Proofs.Ytjlckfbacphblaa.Ri
open Go.ChangeShapes Go.WideShapes Go.ChangeAt Go.RowKit Sl St Tn Dm Dk SlRed Rk Rm Rp Ints

set_option maxRecDepth 100000 in
set_option maxHeartbeats 8000000 in
theorem spec_isRed_any (a : Ra) (D : Rc) (w : World) (h : RdR w a D) (hf : size D ≤ 1048576) : Calls Try.prog 38 #[a.val] w (Tells (redOk D) w) := by
  obtain ⟨i0, hi, hz0, hz1, hz2⟩ := info_parts SlStr.info
  obtain ⟨j0, ji, jz0, jz1, jz2⟩ := info_parts SlI.info
  obtain ⟨t, msp, msn, msc, shp, shn, shc, psp, psn, psc, ssp, ssn, ssc, dsp, dsn, dsc⟩ := a
  obtain ⟨dt, dms, dsh, dps, dss, dds⟩ := D
  have H0 := Lib.hid h
  have ht : t = dt := h.1
  subst ht
  have HN := Lib.hid (show dsh.length = shn from h.2.2.1.len)
  have HNp := Lib.hid (show dps.length = psn from h.2.2.2.1.len)
  have HNs := Lib.hid (show dss.length = ssn from h.2.2.2.2.1.len)
  have HNd := Lib.hid (show dds.length = dsn from h.2.2.2.2.2.len)
  have HNm := Lib.hid (show dms.length = msn from h.2.1.len)
  have hle : shn ≤ 1048576 := shn_le h hf
  have hle1 : msn ≤ 9223372036854775807 := h.2.1.le
  have hle3 : psn ≤ 9223372036854775807 := h.2.2.2.1.le
  have hle4 : ssn ≤ 9223372036854775807 := h.2.2.2.2.1.le
  have hle5 : dsn ≤ 9223372036854775807 := h.2.2.2.2.2.le
  clear h hf
  have HX := Lib.hid (Bx.new w 43 #[.int .i64 t, .slice msp msn msc, .slice shp shn shc, .slice psp psn psc, .slice ssp ssn ssc, .slice dsp dsn dsc])
  have HB := Lib.hid (box1 w (.cells #[.int .i64 t, .slice msp msn msc, .slice shp shn shc, .slice psp psn psc, .slice ssp ssn ssc, .slice dsp dsn dsc] 43))
  obtain ⟨x0, x1, x2, x3, x4, x5⟩ := bx6 HX.out
  simp only [Ra.val, Ra.cells]
  rcases h1 : inB (shn : Int) 1 6 with _ | _
  · have H1 := Lib.hid h1
    have HO := Lib.hid (redOk_head (D := ⟨t, dms, dsh, dps, dss, dds⟩) (headOk_n (by show inB (dsh.length : Int) 1 6 = false; rw [HN.out]; exact h1)))
    clear h1
    go_enter Try.func38, Try.ntmps38
    go_wp2_with fail
    refine (l1In_any _ _ _ _ H1.out _).mono ?_
    rintro e w1 ⟨rfl, rfl⟩
    go_wp2_with fail
    go_ret
    exact tells (by rw [HO.out]) HB.out
  have H1 := Lib.hid h1
  clear h1
  by_cases h2 : psn = shn
  rotate_left
  · have HO := Lib.hid (redOk_head (D := ⟨t, dms, dsh, dps, dss, dds⟩) (headOk_p (by show ¬ dps.length = dsh.length; rw [HN.out, HNp.out]; exact h2)))
    have h2' : ¬ ((psn : Int) = (shn : Int)) := by omega
    go_enter Try.func38, Try.ntmps38
    go_wp2_with fail
    refine (l1In_any _ _ _ _ H1.out _).mono ?_
    rintro e w1 ⟨rfl, rfl⟩
    go_wp2_with fail
    go_ret
    exact tells (by rw [HO.out]) HB.out
  subst h2
  by_cases h3 : ssn = psn
  rotate_left
  · have HO := Lib.hid (redOk_head (D := ⟨t, dms, dsh, dps, dss, dds⟩) (headOk_s (by show ¬ dss.length = dsh.length; rw [HN.out, HNs.out]; exact h3)))
    have h3' : ¬ ((ssn : Int) = (psn : Int)) := by omega
    go_enter Try.func38, Try.ntmps38
    go_wp2_with fail
    refine (l1In_any _ _ _ _ H1.out _).mono ?_
    rintro e w1 ⟨rfl, rfl⟩
    go_wp2_with fail
    go_ret
    exact tells (by rw [HO.out]) HB.out
  subst h3
  by_cases h4 : dsn = ssn
  rotate_left
  · have HO := Lib.hid (redOk_head (D := ⟨t, dms, dsh, dps, dss, dds⟩) (headOk_d (by show ¬ dds.length = dsh.length; rw [HN.out, HNd.out]; exact h4)))
    have h4' : ¬ ((dsn : Int) = (ssn : Int)) := by omega
    go_enter Try.func38, Try.ntmps38
    go_wp2_with fail
    refine (l1In_any _ _ _ _ H1.out _).mono ?_
    rintro e w1 ⟨rfl, rfl⟩
    go_wp2_with fail
    go_ret
    exact tells (by rw [HO.out]) HB.out
  subst h4
  have hn6 : dsn ≤ 6 := by have := H1.out; unfold inB at this; have := of_decide_eq_true this; omega
  have HH := Lib.hid (headOk_yes (D := ⟨t, dms, dsh, dps, dss, dds⟩) (by show inB (dsh.length : Int) 1 6 = true; rw [HN.out]; exact H1.out) (by show dps.length = dsh.length; rw [HN.out, HNp.out]) (by show dss.length = dsh.length; rw [HN.out, HNs.out]) (by show dds.length = dsh.length; rw [HN.out, HNd.out]))
  go_enter Try.func38, Try.ntmps38
  go_wp2_with fail
  refine (l1In_any _ _ _ _ H1.out _).mono ?_
  rintro e w1 ⟨rfl, rfl⟩
  go_wp2_with fail
  have hD0 := Bx.new (w.alloc (.cells #[.int .i64 t, .slice msp msn msc, .slice shp dsn shc, .slice psp dsn psc, .slice ssp dsn ssc, .slice dsp dsn dsc] 43)) 27 #[.int .i64 t, .slice none 0 0, .slice none 0 0]
  rw [World.size_alloc] at hD0
  have hX0 := HX.out.alloc (.cells #[.int .i64 t, .slice none 0 0, .slice none 0 0] 27)
  have hB0 := HB.out.alloc (by simp) (.cells #[.int .i64 t, .slice none 0 0, .slice none 0 0] 27)
  have hs0 : ((w.alloc (.cells #[.int .i64 t, .slice msp msn msc, .slice shp dsn shc, .slice psp dsn psc, .slice ssp dsn ssc, .slice dsp dsn dsc] 43)).alloc (.cells #[.int .i64 t, .slice none 0 0, .slice none 0 0] 27)).heap.size = w.heap.size + 2 := by simp
  clear x0 x1 x2 x3 x4 x5 HX HB
  generalize (w.alloc (.cells #[.int .i64 t, .slice msp msn msc, .slice shp dsn shc, .slice psp dsn psc, .slice ssp dsn ssc, .slice dsp dsn dsc] 43)).alloc (.cells #[.int .i64 t, .slice none 0 0, .slice none 0 0] 27) = w2 at hD0 hX0 hB0 hs0 ⊢
  have hs2 : w.heap.size + 2 ≤ w2.heap.size := by omega
  have HX2 := Lib.hid hX0
  have HB2 := Lib.hid hB0
  have HM : Hid (IWay ⟨t, dms, dsh, dps, dss, dds⟩ (w.heap.size + 1) 0 0 none 0 0 none 0 0 w2 w2) := Lib.hid ⟨hD0, OwS.nil_ _ _ _ _ (Nat.le_refl _), Ow.nil_ _ _ _ _ (Nat.le_refl _), Turn.refl _ _, by omega⟩
  clear hD0 hX0 hB0 hs0
  go_loopw [5] (fun i wr => ∃ (k n c m d : Nat) (p q : Option Addr), k ≤ dsn ∧ i = .int .i64 k ∧ Hid (IWay ⟨t, dms, dsh, dps, dss, dds⟩ (w.heap.size + 1) k k p n c q m d w2 wr) ∧ Hid (∀ i, i < k → rowOk ⟨t, dms, dsh, dps, dss, dds⟩ i)) (fun i _ => dsn - (intOf i).toNat)
  case atStart => exact ⟨0, 0, 0, 0, 0, none, none, Nat.zero_le _, rfl, HM, Lib.hid fun i h => by omega⟩
  case round =>
    obtain ⟨k, n, c, m, d, p, q, hk, rfl, HK, HR⟩ := hrel
    have hdoc : w.heap.size + 1 < w2.heap.size := by omega
    have HBr : Hid (Below w.heap.size w wr) := Lib.hid (Turn.on HB2.out (Nat.le_refl _) HK.out.2.2.2.1 (fun i e => by omega))
    have HXr := Lib.hid (bx_turn HX2.out HK.out.2.2.2.1 (show ¬ (w.heap.size = w.heap.size + 1) by omega))
    have hsw := HK.out.2.2.2.1.size
    by_cases hlt : k < dsn
    · obtain ⟨b2, o2, rfl, hb2, hc2⟩ := SlBool.rd_at H0.out.2.2.1 hlt
      obtain ⟨b3, o3, rfl, hb3, hc3⟩ := SlStr.rd_at H0.out.2.2.2.1 hlt
      obtain ⟨b4, o4, rfl, hb4, hc4⟩ := H0.out.2.2.2.2.1.at_ hlt
      obtain ⟨b5, o5, pk, nk, ck, rfl, hb5, hc5, hrk⟩ := H0.out.2.2.2.2.2.at_ hlt
      have hnk : nk ≤ 9223372036854775807 := hrk.le
      have HLk : Hid ((dds.getD k []).length = nk) := Lib.hid hrk.len
      have HC : Hid (∀ w', Below w.heap.size w w' → w'.cell? ⟨b2, o2 + k, none⟩ = some (.bool (dsh.getD k false)) ∧ w'.cell? ⟨b3, o3 + k, none⟩ = some (.string (dps.getD k ByteArray.empty)) ∧ w'.cell? ⟨b4, o4 + k, none⟩ = some (.int .i64 (dss.getD k 0)) ∧ w'.cell? ⟨b5, o5 + k, none⟩ = some (.slice pk nk ck)) := Lib.hid fun w' hb => ⟨(hb.cell (p := ⟨b2, o2 + k, none⟩) hb2).trans hc2, (hb.cell (p := ⟨b3, o3 + k, none⟩) hb3).trans hc3, (hb.cell (p := ⟨b4, o4 + k, none⟩) hb4).trans hc4, (hb.cell (p := ⟨b5, o5 + k, none⟩) hb5).trans hc5⟩
      have HIn : Hid (inK .i64 (dss.getD k 0)) := Lib.hid (allK_getD H0.out.2.2.2.2.1.all k)
      have i1 : (0 : Int) ≤ (k : Int) := by omega
      have i2 : (k : Int) < (dsn : Int) := by omega
      clear hc2 hc3 hc4 hc5 hrk
      obtain ⟨x0, x1, x2, x3, x4, x5⟩ := bx6 HXr.out
      rcases hsx : dsh.getD k false with _ | _
      · rw [hsx] at HC
        have HE1 := Lib.hid (showP_hid (D := ⟨t, dms, dsh, dps, dss, dds⟩) hsx)
        have HE2 := Lib.hid (showS_hid (D := ⟨t, dms, dsh, dps, dss, dds⟩) hsx)
        have HSX := Lib.hid hsx
        clear hsx
        obtain ⟨c2, c3, c4, c5⟩ := HC.out wr HBr.out
        generalize hxe : dps.getD k ByteArray.empty = x at c3
        generalize hye : dss.getD k 0 = y at c4
        have HXE := Lib.hid hxe
        have HYE := Lib.hid hye
        clear hxe hye
        have HNo : Hid (¬ (nk = msn ∧ x = ByteArray.empty ∧ y = 0) → redOk ⟨t, dms, dsh, dps, dss, dds⟩ = false) := Lib.hid fun hno => redOk_row (D := ⟨t, dms, dsh, dps, dss, dds⟩) (k := k) (by show k < dsh.length; rw [HN.out]; exact hlt) (fun h2 => by
            rcases h2 with ⟨h3, _⟩ | ⟨_, h3, h4, h5⟩
            · have h6 : dsh.getD k false = true := h3
              rw [HSX.out] at h6; cases h6
            · exact hno ⟨by rw [← HLk.out, ← HNm.out]; exact h3, by rw [← HXE.out]; exact h4, by rw [← HYE.out]; exact h5⟩)
        by_cases g3 : nk = msn
        rotate_left
        · have HO := Lib.hid (HNo.out fun h => g3 h.1)
          have q1 : ((nk : Int) == (msn : Int)) = false := beq_eq_false_iff_ne.2 (by omega)
          have q2 : ((nk : Int) != (msn : Int)) = true := bne_iff_ne.2 (by omega)
          have q3 : decide ((nk : Int) = (msn : Int)) = false := decide_eq_false (by omega)
          go_wp2_with fail
          go_quiet (fail)
          go_wp2_with fail
          go_ret
          exact tells (by rw [HO.out]) (below_drewN HBr.out _)
        subst g3
        by_cases g1 : x = ByteArray.empty
        rotate_left
        · have HO := Lib.hid (HNo.out fun h => g1 h.2.1)
          obtain ⟨q1, q2⟩ := str_some g1
          go_wp2_with fail
          go_quiet (fail)
          go_wp2_with fail
          go_ret
          exact tells (by rw [HO.out]) (below_drewN HBr.out _)
        subst g1
        by_cases g2 : y = 0
        rotate_left
        · have HO := Lib.hid (HNo.out fun h => g2 h.2.2)
          have q1 : decide (y = 0) = false := decide_eq_false g2
          go_wp2_with fail
          go_quiet (fail)
          go_wp2_with fail
          go_ret
          exact tells (by rw [HO.out]) (below_drewN HBr.out _)
        subst g2
        have HR2 : Hid (∀ i, i < k + 1 → rowOk ⟨t, dms, dsh, dps, dss, dds⟩ i) := Lib.hid fun i hi => by
          rcases Nat.lt_succ_iff_lt_or_eq.1 hi with h | rfl
          · exact HR.out i h
          · exact Or.inr ⟨HSX.out, by show (dds.getD _ []).length = dms.length; rw [HLk.out, HNm.out], HXE.out, HYE.out⟩
        have HK3 : Hid (IWay ⟨t, dms, dsh, dps, dss, dds⟩ (w.heap.size + 1) (k + 1) (k + 1) p n c q m d w2 wr) := Lib.hid (by
          have h := HK.out
          unfold IWay at h ⊢
          rw [HE1.out, HE2.out]
          exact h)
        go_wp2_with fail
        go_quiet (fail)
        go_wp2_with fail
        go_roundw
        case rel => exact ⟨k + 1, _, _, _, _, _, _, by omega, by go_num, Lib.hid (HK3.out.below (below_drewN (Below.refl _ _) _)), HR2⟩
        case measure => simp [intOf]; omega
      · rw [hsx] at HC
        have HE1' : Hid (showP ⟨t, dms, dsh, dps, dss, dds⟩ (k + 1) = showP ⟨t, dms, dsh, dps, dss, dds⟩ k ++ [dps.getD k ByteArray.empty]) := Lib.hid (showP_show (D := ⟨t, dms, dsh, dps, dss, dds⟩) hsx)
        have HE2' : Hid (showS ⟨t, dms, dsh, dps, dss, dds⟩ (k + 1) = showS ⟨t, dms, dsh, dps, dss, dds⟩ k ++ [dss.getD k 0]) := Lib.hid (showS_show (D := ⟨t, dms, dsh, dps, dss, dds⟩) hsx)
        have HNo : Hid (¬ (nk = 0) → redOk ⟨t, dms, dsh, dps, dss, dds⟩ = false) := Lib.hid fun hno => redOk_row (D := ⟨t, dms, dsh, dps, dss, dds⟩) (k := k) (by show k < dsh.length; rw [HN.out]; exact hlt) (fun h2 => by
            rcases h2 with ⟨_, h3⟩ | ⟨h3, _⟩
            · exact hno (by rw [← HLk.out]; exact h3)
            · have h6 : dsh.getD k false = false := h3
              rw [hsx] at h6; cases h6)
        have HSX := Lib.hid hsx
        clear hsx
        generalize dps.getD k ByteArray.empty = x at HC HE1'
        generalize dss.getD k 0 = y at HC HE2' HIn
        obtain ⟨c2, c3, c4, c5⟩ := HC.out wr HBr.out
        have hne : w.heap.size + 1 < wr.heap.size := by omega
        have hn : n ≤ k := by rw [← HK.out.2.1.len]; exact showP_len _ _
        have hm : m ≤ k := by rw [← HK.out.2.2.1.len, showS_len]; exact showP_len _ _
        obtain ⟨z0, z1, z2⟩ := bx3 HK.out.1
        have f1 := HK.out.1.free 1
        have z1a := (HK.out.1.alloc (.cells #[.string x] 9)).drew1.cell (j := 1) rfl
        go_wp2_with fail
        go_region_law (first
            | (refine step_appS rfl (.tmp 47) (.tmp 53) 24 rfl i0 _ 16 Try.underlying24 hi hz0 hz1 hz2 rfl rfl (HK.out.2.1.alloc _).drew1 (some ⟨wr.heap.size, 0, none⟩) 1 1 [x] rfl (lit_own SlStr.E 9 wr 0 [x] #[.string x] 1 rfl rfl (by unfold maxLen; omega) (Nat.zero_le _)).rd.drew1 (by first | (simp; done) | (simp; omega)) (by omega) (by omega) ?_; intro p4 e4 w4 how4 hg4; have HO4 := Lib.hid how4; have hgb := Dt.grown_pre (below_drewN (box1 wr (.cells #[.string x] 9)) 1) hg4; have HG4 := Lib.hid hgb; have HX4 := Lib.hid (HK.out.1.grown hgb (fun e => by have := HK.out.2.1.far _ e.symm; omega)); obtain ⟨v0, v1, v2⟩ := bx3 HX4.out; have v3 := HX4.out.free 1; clear how4 hg4 hgb))
        all_goals
            have hN := HK.out.nextP (by rw [HE1'.out]; exact HO4.out) HG4.out
            have hs4 : wr.heap.size ≤ (w4.setCell ⟨w.heap.size + 1, 1, none⟩ (.slice p4 (n + 1) e4)).heap.size := by have := HG4.out.size; simpa [World.setCell] using this
            clear v0 v1 v2 v3 HX4 HG4 HO4 z0 z1 z2 f1 z1a x0 x1 x2 x3 x4 x5 c2 c3 c4 c5
            obtain ⟨W4, hW4⟩ : ∃ W4, w4.setCell ⟨w.heap.size + 1, 1, none⟩ (.slice p4 (n + 1) e4) = W4 := ⟨_, rfl⟩
            rw [hW4] at hN hs4 ⊢
            clear hW4
            have HK4 := Lib.hid hN
            clear hN
            have HB4 : Hid (Below w.heap.size w W4) := Lib.hid (Turn.on HB2.out (Nat.le_refl _) HK4.out.2.2.2.1 (fun i e => by omega))
            have HXr4 := Lib.hid (bx_turn HX2.out HK4.out.2.2.2.1 (show ¬ (w.heap.size = w.heap.size + 1) by omega))
            obtain ⟨x0, x1, x2, x3, x4, x5⟩ := bx6 HXr4.out
            obtain ⟨c2, c3, c4, c5⟩ := HC.out W4 HB4.out
            obtain ⟨z0, z1, z2⟩ := bx3 HK4.out.1
            have f2 := HK4.out.1.free 2
            have z2a := (HK4.out.1.alloc (.cells #[.int .i64 y] 3)).drew1.cell (j := 2) rfl
            go_wp2_with fail
            go_region_law (first
              | (refine Ds.step_appI rfl (.tmp 57) (.tmp 63) 25 rfl j0 _ 8 Try.underlying25 ji jz0 jz1 jz2 rfl rfl ((HK4.out.2.2.1.alloc _).drewN 1) W4.heap.size 1 y rfl (by go_simp) HIn.out (by first | (simp; done) | (simp; omega)) (by omega) (by omega) ?_; intro p5 c5' w5 how5 hg5; have HO5 := Lib.hid how5; have hgb := Dt.grown_pre (below_drewN (box1 W4 (.cells #[.int .i64 y] 3)) 1) hg5; have HG5 := Lib.hid hgb; have HX5 := Lib.hid (HK4.out.1.grown hgb (fun e => by have := HK4.out.2.2.1.far _ e.symm; omega)); obtain ⟨v0, v1, v2⟩ := bx3 HX5.out; have v3 := HX5.out.free 2; clear how5 hg5 hgb))
            all_goals
              have hN5 := HK4.out.nextS (by rw [HE2'.out]; exact HO5.out) HG5.out
              clear v0 v1 v2 v3 HX5 HG5 HO5 z0 z1 z2 f2 z2a x0 x1 x2 x3 x4 x5 c2 c3 c4 c5
              obtain ⟨W5, hW5⟩ : ∃ W5, w5.setCell ⟨w.heap.size + 1, 2, none⟩ (.slice p5 (m + 1) c5') = W5 := ⟨_, rfl⟩
              rw [hW5] at hN5 ⊢
              clear hW5
              have HK5 := Lib.hid hN5
              clear hN5
              have HB5 : Hid (Below w.heap.size w W5) := Lib.hid (Turn.on HB2.out (Nat.le_refl _) HK5.out.2.2.2.1 (fun i e => by omega))
              have HXr5 := Lib.hid (bx_turn HX2.out HK5.out.2.2.2.1 (show ¬ (w.heap.size = w.heap.size + 1) by omega))
              obtain ⟨x0, x1, x2, x3, x4, x5⟩ := bx6 HXr5.out
              obtain ⟨c2, c3, c4, c5⟩ := HC.out W5 HB5.out
              by_cases hz : nk = 0
              rotate_left
              · have HO := Lib.hid (HNo.out hz)
                have q1 : ((nk : Int) == 0) = false := beq_eq_false_iff_ne.2 (by omega)
                have q2 : ((nk : Int) != 0) = true := bne_iff_ne.2 (by omega)
                have q3 : decide ((nk : Int) = 0) = false := decide_eq_false (by omega)
                have q4 : decide (nk = 0) = false := decide_eq_false hz
                go_wp2_with fail
                go_quiet (fail)
                go_wp2_with fail
                go_ret
                exact tells (by rw [HO.out]) (below_drewN HB5.out _)
              · have HR2 : Hid (∀ i, i < k + 1 → rowOk ⟨t, dms, dsh, dps, dss, dds⟩ i) := Lib.hid fun i hi => by
                  rcases Nat.lt_succ_iff_lt_or_eq.1 hi with h | rfl
                  · exact HR.out i h
                  · exact Or.inl ⟨HSX.out, by show (dds.getD _ []).length = 0; rw [HLk.out]; exact hz⟩
                subst hz
                go_wp2_with fail
                go_quiet (fail)
                go_wp2_with fail
                go_roundw
                case rel => exact ⟨k + 1, _, _, _, _, _, _, by omega, by go_num, Lib.hid (HK5.out.below (below_drewN (Below.refl _ _) _)), HR2⟩
                case measure => simp [intOf]; omega
    · obtain rfl : k = dsn := by omega
      have HAll := Lib.hid (redOk_all (D := ⟨t, dms, dsh, dps, dss, dds⟩) HH.out (fun i hi => HR.out i (by rw [← HN.out]; exact hi)))
      have HTl : Hid (tailOk ⟨t, dms, dsh, dps, dss, dds⟩ = (docOk (t, showP ⟨t, dms, dsh, dps, dss, dds⟩ k, showS ⟨t, dms, dsh, dps, dss, dds⟩ k) || (decide ((showP ⟨t, dms, dsh, dps, dss, dds⟩ k).length = 0) && inB t 0 999))) := Lib.hid (by unfold tailOk; dsimp only; rw [HN.out])
      have HLn := Lib.hid HK.out.2.1.len
      obtain ⟨x0, x1, x2, x3, x4, x5⟩ := bx6 HXr.out
      obtain ⟨z0, z1, z2⟩ := bx3 HK.out.1
      rcases hα : docOk (t, showP ⟨t, dms, dsh, dps, dss, dds⟩ k, showS ⟨t, dms, dsh, dps, dss, dds⟩ k) with _ | _
      · have HA := Lib.hid hα
        clear hα
        go_wp2_with fail
        refine (spec_isDoc_any t _ _ _ _ _ _ (showP ⟨t, dms, dsh, dps, dss, dds⟩ k) (showS ⟨t, dms, dsh, dps, dss, dds⟩ k) _ HK.out.2.1.rd HK.out.2.2.1.rd).mono ?_
        rintro e w3 ⟨rfl, hb3⟩
        rw [HA.out]
        have HB3 := Lib.hid (below_on HBr.out hb3)
        have HX3 := Lib.hid (HXr.out.below hb3)
        have HD3 := Lib.hid (HK.out.1.below hb3)
        clear x0 x1 x2 x3 x4 x5 z0 z1 z2 hb3
        obtain ⟨x0, x1, x2, x3, x4, x5⟩ := bx6 HX3.out
        obtain ⟨z0, z1, z2⟩ := bx3 HD3.out
        by_cases hn0 : n = 0
        · subst hn0
          rcases hβ : inB t 0 999 with _ | _
          all_goals
            have HBt := Lib.hid hβ
            clear hβ
            go_wp2_with fail
            refine (l1In_any _ _ _ _ HBt.out _).mono ?_
            rintro e w4 ⟨rfl, rfl⟩
            go_wp2_with fail
            go_ret
            exact tells (by rw [HAll.out, HTl.out, HA.out, HLn.out, HBt.out]; rfl) HB3.out
        · have hn0' : ¬ ((n : Int) = 0) := by omega
          go_wp2_with fail
          go_ret
          exact tells (by rw [HAll.out, HTl.out, HA.out, HLn.out, decide_eq_false hn0]; rfl) HB3.out
      · have HA := Lib.hid hα
        clear hα
        go_wp2_with fail
        refine (spec_isDoc_any t _ _ _ _ _ _ (showP ⟨t, dms, dsh, dps, dss, dds⟩ k) (showS ⟨t, dms, dsh, dps, dss, dds⟩ k) _ HK.out.2.1.rd HK.out.2.2.1.rd).mono ?_
        rintro e w3 ⟨rfl, hb3⟩
        rw [HA.out]
        have HB3 := Lib.hid (below_on HBr.out hb3)
        clear x0 x1 x2 x3 x4 x5 z0 z1 z2 hb3
        go_wp2_with fail
        go_ret
        exact tells (by rw [HAll.out, HTl.out, HA.out]; rfl) HB3.out
end Go.Proofs.Ytjlckfbacphblaa.Ri
