/- Contract of the reference's RedactedDigest. -/
import Derived.Test.YtjlckfbacphblaaRn
import Derived.Test.YtjlckfbacphblaaRj
import Derived.Test.YtjlckfbacphblaaDs
namespace Go.Proofs.Ytjlckfbacphblaa.Rg
open Go.ChangeShapes Go.WideShapes Go.ChangeAt Go.RowKit Sl St Tn Dm Dk Dp Hs Dg Ds SlRed Rk Rm Rp Rn

/-- the slice of the call's own: the title and the first digests -/
def LWay (m : Int) (D : Rc) (k : Nat) (p : Option Addr) (n c : Nat) (w1 wr : World) : Prop := Ow .i64 3 wr w1.heap.size wr.heap.size p n c (D.t :: itemsD m D k) ∧ Below w1.heap.size w1 wr
set_option maxRecDepth 100000 in
set_option maxHeartbeats 8000000 in
theorem spec_redD_any (m : Int) (a : Ra) (D : Rc) (w : World) (hmth : inK .i64 m) (h : RdR w a D) (hf : size D ≤ 1048576) : Calls Try.prog 40 #[.int .i64 m, a.val] w (Hs.Num (redD m D) w) := by
  obtain ⟨i0, hi, hz0, hz1, hz2⟩ := info_parts SlI.info
  obtain ⟨t, msp, msn, msc, shp, shn, shc, psp, psn, psc, ssp, ssn, ssc, dsp, dsn, dsc⟩ := a
  obtain ⟨dt, dms, dsh, dps, dss, dds⟩ := D
  have H0 := Lib.hid h
  have ht : t = dt := h.1
  subst ht
  have HN := Lib.hid (show dsh.length = shn from h.2.2.1.len)
  have HNp := Lib.hid (show dps.length = psn from h.2.2.2.1.len)
  have HNs := Lib.hid (show dss.length = ssn from h.2.2.2.2.1.len)
  have HNd := Lib.hid (show dds.length = dsn from h.2.2.2.2.2.len)
  have HNm := Lib.hid (show dms.length = msn from h.2.1.len)
  have hle : shn ≤ 1048576 := shn_le h hf
  have hle1 : msn ≤ 9223372036854775807 := h.2.1.le
  have HM := Lib.hid hmth
  have HF := Lib.hid hf
  clear h hf hmth
  have HX := Lib.hid (Bx.new w 43 #[.int .i64 t, .slice msp msn msc, .slice shp shn shc, .slice psp psn psc, .slice ssp ssn ssc, .slice dsp dsn dsc])
  have HB := Lib.hid (box1 w (.cells #[.int .i64 t, .slice msp msn msc, .slice shp shn shc, .slice psp psn psc, .slice ssp ssn ssc, .slice dsp dsn dsc] 43))
  obtain ⟨x0, x1, x2, x3, x4, x5⟩ := bx6 HX.out
  simp only [Ra.val, Ra.cells]
  rcases hok : redOk ⟨t, dms, dsh, dps, dss, dds⟩ with _ | _
  · have HO := Lib.hid hok
    have HD := Lib.hid (redD_bad (m := m) hok)
    clear hok
    go_enter Try.func40, Try.ntmps40
    go_wp2_with fail
    refine (Ri.spec_isRed_any ⟨t, msp, msn, msc, shp, shn, shc, psp, psn, psc, ssp, ssn, ssc, dsp, dsn, dsc⟩ ⟨t, dms, dsh, dps, dss, dds⟩ _ (H0.out.below HB.out) HF.out).mono ?_
    rintro e w1 ⟨rfl, hb⟩
    rw [HO.out]
    have HB1 := Lib.hid (below_on HB.out hb)
    clear hb x0 x1 x2 x3 x4 x5
    go_wp2_with fail
    go_ret
    exact ⟨by rw [HD.out]; rfl, HB1.out⟩
  · have hsay := headOk_says (redOk_says hok).1
    have hps : psn = shn := by rw [← HNp.out, ← HN.out]; exact hsay.2.1
    have hss : ssn = shn := by rw [← HNs.out, ← HN.out]; exact hsay.2.2.1
    have hds : dsn = shn := by rw [← HNd.out, ← HN.out]; exact hsay.2.2.2
    have hn6 : shn ≤ 6 := by rw [← HN.out]; exact hsay.1.2
    have HOK := Lib.hid hok
    have hti := redOk_title hok
    have ht1 : 0 ≤ t := hti.1
    have ht2 : t ≤ 999 := hti.2
    have HT : Hid (inK .i64 t) := Lib.hid ⟨by omega, by omega⟩
    clear hok hsay hti
    subst hps
    subst hss
    subst hds
    go_enter Try.func40, Try.ntmps40
    go_wp2_with fail
    refine (Ri.spec_isRed_any _ ⟨t, dms, dsh, dps, dss, dds⟩ _ (H0.out.below HB.out) HF.out).mono ?_
    rintro e w1 ⟨rfl, hb⟩
    rw [HOK.out]
    have HB1 := Lib.hid (below_on HB.out hb)
    have HX1 := Lib.hid (HX.out.below hb)
    have hs1 : w.heap.size < w1.heap.size := by have := hb.size; simp at this; omega
    have HM1 := Lib.hid (H0.out.2.1.below HB1.out)
    clear hb x0 x1 x2 x3 x4 x5
    obtain ⟨x0, x1, x2, x3, x4, x5⟩ := bx6 HX1.out
    go_wp2_with fail
    go_loop [5] (fun i => ∃ k : Nat, k ≤ msn ∧ i = .int .i64 k ∧ Hid (∀ j, j < k → dms.getD j 0 ≠ m)) (fun i => msn - (intOf i).toNat)
    case atStart => exact ⟨0, Nat.zero_le _, rfl, Lib.hid fun j h => by omega⟩
    case round =>
      obtain ⟨at_, hk, rfl, HA⟩ := hrel
      by_cases hgo : at_ < msn ∧ dms.getD at_ 0 ≠ m
      · obtain ⟨hlt, hne⟩ := hgo
        obtain ⟨b, o, rfl, hb, hc⟩ := HM1.out.at_ hlt
        have HN2 : Hid (∀ j, j < at_ + 1 → dms.getD j 0 ≠ m) := Lib.hid fun j hj => by
          rcases Nat.lt_succ_iff_lt_or_eq.1 hj with h | rfl
          · exact HA.out j h
          · exact hne
        generalize dms.getD at_ 0 = z at hc hne
        have q1 : (z == m) = false := beq_eq_false_iff_ne.2 hne
        have q2 : (z != m) = true := bne_iff_ne.2 hne
        have q3 : decide (z = m) = false := decide_eq_false hne
        go_wp2_with fail
        go_round
        case rel => exact ⟨at_ + 1, by omega, by go_num, HN2⟩
        case measure => simp [intOf]; omega
      · have HI : Hid (dms.idxOf m = at_) := Lib.hid (idx_eq dms m at_ HA.out (by
          by_cases h1 : at_ < msn
          · right
            exact ⟨by rw [HNm.out]; exact h1, Classical.byContradiction fun h2 => hgo ⟨h1, h2⟩⟩
          · left; rw [HNm.out]; omega))
        have hat : at_ ≤ msn := hk
        have HST : Hid (LWay m ⟨t, dms, dsh, dps, dss, dds⟩ 0 (some ⟨w1.heap.size, 0, none⟩) 1 1 w1 (w1.alloc (.cells #[.int .i64 t] 3))) := Lib.hid ⟨lit1_own w1 w1.heap.size t HT.out (Nat.le_refl _), box1 _ _⟩
        by_cases hlt : at_ < msn
        focus
          obtain ⟨b, o, rfl, hb, hc⟩ := HM1.out.at_ hlt
          have hez : dms.getD at_ 0 = m := Classical.byContradiction fun h2 => hgo ⟨hlt, h2⟩
          rw [hez] at hc
          clear hez hgo hb
          go_wp2_with fail
          clear hc
        rotate_left
        focus
          have hlt' : at_ = msn := by omega
          clear hgo
          go_wp2_with fail
          clear hlt'
        all_goals
          clear x0 x1 x2 x3 x4 x5
          go_loopw [6, 7] (fun v i W => ∃ (k n' c' : Nat) (p' : Option Addr), k ≤ dsn ∧ i = .int .i64 k ∧ v = .slice p' n' c' ∧ Hid (LWay m ⟨t, dms, dsh, dps, dss, dds⟩ k p' n' c' w1 W) ∧ Hid (∀ i, i < k → dsh.getD i false = false → at_ ≠ msn)) (fun _ i _ => dsn - (intOf i).toNat)
          case atStart => exact ⟨0, _, _, _, Nat.zero_le _, rfl, rfl, HST, Lib.hid fun i h => by omega⟩
          case round =>
            obtain ⟨k, n', c', p', hk2, rfl, rfl, HK, HAt⟩ := hrel
            obtain rfl : n' = k + 1 := by have h := HK.out.1.len; rw [List.length_cons, itemsD_len] at h; exact h.symm
            have hsz := HK.out.2.size
            have HBw := Lib.hid (below_on HB1.out HK.out.2)
            have HXw := Lib.hid (HX1.out.below HK.out.2)
            obtain ⟨x0, x1, x2, x3, x4, x5⟩ := bx6 HXw.out
            by_cases hlk : k < dsn
            · obtain ⟨b2, o2, rfl, hb2, hc2⟩ := SlBool.rd_at (H0.out.2.2.1.below HBw.out) hlk
              rcases hsx : dsh.getD k false with _ | _
              · rw [hsx] at hc2
                obtain ⟨b5, o5, pk, nk, ck, rfl, hb5, hc5, hrk⟩ := (H0.out.2.2.2.2.2.below HBw.out).at_ hlk
                by_cases heq : at_ = msn
                · have HD := Lib.hid (redD_none (m := m) (D := ⟨t, dms, dsh, dps, dss, dds⟩) (by show dms.idxOf m = dms.length; rw [HI.out, HNm.out]; exact heq) (anyHid_yes (D := ⟨t, dms, dsh, dps, dss, dds⟩) (i := k) (by show k < dsh.length; rw [HN.out]; exact hlk) hsx))
                  clear hsx hrk
                  first
                    | (exfalso; omega)
                    | (subst heq; go_wp2_with fail; go_ret; exact ⟨by rw [HD.out]; rfl, HBw.out⟩)
                · have hlm : at_ < msn := by omega
                  try (exfalso; omega)
                  all_goals
                    have hnk : nk = msn := by rw [← hrk.len, ← HNm.out]; exact redOk_hid HOK.out (i := k) (by show k < dsh.length; rw [HN.out]; exact hlk) hsx
                    have HIt := Lib.hid (itemD_hid (m := m) (D := ⟨t, dms, dsh, dps, dss, dds⟩) hsx)
                    have HNx := Lib.hid (itemsD_next m ⟨t, dms, dsh, dps, dss, dds⟩ k)
                    have HAt2 : Hid (∀ i, i < k + 1 → dsh.getD i false = false → at_ ≠ msn) := Lib.hid fun i _ _ => heq
                    obtain ⟨b6, o6, rfl, hb6, hc6⟩ := hrk.at_ (i := at_) (by omega)
                    have HIn : Hid (inK .i64 ((dds.getD k []).getD at_ 0)) := Lib.hid (allK_getD hrk.all _)
                    have HIt2 : Hid (itemD m ⟨t, dms, dsh, dps, dss, dds⟩ k = (dds.getD k []).getD at_ 0) := Lib.hid (by rw [HIt.out]; show (dds.getD k []).getD (dms.idxOf m) 0 = _; rw [HI.out])
                    generalize (dds.getD k []).getD at_ 0 = z at hc6 HIn HIt2
                    have heq' : ¬ ((at_ : Int) = (msn : Int)) := by omega
                    clear hsx hrk heq
                    subst hnk
                    go_wp2_with (at_builtin; refine wpList_app1 rfl (.tmp 62) (.tmp 71) 25 rfl i0 _ 8 Try.underlying25 hi hz0 hz1 hz2 rfl rfl (HK.out.1.alloc _) wr.heap.size 1 z rfl (by go_simp) HIn.out (by simp; omega) (by omega) (by omega) ?_; intro p3 c3 w3 how3 hg3; have HO3 := Lib.hid how3; have HB3 := Lib.hid ((HK.out.2.alloc HK.out.2.size _).trans ((HK.out.1.alloc _).below_row hg3 (by simp; omega))); clear how3 hg3)
                    go_roundw
                    case rel => exact ⟨k + 1, _, _, _, by omega, by go_num, rfl, Lib.hid ⟨by rw [HNx.out, HIt2.out]; exact HO3.out, HB3.out⟩, HAt2⟩
                    case measure => simp [intOf]; omega
              · rw [hsx] at hc2
                obtain ⟨b3, o3, rfl, hb3, hc3⟩ := SlStr.rd_at (H0.out.2.2.2.1.below HB1.out) hlk
                obtain ⟨b4, o4, rfl, hb4, hc4⟩ := (H0.out.2.2.2.2.1.below HB1.out).at_ hlk
                have hs40 : (dps.getD k ByteArray.empty).size ≤ 10000000 := by
                  have h1 := (redOk_part HOK.out (i := k) (by show k < dsh.length; rw [HN.out]; exact hlk) hsx).1
                  have h2 : (dps.getD k ByteArray.empty).size ≤ 40 := h1
                  omega
                have HIn : Hid (inK .i64 (dss.getD k 0)) := Lib.hid (allK_getD H0.out.2.2.2.2.1.all k)
                have HAt2 : Hid (∀ i, i < k + 1 → dsh.getD i false = false → at_ ≠ msn) := Lib.hid fun i hi h => by
                  rcases Nat.lt_succ_iff_lt_or_eq.1 hi with h2 | rfl
                  · exact HAt.out i h2 h
                  · rw [hsx] at h; cases h
                have HNx : Hid (itemsD m ⟨t, dms, dsh, dps, dss, dds⟩ (k + 1) = itemsD m ⟨t, dms, dsh, dps, dss, dds⟩ k ++ [partD m (dps.getD k ByteArray.empty) (dss.getD k 0)]) := Lib.hid (by rw [itemsD_next, itemD_show (D := ⟨t, dms, dsh, dps, dss, dds⟩) hsx])
                have HC : Hid (∀ w', Below w1.heap.size w1 w' → w'.cell? ⟨b3, o3 + k, none⟩ = some (.string (dps.getD k ByteArray.empty)) ∧ w'.cell? ⟨b4, o4 + k, none⟩ = some (.int .i64 (dss.getD k 0))) := Lib.hid fun w' hb => ⟨(hb.cell (p := ⟨b3, o3 + k, none⟩) hb3).trans hc3, (hb.cell (p := ⟨b4, o4 + k, none⟩) hb4).trans hc4⟩
                clear hsx hc3 hc4
                generalize dps.getD k ByteArray.empty = x at hs40 HNx HC
                generalize dss.getD k 0 = y at HIn HNx HC
                have HF2 : Hid (∀ w', Below w1.heap.size w1 w' → w'.cell? ⟨w.heap.size, 3, none⟩ = some (.slice (some ⟨b3, o3, none⟩) dsn psc) ∧ w'.cell? ⟨w.heap.size, 4, none⟩ = some (.slice (some ⟨b4, o4, none⟩) dsn ssc) ∧ w'.cell? ⟨b3, o3 + k, none⟩ = some (.string x) ∧ w'.cell? ⟨b4, o4 + k, none⟩ = some (.int .i64 y)) := Lib.hid fun w' hb => ⟨(HX1.out.below hb).cell rfl, (HX1.out.below hb).cell rfl, (HC.out w' hb).1, (HC.out w' hb).2⟩
                obtain ⟨g1, g2⟩ := HC.out wr HK.out.2
                have HB2 := Lib.hid HK.out.2
                obtain ⟨pd1, pd2⟩ := partD_in m x y
                have i1 : (0 : Int) ≤ (k : Int) := by omega
                have i2 : (k : Int) < (dsn : Int) := by omega
                go_wp2_with fail
                go_region_held3 (fun w' => w'.cell? ⟨w.heap.size, 3, none⟩ = some (.slice (some ⟨b3, o3, none⟩) dsn psc) ∧ w'.cell? ⟨w.heap.size, 4, none⟩ = some (.slice (some ⟨b4, o4, none⟩) dsn ssc) ∧ w'.cell? ⟨b3, o3 + k, none⟩ = some (.string x) ∧ w'.cell? ⟨b4, o4 + k, none⟩ = some (.int .i64 y)) (first | exact HF2.out _ HB4.out | exact HF2.out _ (HB3.out.alloc HB3.out.size _) | exact HF2.out _ HB3.out | exact HF2.out _ (below_drewN HB2.out 1) | go_keep) (first
                  | (go_at_call 65; refine (spec_part_any m x y _ hs40 HM.out HIn.out).mono ?_; rintro e w2 ⟨rfl, hb2'⟩; have HB3 := Lib.hid (below_on (below_drewN HB2.out 1) hb2'); have HO3 := Lib.hid ((HK.out.1.drewN 1).below hb2'); clear hb2')
                  | (refine step_appI rfl (.tmp 42) (.tmp 55) 25 rfl i0 _ 8 Try.underlying25 hi hz0 hz1 hz2 rfl rfl (HO3.out.alloc _) w2.heap.size 1 (partD m x y) rfl (by go_simp) ⟨by omega, by omega⟩ (Nat.le_trans HB3.out.size (by simp)) (by omega) (by omega) ?_; intro p3 c3 w3 how3 hg3; have HO4 := Lib.hid how3; have HB4 := Lib.hid ((HB3.out.alloc HB3.out.size _).trans ((HO3.out.alloc _).below_row hg3 (Nat.le_trans HB3.out.size (by simp)))); clear how3 hg3))
                go_wp2_with fail
                go_roundw
                case rel => exact ⟨k + 1, _, _, _, by omega, by go_num, rfl, Lib.hid ⟨by rw [HNx.out]; exact HO4.out, HB4.out⟩, HAt2⟩
                case measure => simp [intOf]; omega
            · obtain rfl : k = dsn := by omega
              have HD := Lib.hid (redD_yes (m := m) (D := ⟨t, dms, dsh, dps, dss, dds⟩) HOK.out (fun h2 => anyHid_no (fun i hi => by
                rcases hs : dsh.getD i false with _ | _
                · exact absurd (by have h3 : dms.idxOf m = dms.length := h2; rw [← HI.out, h3, HNm.out]) (HAt.out i (by rw [← HN.out]; exact hi) hs)
                · rfl)))
              go_wp2_with fail
              refine (spec_dig_any _ _ _ _ _ _ HK.out.1.rd HM.out (by omega)).mono ?_
              rintro e w3 ⟨rfl, hb⟩
              have HB3 := Lib.hid (below_on HBw.out hb)
              clear hb
              go_wp2_with fail
              go_ret
              exact ⟨by rw [HD.out, show ((⟨t, dms, dsh, dps, dss, dds⟩ : Rc).sh.length) = k from HN.out]; rfl, HB3.out⟩
end Go.Proofs.Ytjlckfbacphblaa.Rg
