/- Contract of the reference's IsRedactionOf. -/
import Derived.Test.YtjlckfbacphblaaRo
import Derived.Test.YtjlckfbacphblaaRl
namespace Go.Proofs.Ytjlckfbacphblaa.Ro
open Go.ChangeShapes Go.WideShapes Go.ChangeAt Go.RowKit Sl St Tn Dm Dk De SlRed Rr Od Oq Rk

theorem l7eq_x (t : Int) (msp : Option Addr) (msn msc : Nat) (shp : Option Addr) (shn shc : Nat) (psp : Option Addr) (psn psc : Nat) (ssp : Option Addr) (ssn ssc : Nat) (dsp : Option Addr) (dsn dsc : Nat) ( t1 : Int ) ( msp1 : Option Addr ) ( msn1 msc1 : Nat ) ( shp1 : Option Addr ) ( shn1 shc1 : Nat ) ( psp1 : Option Addr ) ( psn1 psc1 : Nat ) ( ssp1 : Option Addr ) ( ssn1 ssc1 : Nat ) ( dsp1 : Option Addr ) ( dsn1 dsc1 : Nat ) (D E : Rc) (w : World) (h : RdR w ⟨t, msp, msn, msc, shp, shn, shc, psp, psn, psc, ssp, ssn, ssc, dsp, dsn, dsc⟩ D) (h' : RdR w ⟨t1, msp1, msn1, msc1, shp1, shn1, shc1, psp1, psn1, psc1, ssp1, ssn1, ssc1, dsp1, dsn1, dsc1⟩ E) (ep : psn = shn) (ed : dsn = shn) : Calls Try.prog 93 #[.agg #[.int .i64 t, .slice msp msn msc, .slice shp shn shc, .slice psp psn psc, .slice ssp ssn ssc, .slice dsp dsn dsc], .agg #[.int .i64 t1, .slice msp1 msn1 msc1, .slice shp1 shn1 shc1, .slice psp1 psn1 psc1, .slice ssp1 ssn1 ssc1, .slice dsp1 dsn1 dsc1]] w (Tells (eqR D E) w) := l7eq_any ⟨t, msp, msn, msc, shp, shn, shc, psp, psn, psc, ssp, ssn, ssc, dsp, dsn, dsc⟩ ⟨t1, msp1, msn1, msc1, shp1, shn1, shc1, psp1, psn1, psc1, ssp1, ssn1, ssc1, dsp1, dsn1, dsc1⟩ D E w h h' ep ed
theorem red_lens (ms : List Int) (X : Dc) (hide : List Int) : (redR ms X hide).ps.length = (redR ms X hide).sh.length ∧ (redR ms X hide).ds.length = (redR ms X hide).sh.length := by
  rcases h : docOk X with _ | _
  · rw [redR_no h]; exact ⟨rfl, rfl⟩
  · rw [redR_yes h]; unfold redK; simp only [len_map]; exact ⟨trivial, trivial⟩
theorem isB_ps {G D : Rc} (h1 : G.ps.length = G.sh.length) (h : ¬ D.ps.length = D.sh.length) : eqR G D = false := by
  rw [eqR_is]; exact @decide_eq_false _ (_) (fun e => h (by rw [← e]; exact h1))
theorem isB_ds {G D : Rc} (h1 : G.ds.length = G.sh.length) (h : ¬ D.ds.length = D.sh.length) : eqR G D = false := by
  rw [eqR_is]; exact @decide_eq_false _ (_) (fun e => h (by rw [← e]; exact h1))
set_option maxRecDepth 100000 in
set_option maxHeartbeats 8000000 in
theorem spec_isOf_any (a : Ra) (b : SlDcu.Ra) (D : Rc) (E : SlDcu.Rc) (w : World) (h : RdR w a D) (h' : SlDcu.RdR w b E) (hf : size D ≤ 1048576) (hf' : SlDcu.size E ≤ 1048576) : Calls Try.prog 41 #[a.val, b.val] w (Tells (isB D E) w) := by
  obtain ⟨i0, hi, hz0, hz1, hz2⟩ := info_parts SlI.info
  have hsn := shn_le h hf
  have hmn : a.msn ≤ 1048576 := by have := h.2.1.len; unfold size at hf; omega
  have HL : Hid (D.sh.length = a.shn) := Lib.hid h.2.2.1.len
  have HLp : Hid (D.ps.length = a.psn) := Lib.hid h.2.2.2.1.len
  have HLd : Hid (D.ds.length = a.dsn) := Lib.hid h.2.2.2.2.2.len
  have hlp := h.2.2.2.1.le
  have hld := h.2.2.2.2.2.le
  have HA := Lib.hid h
  obtain ⟨ta, mspa, msna, msca, shpa, shna, shca, pspa, psna, psca, sspa, ssna, ssca, dspa, dsna, dsca⟩ := a
  obtain ⟨t, p, n, c, q, m, d⟩ := b
  obtain ⟨et, eps, ess⟩ := E
  obtain ⟨e0, hp, hq⟩ := h'
  dsimp only at e0 hp hq hsn hmn HL HLp HLd hlp hld
  subst e0
  have HM := Lib.hid h.2.1
  have HP := Lib.hid hp
  have HQ := Lib.hid hq
  have HR := Lib.hid h.2.2.1
  clear h hp hq hf hf'
  dsimp only at HM HR
  have HB := Lib.hid ((box1 w (.cells #[.int .i64 ta, .slice mspa msna msca, .slice shpa shna shca, .slice pspa psna psca, .slice sspa ssna ssca, .slice dspa dsna dsca] 43)).alloc (by simp) (.cells #[.int .i64 t, .slice p n c, .slice q m d] 27))
  have HX := Lib.hid ((Bx.new w 43 #[.int .i64 ta, .slice mspa msna msca, .slice shpa shna shca, .slice pspa psna psca, .slice sspa ssna ssca, .slice dspa dsna dsca]).alloc (.cells #[.int .i64 t, .slice p n c, .slice q m d] 27))
  have hy := Bx.new (w.alloc (.cells #[.int .i64 ta, .slice mspa msna msca, .slice shpa shna shca, .slice pspa psna psca, .slice sspa ssna ssca, .slice dspa dsna dsca] 43)) 27 #[.int .i64 t, .slice p n c, .slice q m d]
  rw [World.size_alloc] at hy
  have HY := Lib.hid hy
  clear hy
  have SP : Hid (∀ (p3 : Option Addr) (n3 c3 : Nat) (w1 : World), Rd .i64 w1 mspa msna D.ms → RdS SlStr.E w1 p n eps → Rd .i64 w1 q m ess → Rd .i64 w1 p3 n3 (hidL D.sh shna) → Calls Try.prog 20 #[.slice mspa msna msca, .agg #[.int .i64 t, .slice p n c, .slice q m d], .slice p3 n3 c3] w1 (GivesF (redR D.ms (t, eps, ess) (hidL D.sh shna)) (docOk (t, eps, ess)) w1)) := Lib.hid fun p3 n3 c3 w1 h1 h2 h3 h4 => (spec_red_any D.ms mspa msna msca t p n c q m d eps ess p3 n3 c3 _ w1 h1 h2 h3 h4 hmn).mono fun _ _ => givesF
  have HE : Hid (isB D ⟨t, eps, ess⟩ = (docOk (t, eps, ess) && eqR (redR D.ms (t, eps, ess) (hidL D.sh shna)) D)) := Lib.hid (by unfold isB; rw [HL.out])
  have HG := Lib.hid (red_lens D.ms (t, eps, ess) (hidL D.sh shna))
  generalize isB D ⟨t, eps, ess⟩ = ans at HE ⊢
  generalize docOk (t, eps, ess) = β at SP HE
  generalize redR D.ms (t, eps, ess) (hidL D.sh shna) = G at SP HE HG
  unfold Ra.val Ra.cells SlDcu.Ra.val SlDcu.Ra.cells
  dsimp only
  have hs0 : ((w.alloc (.cells #[.int .i64 ta, .slice mspa msna msca, .slice shpa shna shca, .slice pspa psna psca, .slice sspa ssna ssca, .slice dspa dsna dsca] 43)).alloc (.cells #[.int .i64 t, .slice p n c, .slice q m d] 27)).heap.size = w.heap.size + 2 := by simp
  go_enter Try.func41, Try.ntmps41
  go_wp2_with fail
  obtain ⟨w1, hw1⟩ : ∃ w1, (w.alloc (.cells #[.int .i64 ta, .slice mspa msna msca, .slice shpa shna shca, .slice pspa psna psca, .slice sspa ssna ssca, .slice dspa dsna dsca] 43)).alloc (.cells #[.int .i64 t, .slice p n c, .slice q m d] 27) = w1 := ⟨_, rfl⟩
  rw [hw1] at HB HX HY hs0 ⊢
  clear hw1
  have HM0 : Hid (Ow .i64 3 (w1.alloc (.cells #[] 3)) w1.heap.size (w1.alloc (.cells #[] 3)).heap.size (some ⟨w1.heap.size, 0, none⟩) 0 0 (hidL D.sh 0) ∧ Below w1.heap.size w1 (w1.alloc (.cells #[] 3))) := Lib.hid ⟨Dt.emptyI w1 w1.heap.size (Nat.le_refl _), box1 _ _⟩
  rw [hs0] at HM0
  have hs1 : w1.heap.size ≤ w.heap.size + 2 := by omega
  have hs2 : w.heap.size + 2 ≤ w1.heap.size := by omega
  (try rw [hs0])
  clear hs0
  go_loopw [5, 6] (fun v i wr => ∃ (k m' c' : Nat) (p' : Option Addr), k ≤ shna ∧ i = .int .i64 k ∧ v = .slice p' m' c' ∧ Hid (Ow .i64 3 wr (w.heap.size + 2) wr.heap.size p' m' c' (hidL D.sh k) ∧ Below (w.heap.size + 2) w1 wr)) (fun _ i _ => shna - (intOf i).toNat)
  case atStart => exact ⟨0, _, _, _, Nat.zero_le _, rfl, rfl, HM0⟩
  case round =>
    obtain ⟨k, m', c', p', hk, rfl, rfl, HK⟩ := hrel
    have HBw : Hid (Below w1.heap.size w1 wr) := Lib.hid (HK.out.2.mono (by omega))
    have HXw := Lib.hid (HX.out.below HBw.out)
    obtain ⟨u0, u1, u2, u3, u4, u5⟩ := bx6 HXw.out
    by_cases hlt : k < shna
    · obtain ⟨b, o, rfl, hb, hc⟩ := SlBool.rd_at (HR.out.below (below_on HB.out HBw.out)) hlt
      have hm : m' ≤ k := by rw [← HK.out.1.len]; exact hidL_len _ _
      have hsz := HK.out.2.size
      rcases hx : D.sh.getD k false with _ | _
      · have HN := Lib.hid (hidL_hid hx)
        rw [hx] at hc
        clear hx
        go_wp2_with (at_builtin; refine wpList_app1 rfl (.tmp 23) (.tmp 25) 25 rfl i0 _ 8 Try.underlying25 hi hz0 hz1 hz2 rfl rfl (HK.out.1.alloc _) wr.heap.size 1 (k : Int) rfl (by go_simp) ⟨by omega, by omega⟩ (by simp; omega) (by omega) (by omega) ?_; intro p3 c3 w3 how3 hg3; have HO3 := Lib.hid how3; have HB3 := Lib.hid ((HK.out.2.alloc (by omega) _).trans ((HK.out.1.alloc _).below_row hg3 (by simp; omega))); clear how3 hg3)
        go_roundw
        case rel => exact ⟨k + 1, _, _, _, by omega, by go_num, rfl, Lib.hid ⟨by rw [HN.out]; exact HO3.out, HB3.out⟩⟩
        case measure => simp [intOf]; omega
      · have HN := Lib.hid (hidL_show hx)
        rw [hx] at hc
        clear hx
        go_wp2_with fail
        go_roundw
        case rel => exact ⟨k + 1, _, _, _, by omega, by go_num, rfl, Lib.hid ⟨by rw [HN.out]; exact HK.out.1, HK.out.2⟩⟩
        case measure => simp [intOf]; omega
    · obtain rfl : k = shna := by omega
      have HYw := Lib.hid (HY.out.below HBw.out)
      obtain ⟨y0, y1, y2⟩ := SlDcu.bx3 HYw.out
      have HBW := Lib.hid (below_on HB.out HBw.out)
      go_wp2_with fail
      refine (SP.out _ _ _ _ (HM.out.below HBW.out) (HP.out.below HBW.out) (HQ.out.below HBW.out) HK.out.1.rd).mono ?_
      rintro e w2 ⟨tr, mspr, msnr, mscr, shpr, shnr, shcr, pspr, psnr, pscr, sspr, ssnr, sscr, dspr, dsnr, dscr, hsr, rfl, ho, hb⟩
      have HB2 := Lib.hid (below_on HBW.out hb)
      have HX2 := Lib.hid (HXw.out.below hb)
      have HO := Lib.hid ho
      clear hb ho u0 u1 u2 u3 u4 u5 y0 y1 y2
      have HB3 := Lib.hid (HB2.out.alloc HB2.out.size (.cells #[.int .i64 tr, .slice mspr msnr mscr, .slice shpr shnr shcr, .slice pspr psnr pscr, .slice sspr ssnr sscr, .slice dspr dsnr dscr] 43))
      have HX3 := Lib.hid (HX2.out.alloc (.cells #[.int .i64 tr, .slice mspr msnr mscr, .slice shpr shnr shcr, .slice pspr psnr pscr, .slice sspr ssnr sscr, .slice dspr dsnr dscr] 43))
      have HR3 := Lib.hid (Bx.new w2 43 #[.int .i64 tr, .slice mspr msnr mscr, .slice shpr shnr shcr, .slice pspr psnr pscr, .slice sspr ssnr sscr, .slice dspr dsnr dscr])
      obtain ⟨u0, u1, u2, u3, u4, u5, v0, v1, v2, v3, v4, v5⟩ := two6 HR3.out HX3.out
      rcases β with _ | _
      · go_wp2_with fail
        go_ret
        exact tells (by rw [HE.out]; rfl) HB3.out
      by_cases hq1 : k = psna
      rotate_left
      · have G1 := Lib.hid (isB_ps (D := D) HG.out.1 (by rw [HLp.out, HL.out]; exact fun e => hq1 e.symm))
        have hi1 : ¬ ((psna : Int) = (k : Int)) := by omega
        go_wp2_with fail
        go_ret
        exact tells (by rw [HE.out, G1.out]; rfl) HB3.out
      subst hq1
      by_cases hq2 : k = dsna
      rotate_left
      · have G1 := Lib.hid (isB_ds (D := D) HG.out.2 (by rw [HLd.out, HL.out]; exact fun e => hq2 e.symm))
        have hi2 : ¬ ((dsna : Int) = (k : Int)) := by omega
        go_wp2_with fail
        go_ret
        exact tells (by rw [HE.out, G1.out]; rfl) HB3.out
      subst hq2
      have q1 : psnr = shnr := by have h1 : G.ps.length = psnr := HO.out.ps.len; have h2 : G.sh.length = shnr := HO.out.sh.len; have h3 := HG.out.1; omega
      have q2 : dsnr = shnr := by have h1 : G.ds.length = dsnr := HO.out.len; have h2 : G.sh.length = shnr := HO.out.sh.len; have h3 := HG.out.2; omega
      have Q1 := Lib.hid q1
      have Q2 := Lib.hid q2
      clear q1 q2
      go_wp2_with fail
      have HRa : Hid (RdR (w2.alloc (.cells #[.int .i64 tr, .slice mspr msnr mscr, .slice shpr shnr shcr, .slice pspr psnr pscr, .slice sspr ssnr sscr, .slice dspr dsnr dscr] 43)) ⟨tr, mspr, msnr, mscr, shpr, shnr, shcr, pspr, psnr, pscr, sspr, ssnr, sscr, dspr, dsnr, dscr⟩ G) := Lib.hid (HO.out.rd.alloc _)
      have HRb : Hid (RdR (w2.alloc (.cells #[.int .i64 tr, .slice mspr msnr mscr, .slice shpr shnr shcr, .slice pspr psnr pscr, .slice sspr ssnr sscr, .slice dspr dsnr dscr] 43)) ⟨ta, mspa, msna, msca, shpa, k, shca, pspa, k, psca, sspa, ssna, ssca, dspa, k, dsca⟩ D) := Lib.hid (HA.out.below HB3.out)
      (with_reducible refine (l7eq_x _ _ _ _ _ _ _ _ _ _ _ _ _ _ _ _ _ _ _ _ _ _ _ _ _ _ _ _ _ _ _ _ G D _ HRa.out HRb.out Q1.out Q2.out).mono ?_)
      rintro e w3 ⟨rfl, hb⟩
      have HB4 := Lib.hid (below_on HB3.out hb)
      clear hb
      go_wp2_with fail
      go_ret
      exact tells (by rw [HE.out]; rfl) HB4.out
end Go.Proofs.Ytjlckfbacphblaa.Ro
