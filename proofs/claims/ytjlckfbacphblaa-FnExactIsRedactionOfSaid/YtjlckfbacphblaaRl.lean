/- Contract of the reference's l7Equal. -/
import Derived.Test.YtjlckfbacphblaaOq
import Derived.Test.YtjlckfbacphblaaQt
namespace Go.Proofs.Ytjlckfbacphblaa.Ro
open Go.ChangeShapes Go.WideShapes Go.ChangeAt Go.RowKit Sl St Tn Dm Dk De SlRed Rr Oq
set_option linter.unusedSimpArgs false
set_option maxRecDepth 100000 in
set_option maxHeartbeats 4000000 in
theorem l7eq_any (a b : Ra) (D E : Rc) (w : World) (h : RdR w a D) (h' : RdR w b E) (ep : a.psn = a.shn) (ed : a.dsn = a.shn) : Calls Try.prog 93 #[a.val, b.val] w (Tells (eqR D E) w) := by
  obtain ⟨t, msp, msn, msc, shp, shn, shc, psp, psn, psc, ssp, ssn, ssc, dsp, dsn, dsc⟩ := a
  obtain ⟨t1, msp1, msn1, msc1, shp1, shn1, shc1, psp1, psn1, psc1, ssp1, ssn1, ssc1, dsp1, dsn1, dsc1⟩ := b
  obtain ⟨dt, dms, dsh, dps, dss, dds⟩ := D
  obtain ⟨et, ems, esh, eps, ess, eds⟩ := E
  obtain ⟨rfl, h1, h2, h3, h4, h5⟩ := h
  obtain ⟨rfl, h1', h2', h3', h4', h5'⟩ := h'
  dsimp only at ep ed
  subst psn
  subst dsn
  have P1 := Lib.hid h1
  have Q1 := Lib.hid h1'
  have P2 := Lib.hid h2
  have Q2 := Lib.hid h2'
  have P3 := Lib.hid h3
  have Q3 := Lib.hid h3'
  have P4 := Lib.hid h4
  have Q4 := Lib.hid h4'
  have P5 := Lib.hid h5
  have Q5 := Lib.hid h5'
  have hle2 := h2.le
  have hle2' := h2'.le
  have hle3 := h3.le
  have hle3' := h3'.le
  have hle5 := h5.le
  have hle5' := h5'.le
  clear h1 h2 h3 h4 h5 h1' h2' h3' h4' h5'
  have HB := Lib.hid ((box1 w (.cells #[.int .i64 t, .slice msp msn msc, .slice shp shn shc, .slice psp shn psc, .slice ssp ssn ssc, .slice dsp shn dsc] 43)).alloc (by simp) (.cells #[.int .i64 t1, .slice msp1 msn1 msc1, .slice shp1 shn1 shc1, .slice psp1 psn1 psc1, .slice ssp1 ssn1 ssc1, .slice dsp1 dsn1 dsc1] 43))
  have HX := Lib.hid ((Bx.new w 43 #[.int .i64 t, .slice msp msn msc, .slice shp shn shc, .slice psp shn psc, .slice ssp ssn ssc, .slice dsp shn dsc]).alloc (.cells #[.int .i64 t1, .slice msp1 msn1 msc1, .slice shp1 shn1 shc1, .slice psp1 psn1 psc1, .slice ssp1 ssn1 ssc1, .slice dsp1 dsn1 dsc1] 43))
  have hy := Bx.new (w.alloc (.cells #[.int .i64 t, .slice msp msn msc, .slice shp shn shc, .slice psp shn psc, .slice ssp ssn ssc, .slice dsp shn dsc] 43)) 43 #[.int .i64 t1, .slice msp1 msn1 msc1, .slice shp1 shn1 shc1, .slice psp1 psn1 psc1, .slice ssp1 ssn1 ssc1, .slice dsp1 dsn1 dsc1]
  rw [World.size_alloc] at hy
  have HY := Lib.hid hy
  clear hy
  unfold Ra.val Ra.cells
  dsimp only
  by_cases ht : t = t1
  rotate_left
  · go_enter Try.func93, Try.ntmps93
    obtain ⟨u0, u1, u2, u3, u4, u5, v0, v1, v2, v3, v4, v5⟩ := two6 HX.out HY.out
    go_wp2_with fail
    go_ret
    exact tells (by unfold eqR; rw [decide_eq_false ht]; rfl) HB.out
  subst ht
  go_enter Try.func93, Try.ntmps93
  obtain ⟨u0, u1, u2, u3, u4, u5, v0, v1, v2, v3, v4, v5⟩ := two6 HX.out HY.out
  go_wp2_with fail
  refine (spec_eqInts_any _ _ _ _ _ _ _ _ _ (P1.out.below HB.out) (Q1.out.below HB.out)).mono ?_
  rintro e w1 ⟨rfl, hb⟩
  replace HB := Lib.hid (below_on HB.out hb)
  replace HX := Lib.hid (HX.out.below hb)
  replace HY := Lib.hid (HY.out.below hb)
  clear hb u0 u1 u2 u3 u4 u5 v0 v1 v2 v3 v4 v5
  obtain ⟨u0, u1, u2, u3, u4, u5, v0, v1, v2, v3, v4, v5⟩ := two6 HX.out HY.out
  rcases he : eqL dms ems with _ | _
  · have H1 := Lib.hid he
    clear he
    go_wp2_with fail
    go_ret
    exact tells (by unfold eqR; rw [decide_eq_true rfl]; simp only [H1.out, Bool.true_and, Bool.false_and, Bool.and_false, Bool.and_true]) HB.out
  have H1 := Lib.hid he
  clear he
  go_wp2_with fail
  refine (spec_eqInts_any _ _ _ _ _ _ _ _ _ (P4.out.below HB.out) (Q4.out.below HB.out)).mono ?_
  rintro e w4 ⟨rfl, hb⟩
  replace HB := Lib.hid (below_on HB.out hb)
  replace HX := Lib.hid (HX.out.below hb)
  replace HY := Lib.hid (HY.out.below hb)
  clear hb u0 u1 u2 u3 u4 u5 v0 v1 v2 v3 v4 v5
  obtain ⟨u0, u1, u2, u3, u4, u5, v0, v1, v2, v3, v4, v5⟩ := two6 HX.out HY.out
  rcases he : eqL dss ess with _ | _
  · have H4 := Lib.hid he
    clear he
    go_wp2_with fail
    go_ret
    exact tells (by unfold eqR; rw [decide_eq_true rfl]; simp only [H1.out, H4.out, Bool.true_and, Bool.false_and, Bool.and_false, Bool.and_true]) HB.out
  have H4 := Lib.hid he
  clear he
  by_cases hl2 : shn = shn1
  rotate_left
  · have G := Lib.hid (eqL_len P2.out.len Q2.out.len hl2)
    have hi : ¬ ((shn : Int) = (shn1 : Int)) := by omega
    go_wp2_with fail
    go_ret
    exact tells (by unfold eqR; rw [decide_eq_true rfl]; simp only [H1.out, H4.out, G.out, Bool.true_and, Bool.false_and, Bool.and_false, Bool.and_true]) HB.out
  subst shn1
  by_cases hl3 : shn = psn1
  rotate_left
  · have G := Lib.hid (eqL_len P3.out.len Q3.out.len hl3)
    have hi : ¬ ((shn : Int) = (psn1 : Int)) := by omega
    go_wp2_with fail
    go_ret
    exact tells (by unfold eqR; rw [decide_eq_true rfl]; simp only [H1.out, H4.out, G.out, Bool.true_and, Bool.false_and, Bool.and_false, Bool.and_true]) HB.out
  subst psn1
  by_cases hl5 : shn = dsn1
  rotate_left
  · have G := Lib.hid (eqL_len P5.out.len Q5.out.len hl5)
    have hi : ¬ ((shn : Int) = (dsn1 : Int)) := by omega
    go_wp2_with fail
    go_ret
    exact tells (by unfold eqR; rw [decide_eq_true rfl]; simp only [H1.out, H4.out, G.out, Bool.true_and, Bool.false_and, Bool.and_false, Bool.and_true]) HB.out
  subst dsn1
  go_wp2_with fail
  clear u0 u1 u2 u3 u4 u5 v0 v1 v2 v3 v4 v5
  go_loopw [5] (fun i wr => ∃ k : Nat, k ≤ shn ∧ i = .int .i64 k ∧ Hid ((∀ j, j < k → dsh.getD j false = esh.getD j false) ∧ (∀ j, j < k → dps.getD j ByteArray.empty = eps.getD j ByteArray.empty) ∧ (∀ j, j < k → dds.getD j [] = eds.getD j []) ∧ Below w4.heap.size w4 wr)) (fun i _ => shn - (intOf i).toNat)
  case atStart => exact ⟨0, Nat.zero_le _, rfl, Lib.hid ⟨fun j h => by omega, fun j h => by omega, fun j h => by omega, Below.refl _ _⟩⟩
  case round =>
    obtain ⟨k, hk, rfl, HK⟩ := hrel
    have HXr := Lib.hid (HX.out.below HK.out.2.2.2)
    have HYr := Lib.hid (HY.out.below HK.out.2.2.2)
    have HBr := Lib.hid (below_on HB.out HK.out.2.2.2)
    obtain ⟨u0, u1, u2, u3, u4, u5, v0, v1, v2, v3, v4, v5⟩ := two6 HXr.out HYr.out
    by_cases hlt : k < shn
    · obtain ⟨b0, o0, rfl, hb0, hc0⟩ := SlBool.rd_at (P2.out.below HBr.out) hlt
      obtain ⟨b1, o1, rfl, hb1, hc1⟩ := SlBool.rd_at (Q2.out.below HBr.out) hlt
      obtain ⟨b2, o2, rfl, hb2, hc2⟩ := SlStr.rd_at (P3.out.below HBr.out) hlt
      obtain ⟨b3, o3, rfl, hb3, hc3⟩ := SlStr.rd_at (Q3.out.below HBr.out) hlt
      obtain ⟨b4, o4, pk, nk, ck, rfl, hb4, hc4, hx4⟩ := (P5.out.below HBr.out).at_ hlt
      obtain ⟨b5, o5, pk', nk', ck', rfl, hb5, hc5, hx5⟩ := (Q5.out.below HBr.out).at_ hlt
      have HX4 := Lib.hid hx4
      have HX5 := Lib.hid hx5
      clear hx4 hx5
      generalize hx : dsh.getD k false = sx at hc0
      generalize hy : esh.getD k false = sy at hc1
      have HS1 := Lib.hid hx
      have HS2 := Lib.hid hy
      clear hx hy
      generalize hx : dps.getD k ByteArray.empty = x at hc2
      generalize hy : eps.getD k ByteArray.empty = y at hc3
      have HT1 := Lib.hid hx
      have HT2 := Lib.hid hy
      clear hx hy
      have i1 : (0 : Int) ≤ (k : Int) := by omega
      have i2 : (k : Int) < (shn : Int) := by omega
      by_cases hs : sx = sy
      rotate_left
      · have G := Lib.hid (eqL_first (xs := dsh) (ys := esh) (k := k) false (by rw [HS1.out, HS2.out]; exact hs))
        rcases sx with _ | _ <;> rcases sy with _ | _
        · exact absurd rfl hs
        · clear hs
          go_wp2_with fail
          clear u0 u1 u2 u3 u4 u5 v0 v1 v2 v3 v4 v5
          have HC : Hid (∀ w', Qt.Keeps (wr) w' → w'.cell? ⟨w.heap.size, 2, none⟩ = some (.slice (some ⟨b0, o0, none⟩) shn shc) ∧ w'.cell? ⟨w.heap.size, 3, none⟩ = some (.slice (some ⟨b2, o2, none⟩) shn psc) ∧ w'.cell? ⟨w.heap.size, 5, none⟩ = some (.slice (some ⟨b4, o4, none⟩) shn dsc) ∧ w'.cell? ⟨w.heap.size + 1, 2, none⟩ = some (.slice (some ⟨b1, o1, none⟩) shn shc1) ∧ w'.cell? ⟨w.heap.size + 1, 3, none⟩ = some (.slice (some ⟨b3, o3, none⟩) shn psc1) ∧ w'.cell? ⟨w.heap.size + 1, 5, none⟩ = some (.slice (some ⟨b5, o5, none⟩) shn dsc1) ∧ w'.cell? ⟨b0, o0 + k, none⟩ = some (.bool false) ∧ w'.cell? ⟨b1, o1 + k, none⟩ = some (.bool true) ∧ w'.cell? ⟨b2, o2 + k, none⟩ = some (.string x) ∧ w'.cell? ⟨b3, o3 + k, none⟩ = some (.string y) ∧ w'.cell? ⟨b4, o4 + k, none⟩ = some (.slice pk nk ck) ∧ w'.cell? ⟨b5, o5 + k, none⟩ = some (.slice pk' nk' ck')) := Lib.hid fun w' hw => ⟨(HXr.out.below hw).cell rfl, (HXr.out.below hw).cell rfl, (HXr.out.below hw).cell rfl, (HYr.out.below hw).cell rfl, (HYr.out.below hw).cell rfl, (HYr.out.below hw).cell rfl, (hw.cell hb0).trans hc0, (hw.cell hb1).trans hc1, (hw.cell hb2).trans hc2, (hw.cell hb3).trans hc3, (hw.cell hb4).trans hc4, (hw.cell hb5).trans hc5⟩
          refine Qt.region (Qt.Keeps (wr)) (by kernel_rfl) (by kernel_rfl) (Qt.Keeps.drew _) ?_
          repeat (first
            | go_big_quiet_skip
            | (go_big_quiet_want
               refine Qt.val (v := ?_) (fun w hw => ?_) ?_
               rotate_left
               · obtain ⟨s0, s1, s2, s3, s4, s5, s6, s7, s8, s9, s10, s11⟩ := HC.out w hw
                 go_simp
                 rfl
               simp only [Act.put, List.setIfInBounds_toArray, List.set_cons_zero, List.set_cons_succ]
               go_big_quiet_on))
          refine wpQuiet_nil ?_
          intro w9 hw9
          have HW9 := Lib.hid (below_on HBr.out hw9)
          have HW8 := Lib.hid (below_on HK.out.2.2.2 hw9)
          clear hw9
          go_wp2_with fail
          go_ret
          exact tells (by unfold eqR; rw [decide_eq_true rfl]; simp only [H1.out, H4.out, G.out, Bool.true_and, Bool.false_and, Bool.and_false, Bool.and_true]) HW9.out
        · clear hs
          go_wp2_with fail
          clear u0 u1 u2 u3 u4 u5 v0 v1 v2 v3 v4 v5
          have HC : Hid (∀ w', Qt.Keeps (wr) w' → w'.cell? ⟨w.heap.size, 2, none⟩ = some (.slice (some ⟨b0, o0, none⟩) shn shc) ∧ w'.cell? ⟨w.heap.size, 3, none⟩ = some (.slice (some ⟨b2, o2, none⟩) shn psc) ∧ w'.cell? ⟨w.heap.size, 5, none⟩ = some (.slice (some ⟨b4, o4, none⟩) shn dsc) ∧ w'.cell? ⟨w.heap.size + 1, 2, none⟩ = some (.slice (some ⟨b1, o1, none⟩) shn shc1) ∧ w'.cell? ⟨w.heap.size + 1, 3, none⟩ = some (.slice (some ⟨b3, o3, none⟩) shn psc1) ∧ w'.cell? ⟨w.heap.size + 1, 5, none⟩ = some (.slice (some ⟨b5, o5, none⟩) shn dsc1) ∧ w'.cell? ⟨b0, o0 + k, none⟩ = some (.bool true) ∧ w'.cell? ⟨b1, o1 + k, none⟩ = some (.bool false) ∧ w'.cell? ⟨b2, o2 + k, none⟩ = some (.string x) ∧ w'.cell? ⟨b3, o3 + k, none⟩ = some (.string y) ∧ w'.cell? ⟨b4, o4 + k, none⟩ = some (.slice pk nk ck) ∧ w'.cell? ⟨b5, o5 + k, none⟩ = some (.slice pk' nk' ck')) := Lib.hid fun w' hw => ⟨(HXr.out.below hw).cell rfl, (HXr.out.below hw).cell rfl, (HXr.out.below hw).cell rfl, (HYr.out.below hw).cell rfl, (HYr.out.below hw).cell rfl, (HYr.out.below hw).cell rfl, (hw.cell hb0).trans hc0, (hw.cell hb1).trans hc1, (hw.cell hb2).trans hc2, (hw.cell hb3).trans hc3, (hw.cell hb4).trans hc4, (hw.cell hb5).trans hc5⟩
          refine Qt.region (Qt.Keeps (wr)) (by kernel_rfl) (by kernel_rfl) (Qt.Keeps.drew _) ?_
          repeat (first
            | go_big_quiet_skip
            | (go_big_quiet_want
               refine Qt.val (v := ?_) (fun w hw => ?_) ?_
               rotate_left
               · obtain ⟨s0, s1, s2, s3, s4, s5, s6, s7, s8, s9, s10, s11⟩ := HC.out w hw
                 go_simp
                 rfl
               simp only [Act.put, List.setIfInBounds_toArray, List.set_cons_zero, List.set_cons_succ]
               go_big_quiet_on))
          refine wpQuiet_nil ?_
          intro w9 hw9
          have HW9 := Lib.hid (below_on HBr.out hw9)
          have HW8 := Lib.hid (below_on HK.out.2.2.2 hw9)
          clear hw9
          go_wp2_with fail
          go_ret
          exact tells (by unfold eqR; rw [decide_eq_true rfl]; simp only [H1.out, H4.out, G.out, Bool.true_and, Bool.false_and, Bool.and_false, Bool.and_true]) HW9.out
        · exact absurd rfl hs
      subst hs
      by_cases he : x = y
      rotate_left
      · have hne := str_ne he
        have G := Lib.hid (eqL_first (xs := dps) (ys := eps) (k := k) ByteArray.empty (by rw [HT1.out, HT2.out]; exact he))
        clear he
        go_wp2_with fail
        clear u0 u1 u2 u3 u4 u5 v0 v1 v2 v3 v4 v5
        have HC : Hid (∀ w', Qt.Keeps (wr) w' → w'.cell? ⟨w.heap.size, 2, none⟩ = some (.slice (some ⟨b0, o0, none⟩) shn shc) ∧ w'.cell? ⟨w.heap.size, 3, none⟩ = some (.slice (some ⟨b2, o2, none⟩) shn psc) ∧ w'.cell? ⟨w.heap.size, 5, none⟩ = some (.slice (some ⟨b4, o4, none⟩) shn dsc) ∧ w'.cell? ⟨w.heap.size + 1, 2, none⟩ = some (.slice (some ⟨b1, o1, none⟩) shn shc1) ∧ w'.cell? ⟨w.heap.size + 1, 3, none⟩ = some (.slice (some ⟨b3, o3, none⟩) shn psc1) ∧ w'.cell? ⟨w.heap.size + 1, 5, none⟩ = some (.slice (some ⟨b5, o5, none⟩) shn dsc1) ∧ w'.cell? ⟨b0, o0 + k, none⟩ = some (.bool sx) ∧ w'.cell? ⟨b1, o1 + k, none⟩ = some (.bool sx) ∧ w'.cell? ⟨b2, o2 + k, none⟩ = some (.string x) ∧ w'.cell? ⟨b3, o3 + k, none⟩ = some (.string y) ∧ w'.cell? ⟨b4, o4 + k, none⟩ = some (.slice pk nk ck) ∧ w'.cell? ⟨b5, o5 + k, none⟩ = some (.slice pk' nk' ck')) := Lib.hid fun w' hw => ⟨(HXr.out.below hw).cell rfl, (HXr.out.below hw).cell rfl, (HXr.out.below hw).cell rfl, (HYr.out.below hw).cell rfl, (HYr.out.below hw).cell rfl, (HYr.out.below hw).cell rfl, (hw.cell hb0).trans hc0, (hw.cell hb1).trans hc1, (hw.cell hb2).trans hc2, (hw.cell hb3).trans hc3, (hw.cell hb4).trans hc4, (hw.cell hb5).trans hc5⟩
        refine Qt.region (Qt.Keeps (wr)) (by kernel_rfl) (by kernel_rfl) (Qt.Keeps.drew _) ?_
        repeat (first
          | go_big_quiet_skip
          | (go_big_quiet_want
             refine Qt.val (v := ?_) (fun w hw => ?_) ?_
             rotate_left
             · obtain ⟨s0, s1, s2, s3, s4, s5, s6, s7, s8, s9, s10, s11⟩ := HC.out w hw
               go_simp
               rfl
             simp only [Act.put, List.setIfInBounds_toArray, List.set_cons_zero, List.set_cons_succ]
             go_big_quiet_on))
        refine wpQuiet_nil ?_
        intro w9 hw9
        have HW9 := Lib.hid (below_on HBr.out hw9)
        have HW8 := Lib.hid (below_on HK.out.2.2.2 hw9)
        clear hw9
        go_wp2_with fail
        go_ret
        exact tells (by unfold eqR; rw [decide_eq_true rfl]; simp only [H1.out, H4.out, G.out, Bool.true_and, Bool.false_and, Bool.and_false, Bool.and_true]) HW9.out
      subst he
      rcases hd : eqL (dds.getD k []) (eds.getD k []) with _ | _
      · have HE := Lib.hid hd
        have G := Lib.hid (eqL_first (xs := dds) (ys := eds) (k := k) [] (by intro e; rw [e] at hd; unfold eqL at hd; simp at hd))
        clear hd
        go_wp2_with fail
        clear u0 u1 u2 u3 u4 u5 v0 v1 v2 v3 v4 v5
        have HC : Hid (∀ w', Qt.Keeps (wr) w' → w'.cell? ⟨w.heap.size, 2, none⟩ = some (.slice (some ⟨b0, o0, none⟩) shn shc) ∧ w'.cell? ⟨w.heap.size, 3, none⟩ = some (.slice (some ⟨b2, o2, none⟩) shn psc) ∧ w'.cell? ⟨w.heap.size, 5, none⟩ = some (.slice (some ⟨b4, o4, none⟩) shn dsc) ∧ w'.cell? ⟨w.heap.size + 1, 2, none⟩ = some (.slice (some ⟨b1, o1, none⟩) shn shc1) ∧ w'.cell? ⟨w.heap.size + 1, 3, none⟩ = some (.slice (some ⟨b3, o3, none⟩) shn psc1) ∧ w'.cell? ⟨w.heap.size + 1, 5, none⟩ = some (.slice (some ⟨b5, o5, none⟩) shn dsc1) ∧ w'.cell? ⟨b0, o0 + k, none⟩ = some (.bool sx) ∧ w'.cell? ⟨b1, o1 + k, none⟩ = some (.bool sx) ∧ w'.cell? ⟨b2, o2 + k, none⟩ = some (.string x) ∧ w'.cell? ⟨b3, o3 + k, none⟩ = some (.string x) ∧ w'.cell? ⟨b4, o4 + k, none⟩ = some (.slice pk nk ck) ∧ w'.cell? ⟨b5, o5 + k, none⟩ = some (.slice pk' nk' ck')) := Lib.hid fun w' hw => ⟨(HXr.out.below hw).cell rfl, (HXr.out.below hw).cell rfl, (HXr.out.below hw).cell rfl, (HYr.out.below hw).cell rfl, (HYr.out.below hw).cell rfl, (HYr.out.below hw).cell rfl, (hw.cell hb0).trans hc0, (hw.cell hb1).trans hc1, (hw.cell hb2).trans hc2, (hw.cell hb3).trans hc3, (hw.cell hb4).trans hc4, (hw.cell hb5).trans hc5⟩
        refine Qt.region (Qt.Keeps (wr)) (by kernel_rfl) (by kernel_rfl) (Qt.Keeps.drew _) ?_
        repeat (first
          | go_big_quiet_skip
          | (go_big_quiet_want
             refine Qt.val (v := ?_) (fun w hw => ?_) ?_
             rotate_left
             · obtain ⟨s0, s1, s2, s3, s4, s5, s6, s7, s8, s9, s10, s11⟩ := HC.out w hw
               go_simp
               rfl
             simp only [Act.put, List.setIfInBounds_toArray, List.set_cons_zero, List.set_cons_succ]
             go_big_quiet_on)
          | (go_big_quiet_want
             refine Qt.call (v := .bool false) (f := 113) (args := #[.slice pk nk ck, .slice pk' nk' ck']) (fun w hw => ?_) (fun w hw => ?_) ?_
             · go_simp
             · refine (spec_eqInts_any _ _ _ _ _ _ _ _ _ (HX4.out.below hw) (HX5.out.below hw)).mono ?_
               rintro e w1 ⟨rfl, hb1⟩
               rw [HE.out]
               exact ⟨rfl, hw.then hb1⟩
             simp only [Act.put, List.setIfInBounds_toArray, List.set_cons_zero, List.set_cons_succ]
             go_big_quiet_on))
        refine wpQuiet_nil ?_
        intro w9 hw9
        have HW9 := Lib.hid (below_on HBr.out hw9)
        have HW8 := Lib.hid (below_on HK.out.2.2.2 hw9)
        clear hw9
        go_wp2_with fail
        go_ret
        exact tells (by unfold eqR; rw [decide_eq_true rfl]; simp only [H1.out, H4.out, G.out, Bool.true_and, Bool.false_and, Bool.and_false, Bool.and_true]) HW9.out
      · have HE := Lib.hid hd
        have G : Hid (dds.getD k [] = eds.getD k []) := Lib.hid (by unfold eqL at hd; exact @of_decide_eq_true _ (_) hd)
        clear hd
        go_wp2_with fail
        clear u0 u1 u2 u3 u4 u5 v0 v1 v2 v3 v4 v5
        have HC : Hid (∀ w', Qt.Keeps (wr) w' → w'.cell? ⟨w.heap.size, 2, none⟩ = some (.slice (some ⟨b0, o0, none⟩) shn shc) ∧ w'.cell? ⟨w.heap.size, 3, none⟩ = some (.slice (some ⟨b2, o2, none⟩) shn psc) ∧ w'.cell? ⟨w.heap.size, 5, none⟩ = some (.slice (some ⟨b4, o4, none⟩) shn dsc) ∧ w'.cell? ⟨w.heap.size + 1, 2, none⟩ = some (.slice (some ⟨b1, o1, none⟩) shn shc1) ∧ w'.cell? ⟨w.heap.size + 1, 3, none⟩ = some (.slice (some ⟨b3, o3, none⟩) shn psc1) ∧ w'.cell? ⟨w.heap.size + 1, 5, none⟩ = some (.slice (some ⟨b5, o5, none⟩) shn dsc1) ∧ w'.cell? ⟨b0, o0 + k, none⟩ = some (.bool sx) ∧ w'.cell? ⟨b1, o1 + k, none⟩ = some (.bool sx) ∧ w'.cell? ⟨b2, o2 + k, none⟩ = some (.string x) ∧ w'.cell? ⟨b3, o3 + k, none⟩ = some (.string x) ∧ w'.cell? ⟨b4, o4 + k, none⟩ = some (.slice pk nk ck) ∧ w'.cell? ⟨b5, o5 + k, none⟩ = some (.slice pk' nk' ck')) := Lib.hid fun w' hw => ⟨(HXr.out.below hw).cell rfl, (HXr.out.below hw).cell rfl, (HXr.out.below hw).cell rfl, (HYr.out.below hw).cell rfl, (HYr.out.below hw).cell rfl, (HYr.out.below hw).cell rfl, (hw.cell hb0).trans hc0, (hw.cell hb1).trans hc1, (hw.cell hb2).trans hc2, (hw.cell hb3).trans hc3, (hw.cell hb4).trans hc4, (hw.cell hb5).trans hc5⟩
        refine Qt.region (Qt.Keeps (wr)) (by kernel_rfl) (by kernel_rfl) (Qt.Keeps.drew _) ?_
        repeat (first
          | go_big_quiet_skip
          | (go_big_quiet_want
             refine Qt.val (v := ?_) (fun w hw => ?_) ?_
             rotate_left
             · obtain ⟨s0, s1, s2, s3, s4, s5, s6, s7, s8, s9, s10, s11⟩ := HC.out w hw
               go_simp
               rfl
             simp only [Act.put, List.setIfInBounds_toArray, List.set_cons_zero, List.set_cons_succ]
             go_big_quiet_on)
          | (go_big_quiet_want
             refine Qt.call (v := .bool true) (f := 113) (args := #[.slice pk nk ck, .slice pk' nk' ck']) (fun w hw => ?_) (fun w hw => ?_) ?_
             · go_simp
             · refine (spec_eqInts_any _ _ _ _ _ _ _ _ _ (HX4.out.below hw) (HX5.out.below hw)).mono ?_
               rintro e w1 ⟨rfl, hb1⟩
               rw [HE.out]
               exact ⟨rfl, hw.then hb1⟩
             simp only [Act.put, List.setIfInBounds_toArray, List.set_cons_zero, List.set_cons_succ]
             go_big_quiet_on))
        refine wpQuiet_nil ?_
        intro w9 hw9
        have HW9 := Lib.hid (below_on HBr.out hw9)
        have HW8 := Lib.hid (below_on HK.out.2.2.2 hw9)
        clear hw9
        go_wp2_with fail
        go_roundw
        case rel => exact ⟨k + 1, by omega, by go_num, Lib.hid ⟨all_next HK.out.1 HS1.out HS2.out rfl, all_next HK.out.2.1 HT1.out HT2.out rfl, all_next HK.out.2.2.1 rfl rfl G.out, HW8.out⟩⟩
        case measure => simp [intOf]; omega
    · obtain rfl : k = shn := by omega
      have G1 := Lib.hid (eqL_all (xs := dsh) (ys := esh) false P2.out.len Q2.out.len HK.out.1)
      have G2 := Lib.hid (eqL_all (xs := dps) (ys := eps) ByteArray.empty P3.out.len Q3.out.len HK.out.2.1)
      have G3 := Lib.hid (eqL_all (xs := dds) (ys := eds) [] P5.out.len Q5.out.len HK.out.2.2.1)
      go_wp2_with fail
      go_ret
      exact tells (by unfold eqR; rw [decide_eq_true rfl]; simp only [H1.out, H4.out, G1.out, G2.out, G3.out, Bool.true_and]) HBr.out
end Go.Proofs.Ytjlckfbacphblaa.Ro
