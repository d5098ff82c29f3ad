/- Equality of redacted documents, in the program and in the reference. -/
import Derived.Test.YtjlckfbacphblaaDe
import Derived.Test.YtjlckfbacphblaaOr
namespace Go.Proofs.Ytjlckfbacphblaa.Oq
open Go.ChangeShapes Go.WideShapes Go.ChangeAt Go.RowKit Sl St Tn Dm Dk De SlRed

set_option maxRecDepth 100000 in
set_option maxHeartbeats 2000000 in
theorem eqBoolL_any (p p' : Option Addr) (n n' c c' : Nat) (xs ys : List Bool) (w : World) (hr : RdS SlBool.E w p n xs) (hr' : RdS SlBool.E w p' n' ys) : Calls Try.prog 109 #[.slice p n c, .slice p' n' c'] w (Tells (eqL xs ys) w) := by
  have HR := Lib.hid hr
  have HR' := Lib.hid hr'
  have HL := Lib.hid hr.len
  have HL' := Lib.hid hr'.len
  have hle := hr.le
  have hle' := hr'.le
  clear hr hr'
  by_cases hnn : n = n'
  rotate_left
  · have HE := Lib.hid (eqL_len HL.out HL'.out hnn)
    have hi : ¬ ((n : Int) = (n' : Int)) := by omega
    go_enter Try.func109, Try.ntmps109
    go_wp2_with fail
    go_ret
    exact tells (by rw [HE.out]) (Below.refl _ _)
  subst hnn
  go_enter Try.func109, Try.ntmps109
  go_wp2_with fail
  go_loopw [13] (fun i wr => ∃ k : Nat, k ≤ n ∧ i = .int .i64 k ∧ Hid ((∀ j, j < k → xs.getD j false = ys.getD j false) ∧ Below w.heap.size w wr)) (fun i _ => n - (intOf i).toNat)
  case atStart => exact ⟨0, Nat.zero_le _, rfl, Lib.hid ⟨fun j h => by omega, Below.refl _ _⟩⟩
  case round =>
    obtain ⟨k, hk, rfl, HK⟩ := hrel
    by_cases hlt : k < n
    · obtain ⟨b, o, rfl, hb, hc⟩ := SlBool.rd_at (HR.out.below HK.out.2) hlt
      obtain ⟨b', o', rfl, hb', hc'⟩ := SlBool.rd_at (HR'.out.below HK.out.2) hlt
      generalize hx : xs.getD k false = x at hc
      generalize hy : ys.getD k false = y at hc'
      have HX := Lib.hid hx
      have HY := Lib.hid hy
      clear hx hy
      have i1 : (0 : Int) ≤ (k : Int) := by omega
      have i2 : (k : Int) < (n : Int) := by omega
      by_cases he : x = y
      · have HN := Lib.hid (all_next HK.out.1 HX.out HY.out he)
        subst he
        go_wp2_with fail
        go_quiet (fail)
        go_wp2_with fail
        go_roundw
        case rel => exact ⟨k + 1, by omega, by go_num, Lib.hid ⟨HN.out, below_drewN HK.out.2 _⟩⟩
        case measure => simp [intOf]; omega
      · have HE := Lib.hid (eqL_first (xs := xs) (ys := ys) (k := k) false (by rw [HX.out, HY.out]; exact he))
        rcases x with _ | _ <;> rcases y with _ | _ <;> first | exact absurd rfl he | skip
        all_goals
          go_wp2_with fail
          go_quiet (fail)
          go_wp2_with fail
          go_ret
          exact tells (by rw [HE.out]) (below_drewN HK.out.2 _)
    · obtain rfl : k = n := by omega
      have HE := Lib.hid (eqL_all (xs := xs) (ys := ys) false HL.out HL'.out HK.out.1)
      go_wp2_with fail
      go_ret
      exact tells (by rw [HE.out]) HK.out.2
set_option maxRecDepth 100000 in
set_option maxHeartbeats 2000000 in
theorem eqFuncL_any (p p' : Option Addr) (n n' c c' : Nat) (xs ys : List (List Int)) (w : World) (hr : SlL.RdL w p n xs) (hr' : SlL.RdL w p' n' ys) : Calls Try.prog 110 #[.slice p n c, .slice p' n' c', .func (.func 58) #[] #[]] w (Tells (eqL xs ys) w) := by
  have HR := Lib.hid hr
  have HR' := Lib.hid hr'
  have HL := Lib.hid hr.len
  have HL' := Lib.hid hr'.len
  have hle := hr.le
  have hle' := hr'.le
  clear hr hr'
  by_cases hnn : n = n'
  rotate_left
  · have HE := Lib.hid (eqL_len HL.out HL'.out hnn)
    have hi : ¬ ((n : Int) = (n' : Int)) := by omega
    go_enter Try.func110, Try.ntmps110
    go_wp2_with fail
    go_ret
    exact tells (by rw [HE.out]) (Below.refl _ _)
  subst hnn
  go_enter Try.func110, Try.ntmps110
  go_wp2_with fail
  go_loopw [17] (fun i wr => ∃ k : Nat, k ≤ n ∧ i = .int .i64 k ∧ Hid ((∀ j, j < k → xs.getD j [] = ys.getD j []) ∧ Below w.heap.size w wr)) (fun i _ => n - (intOf i).toNat)
  case atStart => exact ⟨0, Nat.zero_le _, rfl, Lib.hid ⟨fun j h => by omega, Below.refl _ _⟩⟩
  case round =>
    obtain ⟨k, hk, rfl, HK⟩ := hrel
    by_cases hlt : k < n
    · obtain ⟨b, o, pk, nk, ck, rfl, hb, hc, hx⟩ := (HR.out.below HK.out.2).at_ hlt
      obtain ⟨b', o', pk', nk', ck', rfl, hb', hc', hy⟩ := (HR'.out.below HK.out.2).at_ hlt
      have HX := Lib.hid hx
      have HY := Lib.hid hy
      clear hx hy
      have i1 : (0 : Int) ≤ (k : Int) := by omega
      have i2 : (k : Int) < (n : Int) := by omega
      go_wp2_with fail
      refine (eqInts_any _ _ _ _ _ _ _ _ _ HX.out HY.out).mono ?_
      rintro e w1 ⟨rfl, hb1⟩
      have HB1 := Lib.hid (below_on HK.out.2 hb1)
      clear hb1
      by_cases he : xs.getD k [] = ys.getD k []
      · have HN := Lib.hid (all_next HK.out.1 rfl rfl he)
        rw [show eqL (xs.getD k []) (ys.getD k []) = true from by unfold eqL; exact @decide_eq_true _ (_) he]
        go_wp2_with fail
        go_roundw
        case rel => exact ⟨k + 1, by omega, by go_num, Lib.hid ⟨HN.out, HB1.out⟩⟩
        case measure => simp [intOf]; omega
      · have HE := Lib.hid (eqL_first (xs := xs) (ys := ys) (k := k) [] he)
        rw [show eqL (xs.getD k []) (ys.getD k []) = false from by unfold eqL; exact @decide_eq_false _ (_) he]
        go_wp2_with fail
        go_ret
        exact tells (by rw [HE.out]) HB1.out
    · obtain rfl : k = n := by omega
      have HE := Lib.hid (eqL_all (xs := xs) (ys := ys) [] HL.out HL'.out HK.out.1)
      go_wp2_with fail
      go_ret
      exact tells (by rw [HE.out]) HK.out.2

/-! ### redacted documents -/
noncomputable def eqR (D E : Rc) : Bool := decide (D.t = E.t) && (eqL D.ms E.ms && (eqL D.sh E.sh && (eqL D.ps E.ps && (eqL D.ss E.ss && eqL D.ds E.ds))))
open Classical in
theorem eqR_is (D E : Rc) : eqR D E = decide (D = E) := by
  obtain ⟨t, ms, sh, ps, ss, ds⟩ := D
  obtain ⟨t', ms', sh', ps', ss', ds'⟩ := E
  unfold eqR eqL
  rw [Bool.eq_iff_iff]
  simp only [Bool.and_eq_true, decide_eq_true_eq, Rc.mk.injEq]
set_option maxRecDepth 100000 in
set_option maxHeartbeats 4000000 in
theorem eqR_any (a b : Ra) (D E : Rc) (w : World) (h : RdR w a D) (h' : RdR w b E) : Calls Try.prog 71 #[a.val, b.val] w (Tells (eqR D E) w) := by
  obtain ⟨t, msp, msn, msc, shp, shn, shc, psp, psn, psc, ssp, ssn, ssc, dsp, dsn, dsc⟩ := a
  obtain ⟨t1, msp1, msn1, msc1, shp1, shn1, shc1, psp1, psn1, psc1, ssp1, ssn1, ssc1, dsp1, dsn1, dsc1⟩ := b
  obtain ⟨dt, dms, dsh, dps, dss, dds⟩ := D
  obtain ⟨et, ems, esh, eps, ess, eds⟩ := E
  obtain ⟨rfl, h1, h2, h3, h4, h5⟩ := h
  obtain ⟨rfl, h1', h2', h3', h4', h5'⟩ := h'
  have P1 := Lib.hid h1
  have Q1 := Lib.hid h1'
  have P2 := Lib.hid h2
  have Q2 := Lib.hid h2'
  have P3 := Lib.hid h3
  have Q3 := Lib.hid h3'
  have P4 := Lib.hid h4
  have Q4 := Lib.hid h4'
  have P5 := Lib.hid h5
  have Q5 := Lib.hid h5'
  clear h1 h2 h3 h4 h5 h1' h2' h3' h4' h5'
  have HB := Lib.hid ((box1 w (.cells #[.int .i64 t, .slice msp msn msc, .slice shp shn shc, .slice psp psn psc, .slice ssp ssn ssc, .slice dsp dsn dsc] 43)).alloc (by simp) (.cells #[.int .i64 t1, .slice msp1 msn1 msc1, .slice shp1 shn1 shc1, .slice psp1 psn1 psc1, .slice ssp1 ssn1 ssc1, .slice dsp1 dsn1 dsc1] 43))
  have HX := Lib.hid ((Bx.new w 43 #[.int .i64 t, .slice msp msn msc, .slice shp shn shc, .slice psp psn psc, .slice ssp ssn ssc, .slice dsp dsn dsc]).alloc (.cells #[.int .i64 t1, .slice msp1 msn1 msc1, .slice shp1 shn1 shc1, .slice psp1 psn1 psc1, .slice ssp1 ssn1 ssc1, .slice dsp1 dsn1 dsc1] 43))
  have hy := Bx.new (w.alloc (.cells #[.int .i64 t, .slice msp msn msc, .slice shp shn shc, .slice psp psn psc, .slice ssp ssn ssc, .slice dsp dsn dsc] 43)) 43 #[.int .i64 t1, .slice msp1 msn1 msc1, .slice shp1 shn1 shc1, .slice psp1 psn1 psc1, .slice ssp1 ssn1 ssc1, .slice dsp1 dsn1 dsc1]
  rw [World.size_alloc] at hy
  have HY := Lib.hid hy
  clear hy
  unfold Ra.val Ra.cells
  dsimp only
  by_cases ht : t = t1
  rotate_left
  · go_enter Try.func71, Try.ntmps71
    obtain ⟨u0, u1, u2, u3, u4, u5, v0, v1, v2, v3, v4, v5⟩ := two6 HX.out HY.out
    go_wp2_with fail
    go_ret
    exact tells (by unfold eqR; rw [decide_eq_false ht]; rfl) HB.out
  subst ht
  obtain ⟨u0, u1, u2, u3, u4, u5, v0, v1, v2, v3, v4, v5⟩ := two6 HX.out HY.out
  go_enter Try.func71, Try.ntmps71
  go_wp2_with fail
  refine (eqInts_any _ _ _ _ _ _ _ _ _ (P1.out.below HB.out) (Q1.out.below HB.out)).mono ?_
  rintro e w1 ⟨rfl, hb⟩
  replace HB := Lib.hid (below_on HB.out hb)
  replace HX := Lib.hid (HX.out.below hb)
  replace HY := Lib.hid (HY.out.below hb)
  clear hb u0 u1 u2 u3 u4 u5 v0 v1 v2 v3 v4 v5
  obtain ⟨u0, u1, u2, u3, u4, u5, v0, v1, v2, v3, v4, v5⟩ := two6 HX.out HY.out
  rcases he : eqL dms ems with _ | _
  · have H1 := Lib.hid he
    clear he
    go_wp2_with fail
    go_ret
    exact tells (by unfold eqR; rw [decide_eq_true rfl]; simp only [H1.out, Bool.true_and, Bool.false_and]) HB.out
  have H1 := Lib.hid he
  clear he
  go_wp2_with fail
  refine (eqBoolL_any _ _ _ _ _ _ _ _ _ (P2.out.below HB.out) (Q2.out.below HB.out)).mono ?_
  rintro e w2 ⟨rfl, hb⟩
  replace HB := Lib.hid (below_on HB.out hb)
  replace HX := Lib.hid (HX.out.below hb)
  replace HY := Lib.hid (HY.out.below hb)
  clear hb u0 u1 u2 u3 u4 u5 v0 v1 v2 v3 v4 v5
  obtain ⟨u0, u1, u2, u3, u4, u5, v0, v1, v2, v3, v4, v5⟩ := two6 HX.out HY.out
  rcases he : eqL dsh esh with _ | _
  · have H2 := Lib.hid he
    clear he
    go_wp2_with fail
    go_ret
    exact tells (by unfold eqR; rw [decide_eq_true rfl]; simp only [H1.out, H2.out, Bool.true_and, Bool.false_and]) HB.out
  have H2 := Lib.hid he
  clear he
  go_wp2_with fail
  refine (eqStr_any _ _ _ _ _ _ _ _ _ (P3.out.below HB.out) (Q3.out.below HB.out)).mono ?_
  rintro e w3 ⟨rfl, hb⟩
  replace HB := Lib.hid (below_on HB.out hb)
  replace HX := Lib.hid (HX.out.below hb)
  replace HY := Lib.hid (HY.out.below hb)
  clear hb u0 u1 u2 u3 u4 u5 v0 v1 v2 v3 v4 v5
  obtain ⟨u0, u1, u2, u3, u4, u5, v0, v1, v2, v3, v4, v5⟩ := two6 HX.out HY.out
  rcases he : eqL dps eps with _ | _
  · have H3 := Lib.hid he
    clear he
    go_wp2_with fail
    go_ret
    exact tells (by unfold eqR; rw [decide_eq_true rfl]; simp only [H1.out, H2.out, H3.out, Bool.true_and, Bool.false_and]) HB.out
  have H3 := Lib.hid he
  clear he
  go_wp2_with fail
  refine (eqInts_any _ _ _ _ _ _ _ _ _ (P4.out.below HB.out) (Q4.out.below HB.out)).mono ?_
  rintro e w4 ⟨rfl, hb⟩
  replace HB := Lib.hid (below_on HB.out hb)
  replace HX := Lib.hid (HX.out.below hb)
  replace HY := Lib.hid (HY.out.below hb)
  clear hb u0 u1 u2 u3 u4 u5 v0 v1 v2 v3 v4 v5
  obtain ⟨u0, u1, u2, u3, u4, u5, v0, v1, v2, v3, v4, v5⟩ := two6 HX.out HY.out
  rcases he : eqL dss ess with _ | _
  · have H4 := Lib.hid he
    clear he
    go_wp2_with fail
    go_ret
    exact tells (by unfold eqR; rw [decide_eq_true rfl]; simp only [H1.out, H2.out, H3.out, H4.out, Bool.true_and, Bool.false_and]) HB.out
  have H4 := Lib.hid he
  clear he
  go_wp2_with fail
  refine (eqFuncL_any _ _ _ _ _ _ _ _ _ (P5.out.below HB.out) (Q5.out.below HB.out)).mono ?_
  rintro e w5 ⟨rfl, hb⟩
  replace HB := Lib.hid (below_on HB.out hb)
  replace HX := Lib.hid (HX.out.below hb)
  replace HY := Lib.hid (HY.out.below hb)
  clear hb u0 u1 u2 u3 u4 u5 v0 v1 v2 v3 v4 v5
  obtain ⟨u0, u1, u2, u3, u4, u5, v0, v1, v2, v3, v4, v5⟩ := two6 HX.out HY.out
  go_wp2_with fail
  go_ret
  exact tells (by unfold eqR; rw [decide_eq_true rfl]; simp only [H1.out, H2.out, H3.out, H4.out, Bool.true_and]) HB.out
end Go.Proofs.Ytjlckfbacphblaa.Oq
