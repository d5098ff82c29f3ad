/- The walk of the law FnSpans. -/
import Derived.Test.YtcenbbbghhmpfaaJm
import Derived.Test.YtcenbbbghhmpfaaTd
import Derived.Test.YtcenbbbghhmpfaaJs
import Derived.Test.YtcenbbbghhmpfaaDrawMs
import Derived.Test.YtcenbbbghhmpfaaQt
import Derived.Deep.DeepCutAuto
import Derived.OpenShut
namespace Go.Proofs.Ytcenbbbghhmpfaa.fnSpans
open Go.ChangeShapes Go.WideShapes Go.ChangeAt Go.RowKit Sl St Jn Sps SlSpan Jo Tc Ji Jm

theorem touches_has {L : List Sp} {t : Int} (h0 : 0 ≤ t) (h1 : t ≤ 50) : touches L (t, t) = true ↔ Has L t := by
  have ho : okB (t, t) = true := okB_mk ⟨h0, by show t ≤ 10000; omega, h0, by show t ≤ 10000; omega, Int.le_refl _⟩
  unfold touches
  rw [List.any_eq_true]
  constructor
  · rintro ⟨x, hx, hm⟩
    obtain ⟨h2, _, h3⟩ := meets_yes hm
    have h4 : max x.1 t ≤ min x.2 t := h3
    exact Has_mem hx h2 (by omega) (by omega)
  · rintro ⟨x, hx, h2, h3, h4⟩
    exact ⟨x, hx, meets_mk h2 ho (by show max x.1 t ≤ min x.2 t; omega)⟩
theorem covers_has {L : List Sp} {t : Int} (h0 : 0 ≤ t) (h1 : t ≤ 50) : covers L (t, t) = true ↔ Has L t := by
  have ho : okB (t, t) = true := okB_mk ⟨h0, by show t ≤ 10000; omega, h0, by show t ≤ 10000; omega, Int.le_refl _⟩
  rw [← join_has]
  unfold covers
  rw [List.any_eq_true]
  constructor
  · rintro ⟨x, hx, hm⟩
    unfold inside at hm
    rw [Bool.and_eq_true, Bool.and_eq_true, decide_eq_true_eq] at hm
    exact Has_mem hx hm.1.2 hm.2.1 hm.2.2
  · rintro ⟨x, hx, h2, h3, h4⟩
    refine ⟨x, hx, ?_⟩
    unfold inside
    rw [Bool.and_eq_true, Bool.and_eq_true, decide_eq_true_eq]
    exact ⟨⟨ho, h2⟩, h3, h4⟩
theorem t_join {L : List Sp} {t : Int} (h0 : 0 ≤ t) (h1 : t ≤ 50) : touches (join L) (t, t) = touches L (t, t) :=
  Bool.eq_iff_iff.2 ((touches_has h0 h1).trans ((join_has L t).trans (touches_has h0 h1).symm))
theorem t_cov {L : List Sp} {t : Int} (h0 : 0 ≤ t) (h1 : t ≤ 50) : covers L (t, t) = touches L (t, t) :=
  Bool.eq_iff_iff.2 ((covers_has h0 h1).trans (touches_has h0 h1).symm)
theorem t_meet {A B : List Sp} {t : Int} (h0 : 0 ≤ t) (h1 : t ≤ 50) : touches (join (mall A B)) (t, t) = (touches A (t, t) && touches B (t, t)) := by
  rw [t_join h0 h1, Bool.eq_iff_iff, Bool.and_eq_true, touches_has h0 h1, touches_has h0 h1, touches_has h0 h1]
  exact mall_has A B t
theorem meet_in {a b : Sp} (h : meets a b = true) : inside (meetR a b) a = true ∧ inside (meetR a b) b = true := by
  rw [meetR_yes h]
  have ho := meet_ok h
  obtain ⟨h1, h2, _⟩ := meets_yes h
  unfold inside
  rw [ho, h1, h2]
  simp only [Bool.and_self, Bool.true_and, decide_eq_true_eq]
  unfold meet
  exact ⟨⟨by show a.1 ≤ max a.1 b.1; omega, by show min a.2 b.2 ≤ a.2; omega⟩, ⟨by show b.1 ≤ max a.1 b.1; omega, by show min a.2 b.2 ≤ b.2; omega⟩⟩
theorem make_in {f t : Int} (h : makeB f t = true) : okB (makeS f t) = true ∧ f ≤ (makeS f t).1 ∧ (makeS f t).2 ≤ t := by
  rw [makeS_yes h]
  exact ⟨h, by show f ≤ max f 0; omega, by show min t 10000 ≤ t; omega⟩
theorem can_next {L : List Sp} (h : Jn.Can L) {j : Nat} (hj : j + 1 < L.length) : okB (L.getD (j + 1) zero) = true ∧ (L.getD j zero).2 + 1 < (L.getD (j + 1) zero).1 ∧ okB (L.getD j zero) = true := by
  rw [List.getD_eq_getElem?_getD, List.getElem?_eq_getElem hj, List.getD_eq_getElem?_getD, List.getElem?_eq_getElem (by omega : j < L.length)]
  exact ⟨h.2 _ (List.getElem_mem _), List.pairwise_iff_getElem.1 h.1 j (j + 1) (by omega) hj (by omega), h.2 _ (List.getElem_mem _)⟩
theorem c2_at {w : World} {p : Option Addr} {n k : Nat} {xs : List Sp} (h : RdS E w p n xs) (hk : k < n) : ∃ b o x y, p = some ⟨b, o, none⟩ ∧ b < w.heap.size ∧ xs.getD k zero = (x, y) ∧ At w b (o + k * 2) (x, y) := by
  obtain ⟨b, o, e, hb, h⟩ := rd_at h hk
  exact ⟨b, o, _, _, e, hb, rfl, h⟩
set_option maxRecDepth 100000 in
set_option maxHeartbeats 16000000 in
theorem walk {H : Type} {enc : TypeId × Value → H} (W : World) (base : Nat)
    (v0 : Value) (d0 : DataW H) (p0 : List MemPlace) (h0 : DataW.Trod enc Try.prog W 0 (fun _ => true) true 22 v0 d0 p0) (k0 : Value.okWide Try.prog W .any base 22 v0)
    (_hsz : (DataW.weightsEach Try.prog [22] [d0]).all (· ≤ reachBytes) = true) :
    Calls Try.prog 3 #[v0] W fun e w' => e = .returned (.bool true) ∧ Below W.heap.size W w' := by
  obtain ⟨n, hcode⟩ := Cur.code_of h0 k0
  have HC := Lib.hid hcode
  clear h0 k0 hcode _hsz
  rcases hbig : decide (1048576 < n) with _ | _
  rotate_left
  · have HBig := Lib.hid hbig
    clear hbig
    go_enter Try.func3, Try.ntmps3
    go_wp2_with fail
    refine (Cur.big_any _ _ _ _ HC.out HBig.out).mono ?_
    rintro e w' ⟨rfl, rfl⟩
    go_wp2_with fail
    go_ret
    exact ⟨rfl, Below.refl _ _⟩
  have HBig := Lib.hid hbig
  clear hbig
  go_enter Try.func3, Try.ntmps3
  go_wp2_with fail
  refine (Cur.big_any _ _ _ _ HC.out HBig.out).mono ?_
  rintro e w' ⟨rfl, rfl⟩
  go_wp2_with fail
  refine (Cur.drawJoin_any _ _ _ HC.out).mono ?_
  rintro e w1 ⟨p1, m1, c1, zs, rfl, hr, hl, hb⟩
  have HR1 := Lib.hid hr
  have hm1 := hl.1
  have HB1 := Lib.hid hb
  have HC1 := Lib.hid (HC.out.on hb)
  clear hr hl hb
  go_wp2_with fail
  refine (join_any _ _ _ _ _ HR1.out (by omega)).mono ?_
  rintro e w2 ⟨p2, n2, c2, rfl, ho, hb⟩
  have HR2 := Lib.hid ho.rd
  have hle2 := ho.rd.le
  have HB2 := Lib.hid (below_on HB1.out hb)
  have HC2 := Lib.hid (HC1.out.on hb)
  have hln := ho.len
  have HL2 := Lib.hid ho.len
  replace HR1 := Lib.hid (HR1.out.below hb)
  clear hb ho
  go_wp2_with fail
  refine (spec_join_any _ _ _ _ _ HR1.out (by omega)).mono ?_
  rintro e w3 ⟨p3, n3, c3, rfl, ho, hb⟩
  obtain rfl : n2 = n3 := by rw [← hln]; exact ho.len
  have HB3 := Lib.hid (below_on HB2.out hb)
  have HC3 := Lib.hid (HC2.out.on hb)
  replace HR1 := Lib.hid (HR1.out.below hb)
  replace HR2 := Lib.hid (HR2.out.below hb)
  clear hb ho hln
  go_wp2_with fail
  go_loopw [5] (fun i wr => ∃ k : Nat, i = .int .i64 (k + 1 : Nat) ∧ Hid (Below w3.heap.size w3 wr)) (fun i _ => n2 - (intOf i).toNat)
  case atStart => exact ⟨0, rfl, Lib.hid (Below.refl _ _)⟩
  case round =>
    obtain ⟨k, rfl, HK⟩ := hrel
    by_cases hlt : k + 1 < n2
    · have HRk := Lib.hid (HR2.out.below HK.out)
      obtain ⟨b, o, x0, x1, rfl, hb, hx, hat⟩ := c2_at HRk.out hlt
      obtain ⟨b', o', y0, y1, e', hb', hy, hat'⟩ := c2_at HRk.out (k := k) (by omega)
      simp only [Option.some.injEq, Addr.mk.injEq, and_true] at e'
      obtain ⟨rfl, rfl⟩ := e'
      obtain ⟨hok, hgap, hok'⟩ := can_next (join_can zs) (j := k) (by rw [HL2.out]; exact hlt)
      rw [hx, hy] at hgap
      rw [hx] at hok
      rw [hy] at hok'
      have hgap' : y1 + 1 < x0 := hgap
      obtain ⟨_, _, q1, q2, _⟩ := okB_yes hok'
      have q1' : 0 ≤ y1 := q1
      have q2' : y1 ≤ 10000 := q2
      have hw1 : IntKind.i64.wrap (y1 + 1) = y1 + 1 := IntWalk.i64_in _ (by omega)
      have hnle : decide (x0 ≤ y1 + 1) = false := decide_eq_false (by omega)
      have HO := Lib.hid hok
      have HA := Lib.hid hat
      have HP := Lib.hid hat'
      have jw : IntKind.i64.wrap (k : Int) = (k : Int) := IntWalk.i64_in _ (by omega)
      have j1 : (0 : Int) ≤ (k : Int) := by omega
      have j2 : (k : Int) < (n2 : Int) := by omega
      have j3 : ((k + 1 : Nat) : Int) < (n2 : Int) := by omega
      clear hx hy hok hok' hgap q1 q2 hat hat'
      go_wp2_with fail
      have HC : Hid (∀ w', Qt.Keeps (wr) w' → w'.cell? ⟨b, o + (k + 1) * 2, none⟩ = some (.int .i64 x0) ∧ w'.cell? ⟨b, o + (k + 1) * 2 + 1, none⟩ = some (.int .i64 x1) ∧ w'.cell? ⟨b, o + k * 2 + 1, none⟩ = some (.int .i64 y1)) := Lib.hid fun w' hw => let h := HA.out.below hw hb; ⟨h.1, h.2, (HP.out.below hw hb).2⟩
      refine Qt.region (Qt.Keeps (wr)) (by kernel_rfl) (by kernel_rfl) (Qt.Keeps.drew _) ?_
      repeat (first
        | go_big_quiet_skip
        | (go_big_quiet_want
           refine Qt.val (v := ?_) (fun w hw => ?_) ?_
           rotate_left
           · obtain ⟨s0, s1, s2⟩ := HC.out w hw
             go_simp
             rfl
           simp only [Act.put, List.setIfInBounds_toArray, List.set_cons_zero, List.set_cons_succ]
           go_big_quiet_on)
        | (go_big_quiet_want
           refine Qt.call (v := .bool true) (f := 18) (args := #[.agg #[.int .i64 x0, .int .i64 x1]]) (fun w hw => ?_) (fun w hw => ?_) ?_
           · go_simp
           · refine (isSpan_any x0 x1 _).mono ?_
             rintro e w1 ⟨rfl, hb1⟩
             rw [HO.out]
             exact ⟨rfl, hw.then hb1⟩
           simp only [Act.put, List.setIfInBounds_toArray, List.set_cons_zero, List.set_cons_succ]
           go_big_quiet_on))
      refine wpQuiet_nil ?_
      intro w4 hw4
      have HW4 := Lib.hid (below_on HK.out hw4)
      clear hw4
      go_wp2_with fail
      go_roundw
      case rel => exact ⟨k + 1, by go_num, HW4⟩
      case measure => simp [intOf]; omega
    · have hge : ¬ ((k + 1 : Nat) : Int) < (n2 : Int) := by omega
      have HB4 := Lib.hid (below_on HB3.out HK.out)
      have HC4 := Lib.hid (HC3.out.on HK.out)
      replace HR1 := Lib.hid (HR1.out.below HK.out)
      replace HR2 := Lib.hid (HR2.out.below HK.out)
      go_wp2_with fail
      go_loopw [6] (fun i wr' => ∃ k : Nat, k ≤ m1 ∧ i = .int .i64 k ∧ Hid (Below wr.heap.size wr wr')) (fun i _ => m1 - (intOf i).toNat)
      case atStart => exact ⟨0, Nat.zero_le _, rfl, Lib.hid (Below.refl _ _)⟩
      case round =>
        obtain ⟨i, hi, rfl, HI⟩ := hrel
        by_cases hil : i < m1
        · obtain ⟨b, o, x0, x1, rfl, hb, hx, hat⟩ := c2_at (HR1.out.below HI.out) hil
          obtain ⟨s0, s1⟩ := hat
          clear hx
          have i1 : (0 : Int) ≤ (i : Int) := by omega
          have i2 : (i : Int) < (m1 : Int) := by omega
          rcases hβ : okB (x0, x1) with _ | _
          · have HO := Lib.hid hβ
            clear hβ
            go_wp2_with fail
            refine (spec_isSpan_any _ _ _).mono ?_
            rintro e w4 ⟨rfl, hb4⟩
            rw [HO.out]
            have HB5 := Lib.hid (below_on HB4.out (below_on HI.out hb4))
            clear hb4
            go_wp2_with fail
            go_ret
            exact ⟨rfl, HB5.out⟩
          · have HO := Lib.hid hβ
            clear hβ
            go_wp2_with fail
            refine (spec_isSpan_any _ _ _).mono ?_
            rintro e w4 ⟨rfl, hb4⟩
            rw [HO.out]
            have HI4 := Lib.hid (below_on HI.out hb4)
            clear hb4
            go_wp2_with fail
            go_roundw
            case rel => exact ⟨i + 1, by omega, by go_num, HI4⟩
            case measure => simp [intOf]; omega
        · obtain rfl : i = m1 := by omega
          have HB5 := Lib.hid (below_on HB4.out HI.out)
          have HC5 := Lib.hid (HC4.out.on HI.out)
          replace HR1 := Lib.hid (HR1.out.below HI.out)
          replace HR2 := Lib.hid (HR2.out.below HI.out)
          go_wp2_with fail
          refine (Cur.drawMeet_any _ _ _ HC5.out).mono ?_
          rintro e w5 ⟨p5, m5, c5, xa, p6, m6, c6, xb, rfl, hra, hrb, hla, hlb, hb⟩
          have HRA := Lib.hid hra
          have HRB := Lib.hid hrb
          have hm5 := hla.1
          have hm6 := hlb.1
          replace HR1 := Lib.hid (HR1.out.below hb)
          replace HR2 := Lib.hid (HR2.out.below hb)
          have HB6 := Lib.hid (below_on HB5.out hb)
          have HC6 := Lib.hid (HC5.out.on hb)
          clear hra hrb hla hlb hb
          go_wp2_with fail
          refine (meetAll_any _ _ _ _ _ _ _ _ _ HRA.out HRB.out (by omega) (by omega)).mono ?_
          rintro e w6 ⟨p7, m7, c7, rfl, ho, hb⟩
          have HRM := Lib.hid ho.rd
          replace HRA := Lib.hid (HRA.out.below hb)
          replace HRB := Lib.hid (HRB.out.below hb)
          replace HR1 := Lib.hid (HR1.out.below hb)
          replace HR2 := Lib.hid (HR2.out.below hb)
          have HB7 := Lib.hid (below_on HB6.out hb)
          have HC7 := Lib.hid (HC6.out.on hb)
          clear ho hb
          go_wp2_with fail
          go_loopw [10] (fun i wr' => ∃ k : Nat, k ≤ 51 ∧ i = .int .i64 k ∧ Hid (Below w6.heap.size w6 wr')) (fun i _ => 51 - (intOf i).toNat)
          case atStart => exact ⟨0, by omega, rfl, Lib.hid (Below.refl _ _)⟩
          case round =>
            obtain ⟨t, ht, rfl, HT⟩ := hrel
            by_cases htl : t < 51
            · obtain ⟨β1, hβ1⟩ : ∃ β, touches zs ((t : Int), (t : Int)) = β := ⟨_, rfl⟩
              obtain ⟨β2, hβ2⟩ : ∃ β, touches xa ((t : Int), (t : Int)) = β := ⟨_, rfl⟩
              obtain ⟨β3, hβ3⟩ : ∃ β, touches xb ((t : Int), (t : Int)) = β := ⟨_, rfl⟩
              have T1 := Lib.hid hβ1
              have T2 := Lib.hid hβ2
              have T3 := Lib.hid hβ3
              have T4 : Hid (touches (join zs) ((t : Int), (t : Int)) = β1) := Lib.hid (by rw [t_join (by omega) (by omega), hβ1])
              have T5 : Hid (covers zs ((t : Int), (t : Int)) = β1) := Lib.hid (by rw [t_cov (by omega) (by omega), hβ1])
              have T6 : Hid (touches (join (mall xa xb)) ((t : Int), (t : Int)) = (β2 && β3)) := Lib.hid (by rw [t_meet (by omega) (by omega), hβ2, hβ3])
              clear hβ1 hβ2 hβ3
              have HTb := Lib.hid (HT.out.alloc HT.out.size (.cells #[.int .i64 t, .int .i64 t] 28))
              have HK1 := Lib.hid (HR1.out.below HTb.out)
              have HK2 := Lib.hid (HR2.out.below HTb.out)
              have HKA := Lib.hid (HRA.out.below HTb.out)
              have HKB := Lib.hid (HRB.out.below HTb.out)
              have HKM := Lib.hid (HRM.out.below HTb.out)
              have ht1 : (t : Int) ≤ 50 := by omega
              rcases β2 with _ | _
              · rw [Bool.false_and] at T6
                go_wp2_with fail
                have HBX := Lib.hid (Bx.new wr 28 #[.int .i64 t, .int .i64 t])
                have HC : Hid (∀ w', Qt.Keeps ((wr.alloc (.cells #[.int .i64 t, .int .i64 t] 28))) w' → w'.cell? ⟨wr.heap.size, 0, none⟩ = some (.int .i64 t) ∧ w'.cell? ⟨wr.heap.size, 1, none⟩ = some (.int .i64 t)) := Lib.hid fun w' hw => ⟨(HBX.out.below hw).cell rfl, (HBX.out.below hw).cell rfl⟩
                refine Qt.region (Qt.Keeps ((wr.alloc (.cells #[.int .i64 t, .int .i64 t] 28)))) (by kernel_rfl) (by kernel_rfl) (Qt.Keeps.drew _) ?_
                repeat (first
                  | go_big_quiet_skip
                  | (go_big_quiet_want
                     refine Qt.val (v := ?_) (fun w hw => ?_) ?_
                     rotate_left
                     · obtain ⟨s0, s1⟩ := HC.out w hw
                       go_simp
                       rfl
                     simp only [Act.put, List.setIfInBounds_toArray, List.set_cons_zero, List.set_cons_succ]
                     go_big_quiet_on)
                  | (go_big_quiet_want
                     refine Qt.call (v := .bool β1) (f := 22) (args := #[.slice p2 n2 c2, .agg #[.int .i64 t, .int .i64 t]]) (fun w hw => ?_) (fun w hw => ?_) ?_
                     · go_simp
                     · refine (touches_any _ _ _ _ _ _ _ (HK2.out.below hw)).mono ?_
                       rintro e w1 ⟨rfl, hb1⟩
                       rw [T4.out]
                       exact ⟨rfl, hw.then hb1⟩
                     simp only [Act.put, List.setIfInBounds_toArray, List.set_cons_zero, List.set_cons_succ]
                     go_big_quiet_on)
                  | (go_big_quiet_want
                     refine Qt.call (v := .bool β1) (f := 22) (args := #[.slice p1 i c1, .agg #[.int .i64 t, .int .i64 t]]) (fun w hw => ?_) (fun w hw => ?_) ?_
                     · go_simp
                     · refine (touches_any _ _ _ _ _ _ _ (HK1.out.below hw)).mono ?_
                       rintro e w1 ⟨rfl, hb1⟩
                       rw [T1.out]
                       exact ⟨rfl, hw.then hb1⟩
                     simp only [Act.put, List.setIfInBounds_toArray, List.set_cons_zero, List.set_cons_succ]
                     go_big_quiet_on)
                  | (go_big_quiet_want
                     refine Qt.call (v := .bool false) (f := 22) (args := #[.slice p7 m7 c7, .agg #[.int .i64 t, .int .i64 t]]) (fun w hw => ?_) (fun w hw => ?_) ?_
                     · go_simp
                     · refine (touches_any _ _ _ _ _ _ _ (HKM.out.below hw)).mono ?_
                       rintro e w1 ⟨rfl, hb1⟩
                       rw [T6.out]
                       exact ⟨rfl, hw.then hb1⟩
                     simp only [Act.put, List.setIfInBounds_toArray, List.set_cons_zero, List.set_cons_succ]
                     go_big_quiet_on)
                  | (go_big_quiet_want
                     refine Qt.call (v := .bool false) (f := 22) (args := #[.slice p5 m5 c5, .agg #[.int .i64 t, .int .i64 t]]) (fun w hw => ?_) (fun w hw => ?_) ?_
                     · go_simp
                     · refine (touches_any _ _ _ _ _ _ _ (HKA.out.below hw)).mono ?_
                       rintro e w1 ⟨rfl, hb1⟩
                       rw [T2.out]
                       exact ⟨rfl, hw.then hb1⟩
                     simp only [Act.put, List.setIfInBounds_toArray, List.set_cons_zero, List.set_cons_succ]
                     go_big_quiet_on)
                  | (go_big_quiet_want
                     refine Qt.call (v := .bool β1) (f := 23) (args := #[.slice p1 i c1, .agg #[.int .i64 t, .int .i64 t]]) (fun w hw => ?_) (fun w hw => ?_) ?_
                     · go_simp
                     · refine (covers_any _ _ _ _ _ _ _ (HK1.out.below hw) (by omega)).mono ?_
                       rintro e w1 ⟨rfl, hb1⟩
                       rw [T5.out]
                       exact ⟨rfl, hw.then hb1⟩
                     simp only [Act.put, List.setIfInBounds_toArray, List.set_cons_zero, List.set_cons_succ]
                     go_big_quiet_on))
                refine wpQuiet_nil ?_
                intro w8 hw8
                have HW8 := Lib.hid (below_on HTb.out hw8)
                clear hw8
                go_wp2_with fail
                go_roundw
                case rel => exact ⟨t + 1, by omega, by go_num, HW8⟩
                case measure => simp [intOf]; omega
              · rw [Bool.true_and] at T6
                go_wp2_with fail
                have HBX := Lib.hid (Bx.new wr 28 #[.int .i64 t, .int .i64 t])
                have HC : Hid (∀ w', Qt.Keeps ((wr.alloc (.cells #[.int .i64 t, .int .i64 t] 28))) w' → w'.cell? ⟨wr.heap.size, 0, none⟩ = some (.int .i64 t) ∧ w'.cell? ⟨wr.heap.size, 1, none⟩ = some (.int .i64 t)) := Lib.hid fun w' hw => ⟨(HBX.out.below hw).cell rfl, (HBX.out.below hw).cell rfl⟩
                refine Qt.region (Qt.Keeps ((wr.alloc (.cells #[.int .i64 t, .int .i64 t] 28)))) (by kernel_rfl) (by kernel_rfl) (Qt.Keeps.drew _) ?_
                repeat (first
                  | go_big_quiet_skip
                  | (go_big_quiet_want
                     refine Qt.val (v := ?_) (fun w hw => ?_) ?_
                     rotate_left
                     · obtain ⟨s0, s1⟩ := HC.out w hw
                       go_simp
                       rfl
                     simp only [Act.put, List.setIfInBounds_toArray, List.set_cons_zero, List.set_cons_succ]
                     go_big_quiet_on)
                  | (go_big_quiet_want
                     refine Qt.call (v := .bool β1) (f := 22) (args := #[.slice p2 n2 c2, .agg #[.int .i64 t, .int .i64 t]]) (fun w hw => ?_) (fun w hw => ?_) ?_
                     · go_simp
                     · refine (touches_any _ _ _ _ _ _ _ (HK2.out.below hw)).mono ?_
                       rintro e w1 ⟨rfl, hb1⟩
                       rw [T4.out]
                       exact ⟨rfl, hw.then hb1⟩
                     simp only [Act.put, List.setIfInBounds_toArray, List.set_cons_zero, List.set_cons_succ]
                     go_big_quiet_on)
                  | (go_big_quiet_want
                     refine Qt.call (v := .bool β1) (f := 22) (args := #[.slice p1 i c1, .agg #[.int .i64 t, .int .i64 t]]) (fun w hw => ?_) (fun w hw => ?_) ?_
                     · go_simp
                     · refine (touches_any _ _ _ _ _ _ _ (HK1.out.below hw)).mono ?_
                       rintro e w1 ⟨rfl, hb1⟩
                       rw [T1.out]
                       exact ⟨rfl, hw.then hb1⟩
                     simp only [Act.put, List.setIfInBounds_toArray, List.set_cons_zero, List.set_cons_succ]
                     go_big_quiet_on)
                  | (go_big_quiet_want
                     refine Qt.call (v := .bool β3) (f := 22) (args := #[.slice p7 m7 c7, .agg #[.int .i64 t, .int .i64 t]]) (fun w hw => ?_) (fun w hw => ?_) ?_
                     · go_simp
                     · refine (touches_any _ _ _ _ _ _ _ (HKM.out.below hw)).mono ?_
                       rintro e w1 ⟨rfl, hb1⟩
                       rw [T6.out]
                       exact ⟨rfl, hw.then hb1⟩
                     simp only [Act.put, List.setIfInBounds_toArray, List.set_cons_zero, List.set_cons_succ]
                     go_big_quiet_on)
                  | (go_big_quiet_want
                     refine Qt.call (v := .bool true) (f := 22) (args := #[.slice p5 m5 c5, .agg #[.int .i64 t, .int .i64 t]]) (fun w hw => ?_) (fun w hw => ?_) ?_
                     · go_simp
                     · refine (touches_any _ _ _ _ _ _ _ (HKA.out.below hw)).mono ?_
                       rintro e w1 ⟨rfl, hb1⟩
                       rw [T2.out]
                       exact ⟨rfl, hw.then hb1⟩
                     simp only [Act.put, List.setIfInBounds_toArray, List.set_cons_zero, List.set_cons_succ]
                     go_big_quiet_on)
                  | (go_big_quiet_want
                     refine Qt.call (v := .bool β3) (f := 22) (args := #[.slice p6 m6 c6, .agg #[.int .i64 t, .int .i64 t]]) (fun w hw => ?_) (fun w hw => ?_) ?_
                     · go_simp
                     · refine (touches_any _ _ _ _ _ _ _ (HKB.out.below hw)).mono ?_
                       rintro e w1 ⟨rfl, hb1⟩
                       rw [T3.out]
                       exact ⟨rfl, hw.then hb1⟩
                     simp only [Act.put, List.setIfInBounds_toArray, List.set_cons_zero, List.set_cons_succ]
                     go_big_quiet_on)
                  | (go_big_quiet_want
                     refine Qt.call (v := .bool β1) (f := 23) (args := #[.slice p1 i c1, .agg #[.int .i64 t, .int .i64 t]]) (fun w hw => ?_) (fun w hw => ?_) ?_
                     · go_simp
                     · refine (covers_any _ _ _ _ _ _ _ (HK1.out.below hw) (by omega)).mono ?_
                       rintro e w1 ⟨rfl, hb1⟩
                       rw [T5.out]
                       exact ⟨rfl, hw.then hb1⟩
                     simp only [Act.put, List.setIfInBounds_toArray, List.set_cons_zero, List.set_cons_succ]
                     go_big_quiet_on))
                refine wpQuiet_nil ?_
                intro w8 hw8
                have HW8 := Lib.hid (below_on HTb.out hw8)
                clear hw8
                go_wp2_with fail
                go_roundw
                case rel => exact ⟨t + 1, by omega, by go_num, HW8⟩
                case measure => simp [intOf]; omega
            · obtain rfl : t = 51 := by omega
              have HB8 := Lib.hid (below_on HB7.out HT.out)
              have HC8 := Lib.hid (HC7.out.on HT.out)
              go_wp2_with fail
              refine (Cur.drawMeetSpans_any _ _ _ HC8.out).mono ?_
              rintro e w7 ⟨a, b, c, d, rfl, hb⟩
              have HB9 := Lib.hid (below_on HB8.out hb)
              have HC9 := Lib.hid (HC8.out.on hb)
              clear hb
              have hX := (Bx.new w7 28 #[.int .i64 a, .int .i64 b]).alloc (.cells #[.int .i64 c, .int .i64 d] 28)
              have hY := Bx.new (w7.alloc (.cells #[.int .i64 a, .int .i64 b] 28)) 28 #[.int .i64 c, .int .i64 d]
              have hbb := (HB9.out.alloc HB9.out.size (.cells #[.int .i64 a, .int .i64 b] 28)).alloc (Nat.le_trans HB9.out.size (by simp)) (.cells #[.int .i64 c, .int .i64 d] 28)
              rw [World.size_alloc] at hY
              have HX := Lib.hid hX
              have HY := Lib.hid hY
              have HB10 := Lib.hid hbb
              have HC10 := Lib.hid (HC9.out.on (((Below.refl w7.heap.size w7).alloc (Nat.le_refl _) (.cells #[.int .i64 a, .int .i64 b] 28)).alloc (by simp) (.cells #[.int .i64 c, .int .i64 d] 28)))
              clear hX hY hbb
              obtain ⟨x0, x1, _, _⟩ := HX.out.two
              obtain ⟨y0, y1, _, _⟩ := HY.out.two
              go_wp2_with fail
              refine (meet_any a b c d _).mono ?_
              rintro e w8 ⟨rfl, hb⟩
              have HBm := Lib.hid (below_on HB10.out hb)
              have HCm := Lib.hid (HC10.out.on hb)
              have HXm := Lib.hid (HX.out.below hb)
              have HYm := Lib.hid (HY.out.below hb)
              obtain ⟨β, hβ⟩ : ∃ β, meets (a, b) (c, d) = β := ⟨_, rfl⟩
              obtain ⟨⟨z0, z1⟩, hz⟩ : ∃ z, meetR (a, b) (c, d) = z := ⟨_, rfl⟩
              have HIN : Hid (β = true → inside (z0, z1) (a, b) = true ∧ inside (z0, z1) (c, d) = true) := Lib.hid (fun h => by rw [← hz]; exact meet_in (by rw [hβ, h]))
              rw [hβ, hz]
              clear hb hβ hz x0 x1 y0 y1
              have HZ := Lib.hid (Bx.new w8 28 #[.int .i64 z0, .int .i64 z1])
              have HXn := Lib.hid (HXm.out.alloc (.cells #[.int .i64 z0, .int .i64 z1] 28))
              have HYn := Lib.hid (HYm.out.alloc (.cells #[.int .i64 z0, .int .i64 z1] 28))
              have HBn := Lib.hid (HBm.out.alloc HBm.out.size (.cells #[.int .i64 z0, .int .i64 z1] 28))
              have HCn := Lib.hid (HCm.out.on (Cur.below_alloc w8 (.cells #[.int .i64 z0, .int .i64 z1] 28)))
              clear HXm HYm HBm HCm HX HY HB10 HC10 HB9 HC9
              go_wp2_with fail
              refine (Cur.drawMake_any _ _ _ HCn.out).mono ?_
              rintro e w9 ⟨f, u, rfl, hf, hu, hb⟩
              have HX9 := Lib.hid (HXn.out.below hb)
              have HY9 := Lib.hid (HYn.out.below hb)
              have HZ9 := Lib.hid (HZ.out.below hb)
              have HB11 := Lib.hid (below_on HBn.out hb)
              clear hb hf hu
              go_wp2_with fail
              refine (make_any f u _).mono ?_
              rintro e w10 ⟨rfl, hb⟩
              obtain ⟨γ, hγ⟩ : ∃ γ, makeB f u = γ := ⟨_, rfl⟩
              obtain ⟨⟨q0, q1⟩, hq⟩ : ∃ z, makeS f u = z := ⟨_, rfl⟩
              have HMK : Hid (γ = true → okB (q0, q1) = true ∧ f ≤ q0 ∧ q1 ≤ u) := Lib.hid (fun h => by have h1 := make_in (f := f) (t := u) (by rw [hγ, h]); rw [hq] at h1; exact h1)
              rw [hγ, hq]
              have HXA := Lib.hid ((HX9.out.below hb).alloc (.cells #[.int .i64 q0, .int .i64 q1] 28))
              have HYA := Lib.hid ((HY9.out.below hb).alloc (.cells #[.int .i64 q0, .int .i64 q1] 28))
              have HZA := Lib.hid ((HZ9.out.below hb).alloc (.cells #[.int .i64 q0, .int .i64 q1] 28))
              have HQA := Lib.hid (Bx.new w10 28 #[.int .i64 q0, .int .i64 q1])
              have HB12 := Lib.hid ((below_on HB11.out hb).alloc (below_on HB11.out hb).size (.cells #[.int .i64 q0, .int .i64 q1] 28))
              clear hb hγ hq HX9 HY9 HZ9 HB11 HXn HYn HZ HBn HCn
              cases β <;> cases γ
              · skip
                obtain ⟨x0, x1, _, _⟩ := HXA.out.two
                obtain ⟨y0, y1, _, _⟩ := HYA.out.two
                obtain ⟨z0', z1', _, _⟩ := HZA.out.two
                obtain ⟨r0, r1, _, _⟩ := HQA.out.two
                go_wp2_with fail
                go_ret
                exact ⟨rfl, HB12.out⟩
              · skip
                obtain ⟨hm0, hd1, hd2⟩ := HMK.out rfl
                have HM0 := Lib.hid hm0
                clear hm0
                obtain ⟨x0, x1, _, _⟩ := HXA.out.two
                obtain ⟨y0, y1, _, _⟩ := HYA.out.two
                obtain ⟨z0', z1', _, _⟩ := HZA.out.two
                obtain ⟨r0, r1, _, _⟩ := HQA.out.two
                go_wp2_with fail
                refine (isSpan_any q0 q1 _).mono ?_
                rintro e wn ⟨rfl, hb⟩
                rw [HM0.out]
                replace HXA := Lib.hid (HXA.out.below hb)
                replace HYA := Lib.hid (HYA.out.below hb)
                replace HZA := Lib.hid (HZA.out.below hb)
                replace HQA := Lib.hid (HQA.out.below hb)
                replace HB12 := Lib.hid (below_on HB12.out hb)
                clear hb
                clear x0 x1 y0 y1 z0' z1' r0 r1
                obtain ⟨x0, x1, _, _⟩ := HXA.out.two
                obtain ⟨y0, y1, _, _⟩ := HYA.out.two
                obtain ⟨z0', z1', _, _⟩ := HZA.out.two
                obtain ⟨r0, r1, _, _⟩ := HQA.out.two
                go_wp2_with fail
                go_ret
                exact ⟨rfl, HB12.out⟩
              · skip
                obtain ⟨hi1, hi2⟩ := HIN.out rfl
                have HI1 := Lib.hid hi1
                have HI2 := Lib.hid hi2
                clear hi1 hi2
                obtain ⟨x0, x1, _, _⟩ := HXA.out.two
                obtain ⟨y0, y1, _, _⟩ := HYA.out.two
                obtain ⟨z0', z1', _, _⟩ := HZA.out.two
                obtain ⟨r0, r1, _, _⟩ := HQA.out.two
                go_wp2_with fail
                refine (inside_any z0 z1 a b _).mono ?_
                rintro e wn ⟨rfl, hb⟩
                rw [HI1.out]
                replace HXA := Lib.hid (HXA.out.below hb)
                replace HYA := Lib.hid (HYA.out.below hb)
                replace HZA := Lib.hid (HZA.out.below hb)
                replace HQA := Lib.hid (HQA.out.below hb)
                replace HB12 := Lib.hid (below_on HB12.out hb)
                clear hb
                clear x0 x1 y0 y1 z0' z1' r0 r1
                obtain ⟨x0, x1, _, _⟩ := HXA.out.two
                obtain ⟨y0, y1, _, _⟩ := HYA.out.two
                obtain ⟨z0', z1', _, _⟩ := HZA.out.two
                obtain ⟨r0, r1, _, _⟩ := HQA.out.two
                go_wp2_with fail
                refine (inside_any z0 z1 c d _).mono ?_
                rintro e wn ⟨rfl, hb⟩
                rw [HI2.out]
                replace HXA := Lib.hid (HXA.out.below hb)
                replace HYA := Lib.hid (HYA.out.below hb)
                replace HZA := Lib.hid (HZA.out.below hb)
                replace HQA := Lib.hid (HQA.out.below hb)
                replace HB12 := Lib.hid (below_on HB12.out hb)
                clear hb
                clear x0 x1 y0 y1 z0' z1' r0 r1
                obtain ⟨x0, x1, _, _⟩ := HXA.out.two
                obtain ⟨y0, y1, _, _⟩ := HYA.out.two
                obtain ⟨z0', z1', _, _⟩ := HZA.out.two
                obtain ⟨r0, r1, _, _⟩ := HQA.out.two
                go_wp2_with fail
                go_ret
                exact ⟨rfl, HB12.out⟩
              · skip
                obtain ⟨hi1, hi2⟩ := HIN.out rfl
                have HI1 := Lib.hid hi1
                have HI2 := Lib.hid hi2
                clear hi1 hi2
                obtain ⟨hm0, hd1, hd2⟩ := HMK.out rfl
                have HM0 := Lib.hid hm0
                clear hm0
                obtain ⟨x0, x1, _, _⟩ := HXA.out.two
                obtain ⟨y0, y1, _, _⟩ := HYA.out.two
                obtain ⟨z0', z1', _, _⟩ := HZA.out.two
                obtain ⟨r0, r1, _, _⟩ := HQA.out.two
                go_wp2_with fail
                refine (inside_any z0 z1 a b _).mono ?_
                rintro e wn ⟨rfl, hb⟩
                rw [HI1.out]
                replace HXA := Lib.hid (HXA.out.below hb)
                replace HYA := Lib.hid (HYA.out.below hb)
                replace HZA := Lib.hid (HZA.out.below hb)
                replace HQA := Lib.hid (HQA.out.below hb)
                replace HB12 := Lib.hid (below_on HB12.out hb)
                clear hb
                clear x0 x1 y0 y1 z0' z1' r0 r1
                obtain ⟨x0, x1, _, _⟩ := HXA.out.two
                obtain ⟨y0, y1, _, _⟩ := HYA.out.two
                obtain ⟨z0', z1', _, _⟩ := HZA.out.two
                obtain ⟨r0, r1, _, _⟩ := HQA.out.two
                go_wp2_with fail
                refine (inside_any z0 z1 c d _).mono ?_
                rintro e wn ⟨rfl, hb⟩
                rw [HI2.out]
                replace HXA := Lib.hid (HXA.out.below hb)
                replace HYA := Lib.hid (HYA.out.below hb)
                replace HZA := Lib.hid (HZA.out.below hb)
                replace HQA := Lib.hid (HQA.out.below hb)
                replace HB12 := Lib.hid (below_on HB12.out hb)
                clear hb
                clear x0 x1 y0 y1 z0' z1' r0 r1
                obtain ⟨x0, x1, _, _⟩ := HXA.out.two
                obtain ⟨y0, y1, _, _⟩ := HYA.out.two
                obtain ⟨z0', z1', _, _⟩ := HZA.out.two
                obtain ⟨r0, r1, _, _⟩ := HQA.out.two
                go_wp2_with fail
                refine (isSpan_any q0 q1 _).mono ?_
                rintro e wn ⟨rfl, hb⟩
                rw [HM0.out]
                replace HXA := Lib.hid (HXA.out.below hb)
                replace HYA := Lib.hid (HYA.out.below hb)
                replace HZA := Lib.hid (HZA.out.below hb)
                replace HQA := Lib.hid (HQA.out.below hb)
                replace HB12 := Lib.hid (below_on HB12.out hb)
                clear hb
                clear x0 x1 y0 y1 z0' z1' r0 r1
                obtain ⟨x0, x1, _, _⟩ := HXA.out.two
                obtain ⟨y0, y1, _, _⟩ := HYA.out.two
                obtain ⟨z0', z1', _, _⟩ := HZA.out.two
                obtain ⟨r0, r1, _, _⟩ := HQA.out.two
                go_wp2_with fail
                go_ret
                exact ⟨rfl, HB12.out⟩
end Go.Proofs.Ytcenbbbghhmpfaa.fnSpans
