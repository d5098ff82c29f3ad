/- The walk of the law FnIntegers. -/
import Derived.Test.YtgdpbohmnnncjaaDoorDrawInts
import Derived.Test.YtgdpbohmnnncjaaDoorParse
import Derived.Test.YtgdpbohmnnncjaaDoorItoa
import Derived.Test.YtgdpbohmnnncjaaDoorCards
import Derived.LaidMore
import Derived.Deep.DeepCutAuto
import Derived.Outline
namespace Go.Proofs.YtgdpbohmnnncjaaDoor.fnIntegers
open Go.ChangeShapes Go.WideShapes Go.ChangeAt Go.RowKit Ints Dec

theorem big_any (v : Value) (n : Nat) (b : Bool) (w : World) (hc : Cur.Code v n w) (hb : decide (1048576 < n) = b) : Calls Tryd.prog 5 #[v] w fun e w' => e = .returned (.bool b) ∧ w = w' := by
  subst hb
  obtain ⟨hm, hc⟩ := hc
  unfold maxLen at hm
  obtain ⟨a, cap, rfl⟩ : ∃ a cap, v = .slice a n cap := by
    rcases hc with ⟨rfl, a0, cap0, rfl⟩ | ⟨b, off, cap, rfl, _⟩
    · exact ⟨_, _, rfl⟩
    · exact ⟨_, _, rfl⟩
  go_enter Tryd.func5, Tryd.ntmps5
  go_wp2_with fail
  go_ret
  refine ⟨ret_bool ?_, rfl⟩
  rw [Bool.eq_iff_iff]
  simp only [decide_eq_true_eq]
  omega

theorem okB_itoa_yes {m : Int} (h : okB (Lib.itoa m) = true) : 0 ≤ m ∧ m ≤ 1000000000000 := by
  obtain ⟨u, hu, he⟩ := (okB_iff _).1 h
  unfold Lib.itoa at he
  split at he
  · have h1 := all_dec u
    rw [← he, List.all_cons, Bool.and_eq_true] at h1
    exact absurd h1.1 (by decide)
  · have h1 := congrArg val he
    rw [val_dec, val_dec] at h1
    omega
theorem okB_itoa_no {m : Int} (h : okB (Lib.itoa m) = false) : m < 0 ∨ 1000000000000 < m := by
  rcases Int.lt_or_le m 0 with h0 | h0
  · exact Or.inl h0
  · right
    rcases Int.lt_or_le 1000000000000 m with h1 | h1
    · exact h1
    · exfalso
      have h2 : okB (Lib.itoa m) = true := by
        unfold Lib.itoa
        rw [if_neg (by omega)]
        exact okB_dec (by omega)
      rw [h2] at h
      cases h
theorem num_itoa {m : Int} (h0 : 0 ≤ m) (h1 : m ≤ 1000000000000) : num (Lib.itoa m) = m := by
  have e : Lib.itoa m = Lib.decDigits m.toNat := by
    unfold Lib.itoa
    rw [if_neg (by omega)]
  rw [e, num_ok (okB_dec (by omega)), val_dec]
  omega
theorem itoa_num {l : List UInt8} (h : okB l = true) : Lib.itoa (num l) = l := by
  rw [num_ok h]
  unfold Lib.itoa
  rw [if_neg (by omega)]
  exact (okB_val h).1
theorem num_range {l : List UInt8} (h : okB l = true) : Cur.isInt (num l) := by
  have := (okB_val h).2
  rw [num_ok h]
  exact ⟨by omega, by omega⟩
theorem tmod_sub (a b : Int) (h : 1 ≤ b) : (a.tmod b - a % b).tmod b = 0 := by
  rw [emod_of_tmod a b h]
  split
  · rw [show a.tmod b - (a.tmod b + b) = -b by omega, Int.neg_tmod, Int.tmod_self]; rfl
  · rw [Int.sub_self, Int.zero_tmod]
theorem ceil_facts (a b : Int) (hb : 1 ≤ b) : a ≤ (a + b - 1) / b * b ∧ (a + b - 1) / b * b < a + b := by
  have h1 := Int.mul_ediv_add_emod (a + b - 1) b
  have h2 := Int.emod_nonneg (a + b - 1) (show b ≠ 0 by omega)
  have h3 := Int.emod_lt_of_pos (a + b - 1) (show 0 < b by omega)
  rw [Int.mul_comm] at h1
  omega
theorem size_itoa {m : Int} (h : Cur.isInt m) : (ByteArray.mk (Lib.itoa m).toArray).size ≤ maxLen := by
  have h1 := Lib.itoa_length_le m h.1 h.2
  show (Lib.itoa m).toArray.size ≤ maxLen
  rw [List.size_toArray]
  unfold maxLen
  omega
set_option maxRecDepth 100000 in
set_option maxHeartbeats 4000000 in
theorem walk {H : Type} {enc : TypeId × Value → H} (W : World) (base : Nat)
    (v0 : Value) (d0 : DataW H) (p0 : List MemPlace) (h0 : DataW.Trod enc Tryd.prog W 0 (fun _ => true) true 22 v0 d0 p0) (k0 : Value.okWide Tryd.prog W .any base 22 v0)
    (_hsz : (DataW.weightsEach Tryd.prog [22] [d0]).all (· ≤ reachBytes) = true) (hL : laidMetH Tryd.prog Rows.fnIntegersRow.laid W) :
    Calls Tryd.prog 3 #[v0] W fun e w' => e = .returned (.bool true) ∧ Below W.heap.size W w' := by
  obtain ⟨n, hcode⟩ := Cur.code_of h0 k0
  have HC := Lib.hid hcode
  have HT := Lib.hid (Ints.pow10_of_head (laidMet.tail (laidMet.tail hL)))
  clear h0 k0 hL hcode
  rcases hbig : decide (1048576 < n) with _ | _
  · have HBig := Lib.hid hbig
    clear hbig
    go_enter Tryd.func3, Tryd.ntmps3
    go_wp2_with fail
    refine (big_any _ _ _ _ HC.out HBig.out).mono ?_
    rintro e w' ⟨rfl, rfl⟩
    go_wp2_with fail
    refine (Cur.drawParse_any _ _ _ HC.out).mono ?_
    rintro e w1 ⟨s, rfl, hs, hb1⟩
    have HS := Lib.hid hs
    have HB1 := Lib.hid hb1
    clear hs hb1
    go_wp2_with fail
    refine (parse_any s _ (by have := HS.out; unfold maxLen; omega)).mono ?_
    rintro e w2 ⟨rfl, rfl⟩
    go_wp2_with fail
    refine (Cur.drawFormat_any _ _ _ (HC.out.on HB1.out)).mono ?_
    rintro e w2 ⟨m, rfl, hm, hb2⟩
    have HM := Lib.hid hm
    have HB2 := Lib.hid (HB1.out.trans (hb2.mono HB1.out.size))
    clear hm hb2
    go_wp2_with fail
    refine (format_any m _ HM.out.1 HM.out.2 (HT.out.on HB2.out)).mono ?_
    rintro e w3 ⟨rfl, hb3⟩
    have HB3 := Lib.hid (HB2.out.trans (hb3.mono HB2.out.size))
    clear hb3
    go_wp2_with fail
    refine (parse_any _ _ (size_itoa HM.out)).mono ?_
    rintro e w4 ⟨rfl, rfl⟩
    go_wp2_with fail
    refine (Cur.drawCeil_any _ _ _ (HC.out.on HB3.out)).mono ?_
    rintro e w4 ⟨a, b, rfl, ha, hb, hb4⟩
    have HA := Lib.hid ha
    have HBb := Lib.hid hb
    have HB4 := Lib.hid (HB3.out.trans (hb4.mono HB3.out.size))
    clear ha hb hb4
    go_wp2_with fail
    refine (ceil_any a b _).mono ?_
    rintro e w5 ⟨rfl, rfl⟩
    go_wp2_with fail
    refine (mod_any a b _).mono ?_
    rintro e w5 ⟨rfl, rfl⟩
    go_upto_region 10 with fail
    go_cut [5, 7, 8, 65] (fun _ _ _ s65 wx => s65 = .bool false ∧ Hid (Below W.heap.size W wx))
    case first =>
      rcases hf : okB (Lib.itoa m) with _ | _
      · have hm3 : m < 0 ∨ 1000000000000 < m := okB_itoa_no hf
        rcases hok : okB s.data.toList with _ | _
        · clear hf hok
          rcases hm3 with hm3 | hm3
          all_goals
            go_wp2_with fail
            go_meet
            exact ⟨by first | rfl | exact congrArg Value.bool (decide_eq_false (by omega)), HB4⟩
        · have HI := Lib.hid (itoa_num hok)
          have HN := Lib.hid (num_range hok)
          have hst := ByteArray.toList_eq s
          clear hf hok
          rcases hm3 with hm3 | hm3
          all_goals
            go_wp2_with fail
            refine (format_any _ _ HN.out.1 HN.out.2 (HT.out.on HB4.out)).mono ?_
            rintro e w5 ⟨rfl, hb5⟩
            have HB5 := Lib.hid (HB4.out.trans (hb5.mono HB4.out.size))
            clear hb5
            rw [HI.out]
            go_wp2_with fail
            go_meet
            exact ⟨by first | rfl | exact congrArg Value.bool (decide_eq_false (by omega)), HB5⟩
      · obtain ⟨hm0, hm1⟩ := okB_itoa_yes hf
        have HN := Lib.hid (num_itoa hm0 hm1)
        rw [HN.out]
        rcases hok : okB s.data.toList with _ | _
        · clear hf hok
          go_wp2_with fail
          go_meet
          exact ⟨rfl, HB4⟩
        · have HI := Lib.hid (itoa_num hok)
          have HN := Lib.hid (num_range hok)
          have hst := ByteArray.toList_eq s
          clear hf hok
          go_wp2_with fail
          refine (format_any _ _ HN.out.1 HN.out.2 (HT.out.on HB4.out)).mono ?_
          rintro e w5 ⟨rfl, hb5⟩
          have HB5 := Lib.hid (HB4.out.trans (hb5.mono HB4.out.size))
          clear hb5
          rw [HI.out]
          go_wp2_with fail
          go_meet
          exact ⟨rfl, HB5⟩
    case rest =>
      obtain ⟨rfl, HB5⟩ := hcut
      by_cases hb0 : b < 1
      · have hq : ceilI a b = 0 := ceilI_out a b (by omega)
        have hr : modI a b = 0 := modI_out a b (by omega)
        rw [hq, hr]
        clear hq hr
        go_wp2_with fail
        go_ret
        exact ⟨rfl, HB5.out⟩
      · by_cases hb1 : 1000000000000 < b
        · have hq : ceilI a b = 0 := ceilI_out a b (by omega)
          have hr : modI a b = 0 := modI_out a b (by omega)
          rw [hq, hr]
          clear hq hr
          go_wp2_with fail
          go_ret
          exact ⟨rfl, HB5.out⟩
        · have HR := Lib.hid (modI_in a b (by omega))
          have r0 : 0 ≤ modI a b := by rw [HR.out]; exact Int.emod_nonneg _ (by omega)
          have r1 : modI a b < b := by rw [HR.out]; exact Int.emod_lt_of_pos _ (by omega)
          by_cases ha0 : a < 0
          · have hz : (a.tmod b - modI a b).tmod b = 0 := by rw [HR.out]; exact tmod_sub a b (by omega)
            have hz1 := tmod_bounds a b (by omega)
            obtain ⟨z1, z2⟩ := hz1
            have hq : ceilI a b = 0 := ceilI_out a b (by omega)
            rw [hq]
            clear hq
            go_wp2_with fail
            go_ret
            exact ⟨rfl, HB5.out⟩
          · rw [HR.out] at r0 r1
            rw [HR.out]
            by_cases ha1 : 1000000000000 < a
            · have hq : ceilI a b = 0 := ceilI_out a b (by omega)
              rw [hq]
              clear hq
              go_wp2_with fail
              go_ret
              exact ⟨rfl, HB5.out⟩
            · obtain ⟨q0, q1⟩ := ceil_facts a b (by omega)
              rw [← ceilI_in a b (by omega)] at q0 q1
              generalize ceilI a b = q at q0 q1 ⊢
              go_wp2_with fail
              go_ret
              exact ⟨ret_bool (decide_eq_true (by omega)), HB5.out⟩
  · have HBig := Lib.hid hbig
    clear hbig
    go_enter Tryd.func3, Tryd.ntmps3
    go_wp2_with fail
    refine (big_any _ _ _ _ HC.out HBig.out).mono ?_
    rintro e w' ⟨rfl, rfl⟩
    go_wp2_with fail
    go_ret
    exact ⟨rfl, Below.refl _ _⟩
end Go.Proofs.YtgdpbohmnnncjaaDoor.fnIntegers
