/- Contract of the reference ParseInt: the number of a numeral up to 10^12 and true, else 0 and false; the world keeps all that it held. -/
import Derived.Test.YtgdpbohmnnncjaaParse
namespace Go.Proofs.Ytgdpbohmnnncjaa.Ints
open Go.ChangeShapes Go.WideShapes Go.ChangeAt Go.RowKit Dec

theorem val_lt_pow : ∀ (n : Nat) (l : List UInt8), l.length = n → l.all isDig = true → val l < 10 ^ n := by
  intro n
  induction n with
  | zero => intro l hl _; rw [List.length_eq_zero_iff.1 hl]; decide
  | succ n ih =>
    intro l hl hd
    rcases List.eq_nil_or_concat l with rfl | ⟨r, c, rfl⟩
    · simp at hl
    · rw [List.concat_eq_append] at *
      rw [List.all_append, Bool.and_eq_true] at hd
      have hc : 48 ≤ c.toNat ∧ c.toNat ≤ 57 := by simpa [isDig] using hd.2
      have := ih r (by simpa using hl) hd.1
      rw [val_snoc, Nat.pow_succ]
      omega
theorem dec_pow (u : Nat) (h : 2 ≤ Lib.nDigits u) : 10 ^ (Lib.nDigits u - 1) ≤ u := by
  induction u using Nat.strongRecOn with
  | _ u ih =>
    by_cases h1 : u < 10
    · rw [Lib.nDigits_small h1] at h; omega
    · rw [Lib.nDigits_big h1] at h ⊢
      by_cases h2 : 2 ≤ Lib.nDigits (u / 10)
      · have := ih (u / 10) (by omega) h2
        obtain ⟨j, hj⟩ : ∃ j, Lib.nDigits (u / 10) = j + 1 := ⟨Lib.nDigits (u / 10) - 1, by omega⟩
        rw [hj] at this ⊢
        simp only [Nat.add_sub_cancel] at this ⊢
        rw [Nat.pow_succ]
        omega
      · have h3 := Lib.nDigits_pos (u / 10)
        rw [show Lib.nDigits (u / 10) + 1 - 1 = 1 by omega]
        omega
theorem itoa_nat (u : Nat) : Lib.itoa (u : Int) = Lib.decDigits u := by
  unfold Lib.itoa
  rw [if_neg (by omega)]
  rfl
theorem no_len {s : ByteArray} (h : s.size = 0 ∨ 13 < s.size) : okB s.data.toList = false := by
  rcases hb : okB s.data.toList with _ | _
  · rfl
  · obtain ⟨u, hu, he⟩ := (okB_iff _).1 hb
    have hl := len_toList s
    rw [he, Lib.decDigits_length] at hl
    have h1 := Lib.nDigits_pos u
    have h2 : Lib.nDigits u ≤ 13 := by
      rcases Nat.lt_or_ge 13 (Lib.nDigits u) with h | h
      · exfalso
        have h3 := dec_pow u
        have : 10 ^ 13 ≤ 10 ^ (Lib.nDigits u - 1) := Nat.pow_le_pow_right (by decide) (by omega)
        have h4 := h3 (by omega)
        have : (10 : Nat) ^ 13 = 10000000000000 := by decide
        omega
      · exact h
    omega
def SRel (s : ByteArray) (k : Nat) : Prop := (s.data.toList.take k).all isDig = true
theorem srel_val {s : ByteArray} {k : Nat} (h : SRel s k) (hk : k ≤ s.size) (hs : s.size ≤ 13) : val (s.data.toList.take k) ≤ 9999999999999 := by
  have h1 := val_lt_pow k (s.data.toList.take k) (by rw [List.length_take, len_toList]; omega) h
  have h2 : 10 ^ k ≤ 10 ^ 13 := Nat.pow_le_pow_right (by decide) (by omega)
  have h3 : (10 : Nat) ^ 13 = 10000000000000 := by decide
  omega
theorem srel_step {s : ByteArray} {k : Nat} (h : k < s.size) (hr : SRel s k) (hd : 48 ≤ s[k].toNat ∧ s[k].toNat ≤ 57) : SRel s (k + 1) := by
  unfold SRel at *
  rw [take_snoc s k h, List.all_append, hr]
  simpa [isDig] using hd
theorem no_big {s : ByteArray} (h : 1000000000000 < val s.data.toList) : okB s.data.toList = false := by
  unfold okB
  rw [decide_eq_false (by omega), Bool.and_false]
theorem no_other {s : ByteArray} (h : Lib.itoa (val s.data.toList) ≠ s.data.toList) : okB s.data.toList = false := by
  rcases hb : okB s.data.toList with _ | _
  · rfl
  · refine absurd ?_ h
    rw [itoa_nat]
    exact (okB_val hb).1
theorem yes_same {s : ByteArray} (h : Lib.itoa (val s.data.toList) = s.data.toList) (hv : val s.data.toList ≤ 1000000000000) : okB s.data.toList = true :=
  (okB_iff _).2 ⟨val s.data.toList, hv, by rw [← itoa_nat]; exact h.symm⟩

set_option maxRecDepth 100000 in
set_option maxHeartbeats 1000000 in
theorem spec_parse_any (s : ByteArray) (w : World) (hs : s.size ≤ maxLen) : Calls Try.prog 9 #[.string s] w fun e w' => e = .returned (.tuple #[.int .i64 (num s.data.toList), .bool (okB s.data.toList)]) ∧ Below w.heap.size w w' := by
  unfold maxLen at hs
  by_cases h13 : 1 ≤ s.size ∧ s.size ≤ 13
  · obtain ⟨hs1, hs2⟩ := h13
    go_enter Try.func9, Try.ntmps9
    go_wp2_with fail
    refine (l1In_any _ _ _ true (by rw [decide_eq_true_iff]; omega) _).mono ?_
    rintro e w' ⟨rfl, rfl⟩
    go_wp2_with fail
    go_loop [4, 5] (fun n i => ∃ k : Nat, k ≤ s.size ∧ i = .int .i64 k ∧ n = .int .i64 (val (s.data.toList.take k)) ∧ Hid (SRel s k)) (fun _ i => s.size - (intOf i).toNat)
    case atStart => exact ⟨0, Nat.zero_le _, rfl, rfl, rfl⟩
    case round =>
      obtain ⟨k, hk, rfl, rfl, HR⟩ := hrel
      have hv := srel_val HR.out hk hs2
      by_cases hlt : k < s.size
      · have HS := Lib.hid (val_step s k hlt)
        by_cases hd : 48 ≤ s[k].toNat ∧ s[k].toNat ≤ 57
        · go_wp2_with fail
          refine (l1In_any _ _ _ true (by rw [decide_eq_true_iff]; omega) _).mono ?_
          rintro e w' ⟨rfl, rfl⟩
          go_wp2_with fail
          refine ⟨⟨k + 1, by omega, by go_num, ?_, srel_step hlt HR.out hd⟩, by simp [intOf]; omega⟩
          rw [HS.out]; congr 1; omega
        · have h8 : s[k].toNat < 256 := UInt8.toNat_lt _
          go_wp2_with fail
          refine (l1In_any _ _ _ false (by rw [decide_eq_false_iff_not]; omega) _).mono ?_
          rintro e w' ⟨rfl, rfl⟩
          go_wp2_with fail
          go_ret2
          exact ⟨ret_no (no_digit hlt hd), Below.refl _ _⟩
      · obtain rfl : k = s.size := by omega
        have HT := Lib.hid (take_all s)
        by_cases hbig : 1000000000000 < val (s.data.toList.take s.size)
        · have HB := Lib.hid (no_big (by rw [HT.out] at hbig; exact hbig))
          go_wp2_with fail
          go_ret2
          exact ⟨ret_no HB.out, Below.refl _ _⟩
        · have hbig2 : ¬ 1000000000000 < val s.data.toList := by rw [HT.out] at hbig; exact hbig
          by_cases hsame : Lib.itoa (val s.data.toList) = s.data.toList
          · have HE := Lib.hid hsame
            have HY := Lib.hid (yes_same hsame (by omega))
            clear hsame
            go_wp2_with fail
            refine (spec_format_any _ _ (by omega) (by omega)).mono ?_
            rintro e w' ⟨rfl, hb⟩
            have HB := Lib.hid hb
            clear hb
            rw [HT.out, HE.out]
            have hst := ByteArray.toList_eq s
            go_wp2_with fail
            go_ret2
            exact ⟨ret_yes HY.out rfl rfl, HB.out⟩
          · have HN := Lib.hid (no_other hsame)
            have HE := Lib.hid hsame
            clear hsame
            go_wp2_with fail
            refine (spec_format_any _ _ (by omega) (by omega)).mono ?_
            rintro e w' ⟨rfl, hb⟩
            have HB := Lib.hid hb
            clear hb
            rw [HT.out]
            have hst := ByteArray.toList_eq s
            have hne : (Lib.itoa (val s.data.toList) == s.data.toList) = false := beq_eq_false_iff_ne.2 HE.out
            go_wp2_with fail
            go_ret2
            exact ⟨ret_no HN.out, HB.out⟩
  · go_enter Try.func9, Try.ntmps9
    go_wp2_with fail
    refine (l1In_any _ _ _ false (by rw [decide_eq_false_iff_not]; omega) _).mono ?_
    rintro e w' ⟨rfl, rfl⟩
    go_wp2_with fail
    go_ret2
    exact ⟨ret_no (no_len (by omega)), Below.refl _ _⟩
end Go.Proofs.Ytgdpbohmnnncjaa.Ints
