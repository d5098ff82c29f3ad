/- Contract of the program's ParseInt: the number of a numeral up to 10^12 and true, else 0 and false. -/
import Derived.Test.YtgdpbohmnnncjaaDoorDec
import Derived.Test.YtgdpbohmnnncjaaDoorFmt
namespace Go.Proofs.YtgdpbohmnnncjaaDoor.Ints
open Go.ChangeShapes Go.WideShapes Go.ChangeAt Go.RowKit Dec

theorem take_snoc (s : ByteArray) (k : Nat) (h : k < s.size) : s.data.toList.take (k + 1) = s.data.toList.take k ++ [s[k]] := by
  rw [List.take_succ_eq_append_getElem (by simpa using h)]; rfl
theorem len_toList (s : ByteArray) : s.data.toList.length = s.size := by rw [Array.length_toList]; rfl
theorem take_all (s : ByteArray) : s.data.toList.take s.size = s.data.toList := List.take_of_length_le (Nat.le_of_eq (len_toList s))
theorem ret_pair {a b : Int} {c d : Bool} (h : a = b) (h' : c = d) : Ending.returned (.tuple #[.int .i64 a, .bool c]) = .returned (.tuple #[.int .i64 b, .bool d]) := by rw [h, h']
/-- the first byte isn't '0' -/
def headOk (l : List UInt8) : Bool := match l with | [] => false | d :: _ => d.toNat != 48
theorem headOk_take {l : List UInt8} {k : Nat} (h : 1 ≤ k) : headOk (l.take k) = headOk l := by
  obtain ⟨j, rfl⟩ : ∃ j, k = j + 1 := ⟨k - 1, by omega⟩
  cases l <;> rfl
theorem noLead_long {l : List UInt8} (h : 2 ≤ l.length) : noLead l = headOk l := by
  match l, h with
  | _ :: _ :: _, _ => rfl
theorem head_at (s : ByteArray) (h : 0 < s.size) : ∃ r, s.data.toList = s[0] :: r := by
  have h0 := take_snoc s 0 h
  simp only [Nat.zero_add, List.take_zero, List.nil_append] at h0
  have hl := len_toList s
  generalize s.data.toList = l at h0 hl
  cases l with
  | nil => simp at hl; omega
  | cons d r => simp at h0; exact ⟨r, by rw [h0]⟩
/-- after k digits: what has been read is digits, the first of them not '0' unless it is alone, and its value is in range -/
def ParseRel (s : ByteArray) (k : Nat) : Prop := (s.data.toList.take k).all isDig = true ∧ (2 ≤ s.size → 1 ≤ k → headOk s.data.toList = true) ∧ val (s.data.toList.take k) ≤ 1000000000000
theorem parse_start (s : ByteArray) : ParseRel s 0 := ⟨rfl, by omega, Nat.zero_le _⟩
theorem val_step (s : ByteArray) (k : Nat) (h : k < s.size) : val (s.data.toList.take (k + 1)) = 10 * val (s.data.toList.take k) + (s[k].toNat - 48) := by
  rw [take_snoc s k h, val_snoc]
theorem parse_step {s : ByteArray} {k : Nat} (h : k < s.size) (hr : ParseRel s k) (hd : 48 ≤ s[k].toNat ∧ s[k].toNat ≤ 57) (h0 : k = 0 → 2 ≤ s.size → s[k].toNat ≠ 48) (hv : val (s.data.toList.take k) * 10 + (s[k].toNat - 48) ≤ 1000000000000) : ParseRel s (k + 1) := by
  refine ⟨?_, fun h2 _ => ?_, by rw [val_step s k h]; omega⟩
  · rw [take_snoc s k h, List.all_append, hr.1]
    simpa [isDig] using hd
  · rcases Nat.eq_zero_or_pos k with rfl | hk
    · obtain ⟨r, hr⟩ := head_at s h
      rw [hr]
      simpa [headOk] using h0 rfl h2
    · exact hr.2.1 h2 hk
theorem val_le_append (a b : List UInt8) : val a ≤ val (a ++ b) := by
  have key : ∀ (n : Nat) (b : List UInt8), b.length = n → val a ≤ val (a ++ b) := by
    intro n
    induction n with
    | zero => intro b hb; rw [List.length_eq_zero_iff.1 hb, List.append_nil]; exact Nat.le_refl _
    | succ n ih =>
      intro b hb
      rcases List.eq_nil_or_concat b with rfl | ⟨r, c, rfl⟩
      · simp at hb
      · rw [List.concat_eq_append] at *
        rw [← List.append_assoc, val_snoc]
        have := ih r (by simpa using hb)
        omega
  exact key _ b rfl
theorem no_range {s : ByteArray} {k : Nat} (h : k < s.size) (hv : 1000000000000 < val (s.data.toList.take k) * 10 + (s[k].toNat - 48)) : okB s.data.toList = false := by
  have h1 := val_le_append (s.data.toList.take (k + 1)) (s.data.toList.drop (k + 1))
  rw [List.take_append_drop, val_step s k h] at h1
  unfold okB
  rw [decide_eq_false (by omega), Bool.and_false]
theorem no_digit {s : ByteArray} {k : Nat} (h : k < s.size) (hd : ¬ (48 ≤ s[k].toNat ∧ s[k].toNat ≤ 57)) : okB s.data.toList = false := by
  have h1 : s.data.toList.all isDig = false := by
    rw [List.all_eq_false]
    refine ⟨s[k], ?_, by simpa [isDig] using hd⟩
    have : s[k] ∈ s.data.toList.take (k + 1) := by rw [take_snoc s k h]; simp
    exact List.mem_of_mem_take this
  unfold okB
  rw [h1]
  rfl
theorem no_lead {s : ByteArray} (h : 2 ≤ s.size) (hd : s[0].toNat = 48) : okB s.data.toList = false := by
  have hl := len_toList s
  obtain ⟨r, hr⟩ := head_at s (by omega)
  have h1 : noLead s.data.toList = false := by
    rw [noLead_long (by omega), hr]
    simp [headOk, hd]
  unfold okB
  rw [h1, Bool.and_false]
  rfl
theorem parse_end {s : ByteArray} (hr : ParseRel s s.size) (h : 0 < s.size) : okB s.data.toList = true := by
  obtain ⟨h1, h2, h3⟩ := hr
  rw [take_all] at h1 h3
  have hl := len_toList s
  have h4 : noLead s.data.toList = true := by
    by_cases h5 : 2 ≤ s.size
    · rw [noLead_long (by omega)]; exact h2 h5 (by omega)
    · obtain ⟨r, hr⟩ := head_at s h
      rw [hr] at hl ⊢
      have : r = [] := List.length_eq_zero_iff.1 (by simp at hl; omega)
      rw [this]; rfl
  unfold okB
  rw [h1, h4, decide_eq_true h3]
  rfl
theorem ret_no {s : ByteArray} (h : okB s.data.toList = false) : Ending.returned (.tuple #[.int .i64 0, .bool false]) = .returned (.tuple #[.int .i64 (num s.data.toList), .bool (okB s.data.toList)]) :=
  ret_pair (num_no h).symm h.symm
theorem ret_yes {s : ByteArray} {n : Nat} {b : Bool} (h : okB s.data.toList = true) (hn : n = val s.data.toList) (hb : b = true) : Ending.returned (.tuple #[.int .i64 (n : Int), .bool b]) = .returned (.tuple #[.int .i64 (num s.data.toList), .bool (okB s.data.toList)]) :=
  ret_pair (by rw [num_ok h, hn]) (by rw [hb, h])

theorem toList_eq (s : ByteArray) : s.toList = s.data.toList := by
  exact ByteArray.toList_eq s
theorem toList_nil {s : ByteArray} (h : s.size = 0) : s.toList = [] := by
  rw [toList_eq]; exact List.length_eq_zero_iff.1 (by rw [len_toList]; exact h)
theorem toList_pos {s : ByteArray} (h : 0 < s.size) : s.toList.isEmpty = false := by
  rw [toList_eq]
  obtain ⟨r, hr⟩ := head_at s h
  rw [hr]; rfl
theorem ret_empty {s : ByteArray} {b : Int} (h : s.size = 0) (hb : b = 0) : Ending.returned (.tuple #[.int .i64 b, .bool false]) = .returned (.tuple #[.int .i64 (num s.data.toList), .bool (okB s.data.toList)]) := by
  have hl : s.data.toList = [] := List.length_eq_zero_iff.1 (by rw [len_toList]; exact h)
  rw [hl, hb]; rfl
set_option maxRecDepth 100000 in
set_option maxHeartbeats 1000000 in
theorem parse_any (s : ByteArray) (w : World) (hs : s.size ≤ maxLen) : Calls Tryd.prog 7 #[.string s] w fun e w' => e = .returned (.tuple #[.int .i64 (num s.data.toList), .bool (okB s.data.toList)]) ∧ w = w' := by
  unfold maxLen at hs
  go_enter Tryd.func7, Tryd.ntmps7
  go_wp2
  go_loop [4, 5, 6] (fun n i _ => ∃ k : Nat, k ≤ s.size ∧ i = .int .i64 k ∧ n = .int .i64 (val (s.data.toList.take k)) ∧ Hid (ParseRel s k)) (fun _ i _ => s.size - (intOf i).toNat)
  case atStart => exact ⟨0, Nat.zero_le _, rfl, rfl, parse_start s⟩
  case round =>
    obtain ⟨k, hk, rfl, rfl, HR⟩ := hrel
    have hv : val (s.data.toList.take k) ≤ 1000000000000 := HR.out.2.2
    by_cases hlt : k < s.size
    · rcases Nat.eq_zero_or_pos k with hk0 | hk0
      · subst hk0
        have hv0 : val [] = 0 := rfl
        have HS := Lib.hid (val_step s 0 hlt)
        by_cases h2 : 2 ≤ s.size
        · by_cases hz : s[0].toNat = 48
          · have HZ := Lib.hid hz
            have hzb : ((s[0].toNat : Int) == 48) = true := by rw [beq_iff_eq]; omega
            clear hz
            go_wp2
            go_ret2
            exact ⟨ret_no (no_lead h2 HZ.out), rfl⟩
          · have hzb : ((s[0].toNat : Int) == 48) = false := by rw [beq_eq_false_iff_ne]; omega
            go_wp2
            all_goals first
              | (go_ret2
                 refine ⟨ret_no (no_digit hlt ?_), rfl⟩
                 simp only [beq_eq_false_iff_ne, ne_eq] at *
                 omega)
              | (have hd : 48 ≤ s[0].toNat ∧ s[0].toNat ≤ 57 := by
                   simp only [beq_iff_eq, beq_eq_false_iff_ne, ne_eq] at *
                   omega
                 refine ⟨⟨1, by omega, rfl, ?_, ?_⟩, by simp [intOf]; omega⟩
                 · rw [HS.out]; congr 1; simp only [List.take_zero, val_nil]; omega
                 · exact parse_step hlt HR.out hd (by omega) (by simp only [List.take_zero, val_nil]; omega))
        · go_wp2
          all_goals first
              | (go_ret2
                 refine ⟨ret_no (no_digit hlt ?_), rfl⟩
                 simp only [beq_eq_false_iff_ne, ne_eq] at *
                 omega)
              | (have hd : 48 ≤ s[0].toNat ∧ s[0].toNat ≤ 57 := by
                   simp only [beq_iff_eq, beq_eq_false_iff_ne, ne_eq] at *
                   omega
                 refine ⟨⟨1, by omega, rfl, ?_, ?_⟩, by simp [intOf]; omega⟩
                 · rw [HS.out]; congr 1; simp only [List.take_zero, val_nil]; omega
                 · exact parse_step hlt HR.out hd (by omega) (by simp only [List.take_zero, val_nil]; omega))
      · have hk1 : ¬ k = 0 := by omega
        have HS := Lib.hid (val_step s k hlt)
        go_wp2
        all_goals first
          | (go_ret2
             refine ⟨ret_no ?_, rfl⟩
             first
               | (refine no_digit hlt ?_
                  simp only [beq_eq_false_iff_ne, ne_eq] at *
                  omega)
               | (refine no_range hlt ?_
                  simp only [beq_iff_eq, beq_eq_false_iff_ne, ne_eq] at *
                  omega))
          | (have hd : 48 ≤ s[k].toNat ∧ s[k].toNat ≤ 57 := by
               simp only [beq_iff_eq, beq_eq_false_iff_ne, ne_eq] at *
               omega
             refine ⟨⟨k + 1, by omega, by go_num, ?_, ?_⟩, by simp [intOf]; omega⟩
             · rw [HS.out]; congr 1; omega
             · exact parse_step hlt HR.out hd (by omega) (by omega))
    · obtain rfl : k = s.size := by omega
      have HT := Lib.hid (take_all s)
      rcases Nat.eq_zero_or_pos s.size with he | he
      · have hl : s.toList = [] := toList_nil he
        have HE := Lib.hid he
        go_wp2
        go_ret2
        exact ⟨ret_empty HE.out rfl, rfl⟩
      · have hl : s.toList.isEmpty = false := toList_pos he
        go_wp2
        go_ret2
        exact ⟨ret_yes (parse_end HR.out he) (by rw [HT.out]) rfl, rfl⟩
end Go.Proofs.YtgdpbohmnnncjaaDoor.Ints
