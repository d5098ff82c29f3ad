/- Plain: decimal numerals read back: the value of a list of digits, and which lists are numerals of numbers. No program. -/
import Derived.Lib.ItoaLen
namespace Go.Proofs.YtgdpbohmnnncjaaDoor.Dec
open Go
def isDig (c : UInt8) : Bool := decide (48 ≤ c.toNat) && decide (c.toNat ≤ 57)
def val (l : List UInt8) : Nat := l.foldl (fun a c => 10 * a + (c.toNat - 48)) 0
theorem val_nil : val [] = 0 := rfl
theorem val_snoc (l : List UInt8) (c : UInt8) : val (l ++ [c]) = 10 * val l + (c.toNat - 48) := by
  unfold val; rw [List.foldl_append]; rfl
theorem dig_toNat (v : Nat) (h : v < 10) : (UInt8.ofNat (48 + v)).toNat = 48 + v := by
  rw [UInt8.toNat_ofNat']; exact Nat.mod_eq_of_lt (by omega)
theorem val_dec (u : Nat) : val (Lib.decDigits u) = u := by
  induction u using Nat.strongRecOn with
  | _ u ih =>
    by_cases h : u < 10
    · rw [Lib.decDigits, dif_pos h, show [UInt8.ofNat (48 + u)] = [] ++ [UInt8.ofNat (48 + u)] from rfl, val_snoc, dig_toNat u h, val_nil]; omega
    · rw [Lib.decDigits, dif_neg h, val_snoc, ih (u / 10) (by omega), dig_toNat _ (by omega)]; omega
theorem all_dec (u : Nat) : (Lib.decDigits u).all isDig = true := by
  induction u using Nat.strongRecOn with
  | _ u ih =>
    by_cases h : u < 10
    · rw [Lib.decDigits, dif_pos h]; simp [isDig]; omega
    · rw [Lib.decDigits, dif_neg h, List.all_append, ih (u / 10) (by omega)]; simp [isDig]; omega
/-- No leading zero: one digit, or the first is not '0'. -/
def noLead : List UInt8 → Bool
  | [] => false
  | [_] => true
  | c :: _ => c.toNat != 48
theorem noLead_snoc {l : List UInt8} {c : UInt8} (h : l ≠ []) : noLead (l ++ [c]) = (match l with | [] => false | d :: _ => d.toNat != 48) := by
  cases l with
  | nil => exact absurd rfl h
  | cons d r => cases r <;> rfl
theorem noLead_pos {l : List UInt8} {c : UInt8} (h : l ≠ []) (hn : noLead (l ++ [c]) = true) : noLead l = true := by
  rw [noLead_snoc h] at hn
  cases l with
  | nil => exact absurd rfl h
  | cons d r => cases r with
    | nil => rfl
    | cons e r => exact hn
theorem val_pos {l : List UInt8} (h : noLead l = true) (hd : l.all isDig = true) (h2 : 2 ≤ l.length ∨ ∃ c, l = [c] ∧ c.toNat ≠ 48) : 0 < val l := by
  have key : ∀ (n : Nat) (l : List UInt8), l.length = n → (match l with | [] => false | d :: _ => d.toNat != 48) = true → l.all isDig = true → 0 < val l := by
    intro n
    induction n with
    | zero => intro l hl h0; cases l with
      | nil => cases h0
      | cons => simp at hl
    | succ n ih =>
      intro l hl h0 hd
      rcases List.eq_nil_or_concat l with rfl | ⟨r, c, rfl⟩
      · cases h0
      · rw [List.concat_eq_append] at *
        rw [val_snoc]
        cases r with
        | nil =>
          simp only [List.nil_append, bne_iff_ne, ne_eq] at h0
          simp [isDig] at hd
          omega
        | cons d r =>
          have := ih (d :: r) (by simpa using hl) h0 (by rw [List.all_append, Bool.and_eq_true] at hd; exact hd.1)
          omega
  refine key _ l rfl ?_ hd
  cases l with
  | nil => cases h
  | cons d r => cases r with
    | nil => rcases h2 with h2 | ⟨c, hc, hne⟩
             · simp at h2
             · cases hc; simpa using hne
    | cons e r => exact h
/-- A list of digits without a leading zero is the numeral of its value. -/
theorem dec_val : ∀ (n : Nat) (l : List UInt8), l.length = n → noLead l = true → l.all isDig = true → Lib.decDigits (val l) = l := by
  intro n
  induction n with
  | zero => intro l hl h; cases l with
    | nil => cases h
    | cons => simp at hl
  | succ n ih =>
    intro l hl h hd
    rcases List.eq_nil_or_concat l with rfl | ⟨r, c, rfl⟩
    · cases h
    · rw [List.concat_eq_append] at *
      rw [List.all_append, Bool.and_eq_true] at hd
      have hc : 48 ≤ c.toNat ∧ c.toNat ≤ 57 := by simpa [isDig] using hd.2
      have hof : UInt8.ofNat (48 + (c.toNat - 48)) = c := by
        rw [show 48 + (c.toNat - 48) = c.toNat by omega]; exact UInt8.ofNat_toNat
      by_cases hr : r = []
      · subst hr
        rw [List.nil_append, show val [c] = c.toNat - 48 by rw [show [c] = [] ++ [c] from rfl, val_snoc, val_nil]; omega, Lib.decDigits, dif_pos (by omega), hof]
      · have hrl := noLead_pos hr h
        have hpos : 0 < val r := by
          refine val_pos hrl hd.1 ?_
          rw [noLead_snoc hr] at h
          cases r with
          | nil => exact absurd rfl hr
          | cons d r => cases r with
            | nil => right; exact ⟨d, rfl, by simpa using h⟩
            | cons e r => left; simp
        have hrec := ih r (by simpa using hl) hrl hd.1
        rw [val_snoc, Lib.decDigits, dif_neg (by omega), show (10 * val r + (c.toNat - 48)) / 10 = val r by omega, show (10 * val r + (c.toNat - 48)) % 10 = c.toNat - 48 by omega, hrec, hof]
theorem noLead_dec (u : Nat) : noLead (Lib.decDigits u) = true := by
  induction u using Nat.strongRecOn with
  | _ u ih =>
    by_cases h : u < 10
    · rw [Lib.decDigits, dif_pos h]; rfl
    · rw [Lib.decDigits, dif_neg h]
      have hne : Lib.decDigits (u / 10) ≠ [] := by
        intro e
        have := Lib.decDigits_length (u / 10)
        rw [e] at this
        have h1 := Lib.nDigits_pos (u / 10)
        simp at this
        omega
      rw [noLead_snoc hne]
      have h1 := ih (u / 10) (by omega)
      have hv := val_dec (u / 10)
      have hall := all_dec (u / 10)
      generalize Lib.decDigits (u / 10) = l at *
      cases l with
      | nil => exact absurd rfl hne
      | cons d r => cases r with
        | nil =>
          have hd : 48 ≤ d.toNat ∧ d.toNat ≤ 57 := by simpa [isDig] using hall
          have : val [d] = d.toNat - 48 := by rw [show [d] = [] ++ [d] from rfl, val_snoc, val_nil]; omega
          simp only [bne_iff_ne, ne_eq]
          omega
        | cons e r => exact h1
/-- What ParseInt takes: the numeral of a number up to 10^12. -/
def okB (l : List UInt8) : Bool := (l.all isDig && noLead l) && decide (val l ≤ 1000000000000)
theorem okB_iff (l : List UInt8) : okB l = true ↔ ∃ u, u ≤ 1000000000000 ∧ l = Lib.decDigits u := by
  unfold okB
  simp only [Bool.and_eq_true, decide_eq_true_eq]
  constructor
  · rintro ⟨⟨h1, h2⟩, h3⟩
    exact ⟨val l, h3, (dec_val _ l rfl h2 h1).symm⟩
  · rintro ⟨u, hu, rfl⟩
    exact ⟨⟨all_dec u, noLead_dec u⟩, by rw [val_dec]; exact hu⟩
theorem okB_dec {u : Nat} (h : u ≤ 1000000000000) : okB (Lib.decDigits u) = true := (okB_iff _).2 ⟨u, h, rfl⟩
theorem okB_val {l : List UInt8} (h : okB l = true) : Lib.decDigits (val l) = l ∧ val l ≤ 1000000000000 := by
  obtain ⟨u, hu, rfl⟩ := (okB_iff l).1 h
  rw [val_dec]
  exact ⟨rfl, hu⟩
/-- The number that ParseInt gives (0 where it refuses). -/
def num (l : List UInt8) : Int := if okB l = true then (val l : Int) else 0
theorem num_ok {l : List UInt8} (h : okB l = true) : num l = val l := if_pos h
theorem num_no {l : List UInt8} (h : okB l = false) : num l = 0 := if_neg (by simp [h])
end Go.Proofs.YtgdpbohmnnncjaaDoor.Dec
