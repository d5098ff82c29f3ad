/- Contracts: how many spans have a time, what is supported, who disagrees; in the program and in the reference. -/
import Derived.Test.YtlgkgccmilapbaaSlSpan
import Derived.Test.YtlgkgccmilapbaaSp
import Derived.Test.YtlgkgccmilapbaaFnd
import Derived.Test.YtlgkgccmilapbaaSlI
import Derived.Test.YtlgkgccmilapbaaSr
import Derived.Deep.RegionHeld3
import Derived.LoopTactic
import Derived.Outline
namespace Go.Proofs.Ytlgkgccmilapbaa.Co
open Go.ChangeShapes Go.WideShapes Go.ChangeAt Go.RowKit Sl St Jn Sps SlSpan Ints

abbrev zs : Sp := SlSpan.zero
def has (t : Int) (s : Sp) : Bool := okB s && decide (s.1 ≤ t ∧ t ≤ s.2)
def cnt (xs : List Sp) (t : Int) : Nat := xs.countP (has t)
theorem cnt_le (xs : List Sp) (t : Int) : cnt xs t ≤ xs.length := List.countP_le_length
theorem cnt_yes {xs : List Sp} {k : Nat} {t : Int} {x : Sp} (hk : k < xs.length) (hx : xs.getD k zs = x) (h : has t x = true) : cnt (xs.take (k + 1)) t = cnt (xs.take k) t + 1 := by
  unfold cnt
  rw [Fnd.take_succ zs hk, List.countP_append, hx]
  simp [h]
theorem cnt_no {xs : List Sp} {k : Nat} {t : Int} {x : Sp} (hk : k < xs.length) (hx : xs.getD k zs = x) (h : has t x = false) : cnt (xs.take (k + 1)) t = cnt (xs.take k) t := by
  unfold cnt
  rw [Fnd.take_succ zs hk, List.countP_append, hx]
  simp [h]
theorem cnt_take (xs : List Sp) (t : Int) (k : Nat) : cnt (xs.take k) t ≤ k := Nat.le_trans (cnt_le _ _) (by rw [List.length_take]; omega)
theorem box1 (w : World) (o : Obj) : Below w.heap.size w (w.alloc o) := (Below.refl _ _).alloc (Nat.le_refl _) _
theorem has_off {a b t : Int} (h : okB (a, b) = false) : has t (a, b) = false := by unfold has; rw [h]; rfl
theorem has_on {a b t : Int} (h : okB (a, b) = true) : has t (a, b) = decide (a ≤ t ∧ t ≤ b) := by unfold has; rw [h]; rfl
set_option maxRecDepth 100000 in
set_option maxHeartbeats 4000000 in
theorem spec_countAt_any (p : Option Addr) (n c : Nat) (xs : List Sp) (t : Int) (w : World) (hr : RdS E w p n xs) : Calls Try.prog 102 #[.slice p n c, .int .i64 t] w (SlSpan.Val (.int .i64 (cnt xs t : Nat)) w) := by
  have HR := Lib.hid hr
  have HL := Lib.hid hr.len
  have hle := hr.le
  clear hr
  go_enter Try.func102, Try.ntmps102
  go_wp2_with fail
  go_loopw [5, 6] (fun v i wr => ∃ k m : Nat, k ≤ n ∧ m ≤ k ∧ i = .int .i64 k ∧ v = .int .i64 (m : Nat) ∧ Hid (m = cnt (xs.take k) t) ∧ Hid (Below w.heap.size w wr)) (fun _ i _ => n - (intOf i).toNat)
  case atStart => exact ⟨0, 0, Nat.zero_le _, Nat.zero_le _, rfl, rfl, Lib.hid (by simp [cnt]), Lib.hid (Below.refl _ _)⟩
  case round =>
    obtain ⟨k, m, hk, hmk, rfl, rfl, HM, HB⟩ := hrel
    by_cases hlt : k < n
    · obtain ⟨b, o, rfl, hb, hat⟩ := rd_at (HR.out.below HB.out) hlt
      have hkx : k < xs.length := by rw [HL.out]; exact hlt
      generalize hx : xs.getD k zero = x at hat
      obtain ⟨xa, xb⟩ := x
      have HA := Lib.hid hat
      obtain ⟨c0, c1⟩ := hat
      rcases hβ : okB (xa, xb) with _ | _
      · have HO := Lib.hid hβ
        have HN := Lib.hid (cnt_no (t := t) hkx hx (has_off hβ))
        clear hβ hx
        go_wp2_with fail
        refine (spec_isSpan_any _ _ _).mono ?_
        rintro e w1 ⟨rfl, hb1⟩
        rw [HO.out]
        have HB2 := Lib.hid (below_on HB.out hb1)
        clear hb1
        go_wp2_with fail
        go_roundw
        case rel => exact ⟨k + 1, m, by omega, by omega, by go_num, rfl, Lib.hid (by rw [HN.out]; exact HM.out), HB2⟩
        case measure => simp [intOf]; omega
      · have HO := Lib.hid hβ
        by_cases h1 : xa ≤ t <;> by_cases h2 : t ≤ xb
        all_goals
          first
            | (have HN := Lib.hid (cnt_yes (t := t) hkx hx (by rw [has_on hβ]; exact decide_eq_true ⟨h1, h2⟩)))
            | (have HN := Lib.hid (cnt_no (t := t) hkx hx (by rw [has_on hβ]; exact decide_eq_false (fun h => h1 h.1))))
            | (have HN := Lib.hid (cnt_no (t := t) hkx hx (by rw [has_on hβ]; exact decide_eq_false (fun h => h2 h.2))))
          clear hβ hx
          go_wp2_with fail
          refine (spec_isSpan_any _ _ _).mono ?_
          rintro e w1 ⟨rfl, hb1⟩
          rw [HO.out]
          have HB2 := Lib.hid (below_on HB.out hb1)
          obtain ⟨d0, d1⟩ := HA.out.below hb1 hb
          clear hb1
          go_wp2_with fail
          go_roundw
          case rel => first | exact ⟨k + 1, m, by omega, by omega, by go_num, rfl, Lib.hid (by rw [HN.out]; exact HM.out), HB2⟩ | exact ⟨k + 1, m + 1, by omega, by omega, by go_num, by go_num, Lib.hid (by rw [HN.out, HM.out]), HB2⟩
          case measure => simp [intOf]; omega
    · obtain rfl : k = n := by omega
      have HE : Hid (m = cnt xs t) := Lib.hid (by have h := HM.out; rw [List.take_of_length_le (by rw [HL.out]; exact Nat.le_refl _)] at h; exact h)
      go_wp2_with fail
      go_ret
      exact ⟨by rw [← HE.out]; rfl, HB.out⟩

/-! ### supported or not -/
def lieB (n : Nat) (l : Int) : Bool := decide (0 ≤ l ∧ l ≤ (n : Int) - 1)
def supp (xs : List Sp) (t l : Int) : Bool := lieB xs.length l && decide ((xs.length : Int) - l ≤ (cnt xs t : Nat))
theorem canLie_any (p : Option Addr) (n c : Nat) (l : Int) (w : World) (hn : n ≤ 9223372036854775807) : Calls Try.prog 105 #[.slice p n c, .int .i64 l] w fun e w' => e = .returned (.bool (lieB n l)) ∧ w = w' := by
  go_enter Try.func105, Try.ntmps105
  go_wp2_with fail
  refine (inRange_any _ _ _ _ (show decide (0 ≤ l ∧ l ≤ (n : Int) - 1) = lieB n l from rfl) _).mono ?_
  rintro e w1 ⟨rfl, rfl⟩
  go_wp2_with fail
  go_ret
  exact ⟨rfl, rfl⟩
theorem lie_in {n : Nat} {l : Int} (h : lieB n l = true) : 0 ≤ l ∧ l ≤ (n : Int) - 1 := of_decide_eq_true h
set_option maxRecDepth 100000 in
set_option maxHeartbeats 2000000 in
theorem spec_supported_any (p : Option Addr) (n c : Nat) (xs : List Sp) (t l : Int) (w : World) (hr : RdS E w p n xs) : Calls Try.prog 83 #[.slice p n c, .int .i64 t, .int .i64 l] w (SlSpan.Val (.bool (supp xs t l)) w) := by
  have HR := Lib.hid hr
  have HL := Lib.hid hr.len
  have hle := hr.le
  clear hr
  rcases hβ : lieB n l with _ | _
  · have HO := Lib.hid hβ
    have HS : Hid (supp xs t l = false) := Lib.hid (by unfold supp; rw [HL.out, hβ]; rfl)
    clear hβ
    go_enter Try.func83, Try.ntmps83
    go_wp2_with fail
    refine (l1In_any _ _ _ _ (show decide (0 ≤ l ∧ l ≤ (n : Int) - 1) = lieB n l from rfl) _).mono ?_
    rintro e w1 ⟨rfl, rfl⟩
    rw [HO.out]
    go_wp2_with fail
    go_ret
    exact ⟨by rw [HS.out]; rfl, Below.refl _ _⟩
  · have HO := Lib.hid hβ
    obtain ⟨hl1, hl2⟩ := lie_in hβ
    have HS : Hid (supp xs t l = decide ((n : Int) - l ≤ (cnt xs t : Nat))) := Lib.hid (by unfold supp; rw [HL.out, hβ]; rfl)
    clear hβ
    go_enter Try.func83, Try.ntmps83
    go_wp2_with fail
    refine (l1In_any _ _ _ _ (show decide (0 ≤ l ∧ l ≤ (n : Int) - 1) = lieB n l from rfl) _).mono ?_
    rintro e w1 ⟨rfl, rfl⟩
    rw [HO.out]
    go_wp2_with fail
    refine (spec_countAt_any _ _ _ _ _ _ HR.out).mono ?_
    rintro e w1 ⟨rfl, hb⟩
    have HB := Lib.hid hb
    clear hb
    by_cases hd : (n : Int) - l ≤ (cnt xs t : Nat)
    all_goals
      go_wp2_with fail
      go_ret
      exact ⟨by rw [HS.out]; simp [hd], HB.out⟩
/-! ### who disagrees -/
def dis (xs : List Sp) (s : Sp) (k : Nat) : List Int := ((List.range k).filter fun i => !meets (xs.getD i zs) s).map fun i : Nat => (i : Int)
theorem dis_yes {xs : List Sp} {s x : Sp} {k : Nat} (hx : xs.getD k zs = x) (h : meets x s = false) : dis xs s (k + 1) = dis xs s k ++ [(k : Int)] := by
  unfold dis
  rw [List.range_succ, List.filter_append, List.map_append]
  simp only [List.filter_cons, List.filter_nil, hx, h, Bool.not_false, if_true, List.map_cons, List.map_nil]
theorem dis_no {xs : List Sp} {s x : Sp} {k : Nat} (hx : xs.getD k zs = x) (h : meets x s = true) : dis xs s (k + 1) = dis xs s k := by
  unfold dis
  rw [List.range_succ, List.filter_append, List.map_append]
  simp only [List.filter_cons, List.filter_nil, hx, h, Bool.not_true, Bool.false_eq_true, if_false, List.map_nil, List.append_nil]
theorem dis_len (xs : List Sp) (s : Sp) (k : Nat) : (dis xs s k).length ≤ k := by
  unfold dis
  rw [List.length_map]
  exact Nat.le_trans (List.length_filter_le _ _) (by rw [List.length_range]; exact Nat.le_refl _)
end Go.Proofs.Ytlgkgccmilapbaa.Co
