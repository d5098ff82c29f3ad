/- IsSignRule; in the program and in the reference. -/
import Derived.Test.YtjoeacdoblgncaaKi
import Derived.Test.YtjoeacdoblgncaaHx
import Derived.Test.YtjoeacdoblgncaaSlRule
import Derived.Deep.QuietTactic
import Derived.BigQuiet
import Derived.LoopTactic
import Derived.Outline
namespace Go.Proofs.Ytjoeacdoblgncaa.Ir
open Go.ChangeShapes Go.WideShapes Go.ChangeAt Go.RowKit Sl St Fnd Ki Hx SlRule
/-- the first k owners are valid and different -/
def good (xs : List Int) (k : Nat) : Prop := ∀ j, j < k → inB (xs.getD j 0) 0 99 = true ∧ hasI (xs.take j) (xs.getD j 0) = false
noncomputable instance (xs : List Int) (k : Nat) : Decidable (good xs k) := Classical.propDecidable _
/-- a rule is valid -/
noncomputable def okR (xs : List Int) : Bool := inB xs.length 1 4 && decide (good xs xs.length)
theorem good_next {xs : List Int} {k : Nat} (h : good xs k) (h1 : inB (xs.getD k 0) 0 99 = true) (h2 : hasI (xs.take k) (xs.getD k 0) = false) : good xs (k + 1) := fun j hj => by
  rcases Nat.lt_succ_iff_lt_or_eq.1 hj with h3 | rfl
  · exact h j h3
  · exact ⟨h1, h2⟩
theorem okR_out {xs : List Int} {k : Nat} (hk : k < xs.length) (h1 : inB (xs.getD k 0) 0 99 = false) : okR xs = false := by
  unfold okR
  rw [decide_eq_false (fun h => by have := (h k hk).1; rw [h1] at this; exact absurd this (by decide)), Bool.and_false]
theorem okR_twice {xs : List Int} {k : Nat} (hk : k < xs.length) (h1 : hasI (xs.take k) (xs.getD k 0) = true) : okR xs = false := by
  unfold okR
  rw [decide_eq_false (fun h => by have := (h k hk).2; rw [h1] at this; exact absurd this (by decide)), Bool.and_false]
theorem okR_many {xs : List Int} {n : Nat} (hl : xs.length = n) (h : inB n 1 4 = false) : okR xs = false := by
  unfold okR
  rw [hl, h, Bool.false_and]
theorem okR_good {xs : List Int} {n : Nat} (hl : xs.length = n) (h : good xs n) : okR xs = inB n 1 4 := by
  unfold okR
  subst hl
  rw [decide_eq_true h, Bool.and_true]
theorem cut0 {w : World} {p : Option Addr} {n k : Nat} {xs : List Int} (h : Rd .i64 w p n xs) (hk : k ≤ n) : Rd .i64 w p k (xs.take k) := by
  have := h.cut (lo := 0) (m := k) (p' := p) (by omega) (fun _ b o e => by rw [e, Nat.add_zero])
  rw [List.drop_zero] at this
  exact this
theorem inQ (x lo hi : Int) (β : Bool) (h : inB x lo hi = β) (w : World) : Calls Try.prog 72 #[.int .i64 x, .int .i64 lo, .int .i64 hi] w (Asks β w) := by
  rw [← h]
  exact in_any _ _ _ _
theorem hasQ (p : Option Addr) (n c : Nat) (l : List Int) (x : Int) (β : Bool) (h : hasI l x = β) (w : World) (hr : Rd .i64 w p n l) : Calls Try.prog 73 #[.slice p n c, .int .i64 x] w (Asks β w) := by
  rw [← h]
  exact l7Has_any _ _ _ _ _ _ hr
theorem rd_drewN {w : World} {p : Option Addr} {n : Nat} {l : List Int} (h : Rd .i64 w p n l) (k : Nat) : Rd .i64 (w.drewN k) p n l := h
theorem bx_drewN {w : World} {g : Nat} {T : TypeId} {cs : Array Value} (h : Bx w g T cs) (k : Nat) : Bx (w.drewN k) g T cs := h
set_option maxRecDepth 100000 in
set_option maxHeartbeats 4000000 in
theorem isRule_any (p : Option Addr) (n c : Nat) (m : Bool) (xs : List Int) (w : World) (hr : Rd .i64 w p n xs) (hc : n ≤ c) : Calls Try.prog 51 #[.agg #[.slice p n c, .bool m]] w (SlRule.Val (.bool (okR xs)) w) := by
  have HL := Lib.hid hr.len
  have hle := hr.le
  have HB0 := Lib.hid (SlRule.box1 w (.cells #[.slice p n c, .bool m] 33))
  have HX0 := Lib.hid (Bx.new w 33 #[.slice p n c, .bool m])
  have HR := Lib.hid hr
  clear hr
  go_enter Try.func51, Try.ntmps51
  obtain ⟨x0, x1⟩ := bx2 HX0.out
  rcases hβ : inB n 1 4 with _ | _
  · have HE := Lib.hid (okR_many HL.out hβ)
    have HO := Lib.hid hβ
    clear hβ
    go_wp2_with fail
    refine (rng_any _ _ _ _).mono ?_
    rintro e w1 ⟨rfl, rfl⟩
    rw [HO.out]
    go_wp2_with fail
    go_ret
    exact ⟨by rw [HE.out]; rfl, HB0.out⟩
  have HO := Lib.hid hβ
  clear hβ
  go_wp2_with fail
  refine (rng_any _ _ _ _).mono ?_
  rintro e w1 ⟨rfl, rfl⟩
  rw [HO.out]
  have HR1 := Lib.hid (HR.out.below HB0.out)
  go_wp2_with fail
  go_loop [13] (fun i => ∃ k : Nat, k ≤ n ∧ i = .int .i64 k ∧ Hid (good xs k)) (fun i => n - (intOf i).toNat)
  case atStart => exact ⟨0, Nat.zero_le _, rfl, Lib.hid fun j h => by omega⟩
  case round =>
    obtain ⟨k, hk, rfl, HG⟩ := hrel
    by_cases hlt : k < n
    · obtain ⟨b, o, rfl, hb, hat⟩ := HR1.out.at_ hlt
      have HT := Lib.hid (cut0 HR1.out (Nat.le_of_lt hlt))
      have HK : Hid (k < xs.length) := Lib.hid (by rw [HL.out]; exact hlt)
      have HZ : Hid (xs.getD k 0 = xs.getD k 0) := Lib.hid rfl
      have HF1 := Lib.hid (fun h => okR_out (xs := xs) HK.out h)
      have HF2 := Lib.hid (fun h => okR_twice (xs := xs) HK.out h)
      have HGN := Lib.hid (fun h h' => good_next (k := k) HG.out h h')
      generalize xs.getD k 0 = z at hat HF1 HF2 HGN
      clear HZ
      have i1 : (0 : Int) ≤ (k : Int) := by omega
      have i2 : (k : Int) < (n : Int) := by omega
      have i3 : (k : Int) ≤ (c : Int) := by omega
      rcases h1 : inB z 0 99 with _ | _
      · have HE := Lib.hid (HF1.out h1)
        have HO1 := Lib.hid h1
        clear h1
        go_wp2_with fail
        refine (isOwner_any _ _).mono ?_
        rintro e w1 ⟨rfl, rfl⟩
        rw [HO1.out]
        go_wp2_with fail
        go_ret
        exact ⟨by rw [HE.out]; rfl, HB0.out⟩
      rcases h2 : hasI (xs.take k) z with _ | _
      · have HN := Lib.hid (HGN.out h1 h2)
        have HO1 := Lib.hid h1
        have HO2 := Lib.hid h2
        clear h1 h2
        go_wp2_with fail
        refine (isOwner_any _ _).mono ?_
        rintro e w1 ⟨rfl, rfl⟩
        rw [HO1.out]
        go_wp2_with fail
        refine (contains_any _ _ _ _ _ _ HT.out).mono ?_
        rintro e w1 ⟨rfl, rfl⟩
        rw [HO2.out]
        go_wp2_with fail
        go_round
        case rel => exact ⟨k + 1, by omega, by go_num, HN⟩
        case measure => simp [intOf]; omega
      · have HE := Lib.hid (HF2.out h2)
        have HO1 := Lib.hid h1
        have HO2 := Lib.hid h2
        clear h1 h2
        go_wp2_with fail
        refine (isOwner_any _ _).mono ?_
        rintro e w1 ⟨rfl, rfl⟩
        rw [HO1.out]
        go_wp2_with fail
        refine (contains_any _ _ _ _ _ _ HT.out).mono ?_
        rintro e w1 ⟨rfl, rfl⟩
        rw [HO2.out]
        go_wp2_with fail
        go_ret
        exact ⟨by rw [HE.out]; rfl, HB0.out⟩
    · obtain rfl : k = n := by omega
      have HE := Lib.hid ((okR_good HL.out HG.out).trans HO.out)
      go_wp2_with fail
      go_ret
      exact ⟨by rw [HE.out]; rfl, HB0.out⟩
set_option maxRecDepth 100000 in
set_option maxHeartbeats 4000000 in
theorem spec_isRule_any (p : Option Addr) (n c : Nat) (m : Bool) (xs : List Int) (w : World) (hr : Rd .i64 w p n xs) (hc : n ≤ c) : Calls Try.prog 45 #[.agg #[.slice p n c, .bool m]] w (SlRule.Val (.bool (okR xs)) w) := by
  have HL := Lib.hid hr.len
  have hle := hr.le
  have HB0 := Lib.hid (SlRule.box1 w (.cells #[.slice p n c, .bool m] 33))
  have HX0 := Lib.hid (Bx.new w 33 #[.slice p n c, .bool m])
  have HR := Lib.hid hr
  clear hr
  go_enter Try.func45, Try.ntmps45
  go_wp2_with fail
  go_loopw [3] (fun i wr => ∃ k : Nat, k ≤ n ∧ i = .int .i64 k ∧ Hid (good xs k) ∧ Hid (Below w.heap.size w wr) ∧ Hid (Bx wr w.heap.size 33 #[.slice p n c, .bool m])) (fun i _ => n - (intOf i).toNat)
  case atStart => exact ⟨0, Nat.zero_le _, rfl, Lib.hid fun j h => by omega, HB0, HX0⟩
  case round =>
    obtain ⟨k, hk, rfl, HG, HB, HX⟩ := hrel
    obtain ⟨x0, x1⟩ := bx2 HX.out
    have HR1 := Lib.hid (HR.out.below HB.out)
    by_cases hlt : k < n
    · obtain ⟨b, o, rfl, hb, hat⟩ := HR1.out.at_ hlt
      have HT := Lib.hid (cut0 HR1.out (Nat.le_of_lt hlt))
      have HK : Hid (k < xs.length) := Lib.hid (by rw [HL.out]; exact hlt)
      have HF1 := Lib.hid (fun h => okR_out (xs := xs) HK.out h)
      have HF2 := Lib.hid (fun h => okR_twice (xs := xs) HK.out h)
      have HGN := Lib.hid (fun h h' => good_next (k := k) HG.out h h')
      generalize xs.getD k 0 = z at hat HF1 HF2 HGN
      have i1 : (0 : Int) ≤ (k : Int) := by omega
      have i2 : (k : Int) < (n : Int) := by omega
      have i3 : (k : Int) ≤ (c : Int) := by omega
      rcases h1 : inB z 0 99 with _ | _
      · have HE := Lib.hid (HF1.out h1)
        have HO1 := Lib.hid h1
        clear h1
        go_wp2_with fail
        go_quiet ((first
          | (go_at_call 72; exact Calls.quiet_of_same ((inQ _ _ _ _ HO1.out _).mono fun _ _ h => ⟨h.1, h.2.symm⟩))
          | (go_at_call 73; exact Calls.quiet_of_same ((hasQ _ _ _ _ _ _ HO2.out _ (rd_drewN HT.out _)).mono fun _ _ h => ⟨h.1, h.2.symm⟩))))
        go_wp2_with fail
        go_ret
        exact ⟨by rw [HE.out]; rfl, below_drewN HB.out _⟩
      rcases h2 : hasI (xs.take k) z with _ | _
      · have HN := Lib.hid (HGN.out h1 h2)
        have HO1 := Lib.hid h1
        have HO2 := Lib.hid h2
        clear h1 h2
        go_wp2_with fail
        go_quiet ((first
          | (go_at_call 72; exact Calls.quiet_of_same ((inQ _ _ _ _ HO1.out _).mono fun _ _ h => ⟨h.1, h.2.symm⟩))
          | (go_at_call 73; exact Calls.quiet_of_same ((hasQ _ _ _ _ _ _ HO2.out _ (rd_drewN HT.out _)).mono fun _ _ h => ⟨h.1, h.2.symm⟩))))
        go_wp2_with fail
        go_roundw
        case rel => exact ⟨k + 1, by omega, by go_num, HN, Lib.hid (below_drewN HB.out _), Lib.hid (bx_drewN HX.out _)⟩
        case measure => simp [intOf]; omega
      · have HE := Lib.hid (HF2.out h2)
        have HO1 := Lib.hid h1
        have HO2 := Lib.hid h2
        clear h1 h2
        go_wp2_with fail
        go_quiet ((first
          | (go_at_call 72; exact Calls.quiet_of_same ((inQ _ _ _ _ HO1.out _).mono fun _ _ h => ⟨h.1, h.2.symm⟩))
          | (go_at_call 73; exact Calls.quiet_of_same ((hasQ _ _ _ _ _ _ HO2.out _ (rd_drewN HT.out _)).mono fun _ _ h => ⟨h.1, h.2.symm⟩))))
        go_wp2_with fail
        go_ret
        exact ⟨by rw [HE.out]; rfl, below_drewN HB.out _⟩
    · obtain rfl : k = n := by omega
      have HE := Lib.hid (okR_good HL.out HG.out)
      go_wp2_with fail
      refine (in_any _ _ _ _).mono ?_
      rintro e w1 ⟨rfl, rfl⟩
      go_wp2_with fail
      go_ret
      exact ⟨by rw [HE.out]; rfl, HB.out⟩
end Go.Proofs.Ytjoeacdoblgncaa.Ir
