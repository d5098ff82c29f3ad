/- Contracts of lists of methods, valid or not; in the program and in the reference. -/
import Derived.Test.YtllkpapkkgfjaacMm
import Derived.Test.YtllkpapkkgfjaacQt
import Derived.Test.YtllkpapkkgfjaacSoMethod
import Derived.Deep.RegionHeld3
import Derived.LoopTactic
import Derived.Outline
namespace Go.Proofs.Ytllkpapkkgfjaac.Mv
open Go.ChangeShapes Go.WideShapes Go.ChangeAt Go.RowKit Sl St Mn SlMethod Mm Ints

theorem zero_z4 : SlMethod.zero = z4 := rfl
/-- four cells -/
def C4 (w : World) (b q : Nat) (x0 x1 x2 x3 : Int) : Prop := w.cell? ⟨b, q, none⟩ = some (.int .i64 x0) ∧ w.cell? ⟨b, q + 1, none⟩ = some (.int .i64 x1) ∧ w.cell? ⟨b, q + 2, none⟩ = some (.int .i64 x2) ∧ w.cell? ⟨b, q + 3, none⟩ = some (.int .i64 x3)
theorem c4_at {w : World} {p : Option Addr} {n k : Nat} {xs : List Me} (h : RdS E w p n xs) (hk : k < n) : ∃ b o x0 x1 x2 x3, p = some ⟨b, o, none⟩ ∧ b < w.heap.size ∧ xs.getD k z4 = (x0, x1, x2, x3) ∧ C4 w b (o + k * 4) x0 x1 x2 x3 := by
  obtain ⟨b, o, e, hb, h0, h1, h2, h3⟩ := rd_at h hk
  exact ⟨b, o, _, _, _, _, e, hb, rfl, h0, h1, h2, h3⟩
theorem C4.below {w w' : World} {b q : Nat} {x0 x1 x2 x3 : Int} (h : C4 w b q x0 x1 x2 x3) (hb : Below w.heap.size w w') (hlt : b < w.heap.size) : C4 w' b q x0 x1 x2 x3 :=
  ⟨(hb.cell (p := ⟨b, q, none⟩) hlt).trans h.1, (hb.cell (p := ⟨b, q + 1, none⟩) hlt).trans h.2.1, (hb.cell (p := ⟨b, q + 2, none⟩) hlt).trans h.2.2.1, (hb.cell (p := ⟨b, q + 3, none⟩) hlt).trans h.2.2.2⟩
theorem bx_c4 {w : World} {g : Nat} {T : TypeId} {x0 x1 x2 x3 : Int} (h : Bx w g T #[.int .i64 x0, .int .i64 x1, .int .i64 x2, .int .i64 x3]) : C4 w g 0 x0 x1 x2 x3 := ⟨h.cell rfl, h.cell rfl, h.cell rfl, h.cell rfl⟩
theorem step_zero {xs : List Me} {x0 x1 x2 x3 : Int} (hx : xs.getD 0 z4 = (x0, x1, x2, x3)) (h : okM (x0, x1, x2, x3) = true) : Step xs 0 := ⟨by rw [hx]; exact h, fun h => absurd h (Nat.lt_irrefl 0)⟩
theorem step_next {xs : List Me} {j : Nat} {x0 x1 x2 x3 y0 y1 y2 y3 : Int} (hx : xs.getD (j + 1) z4 = (x0, x1, x2, x3)) (hy : xs.getD j z4 = (y0, y1, y2, y3)) (h : okM (x0, x1, x2, x3) = true) (hl : y0 < x0) : Step xs (j + 1) := ⟨by rw [hx]; exact h, fun _ => by rw [Nat.add_sub_cancel, hx, hy]; exact hl⟩
theorem no_ok {xs : List Me} {k : Nat} {x0 x1 x2 x3 : Int} (hx : xs.getD k z4 = (x0, x1, x2, x3)) (h : okM (x0, x1, x2, x3) = false) : ¬ Step xs k := fun ⟨h1, _⟩ => by rw [hx, h] at h1; cases h1
theorem no_rise {xs : List Me} {j : Nat} {x0 x1 x2 x3 y0 y1 y2 y3 : Int} (hx : xs.getD (j + 1) z4 = (x0, x1, x2, x3)) (hy : xs.getD j z4 = (y0, y1, y2, y3)) (hl : ¬ y0 < x0) : ¬ Step xs (j + 1) := fun ⟨_, h2⟩ => hl (by have := h2 (by omega); rw [Nat.add_sub_cancel, hx, hy] at this; exact this)
theorem steps_next {xs : List Me} {k : Nat} (h : ∀ j, j < k → Step xs j) (hk : Step xs k) : ∀ j, j < k + 1 → Step xs j := fun j hj => by
  rcases Nat.lt_succ_iff_lt_or_eq.1 hj with h2 | rfl
  · exact h j h2
  · exact hk
theorem areMethods_any (p : Option Addr) (n c : Nat) (xs : List Me) (w : World) (hr : RdS E w p n xs) : Calls Try.prog 81 #[.slice p n c] w (Tells (areM xs) w) :=
  (SoMethod.are_any p n c xs w hr).mono fun _ _ ⟨he, hb⟩ => ⟨he, hb⟩
set_option maxRecDepth 100000 in
set_option maxHeartbeats 8000000 in
theorem spec_areMethods_any (p : Option Addr) (n c : Nat) (xs : List Me) (w : World) (hr : RdS E w p n xs) : Calls Try.prog 75 #[.slice p n c] w (Tells (areM xs) w) := by
  have HR := Lib.hid hr
  have HL := Lib.hid hr.len
  have hle := hr.le
  clear hr
  go_enter Try.func75, Try.ntmps75
  go_wp2_with fail
  go_loopw [3] (fun i wr => ∃ k : Nat, k ≤ n ∧ i = .int .i64 k ∧ Hid ((∀ j, j < k → Step xs j) ∧ Below w.heap.size w wr)) (fun i _ => n - (intOf i).toNat)
  case atStart => exact ⟨0, Nat.zero_le _, rfl, Lib.hid ⟨fun j h => by omega, Below.refl _ _⟩⟩
  case round =>
    obtain ⟨k, hk, rfl, HK⟩ := hrel
    by_cases hlt : k < n
    · obtain ⟨b, o, x0, x1, x2, x3, rfl, hb, hx, hat⟩ := c4_at (HR.out.below HK.out.2) hlt
      have HX := Lib.hid hx
      have HA := Lib.hid hat
      have k1 : (0 : Int) ≤ (k : Int) := by omega
      have k2 : (k : Int) < (n : Int) := by omega
      rcases hβ : okM (x0, x1, x2, x3) with _ | _
      · have HO := Lib.hid hβ
        have HE := Lib.hid (areM_no (l := xs) (i := k) (by rw [HL.out]; exact hlt) (no_ok HX.out hβ))
        clear hx hβ hat
        go_wp2_with fail
        have HC : Hid (∀ w', Qt.Keeps (wr) w' → w'.cell? ⟨b, o + k * 4, none⟩ = some (.int .i64 x0) ∧ w'.cell? ⟨b, o + k * 4 + 1, none⟩ = some (.int .i64 x1) ∧ w'.cell? ⟨b, o + k * 4 + 2, none⟩ = some (.int .i64 x2) ∧ w'.cell? ⟨b, o + k * 4 + 3, none⟩ = some (.int .i64 x3)) := Lib.hid fun w' hw => HA.out.below hw hb
        refine Qt.region (Qt.Keeps (wr)) (by kernel_rfl) (by kernel_rfl) (Qt.Keeps.drew _) ?_
        repeat (first
          | go_big_quiet_skip
          | (go_big_quiet_want
             refine Qt.val (v := ?_) (fun w hw => ?_) ?_
             rotate_left
             · obtain ⟨s0, s1, s2, s3⟩ := HC.out w hw
               go_simp
               rfl
             simp only [Act.put, List.setIfInBounds_toArray, List.set_cons_zero, List.set_cons_succ]
             go_big_quiet_on)
          | (go_big_quiet_want
             refine Qt.call (v := .bool false) (f := 134) (args := #[.agg #[.int .i64 x0, .int .i64 x1, .int .i64 x2, .int .i64 x3]]) (fun w hw => ?_) (fun w hw => ?_) ?_
             · go_simp
             · refine (spec_isMethod_any x0 x1 x2 x3 _).mono ?_
               rintro e w1 ⟨rfl, hb1⟩
               rw [HO.out]
               exact ⟨rfl, hw.then hb1⟩
             simp only [Act.put, List.setIfInBounds_toArray, List.set_cons_zero, List.set_cons_succ]
             go_big_quiet_on))
        refine wpQuiet_nil ?_
        intro w2 hw2
        have HW2 := Lib.hid (below_on HK.out.2 hw2)
        clear hw2
        go_wp2_with fail
        go_ret
        exact tells (by rw [HE.out]) HW2.out
      · have HO := Lib.hid hβ
        cases k with
        | zero =>
          have HS := Lib.hid (steps_next HK.out.1 (step_zero HX.out hβ))
          clear hx hβ
          rw [Nat.zero_mul, Nat.add_zero] at hat HA
          clear hat
          go_wp2_with fail
          have HC : Hid (∀ w', Qt.Keeps (wr) w' → w'.cell? ⟨b, o, none⟩ = some (.int .i64 x0) ∧ w'.cell? ⟨b, o + 1, none⟩ = some (.int .i64 x1) ∧ w'.cell? ⟨b, o + 2, none⟩ = some (.int .i64 x2) ∧ w'.cell? ⟨b, o + 3, none⟩ = some (.int .i64 x3)) := Lib.hid fun w' hw => HA.out.below hw hb
          refine Qt.region (Qt.Keeps (wr)) (by kernel_rfl) (by kernel_rfl) (Qt.Keeps.drew _) ?_
          repeat (first
            | go_big_quiet_skip
            | (go_big_quiet_want
               refine Qt.val (v := ?_) (fun w hw => ?_) ?_
               rotate_left
               · obtain ⟨s0, s1, s2, s3⟩ := HC.out w hw
                 go_simp
                 rfl
               simp only [Act.put, List.setIfInBounds_toArray, List.set_cons_zero, List.set_cons_succ]
               go_big_quiet_on)
            | (go_big_quiet_want
               refine Qt.call (v := .bool true) (f := 134) (args := #[.agg #[.int .i64 x0, .int .i64 x1, .int .i64 x2, .int .i64 x3]]) (fun w hw => ?_) (fun w hw => ?_) ?_
               · go_simp
               · refine (spec_isMethod_any x0 x1 x2 x3 _).mono ?_
                 rintro e w1 ⟨rfl, hb1⟩
                 rw [HO.out]
                 exact ⟨rfl, hw.then hb1⟩
               simp only [Act.put, List.setIfInBounds_toArray, List.set_cons_zero, List.set_cons_succ]
               go_big_quiet_on))
          refine wpQuiet_nil ?_
          intro w2 hw2
          have HW2 := Lib.hid (below_on HK.out.2 hw2)
          clear hw2
          go_wp2_with fail
          go_roundw
          case rel => exact ⟨1, by omega, rfl, Lib.hid ⟨HS.out, HW2.out⟩⟩
          case measure => simp [intOf]; omega
        | succ j =>
          obtain ⟨b', o', y0, y1, y2, y3, e', hb', hy, hat'⟩ := c4_at (HR.out.below HK.out.2) (k := j) (by omega)
          simp only [Option.some.injEq, Addr.mk.injEq, and_true] at e'
          obtain ⟨rfl, rfl⟩ := e'
          have HP := Lib.hid hat'
          have jw : IntKind.i64.wrap (j : Int) = (j : Int) := IntWalk.i64_in _ (by omega)
          have j1 : (0 : Int) ≤ (j : Int) := by omega
          have j2 : (j : Int) < (n : Int) := by omega
          by_cases hlt2 : y0 < x0
          all_goals
            first
              | (have HS := Lib.hid (steps_next HK.out.1 (step_next HX.out hy hβ hlt2)))
              | (have HE := Lib.hid (areM_no (l := xs) (i := j + 1) (by rw [HL.out]; exact hlt) (no_rise HX.out hy hlt2)))
            clear hx hβ hat' hy hat
            go_wp2_with fail
            have HC : Hid (∀ w', Qt.Keeps (wr) w' → w'.cell? ⟨b, o + (j + 1) * 4, none⟩ = some (.int .i64 x0) ∧ w'.cell? ⟨b, o + (j + 1) * 4 + 1, none⟩ = some (.int .i64 x1) ∧ w'.cell? ⟨b, o + (j + 1) * 4 + 2, none⟩ = some (.int .i64 x2) ∧ w'.cell? ⟨b, o + (j + 1) * 4 + 3, none⟩ = some (.int .i64 x3) ∧ w'.cell? ⟨b, o + j * 4, none⟩ = some (.int .i64 y0)) := Lib.hid fun w' hw => let h := HA.out.below hw hb; ⟨h.1, h.2.1, h.2.2.1, h.2.2.2, (HP.out.below hw hb).1⟩
            refine Qt.region (Qt.Keeps (wr)) (by kernel_rfl) (by kernel_rfl) (Qt.Keeps.drew _) ?_
            repeat (first
              | go_big_quiet_skip
              | (go_big_quiet_want
                 refine Qt.val (v := ?_) (fun w hw => ?_) ?_
                 rotate_left
                 · obtain ⟨s0, s1, s2, s3, s4⟩ := HC.out w hw
                   go_simp
                   rfl
                 simp only [Act.put, List.setIfInBounds_toArray, List.set_cons_zero, List.set_cons_succ]
                 go_big_quiet_on)
              | (go_big_quiet_want
                 refine Qt.call (v := .bool true) (f := 134) (args := #[.agg #[.int .i64 x0, .int .i64 x1, .int .i64 x2, .int .i64 x3]]) (fun w hw => ?_) (fun w hw => ?_) ?_
                 · go_simp
                 · refine (spec_isMethod_any x0 x1 x2 x3 _).mono ?_
                   rintro e w1 ⟨rfl, hb1⟩
                   rw [HO.out]
                   exact ⟨rfl, hw.then hb1⟩
                 simp only [Act.put, List.setIfInBounds_toArray, List.set_cons_zero, List.set_cons_succ]
                 go_big_quiet_on))
            refine wpQuiet_nil ?_
            intro w2 hw2
            have HW2 := Lib.hid (below_on HK.out.2 hw2)
            clear hw2
            go_wp2_with fail
          · go_roundw
            case rel => exact ⟨j + 2, by omega, by go_num, Lib.hid ⟨HS.out, HW2.out⟩⟩
            case measure => simp [intOf]; omega
          · go_ret
            exact tells (by rw [HE.out]) HW2.out
    · obtain rfl : k = n := by omega
      have HE : Hid (areM xs = decide ((k : Int) ≤ 8)) := Lib.hid (by rw [areM_all (by rw [HL.out]; exact HK.out.1), HL.out]; congr 1; rw [eq_iff_iff]; omega)
      go_wp2_with fail
      go_ret
      exact tells (by rw [HE.out]) HK.out.2
end Go.Proofs.Ytllkpapkkgfjaac.Mv
