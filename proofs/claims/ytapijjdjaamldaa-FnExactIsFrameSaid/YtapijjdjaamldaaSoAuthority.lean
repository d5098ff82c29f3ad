/- Contracts: lists of valid Authoritys with rising numbers; in the program (isSortedList, with function values) and in the reference. -/
import Derived.Test.YtapijjdjaamldaaUi
import Derived.Test.YtapijjdjaamldaaSlAuthority
import Derived.Test.YtapijjdjaamldaaFnd
import Derived.Test.YtapijjdjaamldaaQt
import Derived.Deep.RegionHeld3
import Derived.LoopTactic
import Derived.Outline
namespace Go.Proofs.Ytapijjdjaamldaa.SoAuthority
open Go.ChangeShapes Go.WideShapes Go.ChangeAt Go.RowKit Sl St Fnd SlAuthority Ki Ui

theorem says {b b' : Bool} {w w' : World} (h : b' = b) (hb : Below w.heap.size w w') : Val (.bool b) w (.returned (.bool b')) w' := ⟨by rw [h], hb⟩
abbrev Z : I3 := SlAuthority.zero
abbrev are (xs : List I3) : Bool := areL okU (fun k => k.1) Z 6 xs
/-- the cells of one -/
def C3 (w : World) (b q : Nat) (x0 x1 x2 : Int) : Prop := w.cell? ⟨b, q, none⟩ = some (.int .i64 x0) ∧ w.cell? ⟨b, q + 1, none⟩ = some (.int .i64 x1) ∧ w.cell? ⟨b, q + 2, none⟩ = some (.int .i64 x2)
theorem c_at {w : World} {p : Option Addr} {n k : Nat} {xs : List I3} (h : RdS E w p n xs) (hk : k < n) : ∃ b o x0 x1 x2, p = some ⟨b, o, none⟩ ∧ b < w.heap.size ∧ xs.getD k Z = (x0, x1, x2) ∧ C3 w b (o + k * 3) x0 x1 x2 := by
  obtain ⟨b, o, e, hb, h0, h1, h2⟩ := rd_at h hk
  exact ⟨b, o, _, _, _, e, hb, rfl, h0, h1, h2⟩
theorem C3.below {w w' : World} {b q : Nat} {x0 x1 x2 : Int} (h : C3 w b q x0 x1 x2) (hb : Below w.heap.size w w') (hlt : b < w.heap.size) : C3 w' b q x0 x1 x2 :=
  ⟨(hb.cell (p := ⟨b, q, none⟩) hlt).trans h.1, (hb.cell (p := ⟨b, q + 1, none⟩) hlt).trans h.2.1, (hb.cell (p := ⟨b, q + 2, none⟩) hlt).trans h.2.2⟩
theorem bx_c {w : World} {g : Nat} {T : TypeId} {x0 x1 x2 : Int} (h : Bx w g T #[.int .i64 x0, .int .i64 x1, .int .i64 x2]) : C3 w g 0 x0 x1 x2 := ⟨h.cell rfl, h.cell rfl, h.cell rfl⟩
set_option maxHeartbeats 1000000 in
theorem num_any (x0 x1 x2 : Int) (w : World) : Calls Try.prog 149 #[.agg #[.int .i64 x0, .int .i64 x1, .int .i64 x2]] w (Val (.int .i64 x0) w) := by
  go_enter Try.func149, Try.ntmps149
  go_wp2_with fail
  go_ret
  exact ⟨rfl, (Below.refl _ _).alloc (Nat.le_refl _) _⟩
set_option maxRecDepth 100000 in
set_option maxHeartbeats 8000000 in
theorem sorted_any (p : Option Addr) (n c : Nat) (xs : List I3) (w : World) (hr : RdS E w p n xs) : Calls Try.prog 147 #[.slice p n c, .int .i64 6, .func (.func 148) #[] #[], .func (.func 149) #[] #[]] w (Val (.bool (are xs)) w) := by
  have HR := Lib.hid hr
  have HL := Lib.hid hr.len
  have hle := hr.le
  clear hr
  by_cases h8 : 6 < n
  · have HE : Hid (are xs = false) := Lib.hid (areL_long (by rw [HL.out]; exact h8))
    have hI : (6 : Int) < (n : Int) := by omega
    go_enter Try.func147, Try.ntmps147
    go_wp2_with fail
    go_ret
    exact says (by rw [HE.out]) (Below.refl _ _)
  have hI : ¬ (6 : Int) < (n : Int) := by omega
  go_enter Try.func147, Try.ntmps147
  go_wp2_with fail
  go_loopw [17] (fun i wr => ∃ k : Nat, k ≤ n ∧ i = .int .i64 k ∧ Hid ((∀ j, j < k → Step okU (fun k => k.1) Z xs j) ∧ Below w.heap.size w wr)) (fun i _ => n - (intOf i).toNat)
  case atStart => exact ⟨0, Nat.zero_le _, rfl, Lib.hid ⟨fun j h => by omega, Below.refl _ _⟩⟩
  case round =>
    obtain ⟨k, hk, rfl, HK⟩ := hrel
    by_cases hlt : k < n
    · obtain ⟨b, o, x0, x1, x2, rfl, hb, hx, hat⟩ := c_at (HR.out.below HK.out.2) hlt
      have HX := Lib.hid hx
      have HA := Lib.hid hat
      have HN := Lib.hid (Bx.new wr 187 #[.int .i64 x0, .int .i64 x1, .int .i64 x2])
      have HW := Lib.hid (HK.out.2.alloc HK.out.2.size (.cells #[.int .i64 x0, .int .i64 x1, .int .i64 x2] 187))
      rcases hβ : okU (x0, x1, x2) with _ | _
      · have HO := Lib.hid hβ
        have HE : Hid (are xs = false) := Lib.hid (areL_no (i := k) (by rw [HL.out]; exact hlt) (no_ok HX.out hβ))
        obtain ⟨g0, g1, g2⟩ := hat
        clear hx hβ
        go_wp2_with fail
        have HC : Hid (∀ w', Qt.Keeps ((wr.alloc (.cells #[.int .i64 x0, .int .i64 x1, .int .i64 x2] 187))) w' → w'.cell? ⟨wr.heap.size, 0, none⟩ = some (.int .i64 x0) ∧ w'.cell? ⟨wr.heap.size, 1, none⟩ = some (.int .i64 x1) ∧ w'.cell? ⟨wr.heap.size, 2, none⟩ = some (.int .i64 x2)) := Lib.hid fun w' hw => let h := bx_c (HN.out.below hw); ⟨h.1, h.2.1, h.2.2⟩
        refine Qt.region (Qt.Keeps ((wr.alloc (.cells #[.int .i64 x0, .int .i64 x1, .int .i64 x2] 187)))) (by kernel_rfl) (by kernel_rfl) (Qt.Keeps.drew _) ?_
        repeat (first
          | go_big_quiet_skip
          | (go_big_quiet_want
             refine Qt.val (v := ?_) (fun w hw => ?_) ?_
             rotate_left
             · obtain ⟨s0, s1, s2⟩ := HC.out w hw
               go_simp
               rfl
             simp only [Act.put, List.setIfInBounds_toArray, List.set_cons_zero, List.set_cons_succ]
             go_big_quiet_on)
          | (go_big_quiet_want
             refine Qt.call (v := .bool false) (f := 148) (args := #[.agg #[.int .i64 x0, .int .i64 x1, .int .i64 x2]]) (fun w hw => ?_) (fun w hw => ?_) ?_
             · go_simp
             · refine (isAuthority_any x0 x1 x2 _).mono ?_
               rintro e w1 ⟨rfl, hb1⟩
               rw [HO.out]
               exact ⟨rfl, hw.then hb1⟩
             simp only [Act.put, List.setIfInBounds_toArray, List.set_cons_zero, List.set_cons_succ]
             go_big_quiet_on))
        refine wpQuiet_nil ?_
        intro w2 hw2
        have HW2 := Lib.hid (below_on HW.out hw2)
        clear hw2
        go_wp2_with fail
        go_ret
        exact says (by rw [HE.out]) HW2.out
      · have HO := Lib.hid hβ
        cases k with
        | zero =>
          have HS := Lib.hid (steps_next HK.out.1 (step_zero HX.out hβ))
          rw [Nat.zero_mul, Nat.add_zero] at hat
          obtain ⟨g0, g1, g2⟩ := hat
          clear hx hβ
          go_wp2_with fail
          have HC : Hid (∀ w', Qt.Keeps ((wr.alloc (.cells #[.int .i64 x0, .int .i64 x1, .int .i64 x2] 187))) w' → w'.cell? ⟨wr.heap.size, 0, none⟩ = some (.int .i64 x0) ∧ w'.cell? ⟨wr.heap.size, 1, none⟩ = some (.int .i64 x1) ∧ w'.cell? ⟨wr.heap.size, 2, none⟩ = some (.int .i64 x2)) := Lib.hid fun w' hw => let h := bx_c (HN.out.below hw); ⟨h.1, h.2.1, h.2.2⟩
          refine Qt.region (Qt.Keeps ((wr.alloc (.cells #[.int .i64 x0, .int .i64 x1, .int .i64 x2] 187)))) (by kernel_rfl) (by kernel_rfl) (Qt.Keeps.drew _) ?_
          repeat (first
            | go_big_quiet_skip
            | (go_big_quiet_want
               refine Qt.val (v := ?_) (fun w hw => ?_) ?_
               rotate_left
               · obtain ⟨s0, s1, s2⟩ := HC.out w hw
                 go_simp
                 rfl
               simp only [Act.put, List.setIfInBounds_toArray, List.set_cons_zero, List.set_cons_succ]
               go_big_quiet_on)
            | (go_big_quiet_want
               refine Qt.call (v := .bool true) (f := 148) (args := #[.agg #[.int .i64 x0, .int .i64 x1, .int .i64 x2]]) (fun w hw => ?_) (fun w hw => ?_) ?_
               · go_simp
               · refine (isAuthority_any x0 x1 x2 _).mono ?_
                 rintro e w1 ⟨rfl, hb1⟩
                 rw [HO.out]
                 exact ⟨rfl, hw.then hb1⟩
               simp only [Act.put, List.setIfInBounds_toArray, List.set_cons_zero, List.set_cons_succ]
               go_big_quiet_on))
          refine wpQuiet_nil ?_
          intro w2 hw2
          have HW2 := Lib.hid (below_on HW.out hw2)
          clear hw2
          go_wp2_with fail
          go_roundw
          case rel => exact ⟨1, by omega, rfl, Lib.hid ⟨HS.out, HW2.out⟩⟩
          case measure => simp [intOf]; omega
        | succ j =>
          obtain ⟨b', o', y0, y1, y2, e', hb', hy, hat'⟩ := c_at (HR.out.below HK.out.2) (k := j) (by omega)
          simp only [Option.some.injEq, Addr.mk.injEq, and_true] at e'
          obtain ⟨rfl, rfl⟩ := e'
          have HP := Lib.hid (hat'.below ((Below.refl wr.heap.size wr).alloc (Nat.le_refl _) (.cells #[.int .i64 x0, .int .i64 x1, .int .i64 x2] 187)) hb)
          have HBS : Hid (b < (wr.alloc (.cells #[.int .i64 x0, .int .i64 x1, .int .i64 x2] 187)).heap.size) := Lib.hid (Nat.lt_of_lt_of_le hb (by simp))
          obtain ⟨g0, g1, g2⟩ := hat
          have jw : IntKind.i64.wrap (j : Int) = (j : Int) := IntWalk.i64_in _ (by omega)
          have j1 : (0 : Int) ≤ (j : Int) := by omega
          have j2 : (j : Int) < (n : Int) := by omega
          by_cases hlt2 : y0 < x0
          all_goals
            first
              | (have HS := Lib.hid (steps_next HK.out.1 (step_next HX.out hy hβ hlt2)))
              | (have HE : Hid (are xs = false) := Lib.hid (areL_no (i := j + 1) (by rw [HL.out]; exact hlt) (no_rise HX.out hy hlt2)))
            clear hx hβ hat' hy
            go_wp2_with fail
            have HC : Hid (∀ w', Qt.Keeps ((wr.alloc (.cells #[.int .i64 x0, .int .i64 x1, .int .i64 x2] 187))) w' → w'.cell? ⟨wr.heap.size, 0, none⟩ = some (.int .i64 x0) ∧ w'.cell? ⟨wr.heap.size, 1, none⟩ = some (.int .i64 x1) ∧ w'.cell? ⟨wr.heap.size, 2, none⟩ = some (.int .i64 x2) ∧ w'.cell? ⟨b, o + j * 3, none⟩ = some (.int .i64 y0) ∧ w'.cell? ⟨b, o + j * 3 + 1, none⟩ = some (.int .i64 y1) ∧ w'.cell? ⟨b, o + j * 3 + 2, none⟩ = some (.int .i64 y2)) := Lib.hid fun w' hw => let h := bx_c (HN.out.below hw); let h2 := HP.out.below hw HBS.out; ⟨h.1, h.2.1, h.2.2, h2.1, h2.2.1, h2.2.2⟩
            refine Qt.region (Qt.Keeps ((wr.alloc (.cells #[.int .i64 x0, .int .i64 x1, .int .i64 x2] 187)))) (by kernel_rfl) (by kernel_rfl) (Qt.Keeps.drew _) ?_
            repeat (first
              | go_big_quiet_skip
              | (go_big_quiet_want
                 refine Qt.val (v := ?_) (fun w hw => ?_) ?_
                 rotate_left
                 · obtain ⟨s0, s1, s2, r0, r1, r2⟩ := HC.out w hw
                   go_simp
                   rfl
                 simp only [Act.put, List.setIfInBounds_toArray, List.set_cons_zero, List.set_cons_succ]
                 go_big_quiet_on)
              | (go_big_quiet_want
                 refine Qt.call (v := .bool true) (f := 148) (args := #[.agg #[.int .i64 x0, .int .i64 x1, .int .i64 x2]]) (fun w hw => ?_) (fun w hw => ?_) ?_
                 · go_simp
                 · refine (isAuthority_any x0 x1 x2 _).mono ?_
                   rintro e w1 ⟨rfl, hb1⟩
                   rw [HO.out]
                   exact ⟨rfl, hw.then hb1⟩
                 simp only [Act.put, List.setIfInBounds_toArray, List.set_cons_zero, List.set_cons_succ]
                 go_big_quiet_on)
              | (go_big_quiet_want
                 refine Qt.call (v := .int .i64 y0) (f := 149) (args := #[.agg #[.int .i64 y0, .int .i64 y1, .int .i64 y2]]) (fun w hw => ?_) (fun w hw => ?_) ?_
                 · go_simp
                 · refine (num_any y0 y1 y2 _).mono ?_
                   rintro e w1 ⟨rfl, hb1⟩
                   exact ⟨rfl, hw.then hb1⟩
                 simp only [Act.put, List.setIfInBounds_toArray, List.set_cons_zero, List.set_cons_succ]
                 go_big_quiet_on)
              | (go_big_quiet_want
                 refine Qt.call (v := .int .i64 x0) (f := 149) (args := #[.agg #[.int .i64 x0, .int .i64 x1, .int .i64 x2]]) (fun w hw => ?_) (fun w hw => ?_) ?_
                 · go_simp
                 · refine (num_any x0 x1 x2 _).mono ?_
                   rintro e w1 ⟨rfl, hb1⟩
                   exact ⟨rfl, hw.then hb1⟩
                 simp only [Act.put, List.setIfInBounds_toArray, List.set_cons_zero, List.set_cons_succ]
                 go_big_quiet_on))
            refine wpQuiet_nil ?_
            intro w2 hw2
            have HW2 := Lib.hid (below_on HW.out hw2)
            clear hw2
            go_wp2_with fail
          · go_roundw
            case rel => exact ⟨j + 2, by omega, by go_num, Lib.hid ⟨HS.out, HW2.out⟩⟩
            case measure => simp [intOf]; omega
          · go_ret
            exact says (by rw [HE.out]) HW2.out
    · obtain rfl : k = n := by omega
      have HE : Hid (are xs = true) := Lib.hid (areL_yes (by rw [HL.out]; omega) (by rw [HL.out]; exact HK.out.1))
      go_wp2_with fail
      go_ret
      exact says (by rw [HE.out]) HK.out.2
theorem are_any (p : Option Addr) (n c : Nat) (xs : List I3) (w : World) (hr : RdS E w p n xs) : Calls Try.prog 107 #[.slice p n c] w (Val (.bool (are xs)) w) := by
  have HR := Lib.hid hr
  clear hr
  go_enter Try.func107, Try.ntmps107
  go_wp2_with fail
  refine (sorted_any _ _ _ _ _ HR.out).mono ?_
  rintro e w1 ⟨rfl, hb⟩
  go_wp2_with fail
  go_ret
  exact ⟨rfl, hb⟩
set_option maxRecDepth 100000 in
set_option maxHeartbeats 8000000 in
theorem spec_are_any (p : Option Addr) (n c : Nat) (xs : List I3) (w : World) (hr : RdS E w p n xs) : Calls Try.prog 100 #[.slice p n c] w (Val (.bool (are xs)) w) := by
  have HR := Lib.hid hr
  have HL := Lib.hid hr.len
  have hle := hr.le
  clear hr
  go_enter Try.func100, Try.ntmps100
  go_wp2_with fail
  go_loopw [3] (fun i wr => ∃ k : Nat, k ≤ n ∧ i = .int .i64 k ∧ Hid ((∀ j, j < k → Step okU (fun k => k.1) Z xs j) ∧ Below w.heap.size w wr)) (fun i _ => n - (intOf i).toNat)
  case atStart => exact ⟨0, Nat.zero_le _, rfl, Lib.hid ⟨fun j h => by omega, Below.refl _ _⟩⟩
  case round =>
    obtain ⟨k, hk, rfl, HK⟩ := hrel
    by_cases hlt : k < n
    · obtain ⟨b, o, x0, x1, x2, rfl, hb, hx, hat⟩ := c_at (HR.out.below HK.out.2) hlt
      have HX := Lib.hid hx
      have HA := Lib.hid hat
      have k1 : (0 : Int) ≤ (k : Int) := by omega
      have k2 : (k : Int) < (n : Int) := by omega
      rcases hb0 : inB x0 0 99 with _ | _
      · have B0 := Lib.hid hb0
        have HE : Hid (are xs = false) := Lib.hid (areL_no (i := k) (by rw [HL.out]; exact hlt) (no_ok HX.out (by simp [okU, hb0])))
        clear hx hb0 hat
        go_wp2_with fail
        have HC : Hid (∀ w', Qt.Keeps (wr) w' → w'.cell? ⟨b, o + k * 3, none⟩ = some (.int .i64 x0) ∧ w'.cell? ⟨b, o + k * 3 + 1, none⟩ = some (.int .i64 x1) ∧ w'.cell? ⟨b, o + k * 3 + 2, none⟩ = some (.int .i64 x2)) := Lib.hid fun w' hw => HA.out.below hw hb
        refine Qt.region (Qt.Keeps (wr)) (by kernel_rfl) (by kernel_rfl) (Qt.Keeps.drew _) ?_
        repeat (first
          | go_big_quiet_skip
          | (go_big_quiet_want
             refine Qt.val (v := ?_) (fun w hw => ?_) ?_
             rotate_left
             · obtain ⟨s0, s1, s2⟩ := HC.out w hw
               go_simp
               rfl
             simp only [Act.put, List.setIfInBounds_toArray, List.set_cons_zero, List.set_cons_succ]
             go_big_quiet_on)
          | (go_big_quiet_want
             refine Qt.call (v := .bool false) (f := 55) (args := #[.int .i64 x0, .int .i64 0, .int .i64 99]) (fun w hw => ?_) (fun w hw => ?_) ?_
             · go_simp
             · refine (in_any x0 0 99 _).mono ?_
               rintro e w1 ⟨rfl, rfl⟩
               rw [B0.out]
               exact ⟨rfl, hw⟩
             simp only [Act.put, List.setIfInBounds_toArray, List.set_cons_zero, List.set_cons_succ]
             go_big_quiet_on))
        refine wpQuiet_nil ?_
        intro w2 hw2
        have HW2 := Lib.hid (below_on HK.out.2 hw2)
        clear hw2
        go_wp2_with fail
        go_ret
        exact says (by rw [HE.out]) HW2.out
      have B0 := Lib.hid hb0
      rcases hb1 : inB x1 1 99 with _ | _
      · have B1 := Lib.hid hb1
        have HE : Hid (are xs = false) := Lib.hid (areL_no (i := k) (by rw [HL.out]; exact hlt) (no_ok HX.out (by simp [okU, hb0, hb1])))
        clear hx hb1 hat
        go_wp2_with fail
        have HC : Hid (∀ w', Qt.Keeps (wr) w' → w'.cell? ⟨b, o + k * 3, none⟩ = some (.int .i64 x0) ∧ w'.cell? ⟨b, o + k * 3 + 1, none⟩ = some (.int .i64 x1) ∧ w'.cell? ⟨b, o + k * 3 + 2, none⟩ = some (.int .i64 x2)) := Lib.hid fun w' hw => HA.out.below hw hb
        refine Qt.region (Qt.Keeps (wr)) (by kernel_rfl) (by kernel_rfl) (Qt.Keeps.drew _) ?_
        repeat (first
          | go_big_quiet_skip
          | (go_big_quiet_want
             refine Qt.val (v := ?_) (fun w hw => ?_) ?_
             rotate_left
             · obtain ⟨s0, s1, s2⟩ := HC.out w hw
               go_simp
               rfl
             simp only [Act.put, List.setIfInBounds_toArray, List.set_cons_zero, List.set_cons_succ]
             go_big_quiet_on)
          | (go_big_quiet_want
             refine Qt.call (v := .bool true) (f := 55) (args := #[.int .i64 x0, .int .i64 0, .int .i64 99]) (fun w hw => ?_) (fun w hw => ?_) ?_
             · go_simp
             · refine (in_any x0 0 99 _).mono ?_
               rintro e w1 ⟨rfl, rfl⟩
               rw [B0.out]
               exact ⟨rfl, hw⟩
             simp only [Act.put, List.setIfInBounds_toArray, List.set_cons_zero, List.set_cons_succ]
             go_big_quiet_on)
          | (go_big_quiet_want
             refine Qt.call (v := .bool false) (f := 55) (args := #[.int .i64 x1, .int .i64 1, .int .i64 99]) (fun w hw => ?_) (fun w hw => ?_) ?_
             · go_simp
             · refine (in_any x1 1 99 _).mono ?_
               rintro e w1 ⟨rfl, rfl⟩
               rw [B1.out]
               exact ⟨rfl, hw⟩
             simp only [Act.put, List.setIfInBounds_toArray, List.set_cons_zero, List.set_cons_succ]
             go_big_quiet_on))
        refine wpQuiet_nil ?_
        intro w2 hw2
        have HW2 := Lib.hid (below_on HK.out.2 hw2)
        clear hw2
        go_wp2_with fail
        go_ret
        exact says (by rw [HE.out]) HW2.out
      have B1 := Lib.hid hb1
      rcases hb2 : inB x2 0 100 with _ | _
      · have B2 := Lib.hid hb2
        have HE : Hid (are xs = false) := Lib.hid (areL_no (i := k) (by rw [HL.out]; exact hlt) (no_ok HX.out (by simp [okU, hb0, hb1, hb2])))
        clear hx hb2 hat
        go_wp2_with fail
        have HC : Hid (∀ w', Qt.Keeps (wr) w' → w'.cell? ⟨b, o + k * 3, none⟩ = some (.int .i64 x0) ∧ w'.cell? ⟨b, o + k * 3 + 1, none⟩ = some (.int .i64 x1) ∧ w'.cell? ⟨b, o + k * 3 + 2, none⟩ = some (.int .i64 x2)) := Lib.hid fun w' hw => HA.out.below hw hb
        refine Qt.region (Qt.Keeps (wr)) (by kernel_rfl) (by kernel_rfl) (Qt.Keeps.drew _) ?_
        repeat (first
          | go_big_quiet_skip
          | (go_big_quiet_want
             refine Qt.val (v := ?_) (fun w hw => ?_) ?_
             rotate_left
             · obtain ⟨s0, s1, s2⟩ := HC.out w hw
               go_simp
               rfl
             simp only [Act.put, List.setIfInBounds_toArray, List.set_cons_zero, List.set_cons_succ]
             go_big_quiet_on)
          | (go_big_quiet_want
             refine Qt.call (v := .bool true) (f := 55) (args := #[.int .i64 x0, .int .i64 0, .int .i64 99]) (fun w hw => ?_) (fun w hw => ?_) ?_
             · go_simp
             · refine (in_any x0 0 99 _).mono ?_
               rintro e w1 ⟨rfl, rfl⟩
               rw [B0.out]
               exact ⟨rfl, hw⟩
             simp only [Act.put, List.setIfInBounds_toArray, List.set_cons_zero, List.set_cons_succ]
             go_big_quiet_on)
          | (go_big_quiet_want
             refine Qt.call (v := .bool true) (f := 55) (args := #[.int .i64 x1, .int .i64 1, .int .i64 99]) (fun w hw => ?_) (fun w hw => ?_) ?_
             · go_simp
             · refine (in_any x1 1 99 _).mono ?_
               rintro e w1 ⟨rfl, rfl⟩
               rw [B1.out]
               exact ⟨rfl, hw⟩
             simp only [Act.put, List.setIfInBounds_toArray, List.set_cons_zero, List.set_cons_succ]
             go_big_quiet_on)
          | (go_big_quiet_want
             refine Qt.call (v := .bool false) (f := 55) (args := #[.int .i64 x2, .int .i64 0, .int .i64 100]) (fun w hw => ?_) (fun w hw => ?_) ?_
             · go_simp
             · refine (in_any x2 0 100 _).mono ?_
               rintro e w1 ⟨rfl, rfl⟩
               rw [B2.out]
               exact ⟨rfl, hw⟩
             simp only [Act.put, List.setIfInBounds_toArray, List.set_cons_zero, List.set_cons_succ]
             go_big_quiet_on))
        refine wpQuiet_nil ?_
        intro w2 hw2
        have HW2 := Lib.hid (below_on HK.out.2 hw2)
        clear hw2
        go_wp2_with fail
        go_ret
        exact says (by rw [HE.out]) HW2.out
      have B2 := Lib.hid hb2
      have hβ : okU (x0, x1, x2) = true := by simp [okU, hb0, hb1, hb2]
      clear hb0 hb1 hb2
      cases k with
      | zero =>
        have HS := Lib.hid (steps_next HK.out.1 (step_zero HX.out hβ))
        clear hx hβ
        rw [Nat.zero_mul, Nat.add_zero] at hat HA
        clear hat
        go_wp2_with fail
        have HC : Hid (∀ w', Qt.Keeps (wr) w' → w'.cell? ⟨b, o, none⟩ = some (.int .i64 x0) ∧ w'.cell? ⟨b, o + 1, none⟩ = some (.int .i64 x1) ∧ w'.cell? ⟨b, o + 2, none⟩ = some (.int .i64 x2)) := Lib.hid fun w' hw => HA.out.below hw hb
        refine Qt.region (Qt.Keeps (wr)) (by kernel_rfl) (by kernel_rfl) (Qt.Keeps.drew _) ?_
        repeat (first
          | go_big_quiet_skip
          | (go_big_quiet_want
             refine Qt.val (v := ?_) (fun w hw => ?_) ?_
             rotate_left
             · obtain ⟨s0, s1, s2⟩ := HC.out w hw
               go_simp
               rfl
             simp only [Act.put, List.setIfInBounds_toArray, List.set_cons_zero, List.set_cons_succ]
             go_big_quiet_on)
          | (go_big_quiet_want
             refine Qt.call (v := .bool true) (f := 55) (args := #[.int .i64 x0, .int .i64 0, .int .i64 99]) (fun w hw => ?_) (fun w hw => ?_) ?_
             · go_simp
             · refine (in_any x0 0 99 _).mono ?_
               rintro e w1 ⟨rfl, rfl⟩
               rw [B0.out]
               exact ⟨rfl, hw⟩
             simp only [Act.put, List.setIfInBounds_toArray, List.set_cons_zero, List.set_cons_succ]
             go_big_quiet_on)
          | (go_big_quiet_want
             refine Qt.call (v := .bool true) (f := 55) (args := #[.int .i64 x1, .int .i64 1, .int .i64 99]) (fun w hw => ?_) (fun w hw => ?_) ?_
             · go_simp
             · refine (in_any x1 1 99 _).mono ?_
               rintro e w1 ⟨rfl, rfl⟩
               rw [B1.out]
               exact ⟨rfl, hw⟩
             simp only [Act.put, List.setIfInBounds_toArray, List.set_cons_zero, List.set_cons_succ]
             go_big_quiet_on)
          | (go_big_quiet_want
             refine Qt.call (v := .bool true) (f := 55) (args := #[.int .i64 x2, .int .i64 0, .int .i64 100]) (fun w hw => ?_) (fun w hw => ?_) ?_
             · go_simp
             · refine (in_any x2 0 100 _).mono ?_
               rintro e w1 ⟨rfl, rfl⟩
               rw [B2.out]
               exact ⟨rfl, hw⟩
             simp only [Act.put, List.setIfInBounds_toArray, List.set_cons_zero, List.set_cons_succ]
             go_big_quiet_on))
        refine wpQuiet_nil ?_
        intro w2 hw2
        have HW2 := Lib.hid (below_on HK.out.2 hw2)
        clear hw2
        go_wp2_with fail
        go_roundw
        case rel => exact ⟨1, by omega, rfl, Lib.hid ⟨HS.out, HW2.out⟩⟩
        case measure => simp [intOf]; omega
      | succ j =>
        obtain ⟨b', o', y0, y1, y2, e', hb', hy, hat'⟩ := c_at (HR.out.below HK.out.2) (k := j) (by omega)
        simp only [Option.some.injEq, Addr.mk.injEq, and_true] at e'
        obtain ⟨rfl, rfl⟩ := e'
        have HP := Lib.hid hat'
        have jw : IntKind.i64.wrap (j : Int) = (j : Int) := IntWalk.i64_in _ (by omega)
        have j1 : (0 : Int) ≤ (j : Int) := by omega
        have j2 : (j : Int) < (n : Int) := by omega
        by_cases hlt2 : y0 < x0
        all_goals
          first
            | (have HS := Lib.hid (steps_next HK.out.1 (step_next HX.out hy hβ hlt2)))
            | (have HE : Hid (are xs = false) := Lib.hid (areL_no (i := j + 1) (by rw [HL.out]; exact hlt) (no_rise HX.out hy hlt2)))
          clear hx hβ hat' hy hat
          go_wp2_with fail
          have HC : Hid (∀ w', Qt.Keeps (wr) w' → w'.cell? ⟨b, o + (j + 1) * 3, none⟩ = some (.int .i64 x0) ∧ w'.cell? ⟨b, o + (j + 1) * 3 + 1, none⟩ = some (.int .i64 x1) ∧ w'.cell? ⟨b, o + (j + 1) * 3 + 2, none⟩ = some (.int .i64 x2) ∧ w'.cell? ⟨b, o + j * 3, none⟩ = some (.int .i64 y0)) := Lib.hid fun w' hw => let h := HA.out.below hw hb; ⟨h.1, h.2.1, h.2.2, (HP.out.below hw hb).1⟩
          refine Qt.region (Qt.Keeps (wr)) (by kernel_rfl) (by kernel_rfl) (Qt.Keeps.drew _) ?_
          repeat (first
            | go_big_quiet_skip
            | (go_big_quiet_want
               refine Qt.val (v := ?_) (fun w hw => ?_) ?_
               rotate_left
               · obtain ⟨s0, s1, s2, r0⟩ := HC.out w hw
                 go_simp
                 rfl
               simp only [Act.put, List.setIfInBounds_toArray, List.set_cons_zero, List.set_cons_succ]
               go_big_quiet_on)
            | (go_big_quiet_want
               refine Qt.call (v := .bool true) (f := 55) (args := #[.int .i64 x0, .int .i64 0, .int .i64 99]) (fun w hw => ?_) (fun w hw => ?_) ?_
               · go_simp
               · refine (in_any x0 0 99 _).mono ?_
                 rintro e w1 ⟨rfl, rfl⟩
                 rw [B0.out]
                 exact ⟨rfl, hw⟩
               simp only [Act.put, List.setIfInBounds_toArray, List.set_cons_zero, List.set_cons_succ]
               go_big_quiet_on)
            | (go_big_quiet_want
               refine Qt.call (v := .bool true) (f := 55) (args := #[.int .i64 x1, .int .i64 1, .int .i64 99]) (fun w hw => ?_) (fun w hw => ?_) ?_
               · go_simp
               · refine (in_any x1 1 99 _).mono ?_
                 rintro e w1 ⟨rfl, rfl⟩
                 rw [B1.out]
                 exact ⟨rfl, hw⟩
               simp only [Act.put, List.setIfInBounds_toArray, List.set_cons_zero, List.set_cons_succ]
               go_big_quiet_on)
            | (go_big_quiet_want
               refine Qt.call (v := .bool true) (f := 55) (args := #[.int .i64 x2, .int .i64 0, .int .i64 100]) (fun w hw => ?_) (fun w hw => ?_) ?_
               · go_simp
               · refine (in_any x2 0 100 _).mono ?_
                 rintro e w1 ⟨rfl, rfl⟩
                 rw [B2.out]
                 exact ⟨rfl, hw⟩
               simp only [Act.put, List.setIfInBounds_toArray, List.set_cons_zero, List.set_cons_succ]
               go_big_quiet_on))
          refine wpQuiet_nil ?_
          intro w2 hw2
          have HW2 := Lib.hid (below_on HK.out.2 hw2)
          clear hw2
          go_wp2_with fail
        · go_roundw
          case rel => exact ⟨j + 2, by omega, by go_num, Lib.hid ⟨HS.out, HW2.out⟩⟩
          case measure => simp [intOf]; omega
        · go_ret
          exact says (by rw [HE.out]) HW2.out
    · obtain rfl : k = n := by omega
      have HE : Hid (are xs = decide ((k : Int) ≤ 6)) := Lib.hid (by have h := areL_all (ok := okU) (f := fun k => k.1) (z := Z) (m := 6) (l := xs) (by rw [HL.out]; exact HK.out.1); rw [HL.out] at h; show areL _ _ _ _ _ = _; rw [h]; congr 1; rw [eq_iff_iff]; omega)
      go_wp2_with fail
      go_ret
      exact says (by rw [HE.out]) HK.out.2
end Go.Proofs.Ytapijjdjaamldaa.SoAuthority
