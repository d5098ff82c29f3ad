/- Contracts of the kind of a piece; in the program and in the reference. -/
import Derived.Test.YtpjckbdljbpliaaSlPiece
import Derived.Test.YtpjckbdljbpliaaKd
import Derived.Test.YtpjckbdljbpliaaFnd
import Derived.Test.YtpjckbdljbpliaaQt
import Derived.Deep.RegionHeld3
import Derived.Outline
namespace Go.Proofs.Ytpjckbdljbpliaa.Kp
open Go.ChangeShapes Go.WideShapes Go.ChangeAt Go.RowKit Sl St Ints Kd
theorem says {b b' : Value} {w w' : World} (h : b' = b) (hb : Below w.heap.size w w') : SlPiece.Val b w (.returned b') w' := ⟨by rw [h], hb⟩
theorem keepK {w : World} {g g' b o : Nat} {T T' : TypeId} {x0 x1 x2 a0 a1 a2 a3 a4 z : Value} (h : Bx w g T #[x0, x1, x2]) (h' : Bx w g' T' #[a0, a1, a2, a3, a4]) (hz : w.cell? ⟨b, o, none⟩ = some z) : w.cell? ⟨g, 0, none⟩ = some x0 ∧ w.cell? ⟨g, 1, none⟩ = some x1 ∧ w.cell? ⟨g, 2, none⟩ = some x2 ∧ w.cell? ⟨g', 0, none⟩ = some a0 ∧ w.cell? ⟨g', 1, none⟩ = some a1 ∧ w.cell? ⟨g', 2, none⟩ = some a2 ∧ w.cell? ⟨g', 3, none⟩ = some a3 ∧ w.cell? ⟨g', 4, none⟩ = some a4 ∧ w.cell? ⟨b, o, none⟩ = some z := ⟨h.cell rfl, h.cell rfl, h.cell rfl, h'.cell rfl, h'.cell rfl, h'.cell rfl, h'.cell rfl, h'.cell rfl, hz⟩
set_option maxRecDepth 100000 in
set_option maxHeartbeats 8000000 in
theorem kind_any (k : Int) (p : Option Addr) (n c : Nat) (m : Int) (zs : List Int) (w : World) (hr : Rd .i64 w p n zs) : Calls Try.prog 101 #[.agg #[.int .i64 k, .slice p n c, .int .i64 m]] w (SlPiece.Val (.int .i64 (kind n (zs.getD 0 0))) w) := by
  have hle := hr.le
  have HX := Lib.hid ((Bx.new w 75 #[.int .i64 k, .slice p n c, .int .i64 m]).alloc (.cells #[.int .i64 7, .int .i64 5, .int .i64 5, .int .i64 9, .int .i64 6] 172))
  have hA := Bx.new (w.alloc (.cells #[.int .i64 k, .slice p n c, .int .i64 m] 75)) 172 #[.int .i64 7, .int .i64 5, .int .i64 5, .int .i64 9, .int .i64 6]
  rw [World.size_alloc] at hA
  have HA := Lib.hid hA
  have HB : Hid (Below w.heap.size w ((w.alloc (.cells #[.int .i64 k, .slice p n c, .int .i64 m] 75)).alloc (.cells #[.int .i64 7, .int .i64 5, .int .i64 5, .int .i64 9, .int .i64 6] 172))) := Lib.hid (((Below.refl w.heap.size w).alloc (Nat.le_refl _) _).alloc (by simp) _)
  clear hA
  rcases Nat.eq_zero_or_pos n with rfl | hpos
  · have HK : Hid (kind 0 (zs.getD 0 0) = 0) := Lib.hid kind_nil
    have HZ := Lib.hid trivial
    clear hr
    go_enter Try.func101, Try.ntmps101
    go_wp2_with fail
    generalize ((w.alloc (.cells #[.int .i64 k, .slice p 0 c, .int .i64 m] 75)).alloc (.cells #[.int .i64 7, .int .i64 5, .int .i64 5, .int .i64 9, .int .i64 6] 172)) = V at HB HX HA HZ ⊢
    have HC : Hid (∀ w', Qt.Keeps (V) w' → w'.cell? ⟨w.heap.size, 0, none⟩ = some (.int .i64 k) ∧ w'.cell? ⟨w.heap.size, 1, none⟩ = some (.slice p 0 c) ∧ w'.cell? ⟨w.heap.size, 2, none⟩ = some (.int .i64 m)) := Lib.hid fun w' hw => SlPiece.bx3 (HX.out.below hw)
    refine Qt.region (Qt.Keeps (V)) (by kernel_rfl) (by kernel_rfl) (Qt.Keeps.drew _) ?_
    repeat (first
      | go_big_quiet_skip
      | (go_big_quiet_want
         refine Qt.val (v := ?_) (fun w hw => ?_) ?_
         rotate_left
         · obtain ⟨s0, s1, s2⟩ := HC.out w hw
           go_simp
           rfl
         simp only [Act.put, List.setIfInBounds_toArray, List.set_cons_zero, List.set_cons_succ]
         go_big_quiet_on))
    refine wpQuiet_nil ?_
    intro w2 hw2
    replace HB := Lib.hid (below_on HB.out hw2)
    replace HX := Lib.hid (HX.out.below hw2)
    clear hw2
    go_wp2_with fail
    go_ret
    exact says (by rw [HK.out]; rfl) HB.out
  obtain ⟨b, o, rfl, hb, hz⟩ := first_at hr hpos
  have HZ : Hid (∀ w', Below ((w.alloc (.cells #[.int .i64 k, .slice (some ⟨b, o, none⟩) n c, .int .i64 m] 75)).alloc (.cells #[.int .i64 7, .int .i64 5, .int .i64 5, .int .i64 9, .int .i64 6] 172)).heap.size ((w.alloc (.cells #[.int .i64 k, .slice (some ⟨b, o, none⟩) n c, .int .i64 m] 75)).alloc (.cells #[.int .i64 7, .int .i64 5, .int .i64 5, .int .i64 9, .int .i64 6] 172)) w' → w'.cell? ⟨b, o, none⟩ = some (.int .i64 (zs.getD 0 0))) := Lib.hid (fun w' h => (World.cell?_of_block ((below_on HB.out h).block b hb)).trans hz)
  generalize zs.getD 0 0 = z at HZ ⊢
  have en1 : ((n : Int) == 0) = false := beq_eq_false_iff_ne.2 (by omega)
  clear hr hz hb
  by_cases hin : 101 ≤ z ∧ z ≤ 105
  rotate_left
  · have HR : Hid (decide (101 ≤ z ∧ z ≤ 105) = false) := Lib.hid (decide_eq_false hin)
    have HK : Hid (kind n z = 0) := Lib.hid (kind_out hin)
    clear hin
    go_enter Try.func101, Try.ntmps101
    go_wp2_with fail
    generalize ((w.alloc (.cells #[.int .i64 k, .slice (some ⟨b, o, none⟩) n c, .int .i64 m] 75)).alloc (.cells #[.int .i64 7, .int .i64 5, .int .i64 5, .int .i64 9, .int .i64 6] 172)) = V at HB HX HA HZ ⊢
    have HC : Hid (∀ w', Qt.Keeps (V) w' → w'.cell? ⟨w.heap.size, 0, none⟩ = some (.int .i64 k) ∧ w'.cell? ⟨w.heap.size, 1, none⟩ = some (.slice (some ⟨b, o, none⟩) n c) ∧ w'.cell? ⟨w.heap.size, 2, none⟩ = some (.int .i64 m) ∧ w'.cell? ⟨w.heap.size + 1, 0, none⟩ = some (.int .i64 7) ∧ w'.cell? ⟨w.heap.size + 1, 1, none⟩ = some (.int .i64 5) ∧ w'.cell? ⟨w.heap.size + 1, 2, none⟩ = some (.int .i64 5) ∧ w'.cell? ⟨w.heap.size + 1, 3, none⟩ = some (.int .i64 9) ∧ w'.cell? ⟨w.heap.size + 1, 4, none⟩ = some (.int .i64 6) ∧ w'.cell? ⟨b, o, none⟩ = some (.int .i64 z)) := Lib.hid fun w' hw => keepK (HX.out.below hw) (HA.out.below hw) (HZ.out w' hw)
    refine Qt.region (Qt.Keeps (V)) (by kernel_rfl) (by kernel_rfl) (Qt.Keeps.drew _) ?_
    repeat (first
      | go_big_quiet_skip
      | (go_big_quiet_want
         refine Qt.val (v := ?_) (fun w hw => ?_) ?_
         rotate_left
         · obtain ⟨s0, s1, s2, t0, t1, t2, t3, t4, u0⟩ := HC.out w hw
           go_simp
           rfl
         simp only [Act.put, List.setIfInBounds_toArray, List.set_cons_zero, List.set_cons_succ]
         go_big_quiet_on)
      | (go_big_quiet_want
         refine Qt.call (v := .bool false) (f := 107) (args := #[.int .i64 z, .int .i64 101, .int .i64 105]) (fun w hw => ?_) (fun w hw => ?_) ?_
         · go_simp
         · refine (inRange_any z 101 105 _ HR.out _).mono ?_
           rintro e w1 ⟨rfl, rfl⟩
           exact ⟨rfl, hw⟩
         simp only [Act.put, List.setIfInBounds_toArray, List.set_cons_zero, List.set_cons_succ]
         go_big_quiet_on))
    refine wpQuiet_nil ?_
    intro w2 hw2
    replace HB := Lib.hid (below_on HB.out hw2)
    replace HX := Lib.hid (HX.out.below hw2)
    have hz2 := HZ.out w2 hw2
    clear hw2
    clear hz2
    go_wp2_with fail
    go_ret
    exact says (by rw [HK.out]; rfl) HB.out
  rcases (by omega : z = 101 ∨ z = 102 ∨ z = 103 ∨ z = 104 ∨ z = 105) with h0 | h1 | h2 | h3 | h4
  all_goals clear hin
  · subst h0
    have HR : Hid (decide ((101 : Int) ≤ 101 ∧ (101 : Int) ≤ 105) = true) := Lib.hid (by decide)
    have hwr : IntKind.i64.wrap 0 = 0 := by decide
    by_cases hn : n = 7
    · subst hn
      have HK : Hid (kind 7 101 = 101) := Lib.hid (by decide)
      go_enter Try.func101, Try.ntmps101
      go_wp2_with fail
      generalize ((w.alloc (.cells #[.int .i64 k, .slice (some ⟨b, o, none⟩) 7 c, .int .i64 m] 75)).alloc (.cells #[.int .i64 7, .int .i64 5, .int .i64 5, .int .i64 9, .int .i64 6] 172)) = V at HB HX HA HZ ⊢
      have HC : Hid (∀ w', Qt.Keeps (V) w' → w'.cell? ⟨w.heap.size, 0, none⟩ = some (.int .i64 k) ∧ w'.cell? ⟨w.heap.size, 1, none⟩ = some (.slice (some ⟨b, o, none⟩) 7 c) ∧ w'.cell? ⟨w.heap.size, 2, none⟩ = some (.int .i64 m) ∧ w'.cell? ⟨w.heap.size + 1, 0, none⟩ = some (.int .i64 7) ∧ w'.cell? ⟨w.heap.size + 1, 1, none⟩ = some (.int .i64 5) ∧ w'.cell? ⟨w.heap.size + 1, 2, none⟩ = some (.int .i64 5) ∧ w'.cell? ⟨w.heap.size + 1, 3, none⟩ = some (.int .i64 9) ∧ w'.cell? ⟨w.heap.size + 1, 4, none⟩ = some (.int .i64 6) ∧ w'.cell? ⟨b, o, none⟩ = some (.int .i64 101)) := Lib.hid fun w' hw => keepK (HX.out.below hw) (HA.out.below hw) (HZ.out w' hw)
      refine Qt.region (Qt.Keeps (V)) (by kernel_rfl) (by kernel_rfl) (Qt.Keeps.drew _) ?_
      repeat (first
        | go_big_quiet_skip
        | (go_big_quiet_want
           refine Qt.val (v := ?_) (fun w hw => ?_) ?_
           rotate_left
           · obtain ⟨s0, s1, s2, t0, t1, t2, t3, t4, u0⟩ := HC.out w hw
             go_simp
             rfl
           simp only [Act.put, List.setIfInBounds_toArray, List.set_cons_zero, List.set_cons_succ]
           go_big_quiet_on)
        | (go_big_quiet_want
           refine Qt.call (v := .bool true) (f := 107) (args := #[.int .i64 101, .int .i64 101, .int .i64 105]) (fun w hw => ?_) (fun w hw => ?_) ?_
           · go_simp
           · refine (inRange_any 101 101 105 _ HR.out _).mono ?_
             rintro e w1 ⟨rfl, rfl⟩
             exact ⟨rfl, hw⟩
           simp only [Act.put, List.setIfInBounds_toArray, List.set_cons_zero, List.set_cons_succ]
           go_big_quiet_on))
      refine wpQuiet_nil ?_
      intro w2 hw2
      replace HB := Lib.hid (below_on HB.out hw2)
      replace HX := Lib.hid (HX.out.below hw2)
      have hz2 := HZ.out w2 hw2
      clear hw2
      obtain ⟨c0, c1, c2⟩ := SlPiece.bx3 HX.out
      go_wp2_with fail
      go_ret
      exact says (by rw [HK.out]; rfl) HB.out
    · have HK : Hid (kind n 101 = 0) := Lib.hid (by unfold kind; repeat (first | rw [if_neg (by omega)] | rfl))
      have e1 : ((n : Int) != 7) = true := bne_iff_ne.2 (by omega)
      have e2 : ((n : Int) == 7) = false := beq_eq_false_iff_ne.2 (by omega)
      clear hn
      go_enter Try.func101, Try.ntmps101
      go_wp2_with fail
      generalize ((w.alloc (.cells #[.int .i64 k, .slice (some ⟨b, o, none⟩) n c, .int .i64 m] 75)).alloc (.cells #[.int .i64 7, .int .i64 5, .int .i64 5, .int .i64 9, .int .i64 6] 172)) = V at HB HX HA HZ ⊢
      have HC : Hid (∀ w', Qt.Keeps (V) w' → w'.cell? ⟨w.heap.size, 0, none⟩ = some (.int .i64 k) ∧ w'.cell? ⟨w.heap.size, 1, none⟩ = some (.slice (some ⟨b, o, none⟩) n c) ∧ w'.cell? ⟨w.heap.size, 2, none⟩ = some (.int .i64 m) ∧ w'.cell? ⟨w.heap.size + 1, 0, none⟩ = some (.int .i64 7) ∧ w'.cell? ⟨w.heap.size + 1, 1, none⟩ = some (.int .i64 5) ∧ w'.cell? ⟨w.heap.size + 1, 2, none⟩ = some (.int .i64 5) ∧ w'.cell? ⟨w.heap.size + 1, 3, none⟩ = some (.int .i64 9) ∧ w'.cell? ⟨w.heap.size + 1, 4, none⟩ = some (.int .i64 6) ∧ w'.cell? ⟨b, o, none⟩ = some (.int .i64 101)) := Lib.hid fun w' hw => keepK (HX.out.below hw) (HA.out.below hw) (HZ.out w' hw)
      refine Qt.region (Qt.Keeps (V)) (by kernel_rfl) (by kernel_rfl) (Qt.Keeps.drew _) ?_
      repeat (first
        | go_big_quiet_skip
        | (go_big_quiet_want
           refine Qt.val (v := ?_) (fun w hw => ?_) ?_
           rotate_left
           · obtain ⟨s0, s1, s2, t0, t1, t2, t3, t4, u0⟩ := HC.out w hw
             go_simp
             rfl
           simp only [Act.put, List.setIfInBounds_toArray, List.set_cons_zero, List.set_cons_succ]
           go_big_quiet_on)
        | (go_big_quiet_want
           refine Qt.call (v := .bool true) (f := 107) (args := #[.int .i64 101, .int .i64 101, .int .i64 105]) (fun w hw => ?_) (fun w hw => ?_) ?_
           · go_simp
           · refine (inRange_any 101 101 105 _ HR.out _).mono ?_
             rintro e w1 ⟨rfl, rfl⟩
             exact ⟨rfl, hw⟩
           simp only [Act.put, List.setIfInBounds_toArray, List.set_cons_zero, List.set_cons_succ]
           go_big_quiet_on))
      refine wpQuiet_nil ?_
      intro w2 hw2
      replace HB := Lib.hid (below_on HB.out hw2)
      replace HX := Lib.hid (HX.out.below hw2)
      have hz2 := HZ.out w2 hw2
      clear hw2
      clear hz2
      go_wp2_with fail
      go_ret
      exact says (by rw [HK.out]; rfl) HB.out
  · subst h1
    have HR : Hid (decide ((101 : Int) ≤ 102 ∧ (102 : Int) ≤ 105) = true) := Lib.hid (by decide)
    have hwr : IntKind.i64.wrap 1 = 1 := by decide
    by_cases hn : n = 5
    · subst hn
      have HK : Hid (kind 5 102 = 102) := Lib.hid (by decide)
      go_enter Try.func101, Try.ntmps101
      go_wp2_with fail
      generalize ((w.alloc (.cells #[.int .i64 k, .slice (some ⟨b, o, none⟩) 5 c, .int .i64 m] 75)).alloc (.cells #[.int .i64 7, .int .i64 5, .int .i64 5, .int .i64 9, .int .i64 6] 172)) = V at HB HX HA HZ ⊢
      have HC : Hid (∀ w', Qt.Keeps (V) w' → w'.cell? ⟨w.heap.size, 0, none⟩ = some (.int .i64 k) ∧ w'.cell? ⟨w.heap.size, 1, none⟩ = some (.slice (some ⟨b, o, none⟩) 5 c) ∧ w'.cell? ⟨w.heap.size, 2, none⟩ = some (.int .i64 m) ∧ w'.cell? ⟨w.heap.size + 1, 0, none⟩ = some (.int .i64 7) ∧ w'.cell? ⟨w.heap.size + 1, 1, none⟩ = some (.int .i64 5) ∧ w'.cell? ⟨w.heap.size + 1, 2, none⟩ = some (.int .i64 5) ∧ w'.cell? ⟨w.heap.size + 1, 3, none⟩ = some (.int .i64 9) ∧ w'.cell? ⟨w.heap.size + 1, 4, none⟩ = some (.int .i64 6) ∧ w'.cell? ⟨b, o, none⟩ = some (.int .i64 102)) := Lib.hid fun w' hw => keepK (HX.out.below hw) (HA.out.below hw) (HZ.out w' hw)
      refine Qt.region (Qt.Keeps (V)) (by kernel_rfl) (by kernel_rfl) (Qt.Keeps.drew _) ?_
      repeat (first
        | go_big_quiet_skip
        | (go_big_quiet_want
           refine Qt.val (v := ?_) (fun w hw => ?_) ?_
           rotate_left
           · obtain ⟨s0, s1, s2, t0, t1, t2, t3, t4, u0⟩ := HC.out w hw
             go_simp
             rfl
           simp only [Act.put, List.setIfInBounds_toArray, List.set_cons_zero, List.set_cons_succ]
           go_big_quiet_on)
        | (go_big_quiet_want
           refine Qt.call (v := .bool true) (f := 107) (args := #[.int .i64 102, .int .i64 101, .int .i64 105]) (fun w hw => ?_) (fun w hw => ?_) ?_
           · go_simp
           · refine (inRange_any 102 101 105 _ HR.out _).mono ?_
             rintro e w1 ⟨rfl, rfl⟩
             exact ⟨rfl, hw⟩
           simp only [Act.put, List.setIfInBounds_toArray, List.set_cons_zero, List.set_cons_succ]
           go_big_quiet_on))
      refine wpQuiet_nil ?_
      intro w2 hw2
      replace HB := Lib.hid (below_on HB.out hw2)
      replace HX := Lib.hid (HX.out.below hw2)
      have hz2 := HZ.out w2 hw2
      clear hw2
      obtain ⟨c0, c1, c2⟩ := SlPiece.bx3 HX.out
      go_wp2_with fail
      go_ret
      exact says (by rw [HK.out]; rfl) HB.out
    · have HK : Hid (kind n 102 = 0) := Lib.hid (by unfold kind; repeat (first | rw [if_neg (by omega)] | rfl))
      have e1 : ((n : Int) != 5) = true := bne_iff_ne.2 (by omega)
      have e2 : ((n : Int) == 5) = false := beq_eq_false_iff_ne.2 (by omega)
      clear hn
      go_enter Try.func101, Try.ntmps101
      go_wp2_with fail
      generalize ((w.alloc (.cells #[.int .i64 k, .slice (some ⟨b, o, none⟩) n c, .int .i64 m] 75)).alloc (.cells #[.int .i64 7, .int .i64 5, .int .i64 5, .int .i64 9, .int .i64 6] 172)) = V at HB HX HA HZ ⊢
      have HC : Hid (∀ w', Qt.Keeps (V) w' → w'.cell? ⟨w.heap.size, 0, none⟩ = some (.int .i64 k) ∧ w'.cell? ⟨w.heap.size, 1, none⟩ = some (.slice (some ⟨b, o, none⟩) n c) ∧ w'.cell? ⟨w.heap.size, 2, none⟩ = some (.int .i64 m) ∧ w'.cell? ⟨w.heap.size + 1, 0, none⟩ = some (.int .i64 7) ∧ w'.cell? ⟨w.heap.size + 1, 1, none⟩ = some (.int .i64 5) ∧ w'.cell? ⟨w.heap.size + 1, 2, none⟩ = some (.int .i64 5) ∧ w'.cell? ⟨w.heap.size + 1, 3, none⟩ = some (.int .i64 9) ∧ w'.cell? ⟨w.heap.size + 1, 4, none⟩ = some (.int .i64 6) ∧ w'.cell? ⟨b, o, none⟩ = some (.int .i64 102)) := Lib.hid fun w' hw => keepK (HX.out.below hw) (HA.out.below hw) (HZ.out w' hw)
      refine Qt.region (Qt.Keeps (V)) (by kernel_rfl) (by kernel_rfl) (Qt.Keeps.drew _) ?_
      repeat (first
        | go_big_quiet_skip
        | (go_big_quiet_want
           refine Qt.val (v := ?_) (fun w hw => ?_) ?_
           rotate_left
           · obtain ⟨s0, s1, s2, t0, t1, t2, t3, t4, u0⟩ := HC.out w hw
             go_simp
             rfl
           simp only [Act.put, List.setIfInBounds_toArray, List.set_cons_zero, List.set_cons_succ]
           go_big_quiet_on)
        | (go_big_quiet_want
           refine Qt.call (v := .bool true) (f := 107) (args := #[.int .i64 102, .int .i64 101, .int .i64 105]) (fun w hw => ?_) (fun w hw => ?_) ?_
           · go_simp
           · refine (inRange_any 102 101 105 _ HR.out _).mono ?_
             rintro e w1 ⟨rfl, rfl⟩
             exact ⟨rfl, hw⟩
           simp only [Act.put, List.setIfInBounds_toArray, List.set_cons_zero, List.set_cons_succ]
           go_big_quiet_on))
      refine wpQuiet_nil ?_
      intro w2 hw2
      replace HB := Lib.hid (below_on HB.out hw2)
      replace HX := Lib.hid (HX.out.below hw2)
      have hz2 := HZ.out w2 hw2
      clear hw2
      clear hz2
      go_wp2_with fail
      go_ret
      exact says (by rw [HK.out]; rfl) HB.out
  · subst h2
    have HR : Hid (decide ((101 : Int) ≤ 103 ∧ (103 : Int) ≤ 105) = true) := Lib.hid (by decide)
    have hwr : IntKind.i64.wrap 2 = 2 := by decide
    by_cases hn : n = 5
    · subst hn
      have HK : Hid (kind 5 103 = 103) := Lib.hid (by decide)
      go_enter Try.func101, Try.ntmps101
      go_wp2_with fail
      generalize ((w.alloc (.cells #[.int .i64 k, .slice (some ⟨b, o, none⟩) 5 c, .int .i64 m] 75)).alloc (.cells #[.int .i64 7, .int .i64 5, .int .i64 5, .int .i64 9, .int .i64 6] 172)) = V at HB HX HA HZ ⊢
      have HC : Hid (∀ w', Qt.Keeps (V) w' → w'.cell? ⟨w.heap.size, 0, none⟩ = some (.int .i64 k) ∧ w'.cell? ⟨w.heap.size, 1, none⟩ = some (.slice (some ⟨b, o, none⟩) 5 c) ∧ w'.cell? ⟨w.heap.size, 2, none⟩ = some (.int .i64 m) ∧ w'.cell? ⟨w.heap.size + 1, 0, none⟩ = some (.int .i64 7) ∧ w'.cell? ⟨w.heap.size + 1, 1, none⟩ = some (.int .i64 5) ∧ w'.cell? ⟨w.heap.size + 1, 2, none⟩ = some (.int .i64 5) ∧ w'.cell? ⟨w.heap.size + 1, 3, none⟩ = some (.int .i64 9) ∧ w'.cell? ⟨w.heap.size + 1, 4, none⟩ = some (.int .i64 6) ∧ w'.cell? ⟨b, o, none⟩ = some (.int .i64 103)) := Lib.hid fun w' hw => keepK (HX.out.below hw) (HA.out.below hw) (HZ.out w' hw)
      refine Qt.region (Qt.Keeps (V)) (by kernel_rfl) (by kernel_rfl) (Qt.Keeps.drew _) ?_
      repeat (first
        | go_big_quiet_skip
        | (go_big_quiet_want
           refine Qt.val (v := ?_) (fun w hw => ?_) ?_
           rotate_left
           · obtain ⟨s0, s1, s2, t0, t1, t2, t3, t4, u0⟩ := HC.out w hw
             go_simp
             rfl
           simp only [Act.put, List.setIfInBounds_toArray, List.set_cons_zero, List.set_cons_succ]
           go_big_quiet_on)
        | (go_big_quiet_want
           refine Qt.call (v := .bool true) (f := 107) (args := #[.int .i64 103, .int .i64 101, .int .i64 105]) (fun w hw => ?_) (fun w hw => ?_) ?_
           · go_simp
           · refine (inRange_any 103 101 105 _ HR.out _).mono ?_
             rintro e w1 ⟨rfl, rfl⟩
             exact ⟨rfl, hw⟩
           simp only [Act.put, List.setIfInBounds_toArray, List.set_cons_zero, List.set_cons_succ]
           go_big_quiet_on))
      refine wpQuiet_nil ?_
      intro w2 hw2
      replace HB := Lib.hid (below_on HB.out hw2)
      replace HX := Lib.hid (HX.out.below hw2)
      have hz2 := HZ.out w2 hw2
      clear hw2
      obtain ⟨c0, c1, c2⟩ := SlPiece.bx3 HX.out
      go_wp2_with fail
      go_ret
      exact says (by rw [HK.out]; rfl) HB.out
    · have HK : Hid (kind n 103 = 0) := Lib.hid (by unfold kind; repeat (first | rw [if_neg (by omega)] | rfl))
      have e1 : ((n : Int) != 5) = true := bne_iff_ne.2 (by omega)
      have e2 : ((n : Int) == 5) = false := beq_eq_false_iff_ne.2 (by omega)
      clear hn
      go_enter Try.func101, Try.ntmps101
      go_wp2_with fail
      generalize ((w.alloc (.cells #[.int .i64 k, .slice (some ⟨b, o, none⟩) n c, .int .i64 m] 75)).alloc (.cells #[.int .i64 7, .int .i64 5, .int .i64 5, .int .i64 9, .int .i64 6] 172)) = V at HB HX HA HZ ⊢
      have HC : Hid (∀ w', Qt.Keeps (V) w' → w'.cell? ⟨w.heap.size, 0, none⟩ = some (.int .i64 k) ∧ w'.cell? ⟨w.heap.size, 1, none⟩ = some (.slice (some ⟨b, o, none⟩) n c) ∧ w'.cell? ⟨w.heap.size, 2, none⟩ = some (.int .i64 m) ∧ w'.cell? ⟨w.heap.size + 1, 0, none⟩ = some (.int .i64 7) ∧ w'.cell? ⟨w.heap.size + 1, 1, none⟩ = some (.int .i64 5) ∧ w'.cell? ⟨w.heap.size + 1, 2, none⟩ = some (.int .i64 5) ∧ w'.cell? ⟨w.heap.size + 1, 3, none⟩ = some (.int .i64 9) ∧ w'.cell? ⟨w.heap.size + 1, 4, none⟩ = some (.int .i64 6) ∧ w'.cell? ⟨b, o, none⟩ = some (.int .i64 103)) := Lib.hid fun w' hw => keepK (HX.out.below hw) (HA.out.below hw) (HZ.out w' hw)
      refine Qt.region (Qt.Keeps (V)) (by kernel_rfl) (by kernel_rfl) (Qt.Keeps.drew _) ?_
      repeat (first
        | go_big_quiet_skip
        | (go_big_quiet_want
           refine Qt.val (v := ?_) (fun w hw => ?_) ?_
           rotate_left
           · obtain ⟨s0, s1, s2, t0, t1, t2, t3, t4, u0⟩ := HC.out w hw
             go_simp
             rfl
           simp only [Act.put, List.setIfInBounds_toArray, List.set_cons_zero, List.set_cons_succ]
           go_big_quiet_on)
        | (go_big_quiet_want
           refine Qt.call (v := .bool true) (f := 107) (args := #[.int .i64 103, .int .i64 101, .int .i64 105]) (fun w hw => ?_) (fun w hw => ?_) ?_
           · go_simp
           · refine (inRange_any 103 101 105 _ HR.out _).mono ?_
             rintro e w1 ⟨rfl, rfl⟩
             exact ⟨rfl, hw⟩
           simp only [Act.put, List.setIfInBounds_toArray, List.set_cons_zero, List.set_cons_succ]
           go_big_quiet_on))
      refine wpQuiet_nil ?_
      intro w2 hw2
      replace HB := Lib.hid (below_on HB.out hw2)
      replace HX := Lib.hid (HX.out.below hw2)
      have hz2 := HZ.out w2 hw2
      clear hw2
      clear hz2
      go_wp2_with fail
      go_ret
      exact says (by rw [HK.out]; rfl) HB.out
  · subst h3
    have HR : Hid (decide ((101 : Int) ≤ 104 ∧ (104 : Int) ≤ 105) = true) := Lib.hid (by decide)
    have hwr : IntKind.i64.wrap 3 = 3 := by decide
    by_cases hn : n = 9
    · subst hn
      have HK : Hid (kind 9 104 = 104) := Lib.hid (by decide)
      go_enter Try.func101, Try.ntmps101
      go_wp2_with fail
      generalize ((w.alloc (.cells #[.int .i64 k, .slice (some ⟨b, o, none⟩) 9 c, .int .i64 m] 75)).alloc (.cells #[.int .i64 7, .int .i64 5, .int .i64 5, .int .i64 9, .int .i64 6] 172)) = V at HB HX HA HZ ⊢
      have HC : Hid (∀ w', Qt.Keeps (V) w' → w'.cell? ⟨w.heap.size, 0, none⟩ = some (.int .i64 k) ∧ w'.cell? ⟨w.heap.size, 1, none⟩ = some (.slice (some ⟨b, o, none⟩) 9 c) ∧ w'.cell? ⟨w.heap.size, 2, none⟩ = some (.int .i64 m) ∧ w'.cell? ⟨w.heap.size + 1, 0, none⟩ = some (.int .i64 7) ∧ w'.cell? ⟨w.heap.size + 1, 1, none⟩ = some (.int .i64 5) ∧ w'.cell? ⟨w.heap.size + 1, 2, none⟩ = some (.int .i64 5) ∧ w'.cell? ⟨w.heap.size + 1, 3, none⟩ = some (.int .i64 9) ∧ w'.cell? ⟨w.heap.size + 1, 4, none⟩ = some (.int .i64 6) ∧ w'.cell? ⟨b, o, none⟩ = some (.int .i64 104)) := Lib.hid fun w' hw => keepK (HX.out.below hw) (HA.out.below hw) (HZ.out w' hw)
      refine Qt.region (Qt.Keeps (V)) (by kernel_rfl) (by kernel_rfl) (Qt.Keeps.drew _) ?_
      repeat (first
        | go_big_quiet_skip
        | (go_big_quiet_want
           refine Qt.val (v := ?_) (fun w hw => ?_) ?_
           rotate_left
           · obtain ⟨s0, s1, s2, t0, t1, t2, t3, t4, u0⟩ := HC.out w hw
             go_simp
             rfl
           simp only [Act.put, List.setIfInBounds_toArray, List.set_cons_zero, List.set_cons_succ]
           go_big_quiet_on)
        | (go_big_quiet_want
           refine Qt.call (v := .bool true) (f := 107) (args := #[.int .i64 104, .int .i64 101, .int .i64 105]) (fun w hw => ?_) (fun w hw => ?_) ?_
           · go_simp
           · refine (inRange_any 104 101 105 _ HR.out _).mono ?_
             rintro e w1 ⟨rfl, rfl⟩
             exact ⟨rfl, hw⟩
           simp only [Act.put, List.setIfInBounds_toArray, List.set_cons_zero, List.set_cons_succ]
           go_big_quiet_on))
      refine wpQuiet_nil ?_
      intro w2 hw2
      replace HB := Lib.hid (below_on HB.out hw2)
      replace HX := Lib.hid (HX.out.below hw2)
      have hz2 := HZ.out w2 hw2
      clear hw2
      obtain ⟨c0, c1, c2⟩ := SlPiece.bx3 HX.out
      go_wp2_with fail
      go_ret
      exact says (by rw [HK.out]; rfl) HB.out
    · have HK : Hid (kind n 104 = 0) := Lib.hid (by unfold kind; repeat (first | rw [if_neg (by omega)] | rfl))
      have e1 : ((n : Int) != 9) = true := bne_iff_ne.2 (by omega)
      have e2 : ((n : Int) == 9) = false := beq_eq_false_iff_ne.2 (by omega)
      clear hn
      go_enter Try.func101, Try.ntmps101
      go_wp2_with fail
      generalize ((w.alloc (.cells #[.int .i64 k, .slice (some ⟨b, o, none⟩) n c, .int .i64 m] 75)).alloc (.cells #[.int .i64 7, .int .i64 5, .int .i64 5, .int .i64 9, .int .i64 6] 172)) = V at HB HX HA HZ ⊢
      have HC : Hid (∀ w', Qt.Keeps (V) w' → w'.cell? ⟨w.heap.size, 0, none⟩ = some (.int .i64 k) ∧ w'.cell? ⟨w.heap.size, 1, none⟩ = some (.slice (some ⟨b, o, none⟩) n c) ∧ w'.cell? ⟨w.heap.size, 2, none⟩ = some (.int .i64 m) ∧ w'.cell? ⟨w.heap.size + 1, 0, none⟩ = some (.int .i64 7) ∧ w'.cell? ⟨w.heap.size + 1, 1, none⟩ = some (.int .i64 5) ∧ w'.cell? ⟨w.heap.size + 1, 2, none⟩ = some (.int .i64 5) ∧ w'.cell? ⟨w.heap.size + 1, 3, none⟩ = some (.int .i64 9) ∧ w'.cell? ⟨w.heap.size + 1, 4, none⟩ = some (.int .i64 6) ∧ w'.cell? ⟨b, o, none⟩ = some (.int .i64 104)) := Lib.hid fun w' hw => keepK (HX.out.below hw) (HA.out.below hw) (HZ.out w' hw)
      refine Qt.region (Qt.Keeps (V)) (by kernel_rfl) (by kernel_rfl) (Qt.Keeps.drew _) ?_
      repeat (first
        | go_big_quiet_skip
        | (go_big_quiet_want
           refine Qt.val (v := ?_) (fun w hw => ?_) ?_
           rotate_left
           · obtain ⟨s0, s1, s2, t0, t1, t2, t3, t4, u0⟩ := HC.out w hw
             go_simp
             rfl
           simp only [Act.put, List.setIfInBounds_toArray, List.set_cons_zero, List.set_cons_succ]
           go_big_quiet_on)
        | (go_big_quiet_want
           refine Qt.call (v := .bool true) (f := 107) (args := #[.int .i64 104, .int .i64 101, .int .i64 105]) (fun w hw => ?_) (fun w hw => ?_) ?_
           · go_simp
           · refine (inRange_any 104 101 105 _ HR.out _).mono ?_
             rintro e w1 ⟨rfl, rfl⟩
             exact ⟨rfl, hw⟩
           simp only [Act.put, List.setIfInBounds_toArray, List.set_cons_zero, List.set_cons_succ]
           go_big_quiet_on))
      refine wpQuiet_nil ?_
      intro w2 hw2
      replace HB := Lib.hid (below_on HB.out hw2)
      replace HX := Lib.hid (HX.out.below hw2)
      have hz2 := HZ.out w2 hw2
      clear hw2
      clear hz2
      go_wp2_with fail
      go_ret
      exact says (by rw [HK.out]; rfl) HB.out
  · subst h4
    have HR : Hid (decide ((101 : Int) ≤ 105 ∧ (105 : Int) ≤ 105) = true) := Lib.hid (by decide)
    have hwr : IntKind.i64.wrap 4 = 4 := by decide
    by_cases hn : n = 6
    · subst hn
      have HK : Hid (kind 6 105 = 105) := Lib.hid (by decide)
      go_enter Try.func101, Try.ntmps101
      go_wp2_with fail
      generalize ((w.alloc (.cells #[.int .i64 k, .slice (some ⟨b, o, none⟩) 6 c, .int .i64 m] 75)).alloc (.cells #[.int .i64 7, .int .i64 5, .int .i64 5, .int .i64 9, .int .i64 6] 172)) = V at HB HX HA HZ ⊢
      have HC : Hid (∀ w', Qt.Keeps (V) w' → w'.cell? ⟨w.heap.size, 0, none⟩ = some (.int .i64 k) ∧ w'.cell? ⟨w.heap.size, 1, none⟩ = some (.slice (some ⟨b, o, none⟩) 6 c) ∧ w'.cell? ⟨w.heap.size, 2, none⟩ = some (.int .i64 m) ∧ w'.cell? ⟨w.heap.size + 1, 0, none⟩ = some (.int .i64 7) ∧ w'.cell? ⟨w.heap.size + 1, 1, none⟩ = some (.int .i64 5) ∧ w'.cell? ⟨w.heap.size + 1, 2, none⟩ = some (.int .i64 5) ∧ w'.cell? ⟨w.heap.size + 1, 3, none⟩ = some (.int .i64 9) ∧ w'.cell? ⟨w.heap.size + 1, 4, none⟩ = some (.int .i64 6) ∧ w'.cell? ⟨b, o, none⟩ = some (.int .i64 105)) := Lib.hid fun w' hw => keepK (HX.out.below hw) (HA.out.below hw) (HZ.out w' hw)
      refine Qt.region (Qt.Keeps (V)) (by kernel_rfl) (by kernel_rfl) (Qt.Keeps.drew _) ?_
      repeat (first
        | go_big_quiet_skip
        | (go_big_quiet_want
           refine Qt.val (v := ?_) (fun w hw => ?_) ?_
           rotate_left
           · obtain ⟨s0, s1, s2, t0, t1, t2, t3, t4, u0⟩ := HC.out w hw
             go_simp
             rfl
           simp only [Act.put, List.setIfInBounds_toArray, List.set_cons_zero, List.set_cons_succ]
           go_big_quiet_on)
        | (go_big_quiet_want
           refine Qt.call (v := .bool true) (f := 107) (args := #[.int .i64 105, .int .i64 101, .int .i64 105]) (fun w hw => ?_) (fun w hw => ?_) ?_
           · go_simp
           · refine (inRange_any 105 101 105 _ HR.out _).mono ?_
             rintro e w1 ⟨rfl, rfl⟩
             exact ⟨rfl, hw⟩
           simp only [Act.put, List.setIfInBounds_toArray, List.set_cons_zero, List.set_cons_succ]
           go_big_quiet_on))
      refine wpQuiet_nil ?_
      intro w2 hw2
      replace HB := Lib.hid (below_on HB.out hw2)
      replace HX := Lib.hid (HX.out.below hw2)
      have hz2 := HZ.out w2 hw2
      clear hw2
      obtain ⟨c0, c1, c2⟩ := SlPiece.bx3 HX.out
      go_wp2_with fail
      go_ret
      exact says (by rw [HK.out]; rfl) HB.out
    · have HK : Hid (kind n 105 = 0) := Lib.hid (by unfold kind; repeat (first | rw [if_neg (by omega)] | rfl))
      have e1 : ((n : Int) != 6) = true := bne_iff_ne.2 (by omega)
      have e2 : ((n : Int) == 6) = false := beq_eq_false_iff_ne.2 (by omega)
      clear hn
      go_enter Try.func101, Try.ntmps101
      go_wp2_with fail
      generalize ((w.alloc (.cells #[.int .i64 k, .slice (some ⟨b, o, none⟩) n c, .int .i64 m] 75)).alloc (.cells #[.int .i64 7, .int .i64 5, .int .i64 5, .int .i64 9, .int .i64 6] 172)) = V at HB HX HA HZ ⊢
      have HC : Hid (∀ w', Qt.Keeps (V) w' → w'.cell? ⟨w.heap.size, 0, none⟩ = some (.int .i64 k) ∧ w'.cell? ⟨w.heap.size, 1, none⟩ = some (.slice (some ⟨b, o, none⟩) n c) ∧ w'.cell? ⟨w.heap.size, 2, none⟩ = some (.int .i64 m) ∧ w'.cell? ⟨w.heap.size + 1, 0, none⟩ = some (.int .i64 7) ∧ w'.cell? ⟨w.heap.size + 1, 1, none⟩ = some (.int .i64 5) ∧ w'.cell? ⟨w.heap.size + 1, 2, none⟩ = some (.int .i64 5) ∧ w'.cell? ⟨w.heap.size + 1, 3, none⟩ = some (.int .i64 9) ∧ w'.cell? ⟨w.heap.size + 1, 4, none⟩ = some (.int .i64 6) ∧ w'.cell? ⟨b, o, none⟩ = some (.int .i64 105)) := Lib.hid fun w' hw => keepK (HX.out.below hw) (HA.out.below hw) (HZ.out w' hw)
      refine Qt.region (Qt.Keeps (V)) (by kernel_rfl) (by kernel_rfl) (Qt.Keeps.drew _) ?_
      repeat (first
        | go_big_quiet_skip
        | (go_big_quiet_want
           refine Qt.val (v := ?_) (fun w hw => ?_) ?_
           rotate_left
           · obtain ⟨s0, s1, s2, t0, t1, t2, t3, t4, u0⟩ := HC.out w hw
             go_simp
             rfl
           simp only [Act.put, List.setIfInBounds_toArray, List.set_cons_zero, List.set_cons_succ]
           go_big_quiet_on)
        | (go_big_quiet_want
           refine Qt.call (v := .bool true) (f := 107) (args := #[.int .i64 105, .int .i64 101, .int .i64 105]) (fun w hw => ?_) (fun w hw => ?_) ?_
           · go_simp
           · refine (inRange_any 105 101 105 _ HR.out _).mono ?_
             rintro e w1 ⟨rfl, rfl⟩
             exact ⟨rfl, hw⟩
           simp only [Act.put, List.setIfInBounds_toArray, List.set_cons_zero, List.set_cons_succ]
           go_big_quiet_on))
      refine wpQuiet_nil ?_
      intro w2 hw2
      replace HB := Lib.hid (below_on HB.out hw2)
      replace HX := Lib.hid (HX.out.below hw2)
      have hz2 := HZ.out w2 hw2
      clear hw2
      clear hz2
      go_wp2_with fail
      go_ret
      exact says (by rw [HK.out]; rfl) HB.out
end Go.Proofs.Ytpjckbdljbpliaa.Kp
