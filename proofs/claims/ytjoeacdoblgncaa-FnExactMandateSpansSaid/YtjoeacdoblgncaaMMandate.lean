/- Contracts of mandates, checked; in the program (made anew and equal) and in the reference. -/
import Derived.Test.YtjoeacdoblgncaaKMandate
import Derived.Test.YtjoeacdoblgncaaQt
import Derived.Laws.StructEq
namespace Go.Proofs.Ytjoeacdoblgncaa.MMandate
open Go.ChangeShapes Go.WideShapes Go.ChangeAt Go.RowKit Go.Shelf Sl St Fnd Kn Kr Ki Km Ko SlMandate Mi Mj KMandate
def chk (xs : List I5) : I6 → Bool := fun (x0, x1, x2, x3, x4, x5) => okD (x0, x1, x2, x3, x4, x5) && (decide (ownerOf xs x4 = x0) && checkM xs x4 [105, x0, x1, x2, x3, x4] x5)
theorem says {b b' : Bool} {w w' : World} (h : b' = b) (hb : Below w.heap.size w w') : SlMandate.Val (.bool b) w (.returned (.bool b')) w' := ⟨by rw [h], hb⟩
theorem chk_no {xs : List I5} {x0 x1 x2 x3 x4 x5 : Int} (h : (okD (x0, x1, x2, x3, x4, x5) && (ring xs x4).isSome) = false) : chk xs (x0, x1, x2, x3, x4, x5) = false := by
  show (okD (x0, x1, x2, x3, x4, x5) && (decide (ownerOf xs x4 = x0) && checkM xs x4 [105, x0, x1, x2, x3, x4] x5)) = false
  rw [checkM_ring]
  rcases h1 : okD (x0, x1, x2, x3, x4, x5) with _ | _
  · rfl
  · rw [h1, Bool.true_and] at h
    rw [h]
    simp
theorem chk_yes {xs : List I5} {x0 x1 x2 x3 x4 x5 : Int} (h : (okD (x0, x1, x2, x3, x4, x5) && (ring xs x4).isSome) = true) : chk xs (x0, x1, x2, x3, x4, x5) = (decide (ownerOf xs x4 = x0) && decide (markR xs x4 [105, x0, x1, x2, x3, x4] = x5)) := by
  show (okD (x0, x1, x2, x3, x4, x5) && (decide (ownerOf xs x4 = x0) && checkM xs x4 [105, x0, x1, x2, x3, x4] x5)) = _
  rw [checkM_ring]
  rw [Bool.and_eq_true] at h
  rw [h.1, h.2]
  simp
theorem twelve {w : World} {g g' : Nat} {T T' : TypeId} {x0 x1 x2 x3 x4 x5 y0 y1 y2 y3 y4 y5 : Value} (h : Bx w g T #[x0, x1, x2, x3, x4, x5]) (h' : Bx w g' T' #[y0, y1, y2, y3, y4, y5]) : w.cell? ⟨g, 0, none⟩ = some x0 ∧ w.cell? ⟨g, 1, none⟩ = some x1 ∧ w.cell? ⟨g, 2, none⟩ = some x2 ∧ w.cell? ⟨g, 3, none⟩ = some x3 ∧ w.cell? ⟨g, 4, none⟩ = some x4 ∧ w.cell? ⟨g, 5, none⟩ = some x5 ∧ w.cell? ⟨g', 0, none⟩ = some y0 ∧ w.cell? ⟨g', 1, none⟩ = some y1 ∧ w.cell? ⟨g', 2, none⟩ = some y2 ∧ w.cell? ⟨g', 3, none⟩ = some y3 ∧ w.cell? ⟨g', 4, none⟩ = some y4 ∧ w.cell? ⟨g', 5, none⟩ = some y5 := ⟨h.cell rfl, h.cell rfl, h.cell rfl, h.cell rfl, h.cell rfl, h.cell rfl, h'.cell rfl, h'.cell rfl, h'.cell rfl, h'.cell rfl, h'.cell rfl, h'.cell rfl⟩
set_option maxRecDepth 100000 in
set_option maxHeartbeats 8000000 in
theorem check_any (p : Option Addr) (n c : Nat) (xs : List I5) (hR : ∀ x ∈ xs, SlKey.InR x) (x0 x1 x2 x3 x4 x5 : Int) (h0 : -9223372036854775808 ≤ x0 ∧ x0 ≤ 9223372036854775807) (h1 : -9223372036854775808 ≤ x1 ∧ x1 ≤ 9223372036854775807) (h2 : -9223372036854775808 ≤ x2 ∧ x2 ≤ 9223372036854775807) (h3 : -9223372036854775808 ≤ x3 ∧ x3 ≤ 9223372036854775807) (h4 : -9223372036854775808 ≤ x4 ∧ x4 ≤ 9223372036854775807) (h5 : -9223372036854775808 ≤ x5 ∧ x5 ≤ 9223372036854775807) (w : World) (hr : RdS SlKey.E w p n xs) : Calls Try.prog 65 #[.slice p n c, .agg #[.int .i64 x0, .int .i64 x1, .int .i64 x2, .int .i64 x3, .int .i64 x4, .int .i64 x5]] w (SlMandate.Val (.bool (chk xs (x0, x1, x2, x3, x4, x5))) w) := by
  have HK := Lib.hid hr
  have HX := Lib.hid (Bx.new w 86 #[.int .i64 x0, .int .i64 x1, .int .i64 x2, .int .i64 x3, .int .i64 x4, .int .i64 x5])
  have HB : Hid (Below w.heap.size w (w.alloc (.cells #[.int .i64 x0, .int .i64 x1, .int .i64 x2, .int .i64 x3, .int .i64 x4, .int .i64 x5] 86))) := Lib.hid (Ki.box1 w _)
  have G0 := Lib.hid h0
  have G1 := Lib.hid h1
  have G2 := Lib.hid h2
  have G3 := Lib.hid h3
  have G4 := Lib.hid h4
  have G5 := Lib.hid h5
  clear h0 h1 h2 h3 h4 h5 hr
  rcases hok : (okD (x0, x1, x2, x3, x4, x5) && (ring xs x4).isSome) with _ | _
  · have HM := Lib.hid (mkd_no hok)
    have HS := Lib.hid (chk_no hok)
    clear hok
    go_enter Try.func65, Try.ntmps65
    go_wp2_with fail
    generalize (w.alloc (.cells #[.int .i64 x0, .int .i64 x1, .int .i64 x2, .int .i64 x3, .int .i64 x4, .int .i64 x5] 86)) = V at HX HB ⊢
    refine (make_any p n c xs hR x0 x1 x2 x3 x4 x5 G0.out G1.out G2.out G3.out G4.out G5.out 0 0 0 0 0 0 false HM.out _ (HK.out.below HB.out)).mono ?_
    rintro e w1 ⟨rfl, hb⟩
    replace HB := Lib.hid (below_on HB.out hb)
    replace HX := Lib.hid ((HX.out.below hb).alloc (.cells #[.int .i64 0, .int .i64 0, .int .i64 0, .int .i64 0, .int .i64 0, .int .i64 0] 86))
    replace HB := Lib.hid (HB.out.alloc HB.out.size (.cells #[.int .i64 0, .int .i64 0, .int .i64 0, .int .i64 0, .int .i64 0, .int .i64 0] 86))
    have HQ := Lib.hid (Bx.new w1 86 #[.int .i64 0, .int .i64 0, .int .i64 0, .int .i64 0, .int .i64 0, .int .i64 0])
    clear hb
    go_wp2_with fail
    generalize w1.heap.size = gq at HQ ⊢
    generalize w1.alloc (.cells #[.int .i64 0, .int .i64 0, .int .i64 0, .int .i64 0, .int .i64 0, .int .i64 0] 86) = V1 at HX HB HQ ⊢
    have HC : Hid (∀ w', Qt.Keeps (V1) w' → w'.cell? ⟨w.heap.size, 0, none⟩ = some (.int .i64 x0) ∧ w'.cell? ⟨w.heap.size, 1, none⟩ = some (.int .i64 x1) ∧ w'.cell? ⟨w.heap.size, 2, none⟩ = some (.int .i64 x2) ∧ w'.cell? ⟨w.heap.size, 3, none⟩ = some (.int .i64 x3) ∧ w'.cell? ⟨w.heap.size, 4, none⟩ = some (.int .i64 x4) ∧ w'.cell? ⟨w.heap.size, 5, none⟩ = some (.int .i64 x5) ∧ w'.cell? ⟨gq, 0, none⟩ = some (.int .i64 0) ∧ w'.cell? ⟨gq, 1, none⟩ = some (.int .i64 0) ∧ w'.cell? ⟨gq, 2, none⟩ = some (.int .i64 0) ∧ w'.cell? ⟨gq, 3, none⟩ = some (.int .i64 0) ∧ w'.cell? ⟨gq, 4, none⟩ = some (.int .i64 0) ∧ w'.cell? ⟨gq, 5, none⟩ = some (.int .i64 0)) := Lib.hid fun w' hw => twelve (HX.out.below hw) (HQ.out.below hw)
    refine Qt.region (Qt.Keeps (V1)) (by kernel_rfl) (by kernel_rfl) (Qt.Keeps.drew _) ?_
    repeat (first
      | go_big_quiet_skip
      | (go_big_quiet_want
         refine Qt.val (v := ?_) (fun w hw => ?_) ?_
         rotate_left
         · obtain ⟨s0, s1, s2, s3, s4, s5, t0, t1, t2, t3, t4, t5⟩ := HC.out w hw
           go_simp
           rfl
         simp only [Act.put, List.setIfInBounds_toArray, List.set_cons_zero, List.set_cons_succ]
         go_big_quiet_on))
    refine wpQuiet_nil ?_
    intro w2 hw2
    replace HB := Lib.hid (below_on HB.out hw2)
    clear hw2
    go_wp2_with fail
    go_ret
    exact says (by rw [HS.out]) HB.out
  have hm1 := mkd_yes hok
  have hs1 := chk_yes hok
  generalize hmm : markR xs x4 [105, x0, x1, x2, x3, x4] = m0 at hm1 hs1
  clear hmm hok
  have HM := Lib.hid hm1
  clear hm1
  by_cases he : m0 = x5
  rotate_left
  · have HS : Hid (chk xs (x0, x1, x2, x3, x4, x5) = false) := Lib.hid (by rw [hs1, decide_eq_false he]; simp)
    have e1 : (m0 == x5) = false := by simpa using he
    clear hs1 he
    go_enter Try.func65, Try.ntmps65
    go_wp2_with fail
    generalize (w.alloc (.cells #[.int .i64 x0, .int .i64 x1, .int .i64 x2, .int .i64 x3, .int .i64 x4, .int .i64 x5] 86)) = V at HX HB ⊢
    refine (make_any p n c xs hR x0 x1 x2 x3 x4 x5 G0.out G1.out G2.out G3.out G4.out G5.out x0 x1 x2 x3 x4 m0 true HM.out _ (HK.out.below HB.out)).mono ?_
    rintro e w1 ⟨rfl, hb⟩
    replace HB := Lib.hid (below_on HB.out hb)
    replace HX := Lib.hid ((HX.out.below hb).alloc (.cells #[.int .i64 x0, .int .i64 x1, .int .i64 x2, .int .i64 x3, .int .i64 x4, .int .i64 m0] 86))
    replace HB := Lib.hid (HB.out.alloc HB.out.size (.cells #[.int .i64 x0, .int .i64 x1, .int .i64 x2, .int .i64 x3, .int .i64 x4, .int .i64 m0] 86))
    have HQ := Lib.hid (Bx.new w1 86 #[.int .i64 x0, .int .i64 x1, .int .i64 x2, .int .i64 x3, .int .i64 x4, .int .i64 m0])
    clear hb
    go_wp2_with fail
    generalize w1.heap.size = gq at HQ ⊢
    generalize w1.alloc (.cells #[.int .i64 x0, .int .i64 x1, .int .i64 x2, .int .i64 x3, .int .i64 x4, .int .i64 m0] 86) = V1 at HX HB HQ ⊢
    have HC : Hid (∀ w', Qt.Keeps (V1) w' → w'.cell? ⟨w.heap.size, 0, none⟩ = some (.int .i64 x0) ∧ w'.cell? ⟨w.heap.size, 1, none⟩ = some (.int .i64 x1) ∧ w'.cell? ⟨w.heap.size, 2, none⟩ = some (.int .i64 x2) ∧ w'.cell? ⟨w.heap.size, 3, none⟩ = some (.int .i64 x3) ∧ w'.cell? ⟨w.heap.size, 4, none⟩ = some (.int .i64 x4) ∧ w'.cell? ⟨w.heap.size, 5, none⟩ = some (.int .i64 x5) ∧ w'.cell? ⟨gq, 0, none⟩ = some (.int .i64 x0) ∧ w'.cell? ⟨gq, 1, none⟩ = some (.int .i64 x1) ∧ w'.cell? ⟨gq, 2, none⟩ = some (.int .i64 x2) ∧ w'.cell? ⟨gq, 3, none⟩ = some (.int .i64 x3) ∧ w'.cell? ⟨gq, 4, none⟩ = some (.int .i64 x4) ∧ w'.cell? ⟨gq, 5, none⟩ = some (.int .i64 m0)) := Lib.hid fun w' hw => twelve (HX.out.below hw) (HQ.out.below hw)
    refine Qt.region (Qt.Keeps (V1)) (by kernel_rfl) (by kernel_rfl) (Qt.Keeps.drew _) ?_
    repeat (first
      | go_big_quiet_skip
      | (go_big_quiet_want
         refine Qt.val (v := ?_) (fun w hw => ?_) ?_
         rotate_left
         · obtain ⟨s0, s1, s2, s3, s4, s5, t0, t1, t2, t3, t4, t5⟩ := HC.out w hw
           go_simp
           rfl
         simp only [Act.put, List.setIfInBounds_toArray, List.set_cons_zero, List.set_cons_succ]
         go_big_quiet_on))
    refine wpQuiet_nil ?_
    intro w2 hw2
    replace HB := Lib.hid (below_on HB.out hw2)
    clear hw2
    go_wp2_with fail
    go_ret
    exact says (by rw [HS.out]) HB.out
  obtain ⟨ω, hω⟩ : ∃ ω, ownerOf xs x4 = ω := ⟨_, rfl⟩
  have HW := Lib.hid hω
  rw [hω] at hs1
  clear hω
  by_cases ho : ω = x0
  · have HS : Hid (chk xs (x0, x1, x2, x3, x4, x5) = true) := Lib.hid (by rw [hs1, decide_eq_true he, decide_eq_true ho]; rfl)
    clear hs1
    subst he
    subst ho
    go_enter Try.func65, Try.ntmps65
    go_wp2_with fail
    generalize (w.alloc (.cells #[.int .i64 ω, .int .i64 x1, .int .i64 x2, .int .i64 x3, .int .i64 x4, .int .i64 m0] 86)) = V at HX HB ⊢
    refine (make_any p n c xs hR ω x1 x2 x3 x4 m0 G0.out G1.out G2.out G3.out G4.out G5.out ω x1 x2 x3 x4 m0 true HM.out _ (HK.out.below HB.out)).mono ?_
    rintro e w1 ⟨rfl, hb⟩
    replace HB := Lib.hid (below_on HB.out hb)
    replace HX := Lib.hid ((HX.out.below hb).alloc (.cells #[.int .i64 ω, .int .i64 x1, .int .i64 x2, .int .i64 x3, .int .i64 x4, .int .i64 m0] 86))
    replace HB := Lib.hid (HB.out.alloc HB.out.size (.cells #[.int .i64 ω, .int .i64 x1, .int .i64 x2, .int .i64 x3, .int .i64 x4, .int .i64 m0] 86))
    have HQ := Lib.hid (Bx.new w1 86 #[.int .i64 ω, .int .i64 x1, .int .i64 x2, .int .i64 x3, .int .i64 x4, .int .i64 m0])
    clear hb
    go_wp2_with fail
    generalize w1.heap.size = gq at HQ ⊢
    generalize w1.alloc (.cells #[.int .i64 ω, .int .i64 x1, .int .i64 x2, .int .i64 x3, .int .i64 x4, .int .i64 m0] 86) = V1 at HX HB HQ ⊢
    have HC : Hid (∀ w', Qt.Keeps (V1) w' → w'.cell? ⟨w.heap.size, 0, none⟩ = some (.int .i64 ω) ∧ w'.cell? ⟨w.heap.size, 1, none⟩ = some (.int .i64 x1) ∧ w'.cell? ⟨w.heap.size, 2, none⟩ = some (.int .i64 x2) ∧ w'.cell? ⟨w.heap.size, 3, none⟩ = some (.int .i64 x3) ∧ w'.cell? ⟨w.heap.size, 4, none⟩ = some (.int .i64 x4) ∧ w'.cell? ⟨w.heap.size, 5, none⟩ = some (.int .i64 m0) ∧ w'.cell? ⟨gq, 0, none⟩ = some (.int .i64 ω) ∧ w'.cell? ⟨gq, 1, none⟩ = some (.int .i64 x1) ∧ w'.cell? ⟨gq, 2, none⟩ = some (.int .i64 x2) ∧ w'.cell? ⟨gq, 3, none⟩ = some (.int .i64 x3) ∧ w'.cell? ⟨gq, 4, none⟩ = some (.int .i64 x4) ∧ w'.cell? ⟨gq, 5, none⟩ = some (.int .i64 m0)) := Lib.hid fun w' hw => twelve (HX.out.below hw) (HQ.out.below hw)
    refine Qt.region (Qt.Keeps (V1)) (by kernel_rfl) (by kernel_rfl) (Qt.Keeps.drew _) ?_
    repeat (first
      | go_big_quiet_skip
      | (go_big_quiet_want
         refine Qt.val (v := ?_) (fun w hw => ?_) ?_
         rotate_left
         · obtain ⟨s0, s1, s2, s3, s4, s5, t0, t1, t2, t3, t4, t5⟩ := HC.out w hw
           go_simp
           rfl
         simp only [Act.put, List.setIfInBounds_toArray, List.set_cons_zero, List.set_cons_succ]
         go_big_quiet_on)
      | (go_big_quiet_want
         refine Qt.call (v := .int .i64 ω) (f := 95) (args := #[.slice p n c, .int .i64 x4]) (fun w hw => ?_) (fun w hw => ?_) ?_
         · go_simp
         · refine (ownerOf_any p n c xs hR x4 G4.out _ (HK.out.below (below_on HB.out hw))).mono ?_
           rintro e w1 ⟨rfl, hb1⟩
           rw [HW.out]
           exact ⟨rfl, hw.then hb1⟩
         simp only [Act.put, List.setIfInBounds_toArray, List.set_cons_zero, List.set_cons_succ]
         go_big_quiet_on))
    refine wpQuiet_nil ?_
    intro w2 hw2
    replace HB := Lib.hid (below_on HB.out hw2)
    clear hw2
    go_wp2_with fail
    go_ret
    exact says (by rw [HS.out]) HB.out
  · have HS : Hid (chk xs (x0, x1, x2, x3, x4, x5) = false) := Lib.hid (by rw [hs1, decide_eq_false ho]; simp)
    have e1 : (ω == x0) = false := by simpa using ho
    clear hs1 ho
    subst he
    go_enter Try.func65, Try.ntmps65
    go_wp2_with fail
    generalize (w.alloc (.cells #[.int .i64 x0, .int .i64 x1, .int .i64 x2, .int .i64 x3, .int .i64 x4, .int .i64 m0] 86)) = V at HX HB ⊢
    refine (make_any p n c xs hR x0 x1 x2 x3 x4 m0 G0.out G1.out G2.out G3.out G4.out G5.out x0 x1 x2 x3 x4 m0 true HM.out _ (HK.out.below HB.out)).mono ?_
    rintro e w1 ⟨rfl, hb⟩
    replace HB := Lib.hid (below_on HB.out hb)
    replace HX := Lib.hid ((HX.out.below hb).alloc (.cells #[.int .i64 x0, .int .i64 x1, .int .i64 x2, .int .i64 x3, .int .i64 x4, .int .i64 m0] 86))
    replace HB := Lib.hid (HB.out.alloc HB.out.size (.cells #[.int .i64 x0, .int .i64 x1, .int .i64 x2, .int .i64 x3, .int .i64 x4, .int .i64 m0] 86))
    have HQ := Lib.hid (Bx.new w1 86 #[.int .i64 x0, .int .i64 x1, .int .i64 x2, .int .i64 x3, .int .i64 x4, .int .i64 m0])
    clear hb
    go_wp2_with fail
    generalize w1.heap.size = gq at HQ ⊢
    generalize w1.alloc (.cells #[.int .i64 x0, .int .i64 x1, .int .i64 x2, .int .i64 x3, .int .i64 x4, .int .i64 m0] 86) = V1 at HX HB HQ ⊢
    have HC : Hid (∀ w', Qt.Keeps (V1) w' → w'.cell? ⟨w.heap.size, 0, none⟩ = some (.int .i64 x0) ∧ w'.cell? ⟨w.heap.size, 1, none⟩ = some (.int .i64 x1) ∧ w'.cell? ⟨w.heap.size, 2, none⟩ = some (.int .i64 x2) ∧ w'.cell? ⟨w.heap.size, 3, none⟩ = some (.int .i64 x3) ∧ w'.cell? ⟨w.heap.size, 4, none⟩ = some (.int .i64 x4) ∧ w'.cell? ⟨w.heap.size, 5, none⟩ = some (.int .i64 m0) ∧ w'.cell? ⟨gq, 0, none⟩ = some (.int .i64 x0) ∧ w'.cell? ⟨gq, 1, none⟩ = some (.int .i64 x1) ∧ w'.cell? ⟨gq, 2, none⟩ = some (.int .i64 x2) ∧ w'.cell? ⟨gq, 3, none⟩ = some (.int .i64 x3) ∧ w'.cell? ⟨gq, 4, none⟩ = some (.int .i64 x4) ∧ w'.cell? ⟨gq, 5, none⟩ = some (.int .i64 m0)) := Lib.hid fun w' hw => twelve (HX.out.below hw) (HQ.out.below hw)
    refine Qt.region (Qt.Keeps (V1)) (by kernel_rfl) (by kernel_rfl) (Qt.Keeps.drew _) ?_
    repeat (first
      | go_big_quiet_skip
      | (go_big_quiet_want
         refine Qt.val (v := ?_) (fun w hw => ?_) ?_
         rotate_left
         · obtain ⟨s0, s1, s2, s3, s4, s5, t0, t1, t2, t3, t4, t5⟩ := HC.out w hw
           go_simp
           rfl
         simp only [Act.put, List.setIfInBounds_toArray, List.set_cons_zero, List.set_cons_succ]
         go_big_quiet_on)
      | (go_big_quiet_want
         refine Qt.call (v := .int .i64 ω) (f := 95) (args := #[.slice p n c, .int .i64 x4]) (fun w hw => ?_) (fun w hw => ?_) ?_
         · go_simp
         · refine (ownerOf_any p n c xs hR x4 G4.out _ (HK.out.below (below_on HB.out hw))).mono ?_
           rintro e w1 ⟨rfl, hb1⟩
           rw [HW.out]
           exact ⟨rfl, hw.then hb1⟩
         simp only [Act.put, List.setIfInBounds_toArray, List.set_cons_zero, List.set_cons_succ]
         go_big_quiet_on))
    refine wpQuiet_nil ?_
    intro w2 hw2
    replace HB := Lib.hid (below_on HB.out hw2)
    clear hw2
    go_wp2_with fail
    go_ret
    exact says (by rw [HS.out]) HB.out
theorem drewOn {V w1 : World} (hb : Below V.drew.heap.size V.drew w1) : Below V.heap.size V w1 := below_on (below_drewN (Below.refl _ _) 1) hb
set_option maxRecDepth 100000 in
set_option maxHeartbeats 8000000 in
theorem spec_check_any (p : Option Addr) (n c : Nat) (xs : List I5) (hR : ∀ x ∈ xs, SlKey.InR x) (x0 x1 x2 x3 x4 x5 : Int) (h0 : -9223372036854775808 ≤ x0 ∧ x0 ≤ 9223372036854775807) (h1 : -9223372036854775808 ≤ x1 ∧ x1 ≤ 9223372036854775807) (h2 : -9223372036854775808 ≤ x2 ∧ x2 ≤ 9223372036854775807) (h3 : -9223372036854775808 ≤ x3 ∧ x3 ≤ 9223372036854775807) (h4 : -9223372036854775808 ≤ x4 ∧ x4 ≤ 9223372036854775807) (h5 : -9223372036854775808 ≤ x5 ∧ x5 ≤ 9223372036854775807) (w : World) (hr : RdS SlKey.E w p n xs) : Calls Try.prog 60 #[.slice p n c, .agg #[.int .i64 x0, .int .i64 x1, .int .i64 x2, .int .i64 x3, .int .i64 x4, .int .i64 x5]] w (SlMandate.Val (.bool (chk xs (x0, x1, x2, x3, x4, x5))) w) := by
  have HK := Lib.hid hr
  have HX := Lib.hid (Bx.new w 86 #[.int .i64 x0, .int .i64 x1, .int .i64 x2, .int .i64 x3, .int .i64 x4, .int .i64 x5])
  have HB : Hid (Below w.heap.size w (w.alloc (.cells #[.int .i64 x0, .int .i64 x1, .int .i64 x2, .int .i64 x3, .int .i64 x4, .int .i64 x5] 86))) := Lib.hid (Ki.box1 w _)
  have G0 := Lib.hid h0
  have G1 := Lib.hid h1
  have G2 := Lib.hid h2
  have G3 := Lib.hid h3
  have G4 := Lib.hid h4
  have G5 := Lib.hid h5
  clear h0 h1 h2 h3 h4 h5 hr
  have hs1 : chk xs (x0, x1, x2, x3, x4, x5) = (okD (x0, x1, x2, x3, x4, x5) && (decide (ownerOf xs x4 = x0) && checkM xs x4 [105, x0, x1, x2, x3, x4] x5)) := rfl
  obtain ⟨β, hβ⟩ : ∃ β, okD (x0, x1, x2, x3, x4, x5) = β := ⟨_, rfl⟩
  have HO := Lib.hid hβ
  rw [hβ] at hs1
  clear hβ
  cases β
  · have HS : Hid (chk xs (x0, x1, x2, x3, x4, x5) = false) := Lib.hid hs1
    clear hs1
    go_enter Try.func60, Try.ntmps60
    go_wp2_with fail
    have HC : Hid (∀ w', Qt.Keeps ((w.alloc (.cells #[.int .i64 x0, .int .i64 x1, .int .i64 x2, .int .i64 x3, .int .i64 x4, .int .i64 x5] 86))) w' → w'.cell? ⟨w.heap.size, 0, none⟩ = some (.int .i64 x0) ∧ w'.cell? ⟨w.heap.size, 1, none⟩ = some (.int .i64 x1) ∧ w'.cell? ⟨w.heap.size, 2, none⟩ = some (.int .i64 x2) ∧ w'.cell? ⟨w.heap.size, 3, none⟩ = some (.int .i64 x3) ∧ w'.cell? ⟨w.heap.size, 4, none⟩ = some (.int .i64 x4) ∧ w'.cell? ⟨w.heap.size, 5, none⟩ = some (.int .i64 x5)) := Lib.hid fun w' hw => bxc (HX.out.below hw)
    refine Qt.region (Qt.Keeps ((w.alloc (.cells #[.int .i64 x0, .int .i64 x1, .int .i64 x2, .int .i64 x3, .int .i64 x4, .int .i64 x5] 86)))) (by kernel_rfl) (by kernel_rfl) (Qt.Keeps.drew _) ?_
    repeat (first
      | go_big_quiet_skip
      | (go_big_quiet_want
         refine Qt.val (v := ?_) (fun w hw => ?_) ?_
         rotate_left
         · obtain ⟨s0, s1, s2, s3, s4, s5⟩ := HC.out w hw
           go_simp
           rfl
         simp only [Act.put, List.setIfInBounds_toArray, List.set_cons_zero, List.set_cons_succ]
         go_big_quiet_on)
      | (go_big_quiet_want
         refine Qt.call (v := .bool false) (f := 87) (args := #[.agg #[.int .i64 x0, .int .i64 x1, .int .i64 x2, .int .i64 x3, .int .i64 x4, .int .i64 x5]]) (fun w hw => ?_) (fun w hw => ?_) ?_
         · go_simp
         · refine (spec_isMandate_any x0 x1 x2 x3 x4 x5 _).mono ?_
           rintro e w1 ⟨rfl, hb1⟩
           rw [HO.out]
           exact ⟨rfl, hw.then hb1⟩
         simp only [Act.put, List.setIfInBounds_toArray, List.set_cons_zero, List.set_cons_succ]
         go_big_quiet_on))
    refine wpQuiet_nil ?_
    intro w2 hw2
    have HW2 := Lib.hid (below_on HB.out hw2)
    clear hw2
    go_wp2_with fail
    go_ret
    exact says (by rw [HS.out]) HW2.out
  obtain ⟨ω, hω⟩ : ∃ ω, ownerOf xs x4 = ω := ⟨_, rfl⟩
  have HW := Lib.hid hω
  rw [hω] at hs1
  clear hω
  by_cases ho : ω = x0
  rotate_left
  · have HS : Hid (chk xs (x0, x1, x2, x3, x4, x5) = false) := Lib.hid (by rw [hs1, decide_eq_false ho]; rfl)
    have e1 : (ω == x0) = false := by simpa using ho
    clear hs1 ho
    go_enter Try.func60, Try.ntmps60
    go_wp2_with fail
    have HC : Hid (∀ w', Qt.Keeps ((w.alloc (.cells #[.int .i64 x0, .int .i64 x1, .int .i64 x2, .int .i64 x3, .int .i64 x4, .int .i64 x5] 86))) w' → w'.cell? ⟨w.heap.size, 0, none⟩ = some (.int .i64 x0) ∧ w'.cell? ⟨w.heap.size, 1, none⟩ = some (.int .i64 x1) ∧ w'.cell? ⟨w.heap.size, 2, none⟩ = some (.int .i64 x2) ∧ w'.cell? ⟨w.heap.size, 3, none⟩ = some (.int .i64 x3) ∧ w'.cell? ⟨w.heap.size, 4, none⟩ = some (.int .i64 x4) ∧ w'.cell? ⟨w.heap.size, 5, none⟩ = some (.int .i64 x5)) := Lib.hid fun w' hw => bxc (HX.out.below hw)
    refine Qt.region (Qt.Keeps ((w.alloc (.cells #[.int .i64 x0, .int .i64 x1, .int .i64 x2, .int .i64 x3, .int .i64 x4, .int .i64 x5] 86)))) (by kernel_rfl) (by kernel_rfl) (Qt.Keeps.drew _) ?_
    repeat (first
      | go_big_quiet_skip
      | (go_big_quiet_want
         refine Qt.val (v := ?_) (fun w hw => ?_) ?_
         rotate_left
         · obtain ⟨s0, s1, s2, s3, s4, s5⟩ := HC.out w hw
           go_simp
           rfl
         simp only [Act.put, List.setIfInBounds_toArray, List.set_cons_zero, List.set_cons_succ]
         go_big_quiet_on)
      | (go_big_quiet_want
         refine Qt.call (v := .bool true) (f := 87) (args := #[.agg #[.int .i64 x0, .int .i64 x1, .int .i64 x2, .int .i64 x3, .int .i64 x4, .int .i64 x5]]) (fun w hw => ?_) (fun w hw => ?_) ?_
         · go_simp
         · refine (spec_isMandate_any x0 x1 x2 x3 x4 x5 _).mono ?_
           rintro e w1 ⟨rfl, hb1⟩
           rw [HO.out]
           exact ⟨rfl, hw.then hb1⟩
         simp only [Act.put, List.setIfInBounds_toArray, List.set_cons_zero, List.set_cons_succ]
         go_big_quiet_on)
      | (go_big_quiet_want
         refine Qt.call (v := .int .i64 ω) (f := 75) (args := #[.slice p n c, .int .i64 x4]) (fun w hw => ?_) (fun w hw => ?_) ?_
         · go_simp
         · refine (spec_ownerOf_any p n c xs x4 _ (HK.out.below (below_on HB.out hw))).mono ?_
           rintro e w1 ⟨rfl, hb1⟩
           rw [HW.out]
           exact ⟨rfl, hw.then hb1⟩
         simp only [Act.put, List.setIfInBounds_toArray, List.set_cons_zero, List.set_cons_succ]
         go_big_quiet_on))
    refine wpQuiet_nil ?_
    intro w2 hw2
    have HW2 := Lib.hid (below_on HB.out hw2)
    clear hw2
    go_wp2_with fail
    go_ret
    exact says (by rw [HS.out]) HW2.out
  have HS : Hid (chk xs (x0, x1, x2, x3, x4, x5) = checkM xs x4 [105, x0, x1, x2, x3, x4] x5) := Lib.hid (by rw [hs1, decide_eq_true ho]; rfl)
  clear hs1
  have HRA : Hid (∀ w', Below w.heap.size w w' → RdS SlKey.E w' p n xs) := Lib.hid fun w' hb => HK.out.below hb
  subst ho
  go_enter Try.func60, Try.ntmps60
  go_wp2_with fail
  generalize (w.alloc (.cells #[.int .i64 ω, .int .i64 x1, .int .i64 x2, .int .i64 x3, .int .i64 x4, .int .i64 x5] 86)) = V at HX HB ⊢
  go_region_held3 (fun w' => w'.cell? ⟨w.heap.size, 0, none⟩ = some (.int .i64 ω) ∧ w'.cell? ⟨w.heap.size, 1, none⟩ = some (.int .i64 x1) ∧ w'.cell? ⟨w.heap.size, 2, none⟩ = some (.int .i64 x2) ∧ w'.cell? ⟨w.heap.size, 3, none⟩ = some (.int .i64 x3) ∧ w'.cell? ⟨w.heap.size, 4, none⟩ = some (.int .i64 x4) ∧ w'.cell? ⟨w.heap.size, 5, none⟩ = some (.int .i64 x5)) (first | exact bxc HX4.out | exact bxc HX3.out | exact bxc HX2.out | exact bxc HX1.out | exact bxc HX.out.drew1 | go_keep) (first
    | (go_at_call 87; (with_reducible refine (spec_isMandate_any ω x1 x2 x3 x4 x5 _).mono ?_); rintro e w1 ⟨rfl, hb⟩; rw [HO.out]; have HX1 := Lib.hid (HX.out.drew1.below hb); have HB1 := Lib.hid (below_on HB.out (drewOn hb)); clear hb)
    | (go_at_call 75; (with_reducible refine (spec_ownerOf_any p n c xs x4 _ (HRA.out _ HB1.out)).mono ?_); rintro e w2 ⟨rfl, hb⟩; rw [HW.out]; have HX2 := Lib.hid (HX1.out.below hb); have HB2 := Lib.hid (below_on HB1.out hb); clear hb)
    | (go_at_call 89; (with_reducible refine (spec_mandateInts_any ω x1 x2 x3 x4 x5 _ G0.out G1.out G2.out G3.out G4.out G5.out).mono ?_); rintro e w3 ⟨p2, n2, c2, rfl, ho, hb⟩; have HO2 := Lib.hid ho; have hn2 : n2 ≤ 6 := Nat.le_of_eq ho.len.symm; have HX3 := Lib.hid (HX2.out.below hb); have HB3 := Lib.hid (below_on HB2.out hb); clear ho hb)
    | (go_at_call 88; (with_reducible refine (spec_checkMark_any p n c xs hR x4 p2 n2 c2 [105, ω, x1, x2, x3, x4] x5 _ (HRA.out _ HB3.out) HO2.out.rd (by omega)).mono ?_); rintro e w4 ⟨rfl, hb⟩; have HX4 := Lib.hid (HX3.out.below hb); have HB4 := Lib.hid (below_on HB3.out hb); clear hb))
  all_goals
    go_wp2_with fail
    go_ret
    exact says (by rw [HS.out]) HB4.out
end Go.Proofs.Ytjoeacdoblgncaa.MMandate
