/- Whether a renewal checks, in the program. -/
import Derived.Test.YtnkpioaaabnlcaaCr1
import Derived.Test.YtnkpioaaabnlcaaQt
import Derived.Test.YtnkpioaaabnlcaaInt
import Derived.Outline
namespace Go.Proofs.Ytnkpioaaabnlcaa.Cr2
open Go.ChangeShapes Go.WideShapes Go.ChangeAt Go.RowKit Sl St Ed Dz Es Fnd Cr1
theorem five {w : World} {g : Nat} {T : TypeId} {y0 y1 y2 y3 y4 : Value} (h : Bx w g T #[y0, y1, y2, y3, y4]) : w.cell? ⟨g, 1, none⟩ = some y1 ∧ w.cell? ⟨g, 2, none⟩ = some y2 ∧ w.cell? ⟨g, 3, none⟩ = some y3 ∧ w.cell? ⟨g, 4, none⟩ = some y4 := ⟨h.cell rfl, h.cell rfl, h.cell rfl, h.cell rfl⟩
set_option maxRecDepth 100000 in
set_option maxHeartbeats 8000000 in
theorem check_any (ks : List I5) (pk : Option Addr) (nk ck : Nat) (us : List I3) (pa : Option Addr) (na ca : Nat) (r0 r1 root : Int) (l3 : List (Int × Bool)) (p3 : Option Addr) (n3 c3 : Nat) (l4 : List I5) (p4 : Option Addr) (n4 c4 : Nat) (leaf : Int) (hr1 : InI r1) (hlf : InI leaf) {SK SA S3 S4 : Nat → Prop} (w : World) (hk : RdD (flat SlKey.E SlKey.InR) SK w pk nk ks) (ha : RdD (flat SlAuthority.E SlAuthority.InR) SA w pa na us) (h3 : RdD (flat SlStep.E SlStep.InR) S3 w p3 n3 l3) (h4 : RdD (flat SlStamp.E SlStamp.InR) S4 w p4 n4 l4) : Calls Try.prog 20 #[.slice pk nk ck, .slice pa na ca, .agg #[.int .i64 r0, .int .i64 r1, .int .i64 root, .slice p3 n3 c3, .slice p4 n4 c4], .int .i64 leaf] w (Val (.bool (chk ks us (r0, r1, root, l3, l4) leaf)) w) := by
  have hb : Below w.heap.size w (((w.alloc (.cells #[.slice pk nk ck] 48)).alloc (.cells #[.slice pa na ca] 50)).alloc (.cells #[.int .i64 r0, .int .i64 r1, .int .i64 root, .slice p3 n3 c3, .slice p4 n4 c4] 55)) := ((box1 w _).alloc (by simp) _).alloc (by simp; omega) _
  have x1 := ((Bx.new w 48 #[.slice pk nk ck]).alloc (.cells #[.slice pa na ca] 50)).alloc (.cells #[.int .i64 r0, .int .i64 r1, .int .i64 root, .slice p3 n3 c3, .slice p4 n4 c4] 55)
  have x2 := (Bx.new (w.alloc (.cells #[.slice pk nk ck] 48)) 50 #[.slice pa na ca]).alloc (.cells #[.int .i64 r0, .int .i64 r1, .int .i64 root, .slice p3 n3 c3, .slice p4 n4 c4] 55)
  have x3 := Bx.new ((w.alloc (.cells #[.slice pk nk ck] 48)).alloc (.cells #[.slice pa na ca] 50)) 55 #[.int .i64 r0, .int .i64 r1, .int .i64 root, .slice p3 n3 c3, .slice p4 n4 c4]
  rw [World.size_alloc] at x2
  rw [World.size_alloc, World.size_alloc] at x3
  have HBV := Lib.hid hb
  have HGK := Lib.hid x1
  have HGA := Lib.hid x2
  have HGR := Lib.hid x3
  have HK := Lib.hid (hk.below hb)
  have HA := Lib.hid (ha.below hb)
  have H3 := Lib.hid (h3.below hb)
  have H4 := Lib.hid (h4.below hb)
  have HCQ := Lib.hid (chk_eq (ks := ks) (us := us) (r0 := r0) (r1 := r1) (root := root) (leaf := leaf) h3.len h4.len)
  have hle3 := h3.le
  have hle4 := h4.le
  have HR1 : Hid (InI r1) := Lib.hid hr1
  have HLF : Hid (InI leaf) := Lib.hid hlf
  clear hb x1 x2 x3 hk ha h3 h4 hr1 hlf
  obtain ⟨φ, hφ⟩ : ∃ z, Fp.fp r1 leaf l3 = z := ⟨_, rfl⟩
  rw [hφ] at HCQ
  have HF := Lib.hid hφ
  obtain ⟨β4, hβ4⟩ : ∃ z, asc l4 = z := ⟨_, rfl⟩
  rw [hβ4] at HCQ
  have HB4 := Lib.hid hβ4
  obtain ⟨β5, hβ5⟩ : ∃ z, l4.any (bad ks us root) = z := ⟨_, rfl⟩
  rw [hβ5] at HCQ
  have HB5 := Lib.hid hβ5
  clear hφ hβ4 hβ5
  by_cases h3 : (n3 : Int) ≤ 4
  rotate_left
  · have HS : Hid (chk ks us (r0, r1, root, l3, l4) leaf = false) := Lib.hid (by rw [HCQ.out, decide_eq_false h3]; rfl)
    have t3 : decide ((n3 : Int) ≤ 4) = false := decide_eq_false h3
    clear h3
    go_enter Try.func20, Try.ntmps20
    go_wp2_with fail
    generalize (((w.alloc (.cells #[.slice pk nk ck] 48)).alloc (.cells #[.slice pa na ca] 50)).alloc (.cells #[.int .i64 r0, .int .i64 r1, .int .i64 root, .slice p3 n3 c3, .slice p4 n4 c4] 55)) = V at HBV HGK HGA HGR HK HA H3 H4 ⊢
    have HC : Hid (∀ w', Qt.Keeps (V) w' → w'.cell? ⟨w.heap.size + 1 + 1, 1, none⟩ = some (.int .i64 r1) ∧ w'.cell? ⟨w.heap.size + 1 + 1, 2, none⟩ = some (.int .i64 root) ∧ w'.cell? ⟨w.heap.size + 1 + 1, 3, none⟩ = some (.slice p3 n3 c3) ∧ w'.cell? ⟨w.heap.size + 1 + 1, 4, none⟩ = some (.slice p4 n4 c4)) := Lib.hid fun w' hw => five (HGR.out.below hw)
    refine Qt.region (Qt.Keeps (V)) (by kernel_rfl) (by kernel_rfl) (Qt.Keeps.drew _) ?_
    repeat (first
      | go_big_quiet_skip
      | (go_big_quiet_want
         refine Qt.val (v := ?_) (fun w hw => ?_) ?_
         rotate_left
         · obtain ⟨s1, s2, s3, s4⟩ := HC.out w hw
           go_simp
           rfl
         simp only [Act.put, List.setIfInBounds_toArray, List.set_cons_zero, List.set_cons_succ]
         go_big_quiet_on))
    refine wpQuiet_nil ?_
    intro w2 hw2
    have HB2 := Lib.hid (below_on HBV.out hw2)
    clear hw2
    go_wp2_with fail
    go_ret
    exact val_of (by rw [HS.out]; first | done | rfl) HB2.out
  have t3 : decide ((n3 : Int) ≤ 4) = true := decide_eq_true h3
  by_cases he : φ = root
  rotate_left
  · have HS : Hid (chk ks us (r0, r1, root, l3, l4) leaf = false) := Lib.hid (by rw [HCQ.out, decide_eq_true h3, decide_eq_false he]; rfl)
    have e1 : (φ == root) = false := beq_eq_false_iff_ne.2 he
    have e2 : (φ != root) = true := bne_iff_ne.2 he
    clear he
    go_enter Try.func20, Try.ntmps20
    go_wp2_with fail
    generalize (((w.alloc (.cells #[.slice pk nk ck] 48)).alloc (.cells #[.slice pa na ca] 50)).alloc (.cells #[.int .i64 r0, .int .i64 r1, .int .i64 root, .slice p3 n3 c3, .slice p4 n4 c4] 55)) = V at HBV HGK HGA HGR HK HA H3 H4 ⊢
    have HC : Hid (∀ w', Qt.Keeps (V) w' → w'.cell? ⟨w.heap.size + 1 + 1, 1, none⟩ = some (.int .i64 r1) ∧ w'.cell? ⟨w.heap.size + 1 + 1, 2, none⟩ = some (.int .i64 root) ∧ w'.cell? ⟨w.heap.size + 1 + 1, 3, none⟩ = some (.slice p3 n3 c3) ∧ w'.cell? ⟨w.heap.size + 1 + 1, 4, none⟩ = some (.slice p4 n4 c4)) := Lib.hid fun w' hw => five (HGR.out.below hw)
    refine Qt.region (Qt.Keeps (V)) (by kernel_rfl) (by kernel_rfl) (Qt.Keeps.drew _) ?_
    repeat (first
      | go_big_quiet_skip
      | (go_big_quiet_want
         refine Qt.val (v := ?_) (fun w hw => ?_) ?_
         rotate_left
         · obtain ⟨s1, s2, s3, s4⟩ := HC.out w hw
           go_simp
           rfl
         simp only [Act.put, List.setIfInBounds_toArray, List.set_cons_zero, List.set_cons_succ]
         go_big_quiet_on)
      | (go_big_quiet_want
         refine Qt.call (v := .int .i64 φ) (f := 46) (args := #[.int .i64 r1, .int .i64 leaf, .slice p3 n3 c3]) (fun w hw => ?_) (fun w hw => ?_) ?_
         · go_simp
         · refine (Fp.follow_any r1 leaf _ _ _ l3 _ (H3.out.below hw).rdS H3.out.allP HR1.out HLF.out).mono ?_
           rintro e w1 ⟨rfl, hb1⟩
           rw [HF.out]
           exact ⟨rfl, hw.then hb1⟩
         simp only [Act.put, List.setIfInBounds_toArray, List.set_cons_zero, List.set_cons_succ]
         go_big_quiet_on))
    refine wpQuiet_nil ?_
    intro w2 hw2
    have HB2 := Lib.hid (below_on HBV.out hw2)
    clear hw2
    go_wp2_with fail
    go_ret
    exact val_of (by rw [HS.out]; first | done | rfl) HB2.out
  have e1 : (φ == root) = true := beq_iff_eq.2 he
  have e2 : (φ != root) = false := by rw [he]; simp
  have HE := Lib.hid he
  clear he
  by_cases h4 : 1 ≤ (n4 : Int) ∧ (n4 : Int) ≤ 6
  rotate_left
  · have HS : Hid (chk ks us (r0, r1, root, l3, l4) leaf = false) := Lib.hid (by rw [HCQ.out, decide_eq_true h3, decide_eq_true HE.out, decide_eq_false h4]; rfl)
    have HT3 : Hid (decide (1 ≤ (n4 : Int) ∧ (n4 : Int) ≤ 6) = false) := Lib.hid (decide_eq_false h4)
    clear h4
    go_enter Try.func20, Try.ntmps20
    go_wp2_with fail
    generalize (((w.alloc (.cells #[.slice pk nk ck] 48)).alloc (.cells #[.slice pa na ca] 50)).alloc (.cells #[.int .i64 r0, .int .i64 r1, .int .i64 root, .slice p3 n3 c3, .slice p4 n4 c4] 55)) = V at HBV HGK HGA HGR HK HA H3 H4 ⊢
    have HC : Hid (∀ w', Qt.Keeps (V) w' → w'.cell? ⟨w.heap.size + 1 + 1, 1, none⟩ = some (.int .i64 r1) ∧ w'.cell? ⟨w.heap.size + 1 + 1, 2, none⟩ = some (.int .i64 root) ∧ w'.cell? ⟨w.heap.size + 1 + 1, 3, none⟩ = some (.slice p3 n3 c3) ∧ w'.cell? ⟨w.heap.size + 1 + 1, 4, none⟩ = some (.slice p4 n4 c4)) := Lib.hid fun w' hw => five (HGR.out.below hw)
    refine Qt.region (Qt.Keeps (V)) (by kernel_rfl) (by kernel_rfl) (Qt.Keeps.drew _) ?_
    repeat (first
      | go_big_quiet_skip
      | (go_big_quiet_want
         refine Qt.val (v := ?_) (fun w hw => ?_) ?_
         rotate_left
         · obtain ⟨s1, s2, s3, s4⟩ := HC.out w hw
           go_simp
           rfl
         simp only [Act.put, List.setIfInBounds_toArray, List.set_cons_zero, List.set_cons_succ]
         go_big_quiet_on)
      | (go_big_quiet_want
         refine Qt.call (v := .int .i64 φ) (f := 46) (args := #[.int .i64 r1, .int .i64 leaf, .slice p3 n3 c3]) (fun w hw => ?_) (fun w hw => ?_) ?_
         · go_simp
         · refine (Fp.follow_any r1 leaf _ _ _ l3 _ (H3.out.below hw).rdS H3.out.allP HR1.out HLF.out).mono ?_
           rintro e w1 ⟨rfl, hb1⟩
           rw [HF.out]
           exact ⟨rfl, hw.then hb1⟩
         simp only [Act.put, List.setIfInBounds_toArray, List.set_cons_zero, List.set_cons_succ]
         go_big_quiet_on)
      | (go_big_quiet_want
         refine Qt.call (v := .bool false) (f := 33) (args := #[.int .i64 n4, .int .i64 1, .int .i64 6]) (fun w hw => ?_) (fun w hw => ?_) ?_
         · go_simp
         · refine (Ints.inRange_any n4 1 6 _ HT3.out _).mono ?_
           rintro e w1 ⟨rfl, rfl⟩
           exact ⟨rfl, hw⟩
         simp only [Act.put, List.setIfInBounds_toArray, List.set_cons_zero, List.set_cons_succ]
         go_big_quiet_on))
    refine wpQuiet_nil ?_
    intro w2 hw2
    have HB2 := Lib.hid (below_on HBV.out hw2)
    clear hw2
    go_wp2_with fail
    go_ret
    exact val_of (by rw [HS.out]; first | done | rfl) HB2.out
  have HT3 : Hid (decide (1 ≤ (n4 : Int) ∧ (n4 : Int) ≤ 6) = true) := Lib.hid (decide_eq_true h4)
  have HS1 : Hid (chk ks us (r0, r1, root, l3, l4) leaf = (β4 && !β5)) := Lib.hid (by rw [HCQ.out, decide_eq_true h3, decide_eq_true HE.out, HT3.out, Bool.true_and, Bool.true_and, Bool.true_and])
  clear h4
  cases β4
  · have HS : Hid (chk ks us (r0, r1, root, l3, l4) leaf = false) := HS1
    go_enter Try.func20, Try.ntmps20
    go_wp2_with fail
    generalize (((w.alloc (.cells #[.slice pk nk ck] 48)).alloc (.cells #[.slice pa na ca] 50)).alloc (.cells #[.int .i64 r0, .int .i64 r1, .int .i64 root, .slice p3 n3 c3, .slice p4 n4 c4] 55)) = V at HBV HGK HGA HGR HK HA H3 H4 ⊢
    have HC : Hid (∀ w', Qt.Keeps (V) w' → w'.cell? ⟨w.heap.size + 1 + 1, 1, none⟩ = some (.int .i64 r1) ∧ w'.cell? ⟨w.heap.size + 1 + 1, 2, none⟩ = some (.int .i64 root) ∧ w'.cell? ⟨w.heap.size + 1 + 1, 3, none⟩ = some (.slice p3 n3 c3) ∧ w'.cell? ⟨w.heap.size + 1 + 1, 4, none⟩ = some (.slice p4 n4 c4)) := Lib.hid fun w' hw => five (HGR.out.below hw)
    refine Qt.region (Qt.Keeps (V)) (by kernel_rfl) (by kernel_rfl) (Qt.Keeps.drew _) ?_
    repeat (first
      | go_big_quiet_skip
      | (go_big_quiet_want
         refine Qt.val (v := ?_) (fun w hw => ?_) ?_
         rotate_left
         · obtain ⟨s1, s2, s3, s4⟩ := HC.out w hw
           go_simp
           rfl
         simp only [Act.put, List.setIfInBounds_toArray, List.set_cons_zero, List.set_cons_succ]
         go_big_quiet_on)
      | (go_big_quiet_want
         refine Qt.call (v := .int .i64 φ) (f := 46) (args := #[.int .i64 r1, .int .i64 leaf, .slice p3 n3 c3]) (fun w hw => ?_) (fun w hw => ?_) ?_
         · go_simp
         · refine (Fp.follow_any r1 leaf _ _ _ l3 _ (H3.out.below hw).rdS H3.out.allP HR1.out HLF.out).mono ?_
           rintro e w1 ⟨rfl, hb1⟩
           rw [HF.out]
           exact ⟨rfl, hw.then hb1⟩
         simp only [Act.put, List.setIfInBounds_toArray, List.set_cons_zero, List.set_cons_succ]
         go_big_quiet_on)
      | (go_big_quiet_want
         refine Qt.call (v := .bool true) (f := 33) (args := #[.int .i64 n4, .int .i64 1, .int .i64 6]) (fun w hw => ?_) (fun w hw => ?_) ?_
         · go_simp
         · refine (Ints.inRange_any n4 1 6 _ HT3.out _).mono ?_
           rintro e w1 ⟨rfl, rfl⟩
           exact ⟨rfl, hw⟩
         simp only [Act.put, List.setIfInBounds_toArray, List.set_cons_zero, List.set_cons_succ]
         go_big_quiet_on)
      | (go_big_quiet_want
         refine Qt.call (v := .bool false) (f := 47) (args := #[.slice p4 n4 c4]) (fun w hw => ?_) (fun w hw => ?_) ?_
         · go_simp
         · refine (asc_any l4 _ _ _ _ (H4.out.below hw)).mono ?_
           rintro e w1 ⟨rfl, hb1⟩
           rw [HB4.out]
           exact ⟨rfl, hw.then hb1⟩
         simp only [Act.put, List.setIfInBounds_toArray, List.set_cons_zero, List.set_cons_succ]
         go_big_quiet_on))
    refine wpQuiet_nil ?_
    intro w2 hw2
    have HB2 := Lib.hid (below_on HBV.out hw2)
    clear hw2
    go_wp2_with fail
    go_ret
    exact val_of (by rw [HS.out]; first | done | rfl) HB2.out
  · have HS : Hid (chk ks us (r0, r1, root, l3, l4) leaf = !β5) := HS1
    go_enter Try.func20, Try.ntmps20
    go_wp2_with fail
    generalize (((w.alloc (.cells #[.slice pk nk ck] 48)).alloc (.cells #[.slice pa na ca] 50)).alloc (.cells #[.int .i64 r0, .int .i64 r1, .int .i64 root, .slice p3 n3 c3, .slice p4 n4 c4] 55)) = V at HBV HGK HGA HGR HK HA H3 H4 ⊢
    have HC : Hid (∀ w', Qt.Keeps (V) w' → w'.cell? ⟨w.heap.size + 1 + 1, 1, none⟩ = some (.int .i64 r1) ∧ w'.cell? ⟨w.heap.size + 1 + 1, 2, none⟩ = some (.int .i64 root) ∧ w'.cell? ⟨w.heap.size + 1 + 1, 3, none⟩ = some (.slice p3 n3 c3) ∧ w'.cell? ⟨w.heap.size + 1 + 1, 4, none⟩ = some (.slice p4 n4 c4)) := Lib.hid fun w' hw => five (HGR.out.below hw)
    refine Qt.region (Qt.Keeps (V)) (by kernel_rfl) (by kernel_rfl) (Qt.Keeps.drew _) ?_
    repeat (first
      | go_big_quiet_skip
      | (go_big_quiet_want
         refine Qt.val (v := ?_) (fun w hw => ?_) ?_
         rotate_left
         · obtain ⟨s1, s2, s3, s4⟩ := HC.out w hw
           go_simp
           rfl
         simp only [Act.put, List.setIfInBounds_toArray, List.set_cons_zero, List.set_cons_succ]
         go_big_quiet_on)
      | (go_big_quiet_want
         refine Qt.call (v := .int .i64 φ) (f := 46) (args := #[.int .i64 r1, .int .i64 leaf, .slice p3 n3 c3]) (fun w hw => ?_) (fun w hw => ?_) ?_
         · go_simp
         · refine (Fp.follow_any r1 leaf _ _ _ l3 _ (H3.out.below hw).rdS H3.out.allP HR1.out HLF.out).mono ?_
           rintro e w1 ⟨rfl, hb1⟩
           rw [HF.out]
           exact ⟨rfl, hw.then hb1⟩
         simp only [Act.put, List.setIfInBounds_toArray, List.set_cons_zero, List.set_cons_succ]
         go_big_quiet_on)
      | (go_big_quiet_want
         refine Qt.call (v := .bool true) (f := 33) (args := #[.int .i64 n4, .int .i64 1, .int .i64 6]) (fun w hw => ?_) (fun w hw => ?_) ?_
         · go_simp
         · refine (Ints.inRange_any n4 1 6 _ HT3.out _).mono ?_
           rintro e w1 ⟨rfl, rfl⟩
           exact ⟨rfl, hw⟩
         simp only [Act.put, List.setIfInBounds_toArray, List.set_cons_zero, List.set_cons_succ]
         go_big_quiet_on)
      | (go_big_quiet_want
         refine Qt.call (v := .bool true) (f := 47) (args := #[.slice p4 n4 c4]) (fun w hw => ?_) (fun w hw => ?_) ?_
         · go_simp
         · refine (asc_any l4 _ _ _ _ (H4.out.below hw)).mono ?_
           rintro e w1 ⟨rfl, hb1⟩
           rw [HB4.out]
           exact ⟨rfl, hw.then hb1⟩
         simp only [Act.put, List.setIfInBounds_toArray, List.set_cons_zero, List.set_cons_succ]
         go_big_quiet_on)
      | (go_big_quiet_want
         refine Qt.call (v := .bool β5) (f := 48) (args := #[.slice p4 n4 c4, .func (.func 49) #[] #[.pointer (some ⟨w.heap.size + 1 + 1, 0, none⟩), .pointer (some ⟨w.heap.size, 0, none⟩), .pointer (some ⟨w.heap.size + 1, 0, none⟩)]]) (fun w hw => ?_) (fun w hw => ?_) ?_
         · go_simp
         · refine (contains_any _ _ _ ks _ _ _ us _ _ _ r0 r1 root _ _ _ _ _ _ l4 _ _ _ _ (HK.out.below hw) (HA.out.below hw) (HGR.out.below hw) (HGK.out.below hw) (HGA.out.below hw) (H4.out.below hw)).mono ?_
           rintro e w1 ⟨rfl, hb1⟩
           rw [HB5.out]
           exact ⟨rfl, hw.then hb1⟩
         simp only [Act.put, List.setIfInBounds_toArray, List.set_cons_zero, List.set_cons_succ]
         go_big_quiet_on))
    refine wpQuiet_nil ?_
    intro w2 hw2
    have HB2 := Lib.hid (below_on HBV.out hw2)
    clear hw2
    go_wp2_with fail
    go_ret
    exact val_of (by rw [HS.out]; first | done | rfl) HB2.out
end Go.Proofs.Ytnkpioaaabnlcaa.Cr2
