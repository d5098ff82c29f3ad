/- Contracts of stamps, made, in the reference. -/
import Derived.Test.YtbjocgnogcnedaaKStamp
namespace Go.Proofs.Ytbjocgnogcnedaa.KStampS
open Go.ChangeShapes Go.WideShapes Go.ChangeAt Go.RowKit Go.Shelf Sl St Fnd Kn Kr Ki Km Ko SlStamp Ti KStamp
set_option maxRecDepth 100000 in
set_option maxHeartbeats 8000000 in
theorem spec_make_any (p : Option Addr) (n c : Nat) (xs : List I5) (hR : ∀ x ∈ xs, SlKey.InR x) (q : Option Addr) (m c' : Nat) (us : List I3) (x0 x1 x2 x3 x4 : Int) (h0 : -9223372036854775808 ≤ x0 ∧ x0 ≤ 9223372036854775807) (h1 : -9223372036854775808 ≤ x1 ∧ x1 ≤ 9223372036854775807) (h2 : -9223372036854775808 ≤ x2 ∧ x2 ≤ 9223372036854775807) (h3 : -9223372036854775808 ≤ x3 ∧ x3 ≤ 9223372036854775807) (h4 : -9223372036854775808 ≤ x4 ∧ x4 ≤ 9223372036854775807) (y0 y1 y2 y3 y4 : Int) (b : Bool) (hM : mkd xs us (x0, x1, x2, x3, x4) = ((y0, y1, y2, y3, y4), b)) (w : World) (hr : RdS SlKey.E w p n xs) (hs : RdS SlAuthority.E w q m us) : Calls Try.prog 37 #[.slice p n c, .slice q m c', .agg #[.int .i64 x0, .int .i64 x1, .int .i64 x2, .int .i64 x3, .int .i64 x4]] w (Made (.agg #[.int .i64 y0, .int .i64 y1, .int .i64 y2, .int .i64 y3, .int .i64 y4]) b w) := by
  have HK := Lib.hid hr
  have HL := Lib.hid hs
  have hl := hr.len
  have hle := hr.le
  have hl' := hs.len
  have hle' := hs.le
  have hY : Bx ((w.alloc (.cells #[.int .i64 x0, .int .i64 x1, .int .i64 x2, .int .i64 x3, .int .i64 x4] 67)).alloc (.cells #[.int .i64 0, .int .i64 0, .int .i64 0, .int .i64 0, .int .i64 0] 67)) (w.heap.size + 1) 67 #[.int .i64 0, .int .i64 0, .int .i64 0, .int .i64 0, .int .i64 0] := by
    have h := Bx.new (w.alloc (.cells #[.int .i64 x0, .int .i64 x1, .int .i64 x2, .int .i64 x3, .int .i64 x4] 67)) 67 #[.int .i64 0, .int .i64 0, .int .i64 0, .int .i64 0, .int .i64 0]
    rw [World.size_alloc] at h
    exact h
  have HX := Lib.hid ((Bx.new w 67 #[.int .i64 x0, .int .i64 x1, .int .i64 x2, .int .i64 x3, .int .i64 x4]).alloc (.cells #[.int .i64 0, .int .i64 0, .int .i64 0, .int .i64 0, .int .i64 0] 67))
  have HY := Lib.hid hY
  have HB : Hid (Below w.heap.size w ((w.alloc (.cells #[.int .i64 x0, .int .i64 x1, .int .i64 x2, .int .i64 x3, .int .i64 x4] 67)).alloc (.cells #[.int .i64 0, .int .i64 0, .int .i64 0, .int .i64 0, .int .i64 0] 67))) := Lib.hid (((Below.refl _ _).alloc (Nat.le_refl _) _).alloc (by simp) _)
  rcases ha : Ao.aut us x0 with ⟨⟨a0, a1, a2⟩, b0⟩
  have hok := ok_eq (xs := xs) (x1 := x1) (x2 := x2) ha
  have hme := mark_eq (xs := xs) (l := [103, x0, x1, x2, x3]) ha
  have G0 := Lib.hid h0
  have G1 := Lib.hid h1
  have G2 := Lib.hid h2
  have G3 := Lib.hid h3
  have G4 := Lib.hid h4
  clear h0 h1 h2 h3 h4 hr hY hs
  rcases Ao.aut_cases us x0 ha with ⟨k, g1, g2, g3, g4⟩ | ⟨g2, g3, g4, g5, g6⟩
  rotate_left
  · subst g6
    have HF := Lib.hid g2
    have hM' := (mkd_no (xs := xs) (us := us) (by rw [hok]; rfl)).symm.trans hM
    cases hM'
    clear hM hok hme ha g2 g3 g4 g5 hl hl'
    go_enter Try.func37, Try.ntmps37
    go_wp2_with fail
    generalize ((w.alloc (.cells #[.int .i64 x0, .int .i64 x1, .int .i64 x2, .int .i64 x3, .int .i64 x4] 67)).alloc (.cells #[.int .i64 0, .int .i64 0, .int .i64 0, .int .i64 0, .int .i64 0] 67)) = V at HX HY HB  ⊢
    refine (FAuthority.spec_find_any _ m c' us x0 _ (HL.out.below HB.out)).mono ?_
    rintro e w1 ⟨rfl, rfl⟩
    rw [HF.out]
    obtain ⟨cc0, cc1, cc2, cc3, cc4⟩ := bxc HX.out
    obtain ⟨q0, q1, q2, q3, q4⟩ := bxc HY.out
    have f0 := HY.out.free 0
    have f1 := HY.out.free 1
    have f2 := HY.out.free 2
    have f3 := HY.out.free 3
    have f4 := HY.out.free 4
    go_wp2_with fail
    refine bodyPost_ret (v := .tuple #[.agg #[.int .i64 0, .int .i64 0, .int .i64 0, .int .i64 0, .int .i64 0], .bool false]) ?_ rfl ?_
    · simp [results, Try.results37, go_sem, q0, q1, q2, q3, q4]
    · exact ⟨rfl, (((((HB.out).setCell (p := ⟨w.heap.size + 1, 0, none⟩) (by simp) _).setCell (p := ⟨w.heap.size + 1, 1, none⟩) (by simp) _).setCell (p := ⟨w.heap.size + 1, 2, none⟩) (by simp) _).setCell (p := ⟨w.heap.size + 1, 3, none⟩) (by simp) _).setCell (p := ⟨w.heap.size + 1, 4, none⟩) (by simp) _⟩
  subst g4
  have HF := Lib.hid g2
  have hkm : k < m := by omega
  by_cases h1 : 0 ≤ x1
  rotate_left
  · have hM' := (mkd_no (xs := xs) (us := us) (by rw [hok, decide_eq_false h1]; simp)).symm.trans hM
    cases hM'
    have h1' : x1 < 0 := by omega
    clear hM hok hme ha g1 g2 g3 hl hl' h1
    go_enter Try.func37, Try.ntmps37
    go_wp2_with fail
    generalize ((w.alloc (.cells #[.int .i64 x0, .int .i64 x1, .int .i64 x2, .int .i64 x3, .int .i64 x4] 67)).alloc (.cells #[.int .i64 0, .int .i64 0, .int .i64 0, .int .i64 0, .int .i64 0] 67)) = V at HX HY HB  ⊢
    refine (FAuthority.spec_find_any _ m c' us x0 _ (HL.out.below HB.out)).mono ?_
    rintro e w1 ⟨rfl, rfl⟩
    rw [HF.out]
    obtain ⟨cc0, cc1, cc2, cc3, cc4⟩ := bxc HX.out
    obtain ⟨q0, q1, q2, q3, q4⟩ := bxc HY.out
    have f0 := HY.out.free 0
    have f1 := HY.out.free 1
    have f2 := HY.out.free 2
    have f3 := HY.out.free 3
    have f4 := HY.out.free 4
    go_wp2_with fail
    refine bodyPost_ret (v := .tuple #[.agg #[.int .i64 0, .int .i64 0, .int .i64 0, .int .i64 0, .int .i64 0], .bool false]) ?_ rfl ?_
    · simp [results, Try.results37, go_sem, q0, q1, q2, q3, q4]
    · exact ⟨rfl, (((((HB.out).setCell (p := ⟨w.heap.size + 1, 0, none⟩) (by simp) _).setCell (p := ⟨w.heap.size + 1, 1, none⟩) (by simp) _).setCell (p := ⟨w.heap.size + 1, 2, none⟩) (by simp) _).setCell (p := ⟨w.heap.size + 1, 3, none⟩) (by simp) _).setCell (p := ⟨w.heap.size + 1, 4, none⟩) (by simp) _⟩
  rcases hτ : inB x2 0 10000 with _ | _
  · have HT := Lib.hid hτ
    have hM' := (mkd_no (xs := xs) (us := us) (by rw [hok, hτ]; simp)).symm.trans hM
    cases hM'
    clear hM hok hme ha g1 g2 g3 hl hl' hτ
    go_enter Try.func37, Try.ntmps37
    go_wp2_with fail
    generalize ((w.alloc (.cells #[.int .i64 x0, .int .i64 x1, .int .i64 x2, .int .i64 x3, .int .i64 x4] 67)).alloc (.cells #[.int .i64 0, .int .i64 0, .int .i64 0, .int .i64 0, .int .i64 0] 67)) = V at HX HY HB  ⊢
    refine (FAuthority.spec_find_any _ m c' us x0 _ (HL.out.below HB.out)).mono ?_
    rintro e w1 ⟨rfl, rfl⟩
    rw [HF.out]
    obtain ⟨cc0, cc1, cc2, cc3, cc4⟩ := bxc HX.out
    go_wp2_with fail
    refine (time_any x2 _).mono ?_
    rintro e w1 ⟨rfl, rfl⟩
    rw [HT.out]
    obtain ⟨q0, q1, q2, q3, q4⟩ := bxc HY.out
    have f0 := HY.out.free 0
    have f1 := HY.out.free 1
    have f2 := HY.out.free 2
    have f3 := HY.out.free 3
    have f4 := HY.out.free 4
    go_wp2_with fail
    refine bodyPost_ret (v := .tuple #[.agg #[.int .i64 0, .int .i64 0, .int .i64 0, .int .i64 0, .int .i64 0], .bool false]) ?_ rfl ?_
    · simp [results, Try.results37, go_sem, q0, q1, q2, q3, q4]
    · exact ⟨rfl, (((((HB.out).setCell (p := ⟨w.heap.size + 1, 0, none⟩) (by simp) _).setCell (p := ⟨w.heap.size + 1, 1, none⟩) (by simp) _).setCell (p := ⟨w.heap.size + 1, 2, none⟩) (by simp) _).setCell (p := ⟨w.heap.size + 1, 3, none⟩) (by simp) _).setCell (p := ⟨w.heap.size + 1, 4, none⟩) (by simp) _⟩
  have HT := Lib.hid hτ
  have hrd := SlAuthority.rd_at (HL.out.below HB.out) hkm
  obtain ⟨bb, o, rfl, hbb, hat⟩ := hrd
  rw [show SlAuthority.zero = Ao.z3 from rfl, g3] at hat
  obtain ⟨t0, t1, t2⟩ := hat
  have i1 : (0 : Int) ≤ (k : Int) := by omega
  have i2 : (k : Int) < (m : Int) := by omega
  rcases ring_cases xs a1 with ⟨j, j1, j2, j3, _, _⟩ | ⟨j2, j3, _⟩
  rotate_left
  · have HF2 := Lib.hid j2
    have hM' := (mkd_no (xs := xs) (us := us) (by rw [hok, j3]; simp)).symm.trans hM
    cases hM'
    clear hM hok hme ha g1 g2 g3 hl hl' hτ j2 j3
    go_enter Try.func37, Try.ntmps37
    go_wp2_with fail
    generalize ((w.alloc (.cells #[.int .i64 x0, .int .i64 x1, .int .i64 x2, .int .i64 x3, .int .i64 x4] 67)).alloc (.cells #[.int .i64 0, .int .i64 0, .int .i64 0, .int .i64 0, .int .i64 0] 67)) = V at HX HY HB t0 t1 t2 hbb ⊢
    refine (FAuthority.spec_find_any _ m c' us x0 _ (HL.out.below HB.out)).mono ?_
    rintro e w1 ⟨rfl, rfl⟩
    rw [HF.out]
    obtain ⟨cc0, cc1, cc2, cc3, cc4⟩ := bxc HX.out
    go_wp2_with fail
    refine (time_any x2 _).mono ?_
    rintro e w1 ⟨rfl, rfl⟩
    rw [HT.out]
    go_wp2_with fail
    refine (FKey.spec_find_any p n c xs a1 _ (HK.out.below HB.out)).mono ?_
    rintro e w1 ⟨rfl, rfl⟩
    rw [HF2.out]
    obtain ⟨q0, q1, q2, q3, q4⟩ := bxc HY.out
    have f0 := HY.out.free 0
    have f1 := HY.out.free 1
    have f2 := HY.out.free 2
    have f3 := HY.out.free 3
    have f4 := HY.out.free 4
    go_wp2_with fail
    refine bodyPost_ret (v := .tuple #[.agg #[.int .i64 0, .int .i64 0, .int .i64 0, .int .i64 0, .int .i64 0], .bool false]) ?_ rfl ?_
    · simp [results, Try.results37, go_sem, q0, q1, q2, q3, q4]
    · exact ⟨rfl, (((((HB.out).setCell (p := ⟨w.heap.size + 1, 0, none⟩) (by simp) _).setCell (p := ⟨w.heap.size + 1, 1, none⟩) (by simp) _).setCell (p := ⟨w.heap.size + 1, 2, none⟩) (by simp) _).setCell (p := ⟨w.heap.size + 1, 3, none⟩) (by simp) _).setCell (p := ⟨w.heap.size + 1, 4, none⟩) (by simp) _⟩
  have HF2 := Lib.hid j2
  have hjn : j < n := by omega
  obtain ⟨_, _, k2, _, k4⟩ := inr_at hR j1
  have HMR : Hid (markR xs a1 [103, x0, x1, x2, x3] = markW (xs.getD j z5) [103, x0, x1, x2, x3]) := Lib.hid (by unfold markR; rw [j3])
  have hM' := (mkd_yes (xs := xs) (us := us) (by rw [hok, j3, decide_eq_true h1, hτ]; rfl)).symm.trans hM
  rw [hme] at hM'
  cases hM'
  have K2' := Lib.hid k2
  have K4' := Lib.hid k4
  clear hM hok hme ha g1 g2 g3 hl hl' hτ j1 j2 j3 k2 k4
  go_enter Try.func37, Try.ntmps37
  go_wp2_with fail
  generalize ((w.alloc (.cells #[.int .i64 x0, .int .i64 x1, .int .i64 x2, .int .i64 x3, .int .i64 x4] 67)).alloc (.cells #[.int .i64 0, .int .i64 0, .int .i64 0, .int .i64 0, .int .i64 0] 67)) = V at HX HY HB t0 t1 t2 hbb ⊢
  refine (FAuthority.spec_find_any _ m c' us x0 _ (HL.out.below HB.out)).mono ?_
  rintro e w1 ⟨rfl, rfl⟩
  rw [HF.out]
  obtain ⟨cc0, cc1, cc2, cc3, cc4⟩ := bxc HX.out
  go_wp2_with fail
  refine (time_any x2 _).mono ?_
  rintro e w1 ⟨rfl, rfl⟩
  rw [HT.out]
  go_wp2_with fail
  refine (FKey.spec_find_any p n c xs a1 _ (HK.out.below HB.out)).mono ?_
  rintro e w1 ⟨rfl, rfl⟩
  rw [HF2.out]
  obtain ⟨b2, o2, rfl, hb2, hat⟩ := SlKey.rd_at (HK.out.below HB.out) hjn
  rw [zero_z5] at hat
  generalize xs.getD j z5 = y at hat HMR K2' K4'
  obtain ⟨k0, k1, k2, k3, k4⟩ := y
  have K2 : Hid (inK .i64 k2) := Lib.hid K2'.out
  have K4 : Hid (inK .i64 k4) := Lib.hid K4'.out
  clear K2' K4'
  have HAT := Lib.hid hat
  obtain ⟨c0, c1, c2, c3, c4⟩ := hat
  have j1 : (0 : Int) ≤ (j : Int) := by omega
  have j2 : (j : Int) < (n : Int) := by omega
  go_wp2_with fail
  go_region_with (first
    | (go_at_call 59; (with_reducible refine (spec_stampInts_any x0 x1 x2 x3 x4 _ G0.out G1.out G2.out G3.out G4.out).mono ?_); rintro e w5 ⟨p2, n2, c2', rfl, ho, hb⟩; have HO2 := Lib.hid ho; have hn2 : n2 ≤ 5 := Nat.le_of_eq ho.len.symm; have HB5 := Lib.hid (below_on (drewB HB.out) hb); have HX5 := Lib.hid (HX.out.drew1.below hb); have HY5 := Lib.hid (HY.out.drew1.below hb); obtain ⟨d0, d1, d2, d3, d4⟩ := HAT.out.below (below_on (drewB (Below.refl _ _)) hb) hb2; clear ho hb)
    | (go_at_call 45; (with_reducible refine (spec_markWith_any k0 k1 k2 k3 k4 _ _ _ [103, x0, x1, x2, x3] _ HO2.out.rd K2.out K4.out (by omega)).mono ?_); rintro e w6 ⟨rfl, hb⟩; rw [← HMR.out]; have HB6 := Lib.hid (below_on HB5.out hb); have HX6 := Lib.hid (HX5.out.below hb); have HY6 := Lib.hid (HY5.out.below hb); obtain ⟨ee0, ee1, ee2, ee3, ee4⟩ := bxc HX6.out; have fx := HX6.out.free 4; clear hb))
  all_goals
    obtain ⟨q0, q1, q2, q3, q4⟩ := bxc HY6.out
    have f0 := HY6.out.free 0
    have f1 := HY6.out.free 1
    have f2 := HY6.out.free 2
    have f3 := HY6.out.free 3
    have f4 := HY6.out.free 4
    go_wp2_with fail
    refine bodyPost_ret (v := .tuple #[.agg #[.int .i64 x0, .int .i64 x1, .int .i64 x2, .int .i64 x3, .int .i64 (markR xs a1 [103, x0, x1, x2, x3])], .bool true]) ?_ rfl ?_
    · simp [results, Try.results37, go_sem, q0, q1, q2, q3, q4]
    · exact ⟨rfl, (((((HB6.out.setCell (p := ⟨w.heap.size, 4, none⟩) (Nat.le_refl _) _).setCell (p := ⟨w.heap.size + 1, 0, none⟩) (by simp) _).setCell (p := ⟨w.heap.size + 1, 1, none⟩) (by simp) _).setCell (p := ⟨w.heap.size + 1, 2, none⟩) (by simp) _).setCell (p := ⟨w.heap.size + 1, 3, none⟩) (by simp) _).setCell (p := ⟨w.heap.size + 1, 4, none⟩) (by simp) _⟩
end Go.Proofs.Ytbjocgnogcnedaa.KStampS
