/- Contracts of successions, made, in the reference. -/
import Derived.Test.YtlipcnaimpplpaaKSuccession
namespace Go.Proofs.Ytlipcnaimpplpaa.KSuccessionS
open Go.ChangeShapes Go.WideShapes Go.ChangeAt Go.RowKit Go.Shelf Sl St Fnd Kn Kr Ki Km Ko SlSuccession Yi KSuccession
theorem six {w : World} {g b q q' : Nat} {T : TypeId} {x0 x1 x2 x3 u v : Value} (h : Bx w g T #[x0, x1, x2, x3]) (h1 : w.cell? ⟨b, q, none⟩ = some u) (h2 : w.cell? ⟨b, q', none⟩ = some v) : w.cell? ⟨g, 0, none⟩ = some x0 ∧ w.cell? ⟨g, 1, none⟩ = some x1 ∧ w.cell? ⟨g, 2, none⟩ = some x2 ∧ w.cell? ⟨g, 3, none⟩ = some x3 ∧ w.cell? ⟨b, q, none⟩ = some u ∧ w.cell? ⟨b, q', none⟩ = some v := ⟨h.cell rfl, h.cell rfl, h.cell rfl, h.cell rfl, h1, h2⟩
set_option maxRecDepth 100000 in
set_option maxHeartbeats 1000000 in
theorem spec_make_any (p : Option Addr) (n c : Nat) (xs : List I5) (hR : ∀ x ∈ xs, SlKey.InR x) (x0 x1 x2 x3 : Int) (h0 : -9223372036854775808 ≤ x0 ∧ x0 ≤ 9223372036854775807) (h1 : -9223372036854775808 ≤ x1 ∧ x1 ≤ 9223372036854775807) (h2 : -9223372036854775808 ≤ x2 ∧ x2 ≤ 9223372036854775807) (h3 : -9223372036854775808 ≤ x3 ∧ x3 ≤ 9223372036854775807) (y0 y1 y2 y3 : Int) (b : Bool) (hM : mkd xs (x0, x1, x2, x3) = ((y0, y1, y2, y3), b)) (w : World) (hr : RdS SlKey.E w p n xs) : Calls Try.prog 68 #[.slice p n c, .agg #[.int .i64 x0, .int .i64 x1, .int .i64 x2, .int .i64 x3]] w (Made (.agg #[.int .i64 y0, .int .i64 y1, .int .i64 y2, .int .i64 y3]) b w) := by
  have HK := Lib.hid hr
  have hl := hr.len
  have hle := hr.le
  have hY : Bx ((w.alloc (.cells #[.int .i64 x0, .int .i64 x1, .int .i64 x2, .int .i64 x3] 76)).alloc (.cells #[.int .i64 0, .int .i64 0, .int .i64 0, .int .i64 0] 76)) (w.heap.size + 1) 76 #[.int .i64 0, .int .i64 0, .int .i64 0, .int .i64 0] := by
    have h := Bx.new (w.alloc (.cells #[.int .i64 x0, .int .i64 x1, .int .i64 x2, .int .i64 x3] 76)) 76 #[.int .i64 0, .int .i64 0, .int .i64 0, .int .i64 0]
    rw [World.size_alloc] at h
    exact h
  have HX := Lib.hid ((Bx.new w 76 #[.int .i64 x0, .int .i64 x1, .int .i64 x2, .int .i64 x3]).alloc (.cells #[.int .i64 0, .int .i64 0, .int .i64 0, .int .i64 0] 76))
  have HY := Lib.hid hY
  have HB : Hid (Below w.heap.size w ((w.alloc (.cells #[.int .i64 x0, .int .i64 x1, .int .i64 x2, .int .i64 x3] 76)).alloc (.cells #[.int .i64 0, .int .i64 0, .int .i64 0, .int .i64 0] 76))) := Lib.hid (((Below.refl _ _).alloc (Nat.le_refl _) _).alloc (by simp) _)
  have G0 := Lib.hid h0
  have G1 := Lib.hid h1
  have G2 := Lib.hid h2
  have G3 := Lib.hid h3
  clear h0 h1 h2 h3 hr hY
  rcases ring_cases xs x0 with ⟨k0, g1, g2, g3, _, _⟩ | ⟨g2, g3, _⟩
  rotate_left
  · have HF0 := Lib.hid g2
    have hM' := (mkd_no (xs := xs) (ok_none0 g3)).symm.trans hM
    cases hM'
    clear hM g2 g3 hl hle
    rcases ring_cases xs x1 with ⟨k1, g1, g2, g3, _, _⟩ | ⟨g2, g3, _⟩
    all_goals
      have HF1 := Lib.hid g2
      clear g2 g3
      go_enter Try.func68, Try.ntmps68
      go_wp2_with fail
      refine (FKey.spec_find_any _ n c xs x0 _ (HK.out.below HB.out)).mono ?_
      rintro e w1 ⟨rfl, rfl⟩
      rw [HF0.out]
      obtain ⟨cc0, cc1, cc2, cc3⟩ := bxc HX.out
      go_wp2_with fail
      refine (FKey.spec_find_any _ n c xs x1 _ (HK.out.below HB.out)).mono ?_
      rintro e w1 ⟨rfl, rfl⟩
      rw [HF1.out]
      clear cc0 cc1 cc2 cc3
      obtain ⟨cc0, cc1, cc2, cc3⟩ := bxc HX.out
      go_wp2_with fail
      clear cc0 cc1 cc2 cc3
      generalize ((w.alloc (.cells #[.int .i64 x0, .int .i64 x1, .int .i64 x2, .int .i64 x3] 76)).alloc (.cells #[.int .i64 0, .int .i64 0, .int .i64 0, .int .i64 0] 76)) = V at HX HY HB ⊢
      have HC : Hid (∀ w', Qt.Keeps (V) w' → w'.cell? ⟨w.heap.size, 0, none⟩ = some (.int .i64 x0) ∧ w'.cell? ⟨w.heap.size, 1, none⟩ = some (.int .i64 x1) ∧ w'.cell? ⟨w.heap.size, 2, none⟩ = some (.int .i64 x2) ∧ w'.cell? ⟨w.heap.size, 3, none⟩ = some (.int .i64 x3)) := Lib.hid fun w' hw => bxc (HX.out.below hw)
      refine Qt.region (Qt.Keeps (V)) (by kernel_rfl) (by kernel_rfl) (Qt.Keeps.drew _) ?_
      repeat (first
        | go_big_quiet_skip
        | (go_big_quiet_want
           refine Qt.val (v := ?_) (fun w hw => ?_) ?_
           rotate_left
           · obtain ⟨s0, s1, s2, s3⟩ := HC.out w hw
             go_simp
             rfl
           simp only [Act.put, List.setIfInBounds_toArray, List.set_cons_zero, List.set_cons_succ]
           go_big_quiet_on))
      refine wpQuiet_nil ?_
      intro w2 hw2
      replace HB := Lib.hid (below_on HB.out hw2)
      replace HX := Lib.hid (HX.out.below hw2)
      replace HY := Lib.hid (HY.out.below hw2)
      clear hw2
      obtain ⟨q0, q1, q2, q3⟩ := bxc HY.out
      have f0 := HY.out.free 0
      have f1 := HY.out.free 1
      have f2 := HY.out.free 2
      have f3 := HY.out.free 3
      go_wp2_with fail
      exact bodyPost_ret (v := .tuple #[.agg #[.int .i64 0, .int .i64 0, .int .i64 0, .int .i64 0], .bool false]) (by simp [results, Try.results68, go_sem, q0, q1, q2, q3]) rfl ⟨rfl, ((((HB.out).setCell (p := ⟨w.heap.size + 1, 0, none⟩) (by simp) _).setCell (p := ⟨w.heap.size + 1, 1, none⟩) (by simp) _).setCell (p := ⟨w.heap.size + 1, 2, none⟩) (by simp) _).setCell (p := ⟨w.heap.size + 1, 3, none⟩) (by simp) _⟩
  have HF0 := Lib.hid g2
  have hk0 : k0 < n := by omega
  have hd0 : decide ((k0 : Int) < 0) = false := decide_eq_false (by omega)
  clear g2
  rcases ring_cases xs x1 with ⟨k1, g1', g2', g3', _, _⟩ | ⟨g2', g3', _⟩
  rotate_left
  · have HF1 := Lib.hid g2'
    have hM' := (mkd_no (xs := xs) (ok_none1 g3')).symm.trans hM
    cases hM'
    clear hM g2' g3' g3 hl hle
    go_enter Try.func68, Try.ntmps68
    go_wp2_with fail
    refine (FKey.spec_find_any _ n c xs x0 _ (HK.out.below HB.out)).mono ?_
    rintro e w1 ⟨rfl, rfl⟩
    rw [HF0.out]
    obtain ⟨cc0, cc1, cc2, cc3⟩ := bxc HX.out
    go_wp2_with fail
    refine (FKey.spec_find_any _ n c xs x1 _ (HK.out.below HB.out)).mono ?_
    rintro e w1 ⟨rfl, rfl⟩
    rw [HF1.out]
    clear cc0 cc1 cc2 cc3
    obtain ⟨cc0, cc1, cc2, cc3⟩ := bxc HX.out
    go_wp2_with fail
    clear cc0 cc1 cc2 cc3
    generalize ((w.alloc (.cells #[.int .i64 x0, .int .i64 x1, .int .i64 x2, .int .i64 x3] 76)).alloc (.cells #[.int .i64 0, .int .i64 0, .int .i64 0, .int .i64 0] 76)) = V at HX HY HB ⊢
    have HC : Hid (∀ w', Qt.Keeps (V) w' → w'.cell? ⟨w.heap.size, 0, none⟩ = some (.int .i64 x0) ∧ w'.cell? ⟨w.heap.size, 1, none⟩ = some (.int .i64 x1) ∧ w'.cell? ⟨w.heap.size, 2, none⟩ = some (.int .i64 x2) ∧ w'.cell? ⟨w.heap.size, 3, none⟩ = some (.int .i64 x3)) := Lib.hid fun w' hw => bxc (HX.out.below hw)
    refine Qt.region (Qt.Keeps (V)) (by kernel_rfl) (by kernel_rfl) (Qt.Keeps.drew _) ?_
    repeat (first
      | go_big_quiet_skip
      | (go_big_quiet_want
         refine Qt.val (v := ?_) (fun w hw => ?_) ?_
         rotate_left
         · obtain ⟨s0, s1, s2, s3⟩ := HC.out w hw
           go_simp
           rfl
         simp only [Act.put, List.setIfInBounds_toArray, List.set_cons_zero, List.set_cons_succ]
         go_big_quiet_on))
    refine wpQuiet_nil ?_
    intro w2 hw2
    replace HB := Lib.hid (below_on HB.out hw2)
    replace HX := Lib.hid (HX.out.below hw2)
    replace HY := Lib.hid (HY.out.below hw2)
    clear hw2
    obtain ⟨q0, q1, q2, q3⟩ := bxc HY.out
    have f0 := HY.out.free 0
    have f1 := HY.out.free 1
    have f2 := HY.out.free 2
    have f3 := HY.out.free 3
    go_wp2_with fail
    exact bodyPost_ret (v := .tuple #[.agg #[.int .i64 0, .int .i64 0, .int .i64 0, .int .i64 0], .bool false]) (by simp [results, Try.results68, go_sem, q0, q1, q2, q3]) rfl ⟨rfl, ((((HB.out).setCell (p := ⟨w.heap.size + 1, 0, none⟩) (by simp) _).setCell (p := ⟨w.heap.size + 1, 1, none⟩) (by simp) _).setCell (p := ⟨w.heap.size + 1, 2, none⟩) (by simp) _).setCell (p := ⟨w.heap.size + 1, 3, none⟩) (by simp) _⟩
  have HF1 := Lib.hid g2'
  have hk1 : k1 < n := by omega
  have hd1 : decide ((k1 : Int) < 0) = false := decide_eq_false (by omega)
  have hok := ok_some (x2 := x2) g3 g3'
  obtain ⟨_, _, k2, _, k4⟩ := inr_at hR g1
  have HMR : Hid (markR xs x0 [106, x0, x1, x2] = markW (xs.getD k0 z5) [106, x0, x1, x2]) := Lib.hid (by unfold markR; rw [g3])
  have K2' := Lib.hid k2
  have K4' := Lib.hid k4
  clear g2' g3 g3' g1 g1' hl k2 k4
  generalize hga : xs.getD k0 z5 = a at hok HMR K2' K4'
  generalize hgb : xs.getD k1 z5 = b' at hok
  obtain ⟨a0, a1, a2, a3, a4⟩ := a
  obtain ⟨b0, b1, b2, b3, b4⟩ := b'
  have K2 : Hid (inK .i64 a2) := Lib.hid K2'.out
  have K4 : Hid (inK .i64 a4) := Lib.hid K4'.out
  clear K2' K4'
  dsimp only at hok
  obtain ⟨bb, o, hp, hbb, hat0⟩ := SlKey.rd_at (HK.out.below HB.out) hk0
  obtain ⟨bb', o', hp', hbb', hat1⟩ := SlKey.rd_at (HK.out.below HB.out) hk1
  rw [hp] at hp'
  simp only [Option.some.injEq, Addr.mk.injEq, and_true] at hp'
  obtain ⟨rfl, rfl⟩ := hp'
  subst hp
  rw [zero_z5] at hat0 hat1
  rw [hga] at hat0
  rw [hgb] at hat1
  have HA := Lib.hid hat0
  have HC := Lib.hid hat1
  have i1 : (0 : Int) ≤ (k0 : Int) := by omega
  have i2 : (k0 : Int) < (n : Int) := by omega
  have j1 : (0 : Int) ≤ (k1 : Int) := by omega
  have j2 : (k1 : Int) < (n : Int) := by omega
  clear hat0 hat1 hbb'
  by_cases he : x0 = x1
  · have hM' := (mkd_no (xs := xs) (by rw [hok, decide_eq_false (fun h => h he)]; rfl)).symm.trans hM
    cases hM'
    clear hM hok
    subst he
    go_enter Try.func68, Try.ntmps68
    go_wp2_with fail
    refine (FKey.spec_find_any _ n c xs x0 _ (HK.out.below HB.out)).mono ?_
    rintro e w1 ⟨rfl, rfl⟩
    rw [HF0.out]
    obtain ⟨cc0, cc1, cc2, cc3⟩ := bxc HX.out
    go_wp2_with fail
    refine (FKey.spec_find_any _ n c xs x0 _ (HK.out.below HB.out)).mono ?_
    rintro e w1 ⟨rfl, rfl⟩
    rw [HF1.out]
    clear cc0 cc1 cc2 cc3
    obtain ⟨cc0, cc1, cc2, cc3⟩ := bxc HX.out
    go_wp2_with fail
    clear cc0 cc1 cc2 cc3
    generalize ((w.alloc (.cells #[.int .i64 x0, .int .i64 x0, .int .i64 x2, .int .i64 x3] 76)).alloc (.cells #[.int .i64 0, .int .i64 0, .int .i64 0, .int .i64 0] 76)) = V at HX HY HB HA HC hbb ⊢
    have HC : Hid (∀ w', Qt.Keeps (V) w' → w'.cell? ⟨w.heap.size, 0, none⟩ = some (.int .i64 x0) ∧ w'.cell? ⟨w.heap.size, 1, none⟩ = some (.int .i64 x0) ∧ w'.cell? ⟨w.heap.size, 2, none⟩ = some (.int .i64 x2) ∧ w'.cell? ⟨w.heap.size, 3, none⟩ = some (.int .i64 x3) ∧ w'.cell? ⟨bb, o + k0 * 5 + 1, none⟩ = some (.int .i64 a1) ∧ w'.cell? ⟨bb, o + k1 * 5 + 1, none⟩ = some (.int .i64 b1)) := Lib.hid fun w' hw => six (HX.out.below hw) (SlKey.At.below HA.out hw hbb).2.1 (SlKey.At.below HC.out hw hbb).2.1
    refine Qt.region (Qt.Keeps (V)) (by kernel_rfl) (by kernel_rfl) (Qt.Keeps.drew _) ?_
    repeat (first
      | go_big_quiet_skip
      | (go_big_quiet_want
         refine Qt.val (v := ?_) (fun w hw => ?_) ?_
         rotate_left
         · obtain ⟨s0, s1, s2, s3, t0, t1⟩ := HC.out w hw
           go_simp
           rfl
         simp only [Act.put, List.setIfInBounds_toArray, List.set_cons_zero, List.set_cons_succ]
         go_big_quiet_on))
    refine wpQuiet_nil ?_
    intro w2 hw2
    replace HB := Lib.hid (below_on HB.out hw2)
    replace HX := Lib.hid (HX.out.below hw2)
    replace HY := Lib.hid (HY.out.below hw2)
    replace HA := Lib.hid (SlKey.At.below HA.out hw2 hbb)
    have hbb2 : bb < w2.heap.size := Nat.lt_of_lt_of_le hbb (show Below V.heap.size V w2 from hw2).size
    clear hw2
    obtain ⟨q0, q1, q2, q3⟩ := bxc HY.out
    have f0 := HY.out.free 0
    have f1 := HY.out.free 1
    have f2 := HY.out.free 2
    have f3 := HY.out.free 3
    go_wp2_with fail
    exact bodyPost_ret (v := .tuple #[.agg #[.int .i64 0, .int .i64 0, .int .i64 0, .int .i64 0], .bool false]) (by simp [results, Try.results68, go_sem, q0, q1, q2, q3]) rfl ⟨rfl, ((((HB.out).setCell (p := ⟨w.heap.size + 1, 0, none⟩) (by simp) _).setCell (p := ⟨w.heap.size + 1, 1, none⟩) (by simp) _).setCell (p := ⟨w.heap.size + 1, 2, none⟩) (by simp) _).setCell (p := ⟨w.heap.size + 1, 3, none⟩) (by simp) _⟩
  have e1 : (x0 == x1) = false := by simpa using he
  by_cases ho : a1 = b1
  rotate_left
  · have hM' := (mkd_no (xs := xs) (by rw [hok, decide_eq_false ho]; simp)).symm.trans hM
    cases hM'
    have e2 : (a1 != b1) = true := by simpa using ho
    have e3 : (a1 == b1) = false := by simpa using ho
    clear hM hok ho he
    go_enter Try.func68, Try.ntmps68
    go_wp2_with fail
    refine (FKey.spec_find_any _ n c xs x0 _ (HK.out.below HB.out)).mono ?_
    rintro e w1 ⟨rfl, rfl⟩
    rw [HF0.out]
    obtain ⟨cc0, cc1, cc2, cc3⟩ := bxc HX.out
    go_wp2_with fail
    refine (FKey.spec_find_any _ n c xs x1 _ (HK.out.below HB.out)).mono ?_
    rintro e w1 ⟨rfl, rfl⟩
    rw [HF1.out]
    clear cc0 cc1 cc2 cc3
    obtain ⟨cc0, cc1, cc2, cc3⟩ := bxc HX.out
    go_wp2_with fail
    clear cc0 cc1 cc2 cc3
    generalize ((w.alloc (.cells #[.int .i64 x0, .int .i64 x1, .int .i64 x2, .int .i64 x3] 76)).alloc (.cells #[.int .i64 0, .int .i64 0, .int .i64 0, .int .i64 0] 76)) = V at HX HY HB HA HC hbb ⊢
    have HC : Hid (∀ w', Qt.Keeps (V) w' → w'.cell? ⟨w.heap.size, 0, none⟩ = some (.int .i64 x0) ∧ w'.cell? ⟨w.heap.size, 1, none⟩ = some (.int .i64 x1) ∧ w'.cell? ⟨w.heap.size, 2, none⟩ = some (.int .i64 x2) ∧ w'.cell? ⟨w.heap.size, 3, none⟩ = some (.int .i64 x3) ∧ w'.cell? ⟨bb, o + k0 * 5 + 1, none⟩ = some (.int .i64 a1) ∧ w'.cell? ⟨bb, o + k1 * 5 + 1, none⟩ = some (.int .i64 b1)) := Lib.hid fun w' hw => six (HX.out.below hw) (SlKey.At.below HA.out hw hbb).2.1 (SlKey.At.below HC.out hw hbb).2.1
    refine Qt.region (Qt.Keeps (V)) (by kernel_rfl) (by kernel_rfl) (Qt.Keeps.drew _) ?_
    repeat (first
      | go_big_quiet_skip
      | (go_big_quiet_want
         refine Qt.val (v := ?_) (fun w hw => ?_) ?_
         rotate_left
         · obtain ⟨s0, s1, s2, s3, t0, t1⟩ := HC.out w hw
           go_simp
           rfl
         simp only [Act.put, List.setIfInBounds_toArray, List.set_cons_zero, List.set_cons_succ]
         go_big_quiet_on))
    refine wpQuiet_nil ?_
    intro w2 hw2
    replace HB := Lib.hid (below_on HB.out hw2)
    replace HX := Lib.hid (HX.out.below hw2)
    replace HY := Lib.hid (HY.out.below hw2)
    replace HA := Lib.hid (SlKey.At.below HA.out hw2 hbb)
    have hbb2 : bb < w2.heap.size := Nat.lt_of_lt_of_le hbb (show Below V.heap.size V w2 from hw2).size
    clear hw2
    obtain ⟨q0, q1, q2, q3⟩ := bxc HY.out
    have f0 := HY.out.free 0
    have f1 := HY.out.free 1
    have f2 := HY.out.free 2
    have f3 := HY.out.free 3
    go_wp2_with fail
    exact bodyPost_ret (v := .tuple #[.agg #[.int .i64 0, .int .i64 0, .int .i64 0, .int .i64 0], .bool false]) (by simp [results, Try.results68, go_sem, q0, q1, q2, q3]) rfl ⟨rfl, ((((HB.out).setCell (p := ⟨w.heap.size + 1, 0, none⟩) (by simp) _).setCell (p := ⟨w.heap.size + 1, 1, none⟩) (by simp) _).setCell (p := ⟨w.heap.size + 1, 2, none⟩) (by simp) _).setCell (p := ⟨w.heap.size + 1, 3, none⟩) (by simp) _⟩
  subst ho
  obtain ⟨τ, hτ⟩ : ∃ τ, inB x2 0 10000 = τ := ⟨_, rfl⟩
  have HT := Lib.hid hτ
  cases τ
  · have hM' := (mkd_no (xs := xs) (by rw [hok, hτ]; simp)).symm.trans hM
    cases hM'
    clear hM hok hτ he
    go_enter Try.func68, Try.ntmps68
    go_wp2_with fail
    refine (FKey.spec_find_any _ n c xs x0 _ (HK.out.below HB.out)).mono ?_
    rintro e w1 ⟨rfl, rfl⟩
    rw [HF0.out]
    obtain ⟨cc0, cc1, cc2, cc3⟩ := bxc HX.out
    go_wp2_with fail
    refine (FKey.spec_find_any _ n c xs x1 _ (HK.out.below HB.out)).mono ?_
    rintro e w1 ⟨rfl, rfl⟩
    rw [HF1.out]
    clear cc0 cc1 cc2 cc3
    obtain ⟨cc0, cc1, cc2, cc3⟩ := bxc HX.out
    go_wp2_with fail
    clear cc0 cc1 cc2 cc3
    generalize ((w.alloc (.cells #[.int .i64 x0, .int .i64 x1, .int .i64 x2, .int .i64 x3] 76)).alloc (.cells #[.int .i64 0, .int .i64 0, .int .i64 0, .int .i64 0] 76)) = V at HX HY HB HA HC hbb ⊢
    have HC : Hid (∀ w', Qt.Keeps (V) w' → w'.cell? ⟨w.heap.size, 0, none⟩ = some (.int .i64 x0) ∧ w'.cell? ⟨w.heap.size, 1, none⟩ = some (.int .i64 x1) ∧ w'.cell? ⟨w.heap.size, 2, none⟩ = some (.int .i64 x2) ∧ w'.cell? ⟨w.heap.size, 3, none⟩ = some (.int .i64 x3) ∧ w'.cell? ⟨bb, o + k0 * 5 + 1, none⟩ = some (.int .i64 a1) ∧ w'.cell? ⟨bb, o + k1 * 5 + 1, none⟩ = some (.int .i64 a1)) := Lib.hid fun w' hw => six (HX.out.below hw) (SlKey.At.below HA.out hw hbb).2.1 (SlKey.At.below HC.out hw hbb).2.1
    refine Qt.region (Qt.Keeps (V)) (by kernel_rfl) (by kernel_rfl) (Qt.Keeps.drew _) ?_
    repeat (first
      | go_big_quiet_skip
      | (go_big_quiet_want
         refine Qt.val (v := ?_) (fun w hw => ?_) ?_
         rotate_left
         · obtain ⟨s0, s1, s2, s3, t0, t1⟩ := HC.out w hw
           go_simp
           rfl
         simp only [Act.put, List.setIfInBounds_toArray, List.set_cons_zero, List.set_cons_succ]
         go_big_quiet_on)
      | (go_big_quiet_want
         refine Qt.call (v := .bool false) (f := 74) (args := #[.int .i64 x2]) (fun w hw => ?_) (fun w hw => ?_) ?_
         · go_simp
         · refine (time_any x2 _).mono ?_
           rintro e w1 ⟨rfl, rfl⟩
           rw [HT.out]
           exact ⟨rfl, hw⟩
         simp only [Act.put, List.setIfInBounds_toArray, List.set_cons_zero, List.set_cons_succ]
         go_big_quiet_on))
    refine wpQuiet_nil ?_
    intro w2 hw2
    replace HB := Lib.hid (below_on HB.out hw2)
    replace HX := Lib.hid (HX.out.below hw2)
    replace HY := Lib.hid (HY.out.below hw2)
    replace HA := Lib.hid (SlKey.At.below HA.out hw2 hbb)
    have hbb2 : bb < w2.heap.size := Nat.lt_of_lt_of_le hbb (show Below V.heap.size V w2 from hw2).size
    clear hw2
    obtain ⟨q0, q1, q2, q3⟩ := bxc HY.out
    have f0 := HY.out.free 0
    have f1 := HY.out.free 1
    have f2 := HY.out.free 2
    have f3 := HY.out.free 3
    go_wp2_with fail
    exact bodyPost_ret (v := .tuple #[.agg #[.int .i64 0, .int .i64 0, .int .i64 0, .int .i64 0], .bool false]) (by simp [results, Try.results68, go_sem, q0, q1, q2, q3]) rfl ⟨rfl, ((((HB.out).setCell (p := ⟨w.heap.size + 1, 0, none⟩) (by simp) _).setCell (p := ⟨w.heap.size + 1, 1, none⟩) (by simp) _).setCell (p := ⟨w.heap.size + 1, 2, none⟩) (by simp) _).setCell (p := ⟨w.heap.size + 1, 3, none⟩) (by simp) _⟩
  · have hM' := (mkd_yes (xs := xs) (by rw [hok, hτ, decide_eq_true he]; simp)).symm.trans hM
    cases hM'
    clear hM hok hτ he
    go_enter Try.func68, Try.ntmps68
    go_wp2_with fail
    refine (FKey.spec_find_any _ n c xs x0 _ (HK.out.below HB.out)).mono ?_
    rintro e w1 ⟨rfl, rfl⟩
    rw [HF0.out]
    obtain ⟨cc0, cc1, cc2, cc3⟩ := bxc HX.out
    go_wp2_with fail
    refine (FKey.spec_find_any _ n c xs x1 _ (HK.out.below HB.out)).mono ?_
    rintro e w1 ⟨rfl, rfl⟩
    rw [HF1.out]
    clear cc0 cc1 cc2 cc3
    obtain ⟨cc0, cc1, cc2, cc3⟩ := bxc HX.out
    go_wp2_with fail
    clear cc0 cc1 cc2 cc3
    generalize ((w.alloc (.cells #[.int .i64 x0, .int .i64 x1, .int .i64 x2, .int .i64 x3] 76)).alloc (.cells #[.int .i64 0, .int .i64 0, .int .i64 0, .int .i64 0] 76)) = V at HX HY HB HA HC hbb ⊢
    have HC : Hid (∀ w', Qt.Keeps (V) w' → w'.cell? ⟨w.heap.size, 0, none⟩ = some (.int .i64 x0) ∧ w'.cell? ⟨w.heap.size, 1, none⟩ = some (.int .i64 x1) ∧ w'.cell? ⟨w.heap.size, 2, none⟩ = some (.int .i64 x2) ∧ w'.cell? ⟨w.heap.size, 3, none⟩ = some (.int .i64 x3) ∧ w'.cell? ⟨bb, o + k0 * 5 + 1, none⟩ = some (.int .i64 a1) ∧ w'.cell? ⟨bb, o + k1 * 5 + 1, none⟩ = some (.int .i64 a1)) := Lib.hid fun w' hw => six (HX.out.below hw) (SlKey.At.below HA.out hw hbb).2.1 (SlKey.At.below HC.out hw hbb).2.1
    refine Qt.region (Qt.Keeps (V)) (by kernel_rfl) (by kernel_rfl) (Qt.Keeps.drew _) ?_
    repeat (first
      | go_big_quiet_skip
      | (go_big_quiet_want
         refine Qt.val (v := ?_) (fun w hw => ?_) ?_
         rotate_left
         · obtain ⟨s0, s1, s2, s3, t0, t1⟩ := HC.out w hw
           go_simp
           rfl
         simp only [Act.put, List.setIfInBounds_toArray, List.set_cons_zero, List.set_cons_succ]
         go_big_quiet_on)
      | (go_big_quiet_want
         refine Qt.call (v := .bool true) (f := 74) (args := #[.int .i64 x2]) (fun w hw => ?_) (fun w hw => ?_) ?_
         · go_simp
         · refine (time_any x2 _).mono ?_
           rintro e w1 ⟨rfl, rfl⟩
           rw [HT.out]
           exact ⟨rfl, hw⟩
         simp only [Act.put, List.setIfInBounds_toArray, List.set_cons_zero, List.set_cons_succ]
         go_big_quiet_on))
    refine wpQuiet_nil ?_
    intro w2 hw2
    replace HB := Lib.hid (below_on HB.out hw2)
    replace HX := Lib.hid (HX.out.below hw2)
    replace HY := Lib.hid (HY.out.below hw2)
    replace HA := Lib.hid (SlKey.At.below HA.out hw2 hbb)
    have hbb2 : bb < w2.heap.size := Nat.lt_of_lt_of_le hbb (show Below V.heap.size V w2 from hw2).size
    clear hw2
    obtain ⟨c0, c1, c2, c3, c4⟩ := HA.out
    obtain ⟨cc0, cc1, cc2, cc3⟩ := bxc HX.out
    go_wp2_with fail
    go_region_with (first
      | (go_at_call 76; (with_reducible refine (spec_succInts_any x0 x1 x2 x3 _ G0.out G1.out G2.out G3.out).mono ?_); rintro e w5 ⟨p2, n2, c2', rfl, ho, hb⟩; have HO2 := Lib.hid ho; have hn2 : n2 ≤ 4 := Nat.le_of_eq ho.len.symm; have HB5 := Lib.hid (below_on (drewB HB.out) hb); have HX5 := Lib.hid (HX.out.drew1.below hb); have HY5 := Lib.hid (HY.out.drew1.below hb); obtain ⟨d0, d1, d2, d3, d4⟩ := HA.out.below (below_on (drewB (Below.refl _ _)) hb) hbb2; clear ho hb)
      | (go_at_call 75; (with_reducible refine (spec_markWith_any a0 a1 a2 a3 a4 _ _ _ [106, x0, x1, x2] _ HO2.out.rd K2.out K4.out (by omega)).mono ?_); rintro e w6 ⟨rfl, hb⟩; rw [← HMR.out]; have HB6 := Lib.hid (below_on HB5.out hb); have HX6 := Lib.hid (HX5.out.below hb); have HY6 := Lib.hid (HY5.out.below hb); obtain ⟨ee0, ee1, ee2, ee3⟩ := bxc HX6.out; have fx := HX6.out.free 3; clear hb))
    all_goals
      obtain ⟨q0, q1, q2, q3⟩ := bxc HY6.out
      have f0 := HY6.out.free 0
      have f1 := HY6.out.free 1
      have f2 := HY6.out.free 2
      have f3 := HY6.out.free 3
      go_wp2_with fail
      exact bodyPost_ret (v := .tuple #[.agg #[.int .i64 x0, .int .i64 x1, .int .i64 x2, .int .i64 (markR xs x0 [106, x0, x1, x2])], .bool true]) (by simp [results, Try.results68, go_sem, q0, q1, q2, q3]) rfl ⟨rfl, ((((HB6.out.setCell (p := ⟨w.heap.size, 3, none⟩) (Nat.le_refl _) _).setCell (p := ⟨w.heap.size + 1, 0, none⟩) (by simp) _).setCell (p := ⟨w.heap.size + 1, 1, none⟩) (by simp) _).setCell (p := ⟨w.heap.size + 1, 2, none⟩) (by simp) _).setCell (p := ⟨w.heap.size + 1, 3, none⟩) (by simp) _⟩
end Go.Proofs.Ytlipcnaimpplpaa.KSuccessionS
