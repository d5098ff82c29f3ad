/- Contracts of successions, checked: made anew and equal; in the program (a closure) and in the reference. -/
import Derived.Test.YtlipcnaimpplpaaKSuccessionS
import Derived.Laws.StructEq
namespace Go.Proofs.Ytlipcnaimpplpaa.MSuccession
open Go.ChangeShapes Go.WideShapes Go.ChangeAt Go.RowKit Go.Shelf Sl St Fnd Kn Kr Ki Km Ko SlSuccession Yi KSuccession KSuccessionS
def chk (xs : List I5) : I4 → Bool := fun (x0, x1, x2, x3) => okY xs x0 x1 x2 && decide (markR xs x0 [106, x0, x1, x2] = x3)
theorem says {b b' : Bool} {w w' : World} (h : b' = b) (hb : Below w.heap.size w w') : SlSuccession.Val (.bool b) w (.returned (.bool b')) w' := ⟨by rw [h], hb⟩
set_option maxRecDepth 100000 in
set_option maxHeartbeats 8000000 in
theorem again_any (g : Nat) (p : Option Addr) (n c : Nat) (xs : List I5) (hR : ∀ x ∈ xs, SlKey.InR x) (x0 x1 x2 x3 : Int) (h0 : -9223372036854775808 ≤ x0 ∧ x0 ≤ 9223372036854775807) (h1 : -9223372036854775808 ≤ x1 ∧ x1 ≤ 9223372036854775807) (h2 : -9223372036854775808 ≤ x2 ∧ x2 ≤ 9223372036854775807) (h3 : -9223372036854775808 ≤ x3 ∧ x3 ≤ 9223372036854775807) (y0 y1 y2 y3 : Int) (b : Bool) (hM : mkd xs (x0, x1, x2, x3) = ((y0, y1, y2, y3), b)) (w : World) (hg : Bx w g 30 #[.slice p n c]) (hr : RdS SlKey.E w p n xs) : Calls Try.prog 71 #[.agg #[.int .i64 x0, .int .i64 x1, .int .i64 x2, .int .i64 x3], .pointer (some ⟨g, 0, none⟩)] w (Made (.agg #[.int .i64 y0, .int .i64 y1, .int .i64 y2, .int .i64 y3]) b w) := by
  have HK := Lib.hid hr
  have HG := Lib.hid (hg.alloc (.cells #[.int .i64 x0, .int .i64 x1, .int .i64 x2, .int .i64 x3] 76) |>.alloc (.cells #[.int .i64 0, .int .i64 0, .int .i64 0, .int .i64 0] 76))
  have HM := Lib.hid hM
  have hY : Bx ((w.alloc (.cells #[.int .i64 x0, .int .i64 x1, .int .i64 x2, .int .i64 x3] 76)).alloc (.cells #[.int .i64 0, .int .i64 0, .int .i64 0, .int .i64 0] 76)) (w.heap.size + 1) 76 #[.int .i64 0, .int .i64 0, .int .i64 0, .int .i64 0] := by
    have h := Bx.new (w.alloc (.cells #[.int .i64 x0, .int .i64 x1, .int .i64 x2, .int .i64 x3] 76)) 76 #[.int .i64 0, .int .i64 0, .int .i64 0, .int .i64 0]
    rw [World.size_alloc] at h
    exact h
  have HX := Lib.hid ((Bx.new w 76 #[.int .i64 x0, .int .i64 x1, .int .i64 x2, .int .i64 x3]).alloc (.cells #[.int .i64 0, .int .i64 0, .int .i64 0, .int .i64 0] 76))
  have HY := Lib.hid hY
  have HB : Hid (Below w.heap.size w ((w.alloc (.cells #[.int .i64 x0, .int .i64 x1, .int .i64 x2, .int .i64 x3] 76)).alloc (.cells #[.int .i64 0, .int .i64 0, .int .i64 0, .int .i64 0] 76))) := Lib.hid (((Below.refl _ _).alloc (Nat.le_refl _) _).alloc (by simp) _)
  have G0 := Lib.hid h0
  have G1 := Lib.hid h1
  have G2 := Lib.hid h2
  have G3 := Lib.hid h3
  clear h0 h1 h2 h3 hr
  clear hY hg hM
  have k0 := HG.out.cell (j := 0) rfl
  go_enter Try.func71, Try.ntmps71
  go_wp2_with fail
  generalize ((w.alloc (.cells #[.int .i64 x0, .int .i64 x1, .int .i64 x2, .int .i64 x3] 76)).alloc (.cells #[.int .i64 0, .int .i64 0, .int .i64 0, .int .i64 0] 76)) = V at HX HY HB HG ⊢
  refine (make_any p n c xs hR x0 x1 x2 x3 G0.out G1.out G2.out G3.out y0 y1 y2 y3 b HM.out _ (HK.out.below HB.out)).mono ?_
  rintro e w1 ⟨rfl, hb⟩
  replace HB := Lib.hid (below_on HB.out hb)
  replace HY := Lib.hid (HY.out.below hb)
  obtain ⟨q0, q1, q2, q3⟩ := bxc HY.out
  have f0 := HY.out.free 0
  have f1 := HY.out.free 1
  have f2 := HY.out.free 2
  have f3 := HY.out.free 3
  clear hb
  go_wp2_with fail
  exact bodyPost_ret (v := .tuple #[.agg #[.int .i64 y0, .int .i64 y1, .int .i64 y2, .int .i64 y3], .bool b]) (by simp [results, Try.results71, go_sem, q0, q1, q2, q3]) rfl ⟨rfl, ((((HB.out).setCell (p := ⟨w.heap.size + 1, 0, none⟩) (by simp) _).setCell (p := ⟨w.heap.size + 1, 1, none⟩) (by simp) _).setCell (p := ⟨w.heap.size + 1, 2, none⟩) (by simp) _).setCell (p := ⟨w.heap.size + 1, 3, none⟩) (by simp) _⟩
set_option maxRecDepth 100000 in
set_option maxHeartbeats 8000000 in
theorem remade_any (g : Nat) (p : Option Addr) (n c : Nat) (xs : List I5) (hR : ∀ x ∈ xs, SlKey.InR x) (x0 x1 x2 x3 : Int) (h0 : -9223372036854775808 ≤ x0 ∧ x0 ≤ 9223372036854775807) (h1 : -9223372036854775808 ≤ x1 ∧ x1 ≤ 9223372036854775807) (h2 : -9223372036854775808 ≤ x2 ∧ x2 ≤ 9223372036854775807) (h3 : -9223372036854775808 ≤ x3 ∧ x3 ≤ 9223372036854775807) (w : World) (hg : Bx w g 30 #[.slice p n c]) (hr : RdS SlKey.E w p n xs) : Calls Try.prog 70 #[.agg #[.int .i64 x0, .int .i64 x1, .int .i64 x2, .int .i64 x3], .func (.func 71) #[] #[.pointer (some ⟨g, 0, none⟩)]] w (SlSuccession.Val (.bool (chk xs (x0, x1, x2, x3))) w) := by
  have HK := Lib.hid hr
  have HG := Lib.hid (hg.alloc (.cells #[.int .i64 x0, .int .i64 x1, .int .i64 x2, .int .i64 x3] 76))
  have HX := Lib.hid (Bx.new w 76 #[.int .i64 x0, .int .i64 x1, .int .i64 x2, .int .i64 x3])
  have HB : Hid (Below w.heap.size w (w.alloc (.cells #[.int .i64 x0, .int .i64 x1, .int .i64 x2, .int .i64 x3] 76))) := Lib.hid (box1 w _)
  have G0 := Lib.hid h0
  have G1 := Lib.hid h1
  have G2 := Lib.hid h2
  have G3 := Lib.hid h3
  clear h0 h1 h2 h3 hr
  clear hg
  rcases hok : okY xs x0 x1 x2 with _ | _
  · have HM := Lib.hid (mkd_no (x3 := x3) hok)
    have HS : Hid (chk xs (x0, x1, x2, x3) = false) := Lib.hid (by show (okY xs x0 x1 x2 && _) = false; rw [hok]; rfl)
    clear hok
    go_enter Try.func70, Try.ntmps70
    go_wp2_with fail
    generalize (w.alloc (.cells #[.int .i64 x0, .int .i64 x1, .int .i64 x2, .int .i64 x3] 76)) = V at HX HB HG ⊢
    refine (again_any g p n c xs hR x0 x1 x2 x3 G0.out G1.out G2.out G3.out 0 0 0 0 false HM.out _ HG.out (HK.out.below HB.out)).mono ?_
    rintro e w1 ⟨rfl, hb⟩
    replace HB := Lib.hid (below_on HB.out hb)
    replace HX := Lib.hid ((HX.out.below hb).alloc (.cells #[.int .i64 0, .int .i64 0, .int .i64 0, .int .i64 0] 76))
    replace HB := Lib.hid (HB.out.alloc HB.out.size (.cells #[.int .i64 0, .int .i64 0, .int .i64 0, .int .i64 0] 76))
    have HQ := Lib.hid (Bx.new w1 76 #[.int .i64 0, .int .i64 0, .int .i64 0, .int .i64 0])
    obtain ⟨cc0, cc1, cc2, cc3⟩ := bxc HX.out
    obtain ⟨q0, q1, q2, q3⟩ := bxc HQ.out
    clear hb
    go_wp2_with fail
    go_ret
    exact says (by rw [HS.out]) HB.out
  · have hm1 := mkd_yes (x3 := x3) hok
    have hs1 : chk xs (x0, x1, x2, x3) = decide (markR xs x0 [106, x0, x1, x2] = x3) := by show (okY xs x0 x1 x2 && _) = _; rw [hok]; rfl
    generalize hmm : markR xs x0 [106, x0, x1, x2] = m at hm1 hs1
    clear hmm hok
    have HM := Lib.hid hm1
    clear hm1
    by_cases he : m = x3
    · have HS : Hid (chk xs (x0, x1, x2, x3) = true) := Lib.hid (by rw [hs1, decide_eq_true he])
      clear hs1
      subst he
      go_enter Try.func70, Try.ntmps70
      go_wp2_with fail
      generalize (w.alloc (.cells #[.int .i64 x0, .int .i64 x1, .int .i64 x2, .int .i64 m] 76)) = V at HX HB HG ⊢
      refine (again_any g p n c xs hR x0 x1 x2 m G0.out G1.out G2.out G3.out x0 x1 x2 m true HM.out _ HG.out (HK.out.below HB.out)).mono ?_
      rintro e w1 ⟨rfl, hb⟩
      replace HB := Lib.hid (below_on HB.out hb)
      replace HX := Lib.hid ((HX.out.below hb).alloc (.cells #[.int .i64 x0, .int .i64 x1, .int .i64 x2, .int .i64 m] 76))
      replace HB := Lib.hid (HB.out.alloc HB.out.size (.cells #[.int .i64 x0, .int .i64 x1, .int .i64 x2, .int .i64 m] 76))
      have HQ := Lib.hid (Bx.new w1 76 #[.int .i64 x0, .int .i64 x1, .int .i64 x2, .int .i64 m])
      obtain ⟨cc0, cc1, cc2, cc3⟩ := bxc HX.out
      obtain ⟨q0, q1, q2, q3⟩ := bxc HQ.out
      clear hb
      go_wp2_with fail
      go_ret
      exact says (by rw [HS.out]) HB.out
    · have HS : Hid (chk xs (x0, x1, x2, x3) = false) := Lib.hid (by rw [hs1, decide_eq_false he])
      have e1 : (m == x3) = false := by simpa using he
      clear hs1 he
      go_enter Try.func70, Try.ntmps70
      go_wp2_with fail
      generalize (w.alloc (.cells #[.int .i64 x0, .int .i64 x1, .int .i64 x2, .int .i64 x3] 76)) = V at HX HB HG ⊢
      refine (again_any g p n c xs hR x0 x1 x2 x3 G0.out G1.out G2.out G3.out x0 x1 x2 m true HM.out _ HG.out (HK.out.below HB.out)).mono ?_
      rintro e w1 ⟨rfl, hb⟩
      replace HB := Lib.hid (below_on HB.out hb)
      replace HX := Lib.hid ((HX.out.below hb).alloc (.cells #[.int .i64 x0, .int .i64 x1, .int .i64 x2, .int .i64 m] 76))
      replace HB := Lib.hid (HB.out.alloc HB.out.size (.cells #[.int .i64 x0, .int .i64 x1, .int .i64 x2, .int .i64 m] 76))
      have HQ := Lib.hid (Bx.new w1 76 #[.int .i64 x0, .int .i64 x1, .int .i64 x2, .int .i64 m])
      obtain ⟨cc0, cc1, cc2, cc3⟩ := bxc HX.out
      obtain ⟨q0, q1, q2, q3⟩ := bxc HQ.out
      clear hb
      go_wp2_with fail
      go_ret
      exact says (by rw [HS.out]) HB.out
set_option maxRecDepth 100000 in
set_option maxHeartbeats 8000000 in
theorem check_any (p : Option Addr) (n c : Nat) (xs : List I5) (hR : ∀ x ∈ xs, SlKey.InR x) (x0 x1 x2 x3 : Int) (h0 : -9223372036854775808 ≤ x0 ∧ x0 ≤ 9223372036854775807) (h1 : -9223372036854775808 ≤ x1 ∧ x1 ≤ 9223372036854775807) (h2 : -9223372036854775808 ≤ x2 ∧ x2 ≤ 9223372036854775807) (h3 : -9223372036854775808 ≤ x3 ∧ x3 ≤ 9223372036854775807) (w : World) (hr : RdS SlKey.E w p n xs) : Calls Try.prog 65 #[.slice p n c, .agg #[.int .i64 x0, .int .i64 x1, .int .i64 x2, .int .i64 x3]] w (SlSuccession.Val (.bool (chk xs (x0, x1, x2, x3))) w) := by
  have HK := Lib.hid hr
  have HG := Lib.hid ((Bx.new w 30 #[.slice p n c]).alloc (.cells #[.int .i64 x0, .int .i64 x1, .int .i64 x2, .int .i64 x3] 76))
  have HB : Hid (Below w.heap.size w ((w.alloc (.cells #[.slice p n c] 30)).alloc (.cells #[.int .i64 x0, .int .i64 x1, .int .i64 x2, .int .i64 x3] 76))) := Lib.hid ((box1 w _).alloc (by simp) _)
  have G0 := Lib.hid h0
  have G1 := Lib.hid h1
  have G2 := Lib.hid h2
  have G3 := Lib.hid h3
  clear h0 h1 h2 h3 hr
  go_enter Try.func65, Try.ntmps65
  go_wp2_with fail
  generalize ((w.alloc (.cells #[.slice p n c] 30)).alloc (.cells #[.int .i64 x0, .int .i64 x1, .int .i64 x2, .int .i64 x3] 76)) = V at HB HG ⊢
  refine (remade_any w.heap.size p n c xs hR x0 x1 x2 x3 G0.out G1.out G2.out G3.out _ HG.out (HK.out.below HB.out)).mono ?_
  rintro e w1 ⟨rfl, hb⟩
  replace HB := Lib.hid (below_on HB.out hb)
  clear hb
  go_wp2_with fail
  go_ret
  exact says rfl HB.out
set_option maxRecDepth 100000 in
set_option maxHeartbeats 8000000 in
theorem spec_check_any (p : Option Addr) (n c : Nat) (xs : List I5) (hR : ∀ x ∈ xs, SlKey.InR x) (x0 x1 x2 x3 : Int) (h0 : -9223372036854775808 ≤ x0 ∧ x0 ≤ 9223372036854775807) (h1 : -9223372036854775808 ≤ x1 ∧ x1 ≤ 9223372036854775807) (h2 : -9223372036854775808 ≤ x2 ∧ x2 ≤ 9223372036854775807) (h3 : -9223372036854775808 ≤ x3 ∧ x3 ≤ 9223372036854775807) (w : World) (hr : RdS SlKey.E w p n xs) : Calls Try.prog 59 #[.slice p n c, .agg #[.int .i64 x0, .int .i64 x1, .int .i64 x2, .int .i64 x3]] w (SlSuccession.Val (.bool (chk xs (x0, x1, x2, x3))) w) := by
  have HK := Lib.hid hr
  have HX := Lib.hid (Bx.new w 76 #[.int .i64 x0, .int .i64 x1, .int .i64 x2, .int .i64 x3])
  have HB : Hid (Below w.heap.size w (w.alloc (.cells #[.int .i64 x0, .int .i64 x1, .int .i64 x2, .int .i64 x3] 76))) := Lib.hid (box1 w _)
  have G0 := Lib.hid h0
  have G1 := Lib.hid h1
  have G2 := Lib.hid h2
  have G3 := Lib.hid h3
  clear h0 h1 h2 h3 hr
  rcases hok : okY xs x0 x1 x2 with _ | _
  · have HM := Lib.hid (mkd_no (x3 := x3) hok)
    have HS : Hid (chk xs (x0, x1, x2, x3) = false) := Lib.hid (by show (okY xs x0 x1 x2 && _) = false; rw [hok]; rfl)
    clear hok
    go_enter Try.func59, Try.ntmps59
    go_wp2_with fail
    generalize (w.alloc (.cells #[.int .i64 x0, .int .i64 x1, .int .i64 x2, .int .i64 x3] 76)) = V at HX HB ⊢
    refine (spec_make_any p n c xs hR x0 x1 x2 x3 G0.out G1.out G2.out G3.out 0 0 0 0 false HM.out _ (HK.out.below HB.out)).mono ?_
    rintro e w1 ⟨rfl, hb⟩
    replace HB := Lib.hid (below_on HB.out hb)
    replace HX := Lib.hid ((HX.out.below hb).alloc (.cells #[.int .i64 0, .int .i64 0, .int .i64 0, .int .i64 0] 76))
    replace HB := Lib.hid (HB.out.alloc HB.out.size (.cells #[.int .i64 0, .int .i64 0, .int .i64 0, .int .i64 0] 76))
    have HQ := Lib.hid (Bx.new w1 76 #[.int .i64 0, .int .i64 0, .int .i64 0, .int .i64 0])
    obtain ⟨cc0, cc1, cc2, cc3⟩ := bxc HX.out
    obtain ⟨q0, q1, q2, q3⟩ := bxc HQ.out
    clear hb
    go_wp2_with fail
    go_ret
    exact says (by rw [HS.out]) HB.out
  · have hm1 := mkd_yes (x3 := x3) hok
    have hs1 : chk xs (x0, x1, x2, x3) = decide (markR xs x0 [106, x0, x1, x2] = x3) := by show (okY xs x0 x1 x2 && _) = _; rw [hok]; rfl
    generalize hmm : markR xs x0 [106, x0, x1, x2] = m at hm1 hs1
    clear hmm hok
    have HM := Lib.hid hm1
    clear hm1
    by_cases he : m = x3
    · have HS : Hid (chk xs (x0, x1, x2, x3) = true) := Lib.hid (by rw [hs1, decide_eq_true he])
      clear hs1
      subst he
      go_enter Try.func59, Try.ntmps59
      go_wp2_with fail
      generalize (w.alloc (.cells #[.int .i64 x0, .int .i64 x1, .int .i64 x2, .int .i64 m] 76)) = V at HX HB ⊢
      refine (spec_make_any p n c xs hR x0 x1 x2 m G0.out G1.out G2.out G3.out x0 x1 x2 m true HM.out _ (HK.out.below HB.out)).mono ?_
      rintro e w1 ⟨rfl, hb⟩
      replace HB := Lib.hid (below_on HB.out hb)
      replace HX := Lib.hid ((HX.out.below hb).alloc (.cells #[.int .i64 x0, .int .i64 x1, .int .i64 x2, .int .i64 m] 76))
      replace HB := Lib.hid (HB.out.alloc HB.out.size (.cells #[.int .i64 x0, .int .i64 x1, .int .i64 x2, .int .i64 m] 76))
      have HQ := Lib.hid (Bx.new w1 76 #[.int .i64 x0, .int .i64 x1, .int .i64 x2, .int .i64 m])
      obtain ⟨cc0, cc1, cc2, cc3⟩ := bxc HX.out
      obtain ⟨q0, q1, q2, q3⟩ := bxc HQ.out
      clear hb
      go_wp2_with fail
      go_ret
      exact says (by rw [HS.out]) HB.out
    · have HS : Hid (chk xs (x0, x1, x2, x3) = false) := Lib.hid (by rw [hs1, decide_eq_false he])
      have e1 : (m == x3) = false := by simpa using he
      clear hs1 he
      go_enter Try.func59, Try.ntmps59
      go_wp2_with fail
      generalize (w.alloc (.cells #[.int .i64 x0, .int .i64 x1, .int .i64 x2, .int .i64 x3] 76)) = V at HX HB ⊢
      refine (spec_make_any p n c xs hR x0 x1 x2 x3 G0.out G1.out G2.out G3.out x0 x1 x2 m true HM.out _ (HK.out.below HB.out)).mono ?_
      rintro e w1 ⟨rfl, hb⟩
      replace HB := Lib.hid (below_on HB.out hb)
      replace HX := Lib.hid ((HX.out.below hb).alloc (.cells #[.int .i64 x0, .int .i64 x1, .int .i64 x2, .int .i64 m] 76))
      replace HB := Lib.hid (HB.out.alloc HB.out.size (.cells #[.int .i64 x0, .int .i64 x1, .int .i64 x2, .int .i64 m] 76))
      have HQ := Lib.hid (Bx.new w1 76 #[.int .i64 x0, .int .i64 x1, .int .i64 x2, .int .i64 m])
      obtain ⟨cc0, cc1, cc2, cc3⟩ := bxc HX.out
      obtain ⟨q0, q1, q2, q3⟩ := bxc HQ.out
      clear hb
      go_wp2_with fail
      go_ret
      exact says (by rw [HS.out]) HB.out
end Go.Proofs.Ytlipcnaimpplpaa.MSuccession
