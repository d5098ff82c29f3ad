/- Contracts of stamps, checked: made anew and equal; in the program (a method value) and in the reference. -/
import Derived.Test.YtnkpioaaabnlcaaKStampM
import Derived.Test.YtnkpioaaabnlcaaKStampS
import Derived.Laws.StructEq
namespace Go.Proofs.Ytnkpioaaabnlcaa.MStamp
open Go.ChangeShapes Go.WideShapes Go.ChangeAt Go.RowKit Go.Shelf Sl St Fnd Kn Kr Ki Km Ko SlStamp Ti KStamp
def chk (xs : List I5) (us : List I3) : I5 → Bool := fun (x0, x1, x2, x3, x4) => okT xs us x0 x1 x2 && decide (markR xs (Ao.aut us x0).1.2.1 [103, x0, x1, x2, x3] = x4)
theorem says {b b' : Bool} {w w' : World} (h : b' = b) (hb : Below w.heap.size w w') : SlStamp.Val (.bool b) w (.returned (.bool b')) w' := ⟨by rw [h], hb⟩
theorem drewB {W w : World} {B : Nat} (h : Below B W w) : Below B W w.drew := below_drewN h 1
set_option maxRecDepth 100000 in
set_option maxHeartbeats 8000000 in
theorem remade_any (g : Nat) (q : Option Addr) (m c' : Nat) (us : List I3) (hA : ∀ a ∈ us, SlAuthority.InR a) (xs : List I5) (hR : ∀ x ∈ xs, SlKey.InR x) (x0 x1 x2 x3 x4 : Int) (h0 : -9223372036854775808 ≤ x0 ∧ x0 ≤ 9223372036854775807) (h1 : -9223372036854775808 ≤ x1 ∧ x1 ≤ 9223372036854775807) (h2 : -9223372036854775808 ≤ x2 ∧ x2 ≤ 9223372036854775807) (h3 : -9223372036854775808 ≤ x3 ∧ x3 ≤ 9223372036854775807) (h4 : -9223372036854775808 ≤ x4 ∧ x4 ≤ 9223372036854775807) (w : World) (hh : Holds xs g w) (hr : RdS SlAuthority.E w q m us) : Calls Try.prog 70 #[.agg #[.int .i64 x0, .int .i64 x1, .int .i64 x2, .int .i64 x3, .int .i64 x4], .func (.func 72) #[.agg #[.map (some g), .slice q m c']] #[]] w (SlStamp.Val (.bool (chk xs us (x0, x1, x2, x3, x4))) w) := by
  have HL := Lib.hid hr
  have HX := Lib.hid (Bx.new w 76 #[.int .i64 x0, .int .i64 x1, .int .i64 x2, .int .i64 x3, .int .i64 x4])
  have HB : Hid (Below w.heap.size w (w.alloc (.cells #[.int .i64 x0, .int .i64 x1, .int .i64 x2, .int .i64 x3, .int .i64 x4] 76))) := Lib.hid (box1 w _)
  have HH : Hid (Holds xs g (w.alloc (.cells #[.int .i64 x0, .int .i64 x1, .int .i64 x2, .int .i64 x3, .int .i64 x4] 76))) := Lib.hid (hh.below HB.out)
  have G0 := Lib.hid h0
  have G1 := Lib.hid h1
  have G2 := Lib.hid h2
  have G3 := Lib.hid h3
  have G4 := Lib.hid h4
  clear h0 h1 h2 h3 h4 hr
  clear hh
  rcases hok : okT xs us x0 x1 x2 with _ | _
  · have HM := Lib.hid (mkd_no (x3 := x3) (x4 := x4) hok)
    have HS : Hid (chk xs us (x0, x1, x2, x3, x4) = false) := Lib.hid (by show (okT xs us x0 x1 x2 && _) = false; rw [hok]; rfl)
    clear hok
    go_enter Try.func70, Try.ntmps70
    go_wp2_with fail
    generalize (w.alloc (.cells #[.int .i64 x0, .int .i64 x1, .int .i64 x2, .int .i64 x3, .int .i64 x4] 76)) = V at HX HB HH ⊢
    refine (stamp_any g q m c' us hA xs hR x0 x1 x2 x3 x4 G0.out G1.out G2.out G3.out G4.out 0 0 0 0 0 false HM.out _ HH.out (HL.out.below HB.out)).mono ?_
    rintro e w1 ⟨rfl, hb⟩
    replace HB := Lib.hid (below_on HB.out hb)
    replace HX := Lib.hid ((HX.out.below hb).alloc (.cells #[.int .i64 0, .int .i64 0, .int .i64 0, .int .i64 0, .int .i64 0] 76))
    replace HB := Lib.hid (HB.out.alloc HB.out.size (.cells #[.int .i64 0, .int .i64 0, .int .i64 0, .int .i64 0, .int .i64 0] 76))
    have HQ := Lib.hid (Bx.new w1 76 #[.int .i64 0, .int .i64 0, .int .i64 0, .int .i64 0, .int .i64 0])
    obtain ⟨cc0, cc1, cc2, cc3, cc4⟩ := bxc HX.out
    obtain ⟨q0, q1, q2, q3, q4⟩ := bxc HQ.out
    clear hb
    go_wp2_with fail
    go_ret
    exact says (by rw [HS.out]) HB.out
  · have hm1 := mkd_yes (x3 := x3) (x4 := x4) hok
    have hs1 : chk xs us (x0, x1, x2, x3, x4) = decide (markR xs (Ao.aut us x0).1.2.1 [103, x0, x1, x2, x3] = x4) := by show (okT xs us x0 x1 x2 && _) = _; rw [hok]; rfl
    generalize hmm : markR xs (Ao.aut us x0).1.2.1 [103, x0, x1, x2, x3] = m0 at hm1 hs1
    clear hmm hok
    have HM := Lib.hid hm1
    clear hm1
    by_cases he : m0 = x4
    · have HS : Hid (chk xs us (x0, x1, x2, x3, x4) = true) := Lib.hid (by rw [hs1, decide_eq_true he])
      clear hs1
      subst he
      go_enter Try.func70, Try.ntmps70
      go_wp2_with fail
      generalize (w.alloc (.cells #[.int .i64 x0, .int .i64 x1, .int .i64 x2, .int .i64 x3, .int .i64 m0] 76)) = V at HX HB HH ⊢
      refine (stamp_any g q m c' us hA xs hR x0 x1 x2 x3 m0 G0.out G1.out G2.out G3.out G4.out x0 x1 x2 x3 m0 true HM.out _ HH.out (HL.out.below HB.out)).mono ?_
      rintro e w1 ⟨rfl, hb⟩
      replace HB := Lib.hid (below_on HB.out hb)
      replace HX := Lib.hid ((HX.out.below hb).alloc (.cells #[.int .i64 x0, .int .i64 x1, .int .i64 x2, .int .i64 x3, .int .i64 m0] 76))
      replace HB := Lib.hid (HB.out.alloc HB.out.size (.cells #[.int .i64 x0, .int .i64 x1, .int .i64 x2, .int .i64 x3, .int .i64 m0] 76))
      have HQ := Lib.hid (Bx.new w1 76 #[.int .i64 x0, .int .i64 x1, .int .i64 x2, .int .i64 x3, .int .i64 m0])
      obtain ⟨cc0, cc1, cc2, cc3, cc4⟩ := bxc HX.out
      obtain ⟨q0, q1, q2, q3, q4⟩ := bxc HQ.out
      clear hb
      go_wp2_with fail
      go_ret
      exact says (by rw [HS.out]) HB.out
    · have HS : Hid (chk xs us (x0, x1, x2, x3, x4) = false) := Lib.hid (by rw [hs1, decide_eq_false he])
      have e1 : (m0 == x4) = false := by simpa using he
      clear hs1 he
      go_enter Try.func70, Try.ntmps70
      go_wp2_with fail
      generalize (w.alloc (.cells #[.int .i64 x0, .int .i64 x1, .int .i64 x2, .int .i64 x3, .int .i64 x4] 76)) = V at HX HB HH ⊢
      refine (stamp_any g q m c' us hA xs hR x0 x1 x2 x3 x4 G0.out G1.out G2.out G3.out G4.out x0 x1 x2 x3 m0 true HM.out _ HH.out (HL.out.below HB.out)).mono ?_
      rintro e w1 ⟨rfl, hb⟩
      replace HB := Lib.hid (below_on HB.out hb)
      replace HX := Lib.hid ((HX.out.below hb).alloc (.cells #[.int .i64 x0, .int .i64 x1, .int .i64 x2, .int .i64 x3, .int .i64 m0] 76))
      replace HB := Lib.hid (HB.out.alloc HB.out.size (.cells #[.int .i64 x0, .int .i64 x1, .int .i64 x2, .int .i64 x3, .int .i64 m0] 76))
      have HQ := Lib.hid (Bx.new w1 76 #[.int .i64 x0, .int .i64 x1, .int .i64 x2, .int .i64 x3, .int .i64 m0])
      obtain ⟨cc0, cc1, cc2, cc3, cc4⟩ := bxc HX.out
      obtain ⟨q0, q1, q2, q3, q4⟩ := bxc HQ.out
      clear hb
      go_wp2_with fail
      go_ret
      exact says (by rw [HS.out]) HB.out
set_option maxRecDepth 100000 in
set_option maxHeartbeats 8000000 in
theorem check_any (p : Option Addr) (n c : Nat) (xs : List I5) (hR : ∀ x ∈ xs, SlKey.InR x) (q : Option Addr) (m c' : Nat) (us : List I3) (hA : ∀ a ∈ us, SlAuthority.InR a) (x0 x1 x2 x3 x4 : Int) (h0 : -9223372036854775808 ≤ x0 ∧ x0 ≤ 9223372036854775807) (h1 : -9223372036854775808 ≤ x1 ∧ x1 ≤ 9223372036854775807) (h2 : -9223372036854775808 ≤ x2 ∧ x2 ≤ 9223372036854775807) (h3 : -9223372036854775808 ≤ x3 ∧ x3 ≤ 9223372036854775807) (h4 : -9223372036854775808 ≤ x4 ∧ x4 ≤ 9223372036854775807) (w : World) (hr : RdS SlKey.E w p n xs) (hs : RdS SlAuthority.E w q m us) : Calls Try.prog 50 #[.slice p n c, .slice q m c', .agg #[.int .i64 x0, .int .i64 x1, .int .i64 x2, .int .i64 x3, .int .i64 x4]] w (SlStamp.Val (.bool (chk xs us (x0, x1, x2, x3, x4))) w) := by
  have HK := Lib.hid hr
  have HL := Lib.hid hs
  have HX := Lib.hid (Bx.new w 76 #[.int .i64 x0, .int .i64 x1, .int .i64 x2, .int .i64 x3, .int .i64 x4])
  have HB : Hid (Below w.heap.size w (w.alloc (.cells #[.int .i64 x0, .int .i64 x1, .int .i64 x2, .int .i64 x3, .int .i64 x4] 76))) := Lib.hid (box1 w _)
  have G0 := Lib.hid h0
  have G1 := Lib.hid h1
  have G2 := Lib.hid h2
  have G3 := Lib.hid h3
  have G4 := Lib.hid h4
  clear h0 h1 h2 h3 h4 hr
  clear hs
  go_enter Try.func50, Try.ntmps50
  go_wp2_with fail
  generalize (w.alloc (.cells #[.int .i64 x0, .int .i64 x1, .int .i64 x2, .int .i64 x3, .int .i64 x4] 76)) = V at HB HX ⊢
  replace HB := Lib.hid (drewB HB.out)
  replace HX := Lib.hid HX.out.drew1
  go_region_held3 (fun w' => w'.cell? ⟨w.heap.size, 0, none⟩ = some (.int .i64 x0) ∧ w'.cell? ⟨w.heap.size, 1, none⟩ = some (.int .i64 x1) ∧ w'.cell? ⟨w.heap.size, 2, none⟩ = some (.int .i64 x2) ∧ w'.cell? ⟨w.heap.size, 3, none⟩ = some (.int .i64 x3) ∧ w'.cell? ⟨w.heap.size, 4, none⟩ = some (.int .i64 x4)) (first | exact bxc HX.out | go_keep) (first
    | (go_at_call 71; (with_reducible refine (ringOf_any p n c xs hR _ (HK.out.below HB.out)).mono ?_); rintro e w1 ⟨rfl, hh, hb⟩; have HH : Hid (Holds xs V.heap.size w1) := Lib.hid hh; replace HB := Lib.hid (below_on HB.out hb); replace HX := Lib.hid (HX.out.below hb); clear hb hh)
    | (go_at_call 70; (with_reducible refine (remade_any _ q m c' us hA xs hR x0 x1 x2 x3 x4 G0.out G1.out G2.out G3.out G4.out _ HH.out (HL.out.below HB.out)).mono ?_); rintro e w2 ⟨rfl, hb⟩; replace HB := Lib.hid (below_on HB.out hb); replace HX := Lib.hid (HX.out.below hb); clear hb))
  all_goals
    go_wp2_with fail
    go_ret
    exact says rfl HB.out
set_option maxRecDepth 100000 in
set_option maxHeartbeats 8000000 in
theorem spec_check_any (p : Option Addr) (n c : Nat) (xs : List I5) (hR : ∀ x ∈ xs, SlKey.InR x) (q : Option Addr) (m c' : Nat) (us : List I3) (x0 x1 x2 x3 x4 : Int) (h0 : -9223372036854775808 ≤ x0 ∧ x0 ≤ 9223372036854775807) (h1 : -9223372036854775808 ≤ x1 ∧ x1 ≤ 9223372036854775807) (h2 : -9223372036854775808 ≤ x2 ∧ x2 ≤ 9223372036854775807) (h3 : -9223372036854775808 ≤ x3 ∧ x3 ≤ 9223372036854775807) (h4 : -9223372036854775808 ≤ x4 ∧ x4 ≤ 9223372036854775807) (w : World) (hr : RdS SlKey.E w p n xs) (hs : RdS SlAuthority.E w q m us) : Calls Try.prog 41 #[.slice p n c, .slice q m c', .agg #[.int .i64 x0, .int .i64 x1, .int .i64 x2, .int .i64 x3, .int .i64 x4]] w (SlStamp.Val (.bool (chk xs us (x0, x1, x2, x3, x4))) w) := by
  have HK := Lib.hid hr
  have HL := Lib.hid hs
  have HX := Lib.hid (Bx.new w 76 #[.int .i64 x0, .int .i64 x1, .int .i64 x2, .int .i64 x3, .int .i64 x4])
  have HB : Hid (Below w.heap.size w (w.alloc (.cells #[.int .i64 x0, .int .i64 x1, .int .i64 x2, .int .i64 x3, .int .i64 x4] 76))) := Lib.hid (box1 w _)
  have G0 := Lib.hid h0
  have G1 := Lib.hid h1
  have G2 := Lib.hid h2
  have G3 := Lib.hid h3
  have G4 := Lib.hid h4
  clear h0 h1 h2 h3 h4 hr
  clear hs
  rcases hok : okT xs us x0 x1 x2 with _ | _
  · have HM := Lib.hid (mkd_no (x3 := x3) (x4 := x4) hok)
    have HS : Hid (chk xs us (x0, x1, x2, x3, x4) = false) := Lib.hid (by show (okT xs us x0 x1 x2 && _) = false; rw [hok]; rfl)
    clear hok
    go_enter Try.func41, Try.ntmps41
    go_wp2_with fail
    generalize (w.alloc (.cells #[.int .i64 x0, .int .i64 x1, .int .i64 x2, .int .i64 x3, .int .i64 x4] 76)) = V at HX HB ⊢
    refine (KStampS.spec_make_any p n c xs hR q m c' us x0 x1 x2 x3 x4 G0.out G1.out G2.out G3.out G4.out 0 0 0 0 0 false HM.out _ (HK.out.below HB.out) (HL.out.below HB.out)).mono ?_
    rintro e w1 ⟨rfl, hb⟩
    replace HB := Lib.hid (below_on HB.out hb)
    replace HX := Lib.hid ((HX.out.below hb).alloc (.cells #[.int .i64 0, .int .i64 0, .int .i64 0, .int .i64 0, .int .i64 0] 76))
    replace HB := Lib.hid (HB.out.alloc HB.out.size (.cells #[.int .i64 0, .int .i64 0, .int .i64 0, .int .i64 0, .int .i64 0] 76))
    have HQ := Lib.hid (Bx.new w1 76 #[.int .i64 0, .int .i64 0, .int .i64 0, .int .i64 0, .int .i64 0])
    obtain ⟨cc0, cc1, cc2, cc3, cc4⟩ := bxc HX.out
    obtain ⟨q0, q1, q2, q3, q4⟩ := bxc HQ.out
    clear hb
    go_wp2_with fail
    go_ret
    exact says (by rw [HS.out]) HB.out
  · have hm1 := mkd_yes (x3 := x3) (x4 := x4) hok
    have hs1 : chk xs us (x0, x1, x2, x3, x4) = decide (markR xs (Ao.aut us x0).1.2.1 [103, x0, x1, x2, x3] = x4) := by show (okT xs us x0 x1 x2 && _) = _; rw [hok]; rfl
    generalize hmm : markR xs (Ao.aut us x0).1.2.1 [103, x0, x1, x2, x3] = m0 at hm1 hs1
    clear hmm hok
    have HM := Lib.hid hm1
    clear hm1
    by_cases he : m0 = x4
    · have HS : Hid (chk xs us (x0, x1, x2, x3, x4) = true) := Lib.hid (by rw [hs1, decide_eq_true he])
      clear hs1
      subst he
      go_enter Try.func41, Try.ntmps41
      go_wp2_with fail
      generalize (w.alloc (.cells #[.int .i64 x0, .int .i64 x1, .int .i64 x2, .int .i64 x3, .int .i64 m0] 76)) = V at HX HB ⊢
      refine (KStampS.spec_make_any p n c xs hR q m c' us x0 x1 x2 x3 m0 G0.out G1.out G2.out G3.out G4.out x0 x1 x2 x3 m0 true HM.out _ (HK.out.below HB.out) (HL.out.below HB.out)).mono ?_
      rintro e w1 ⟨rfl, hb⟩
      replace HB := Lib.hid (below_on HB.out hb)
      replace HX := Lib.hid ((HX.out.below hb).alloc (.cells #[.int .i64 x0, .int .i64 x1, .int .i64 x2, .int .i64 x3, .int .i64 m0] 76))
      replace HB := Lib.hid (HB.out.alloc HB.out.size (.cells #[.int .i64 x0, .int .i64 x1, .int .i64 x2, .int .i64 x3, .int .i64 m0] 76))
      have HQ := Lib.hid (Bx.new w1 76 #[.int .i64 x0, .int .i64 x1, .int .i64 x2, .int .i64 x3, .int .i64 m0])
      obtain ⟨cc0, cc1, cc2, cc3, cc4⟩ := bxc HX.out
      obtain ⟨q0, q1, q2, q3, q4⟩ := bxc HQ.out
      clear hb
      go_wp2_with fail
      go_ret
      exact says (by rw [HS.out]) HB.out
    · have HS : Hid (chk xs us (x0, x1, x2, x3, x4) = false) := Lib.hid (by rw [hs1, decide_eq_false he])
      have e1 : (m0 == x4) = false := by simpa using he
      clear hs1 he
      go_enter Try.func41, Try.ntmps41
      go_wp2_with fail
      generalize (w.alloc (.cells #[.int .i64 x0, .int .i64 x1, .int .i64 x2, .int .i64 x3, .int .i64 x4] 76)) = V at HX HB ⊢
      refine (KStampS.spec_make_any p n c xs hR q m c' us x0 x1 x2 x3 x4 G0.out G1.out G2.out G3.out G4.out x0 x1 x2 x3 m0 true HM.out _ (HK.out.below HB.out) (HL.out.below HB.out)).mono ?_
      rintro e w1 ⟨rfl, hb⟩
      replace HB := Lib.hid (below_on HB.out hb)
      replace HX := Lib.hid ((HX.out.below hb).alloc (.cells #[.int .i64 x0, .int .i64 x1, .int .i64 x2, .int .i64 x3, .int .i64 m0] 76))
      replace HB := Lib.hid (HB.out.alloc HB.out.size (.cells #[.int .i64 x0, .int .i64 x1, .int .i64 x2, .int .i64 x3, .int .i64 m0] 76))
      have HQ := Lib.hid (Bx.new w1 76 #[.int .i64 x0, .int .i64 x1, .int .i64 x2, .int .i64 x3, .int .i64 m0])
      obtain ⟨cc0, cc1, cc2, cc3, cc4⟩ := bxc HX.out
      obtain ⟨q0, q1, q2, q3, q4⟩ := bxc HQ.out
      clear hb
      go_wp2_with fail
      go_ret
      exact says (by rw [HS.out]) HB.out
end Go.Proofs.Ytnkpioaaabnlcaa.MStamp
