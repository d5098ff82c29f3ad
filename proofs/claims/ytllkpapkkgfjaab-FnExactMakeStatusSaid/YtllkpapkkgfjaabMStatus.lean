/- Contracts of what is marked with a key, made and checked: Status; in the program (the ring of keys) and in the reference. -/
import Derived.Test.YtllkpapkkgfjaabSi
import Derived.Test.YtllkpapkkgfjaabKo
import Derived.Test.YtllkpapkkgfjaabQt
import Derived.Deep.RegionHeld3
namespace Go.Proofs.Ytllkpapkkgfjaab.MStatus
open Go.ChangeShapes Go.WideShapes Go.ChangeAt Go.RowKit Go.Shelf Sl St Fnd Kn Kr Ki Km Ko SlStatus Si
theorem says {b b' : Bool} {w w' : World} (h : b' = b) (hb : Below w.heap.size w w') : SlStatus.Val (.bool b) w (.returned (.bool b')) w' := ⟨by rw [h], hb⟩
theorem drewOn {V w1 : World} (hb : Below V.drew.heap.size V.drew w1) : Below V.heap.size V w1 := below_on (below_drewN (Below.refl _ _) 1) hb
set_option maxRecDepth 100000 in
set_option maxHeartbeats 8000000 in
theorem spec_check_any (p : Option Addr) (n c : Nat) (xs : List I5) (hR : ∀ x ∈ xs, SlKey.InR x) (x0 x1 x2 x3 x4 : Int) (h0 : -9223372036854775808 ≤ x0 ∧ x0 ≤ 9223372036854775807) (h1 : -9223372036854775808 ≤ x1 ∧ x1 ≤ 9223372036854775807) (h2 : -9223372036854775808 ≤ x2 ∧ x2 ≤ 9223372036854775807) (h3 : -9223372036854775808 ≤ x3 ∧ x3 ≤ 9223372036854775807) (h4 : -9223372036854775808 ≤ x4 ∧ x4 ≤ 9223372036854775807) (w : World) (hr : RdS SlKey.E w p n xs) : Calls Try.prog 40 #[.slice p n c, .agg #[.int .i64 x0, .int .i64 x1, .int .i64 x2, .int .i64 x3, .int .i64 x4]] w (Val (.bool (okS (x0, x1, x2, x3, x4) && checkM xs x3 [102, x0, x1, x2, x3] x4)) w) := by
  have HR := Lib.hid hr
  have G0 := Lib.hid h0
  have G1 := Lib.hid h1
  have G2 := Lib.hid h2
  have G3 := Lib.hid h3
  have G4 := Lib.hid h4
  clear h0 h1 h2 h3 h4 hr
  have HX := Lib.hid (Bx.new w 30 #[.int .i64 x0, .int .i64 x1, .int .i64 x2, .int .i64 x3, .int .i64 x4])
  have HB := Lib.hid (box1 w (.cells #[.int .i64 x0, .int .i64 x1, .int .i64 x2, .int .i64 x3, .int .i64 x4] 30))
  obtain ⟨β, hβ⟩ : ∃ β, okS (x0, x1, x2, x3, x4) = β := ⟨_, rfl⟩
  have HO := Lib.hid hβ
  clear hβ
  cases β
  · have HS : Hid ((okS (x0, x1, x2, x3, x4) && checkM xs x3 [102, x0, x1, x2, x3] x4) = false) := Lib.hid (by rw [HO.out]; rfl)
    go_enter Try.func40, Try.ntmps40
    go_wp2_with fail
    have HC : Hid (∀ w', Qt.Keeps ((w.alloc (.cells #[.int .i64 x0, .int .i64 x1, .int .i64 x2, .int .i64 x3, .int .i64 x4] 30))) w' → w'.cell? ⟨w.heap.size, 0, none⟩ = some (.int .i64 x0) ∧ w'.cell? ⟨w.heap.size, 1, none⟩ = some (.int .i64 x1) ∧ w'.cell? ⟨w.heap.size, 2, none⟩ = some (.int .i64 x2) ∧ w'.cell? ⟨w.heap.size, 3, none⟩ = some (.int .i64 x3) ∧ w'.cell? ⟨w.heap.size, 4, none⟩ = some (.int .i64 x4)) := Lib.hid fun w' hw => bxc (HX.out.below hw)
    refine Qt.region (Qt.Keeps ((w.alloc (.cells #[.int .i64 x0, .int .i64 x1, .int .i64 x2, .int .i64 x3, .int .i64 x4] 30)))) (by kernel_rfl) (by kernel_rfl) (Qt.Keeps.drew _) ?_
    repeat (first
      | go_big_quiet_skip
      | (go_big_quiet_want
         refine Qt.val (v := ?_) (fun w hw => ?_) ?_
         rotate_left
         · obtain ⟨s0, s1, s2, s3, s4⟩ := HC.out w hw
           go_simp
           rfl
         simp only [Act.put, List.setIfInBounds_toArray, List.set_cons_zero, List.set_cons_succ]
         go_big_quiet_on)
      | (go_big_quiet_want
         refine Qt.call (v := .bool false) (f := 28) (args := #[.agg #[.int .i64 x0, .int .i64 x1, .int .i64 x2, .int .i64 x3, .int .i64 x4]]) (fun w hw => ?_) (fun w hw => ?_) ?_
         · go_simp
         · refine (spec_isStatus_any x0 x1 x2 x3 x4 _).mono ?_
           rintro e w1 ⟨rfl, hb1⟩
           rw [HO.out]
           exact ⟨rfl, hw.then hb1⟩
         simp only [Act.put, List.setIfInBounds_toArray, List.set_cons_zero, List.set_cons_succ]
         go_big_quiet_on))
    refine wpQuiet_nil ?_
    intro w2 hw2
    have HW2 := Lib.hid (below_on HB.out hw2)
    clear hw2
    go_wp2_with fail
    go_ret
    exact says (by rw [HS.out]) HW2.out
  · have HS : Hid ((okS (x0, x1, x2, x3, x4) && checkM xs x3 [102, x0, x1, x2, x3] x4) = checkM xs x3 [102, x0, x1, x2, x3] x4) := Lib.hid (by rw [HO.out]; rfl)
    have HRA : Hid (∀ w', Below w.heap.size w w' → RdS SlKey.E w' p n xs) := Lib.hid fun w' hb => HR.out.below hb
    go_enter Try.func40, Try.ntmps40
    go_wp2_with fail
    generalize w.alloc (.cells #[.int .i64 x0, .int .i64 x1, .int .i64 x2, .int .i64 x3, .int .i64 x4] 30) = V at HX HB ⊢
    go_region_held3 (fun w' => w'.cell? ⟨w.heap.size, 0, none⟩ = some (.int .i64 x0) ∧ w'.cell? ⟨w.heap.size, 1, none⟩ = some (.int .i64 x1) ∧ w'.cell? ⟨w.heap.size, 2, none⟩ = some (.int .i64 x2) ∧ w'.cell? ⟨w.heap.size, 3, none⟩ = some (.int .i64 x3) ∧ w'.cell? ⟨w.heap.size, 4, none⟩ = some (.int .i64 x4)) (first | exact bxc HX3.out | exact bxc HX2.out | exact bxc HX1.out | exact bxc HX.out.drew1 | go_keep) (first
      | (go_at_call 28; (with_reducible refine (spec_isStatus_any x0 x1 x2 x3 x4 _).mono ?_); rintro e w1 ⟨rfl, hb⟩; rw [HO.out]; have HX1 := Lib.hid (HX.out.drew1.below hb); have HB1 := Lib.hid (below_on HB.out (drewOn hb)); clear hb)
      | (go_at_call 30; (with_reducible refine (spec_statusInts_any x0 x1 x2 x3 x4 _ G0.out G1.out G2.out G3.out G4.out).mono ?_); rintro e w2 ⟨p2, n2, c2, rfl, ho, hb⟩; have HO2 := Lib.hid ho; have hn2 : n2 ≤ 5 := Nat.le_of_eq ho.len.symm; have HX2 := Lib.hid (HX1.out.below hb); have HB2 := Lib.hid (below_on HB1.out hb); clear ho hb)
      | (go_at_call 91; (with_reducible refine (Ko.spec_checkMark_any p n c xs hR x3 p2 n2 c2 [102, x0, x1, x2, x3] x4 _ (HRA.out _ HB2.out) HO2.out.rd (by omega)).mono ?_); rintro e w3 ⟨rfl, hb⟩; have HX3 := Lib.hid (HX2.out.below hb); have HB3 := Lib.hid (below_on HB2.out hb); clear hb))
    all_goals
      go_wp2_with fail
      go_ret
      exact says (by rw [HS.out]) HB3.out
set_option maxRecDepth 100000 in
set_option maxHeartbeats 8000000 in
theorem check_any (p : Option Addr) (n c : Nat) (xs : List I5) (hR : ∀ x ∈ xs, SlKey.InR x) (x0 x1 x2 x3 x4 : Int) (h0 : -9223372036854775808 ≤ x0 ∧ x0 ≤ 9223372036854775807) (h1 : -9223372036854775808 ≤ x1 ∧ x1 ≤ 9223372036854775807) (h2 : -9223372036854775808 ≤ x2 ∧ x2 ≤ 9223372036854775807) (h3 : -9223372036854775808 ≤ x3 ∧ x3 ≤ 9223372036854775807) (h4 : -9223372036854775808 ≤ x4 ∧ x4 ≤ 9223372036854775807) (w : World) (hr : RdS SlKey.E w p n xs) : Calls Try.prog 25 #[.slice p n c, .agg #[.int .i64 x0, .int .i64 x1, .int .i64 x2, .int .i64 x3, .int .i64 x4]] w (Val (.bool (okS (x0, x1, x2, x3, x4) && checkM xs x3 [102, x0, x1, x2, x3] x4)) w) := by
  have HR := Lib.hid hr
  have G0 := Lib.hid h0
  have G1 := Lib.hid h1
  have G2 := Lib.hid h2
  have G3 := Lib.hid h3
  have G4 := Lib.hid h4
  clear h0 h1 h2 h3 h4 hr
  have HX := Lib.hid (Bx.new w 30 #[.int .i64 x0, .int .i64 x1, .int .i64 x2, .int .i64 x3, .int .i64 x4])
  have HB := Lib.hid (box1 w (.cells #[.int .i64 x0, .int .i64 x1, .int .i64 x2, .int .i64 x3, .int .i64 x4] 30))
  obtain ⟨β, hβ⟩ : ∃ β, okS (x0, x1, x2, x3, x4) = β := ⟨_, rfl⟩
  have HO := Lib.hid hβ
  clear hβ
  cases β
  · have HS : Hid ((okS (x0, x1, x2, x3, x4) && checkM xs x3 [102, x0, x1, x2, x3] x4) = false) := Lib.hid (by rw [HO.out]; rfl)
    go_enter Try.func25, Try.ntmps25
    go_wp2_with fail
    have HC : Hid (∀ w', Qt.Keeps ((w.alloc (.cells #[.int .i64 x0, .int .i64 x1, .int .i64 x2, .int .i64 x3, .int .i64 x4] 30))) w' → w'.cell? ⟨w.heap.size, 0, none⟩ = some (.int .i64 x0) ∧ w'.cell? ⟨w.heap.size, 1, none⟩ = some (.int .i64 x1) ∧ w'.cell? ⟨w.heap.size, 2, none⟩ = some (.int .i64 x2) ∧ w'.cell? ⟨w.heap.size, 3, none⟩ = some (.int .i64 x3) ∧ w'.cell? ⟨w.heap.size, 4, none⟩ = some (.int .i64 x4)) := Lib.hid fun w' hw => bxc (HX.out.below hw)
    refine Qt.region (Qt.Keeps ((w.alloc (.cells #[.int .i64 x0, .int .i64 x1, .int .i64 x2, .int .i64 x3, .int .i64 x4] 30)))) (by kernel_rfl) (by kernel_rfl) (Qt.Keeps.drew _) ?_
    repeat (first
      | go_big_quiet_skip
      | (go_big_quiet_want
         refine Qt.val (v := ?_) (fun w hw => ?_) ?_
         rotate_left
         · obtain ⟨s0, s1, s2, s3, s4⟩ := HC.out w hw
           go_simp
           rfl
         simp only [Act.put, List.setIfInBounds_toArray, List.set_cons_zero, List.set_cons_succ]
         go_big_quiet_on)
      | (go_big_quiet_want
         refine Qt.call (v := .bool false) (f := 26) (args := #[.agg #[.int .i64 x0, .int .i64 x1, .int .i64 x2, .int .i64 x3, .int .i64 x4]]) (fun w hw => ?_) (fun w hw => ?_) ?_
         · go_simp
         · refine (isStatus_any x0 x1 x2 x3 x4 _).mono ?_
           rintro e w1 ⟨rfl, hb1⟩
           rw [HO.out]
           exact ⟨rfl, hw.then hb1⟩
         simp only [Act.put, List.setIfInBounds_toArray, List.set_cons_zero, List.set_cons_succ]
         go_big_quiet_on))
    refine wpQuiet_nil ?_
    intro w2 hw2
    have HW2 := Lib.hid (below_on HB.out hw2)
    clear hw2
    go_wp2_with fail
    go_ret
    exact says (by rw [HS.out]) HW2.out
  · have HS : Hid ((okS (x0, x1, x2, x3, x4) && checkM xs x3 [102, x0, x1, x2, x3] x4) = checkM xs x3 [102, x0, x1, x2, x3] x4) := Lib.hid (by rw [HO.out]; rfl)
    have HRA : Hid (∀ w', Below w.heap.size w w' → RdS SlKey.E w' p n xs) := Lib.hid fun w' hb => HR.out.below hb
    go_enter Try.func25, Try.ntmps25
    go_wp2_with fail
    generalize w.alloc (.cells #[.int .i64 x0, .int .i64 x1, .int .i64 x2, .int .i64 x3, .int .i64 x4] 30) = V at HX HB ⊢
    go_region_held3 (fun w' => w'.cell? ⟨w.heap.size, 0, none⟩ = some (.int .i64 x0) ∧ w'.cell? ⟨w.heap.size, 1, none⟩ = some (.int .i64 x1) ∧ w'.cell? ⟨w.heap.size, 2, none⟩ = some (.int .i64 x2) ∧ w'.cell? ⟨w.heap.size, 3, none⟩ = some (.int .i64 x3) ∧ w'.cell? ⟨w.heap.size, 4, none⟩ = some (.int .i64 x4)) (first | exact bxc HX3.out | exact bxc HX2.out | exact bxc HX1.out | exact bxc HX.out.drew1 | go_keep) (first
      | (go_at_call 26; (with_reducible refine (isStatus_any x0 x1 x2 x3 x4 _).mono ?_); rintro e w1 ⟨rfl, hb⟩; rw [HO.out]; have HX1 := Lib.hid (HX.out.drew1.below hb); have HB1 := Lib.hid (below_on HB.out (drewOn hb)); clear hb)
      | (go_at_call 31; (with_reducible refine (statusInts_any x0 x1 x2 x3 x4 _ G0.out G1.out G2.out G3.out G4.out).mono ?_); rintro e w2 ⟨p2, n2, c2, rfl, ho, hb⟩; have HO2 := Lib.hid ho; have hn2 : n2 ≤ 5 := Nat.le_of_eq ho.len.symm; have HX2 := Lib.hid (HX1.out.below hb); have HB2 := Lib.hid (below_on HB1.out hb); clear ho hb)
      | (go_at_call 80; (with_reducible refine (Ko.checkMark_any p n c xs hR x3 G3.out p2 n2 c2 [102, x0, x1, x2, x3] x4 _ (HRA.out _ HB2.out) HO2.out.rd (by omega)).mono ?_); rintro e w3 ⟨rfl, hb⟩; have HX3 := Lib.hid (HX2.out.below hb); have HB3 := Lib.hid (below_on HB2.out hb); clear hb))
    all_goals
      go_wp2_with fail
      go_ret
      exact says (by rw [HS.out]) HB3.out
end Go.Proofs.Ytllkpapkkgfjaab.MStatus
