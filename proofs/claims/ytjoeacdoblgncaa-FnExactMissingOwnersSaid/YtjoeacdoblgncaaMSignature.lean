/- Contracts of what is marked with a key, made and checked: Signature; in the program (the ring of keys) and in the reference. -/
import Derived.Test.YtjoeacdoblgncaaGs
import Derived.Test.YtjoeacdoblgncaaKo
import Derived.Test.YtjoeacdoblgncaaQt
import Derived.Deep.RegionHeld3
namespace Go.Proofs.Ytjoeacdoblgncaa.MSignature
open Go.ChangeShapes Go.WideShapes Go.ChangeAt Go.RowKit Go.Shelf Sl St Fnd Kn Kr Ki Km Ko SlSignature Gi Ge Gs
theorem says {b b' : Bool} {w w' : World} (h : b' = b) (hb : Below w.heap.size w w') : SlSignature.Val (.bool b) w (.returned (.bool b')) w' := ⟨by rw [h], hb⟩
theorem drewOn {V w1 : World} (hb : Below V.drew.heap.size V.drew w1) : Below V.heap.size V w1 := below_on (below_drewN (Below.refl _ _) 1) hb
set_option maxRecDepth 100000 in
set_option maxHeartbeats 8000000 in
theorem spec_check_any (p : Option Addr) (n c : Nat) (xs : List I5) (hR : ∀ x ∈ xs, SlKey.InR x) (x0 x1 x2 x3 x4 x5 x6 x7 x8 : Int) (h0 : -9223372036854775808 ≤ x0 ∧ x0 ≤ 9223372036854775807) (h1 : -9223372036854775808 ≤ x1 ∧ x1 ≤ 9223372036854775807) (h2 : -9223372036854775808 ≤ x2 ∧ x2 ≤ 9223372036854775807) (h3 : -9223372036854775808 ≤ x3 ∧ x3 ≤ 9223372036854775807) (h4 : -9223372036854775808 ≤ x4 ∧ x4 ≤ 9223372036854775807) (h5 : -9223372036854775808 ≤ x5 ∧ x5 ≤ 9223372036854775807) (h6 : -9223372036854775808 ≤ x6 ∧ x6 ≤ 9223372036854775807) (h7 : -9223372036854775808 ≤ x7 ∧ x7 ≤ 9223372036854775807) (h8 : -9223372036854775808 ≤ x8 ∧ x8 ≤ 9223372036854775807) (w : World) (hr : RdS SlKey.E w p n xs) : Calls Try.prog 74 #[.slice p n c, .agg #[.int .i64 x0, .int .i64 x1, .int .i64 x2, .int .i64 x3, .int .i64 x4, .int .i64 x5, .int .i64 x6, .int .i64 x7, .int .i64 x8]] w (Val (.bool (okG (x0, x1, x2, x3, x4, x5, x6, x7, x8) && checkM xs x0 [104, x0, x1, x2, x3, x4, x5, x6, x7] x8)) w) := by
  have HR := Lib.hid hr
  have G0 := Lib.hid h0
  have G1 := Lib.hid h1
  have G2 := Lib.hid h2
  have G3 := Lib.hid h3
  have G4 := Lib.hid h4
  have G5 := Lib.hid h5
  have G6 := Lib.hid h6
  have G7 := Lib.hid h7
  have G8 := Lib.hid h8
  clear h0 h1 h2 h3 h4 h5 h6 h7 h8 hr
  have HX := Lib.hid (Bx.new w 70 #[.int .i64 x0, .int .i64 x1, .int .i64 x2, .int .i64 x3, .int .i64 x4, .int .i64 x5, .int .i64 x6, .int .i64 x7, .int .i64 x8])
  have HB := Lib.hid (box1 w (.cells #[.int .i64 x0, .int .i64 x1, .int .i64 x2, .int .i64 x3, .int .i64 x4, .int .i64 x5, .int .i64 x6, .int .i64 x7, .int .i64 x8] 70))
  obtain ⟨β, hβ⟩ : ∃ β, okG (x0, x1, x2, x3, x4, x5, x6, x7, x8) = β := ⟨_, rfl⟩
  have HO := Lib.hid hβ
  clear hβ
  cases β
  · have HS : Hid ((okG (x0, x1, x2, x3, x4, x5, x6, x7, x8) && checkM xs x0 [104, x0, x1, x2, x3, x4, x5, x6, x7] x8) = false) := Lib.hid (by rw [HO.out]; rfl)
    go_enter Try.func74, Try.ntmps74
    go_wp2_with fail
    have HC : Hid (∀ w', Qt.Keeps ((w.alloc (.cells #[.int .i64 x0, .int .i64 x1, .int .i64 x2, .int .i64 x3, .int .i64 x4, .int .i64 x5, .int .i64 x6, .int .i64 x7, .int .i64 x8] 70))) w' → w'.cell? ⟨w.heap.size, 0, none⟩ = some (.int .i64 x0) ∧ w'.cell? ⟨w.heap.size, 1, none⟩ = some (.int .i64 x1) ∧ w'.cell? ⟨w.heap.size, 2, none⟩ = some (.int .i64 x2) ∧ w'.cell? ⟨w.heap.size, 3, none⟩ = some (.int .i64 x3) ∧ w'.cell? ⟨w.heap.size, 4, none⟩ = some (.int .i64 x4) ∧ w'.cell? ⟨w.heap.size, 5, none⟩ = some (.int .i64 x5) ∧ w'.cell? ⟨w.heap.size, 6, none⟩ = some (.int .i64 x6) ∧ w'.cell? ⟨w.heap.size, 7, none⟩ = some (.int .i64 x7) ∧ w'.cell? ⟨w.heap.size, 8, none⟩ = some (.int .i64 x8)) := Lib.hid fun w' hw => bxc (HX.out.below hw)
    refine Qt.region (Qt.Keeps ((w.alloc (.cells #[.int .i64 x0, .int .i64 x1, .int .i64 x2, .int .i64 x3, .int .i64 x4, .int .i64 x5, .int .i64 x6, .int .i64 x7, .int .i64 x8] 70)))) (by kernel_rfl) (by kernel_rfl) (Qt.Keeps.drew _) ?_
    repeat (first
      | go_big_quiet_skip
      | (go_big_quiet_want
         refine Qt.val (v := ?_) (fun w hw => ?_) ?_
         rotate_left
         · obtain ⟨s0, s1, s2, s3, s4, s5, s6, s7, s8⟩ := HC.out w hw
           go_simp
           rfl
         simp only [Act.put, List.setIfInBounds_toArray, List.set_cons_zero, List.set_cons_succ]
         go_big_quiet_on)
      | (go_big_quiet_want
         refine Qt.call (v := .bool false) (f := 102) (args := #[.agg #[.int .i64 x0, .int .i64 x1, .int .i64 x2, .int .i64 x3, .int .i64 x4, .int .i64 x5, .int .i64 x6, .int .i64 x7, .int .i64 x8]]) (fun w hw => ?_) (fun w hw => ?_) ?_
         · go_simp
         · refine (spec_isSignature_any x0 x1 x2 x3 x4 x5 x6 x7 x8 _).mono ?_
           rintro e w1 ⟨rfl, hb1⟩
           rw [HO.out]
           exact ⟨rfl, hw.then hb1⟩
         simp only [Act.put, List.setIfInBounds_toArray, List.set_cons_zero, List.set_cons_succ]
         go_big_quiet_on))
    refine wpQuiet_nil ?_
    intro w2 hw2
    have HW2 := Lib.hid (below_on HB.out hw2)
    clear hw2
    go_wp2_with fail
    go_ret
    exact says (by rw [HS.out]) HW2.out
  · have HS : Hid ((okG (x0, x1, x2, x3, x4, x5, x6, x7, x8) && checkM xs x0 [104, x0, x1, x2, x3, x4, x5, x6, x7] x8) = checkM xs x0 [104, x0, x1, x2, x3, x4, x5, x6, x7] x8) := Lib.hid (by rw [HO.out]; rfl)
    have HRA : Hid (∀ w', Below w.heap.size w w' → RdS SlKey.E w' p n xs) := Lib.hid fun w' hb => HR.out.below hb
    go_enter Try.func74, Try.ntmps74
    go_wp2_with fail
    generalize w.alloc (.cells #[.int .i64 x0, .int .i64 x1, .int .i64 x2, .int .i64 x3, .int .i64 x4, .int .i64 x5, .int .i64 x6, .int .i64 x7, .int .i64 x8] 70) = V at HX HB ⊢
    go_region_held3 (fun w' => w'.cell? ⟨w.heap.size, 0, none⟩ = some (.int .i64 x0) ∧ w'.cell? ⟨w.heap.size, 1, none⟩ = some (.int .i64 x1) ∧ w'.cell? ⟨w.heap.size, 2, none⟩ = some (.int .i64 x2) ∧ w'.cell? ⟨w.heap.size, 3, none⟩ = some (.int .i64 x3) ∧ w'.cell? ⟨w.heap.size, 4, none⟩ = some (.int .i64 x4) ∧ w'.cell? ⟨w.heap.size, 5, none⟩ = some (.int .i64 x5) ∧ w'.cell? ⟨w.heap.size, 6, none⟩ = some (.int .i64 x6) ∧ w'.cell? ⟨w.heap.size, 7, none⟩ = some (.int .i64 x7) ∧ w'.cell? ⟨w.heap.size, 8, none⟩ = some (.int .i64 x8)) (first | exact bxc HX3.out | exact bxc HX2.out | exact bxc HX1.out | exact bxc HX.out.drew1 | go_keep) (first
      | (go_at_call 102; (with_reducible refine (spec_isSignature_any x0 x1 x2 x3 x4 x5 x6 x7 x8 _).mono ?_); rintro e w1 ⟨rfl, hb⟩; rw [HO.out]; have HX1 := Lib.hid (HX.out.drew1.below hb); have HB1 := Lib.hid (below_on HB.out (drewOn hb)); clear hb)
      | (go_at_call 77; (with_reducible refine (spec_signatureInts_any x0 x1 x2 x3 x4 x5 x6 x7 x8 _ G0.out G1.out G2.out G3.out G4.out G5.out G6.out G7.out G8.out).mono ?_); rintro e w2 ⟨p2, n2, c2, rfl, ho, hb⟩; have HO2 := Lib.hid ho; have hn2 : n2 ≤ 9 := Nat.le_of_eq ho.len.symm; have HX2 := Lib.hid (HX1.out.below hb); have HB2 := Lib.hid (below_on HB1.out hb); clear ho hb)
      | (go_at_call 88; (with_reducible refine (Ko.spec_checkMark_any p n c xs hR x0 p2 n2 c2 [104, x0, x1, x2, x3, x4, x5, x6, x7] x8 _ (HRA.out _ HB2.out) HO2.out.rd (by omega)).mono ?_); rintro e w3 ⟨rfl, hb⟩; have HX3 := Lib.hid (HX2.out.below hb); have HB3 := Lib.hid (below_on HB2.out hb); clear hb))
    all_goals
      go_wp2_with fail
      go_ret
      exact says (by rw [HS.out]) HB3.out
set_option maxRecDepth 100000 in
set_option maxHeartbeats 8000000 in
theorem check_any (p : Option Addr) (n c : Nat) (xs : List I5) (hR : ∀ x ∈ xs, SlKey.InR x) (x0 x1 x2 x3 x4 x5 x6 x7 x8 : Int) (h0 : -9223372036854775808 ≤ x0 ∧ x0 ≤ 9223372036854775807) (h1 : -9223372036854775808 ≤ x1 ∧ x1 ≤ 9223372036854775807) (h2 : -9223372036854775808 ≤ x2 ∧ x2 ≤ 9223372036854775807) (h3 : -9223372036854775808 ≤ x3 ∧ x3 ≤ 9223372036854775807) (h4 : -9223372036854775808 ≤ x4 ∧ x4 ≤ 9223372036854775807) (h5 : -9223372036854775808 ≤ x5 ∧ x5 ≤ 9223372036854775807) (h6 : -9223372036854775808 ≤ x6 ∧ x6 ≤ 9223372036854775807) (h7 : -9223372036854775808 ≤ x7 ∧ x7 ≤ 9223372036854775807) (h8 : -9223372036854775808 ≤ x8 ∧ x8 ≤ 9223372036854775807) (w : World) (hr : RdS SlKey.E w p n xs) : Calls Try.prog 106 #[.slice p n c, .agg #[.int .i64 x0, .int .i64 x1, .int .i64 x2, .int .i64 x3, .int .i64 x4, .int .i64 x5, .int .i64 x6, .int .i64 x7, .int .i64 x8]] w (Val (.bool (okG (x0, x1, x2, x3, x4, x5, x6, x7, x8) && checkM xs x0 [104, x0, x1, x2, x3, x4, x5, x6, x7] x8)) w) := by
  have HR := Lib.hid hr
  have G0 := Lib.hid h0
  have G1 := Lib.hid h1
  have G2 := Lib.hid h2
  have G3 := Lib.hid h3
  have G4 := Lib.hid h4
  have G5 := Lib.hid h5
  have G6 := Lib.hid h6
  have G7 := Lib.hid h7
  have G8 := Lib.hid h8
  clear h0 h1 h2 h3 h4 h5 h6 h7 h8 hr
  have HX := Lib.hid (Bx.new w 70 #[.int .i64 x0, .int .i64 x1, .int .i64 x2, .int .i64 x3, .int .i64 x4, .int .i64 x5, .int .i64 x6, .int .i64 x7, .int .i64 x8])
  have HB := Lib.hid (box1 w (.cells #[.int .i64 x0, .int .i64 x1, .int .i64 x2, .int .i64 x3, .int .i64 x4, .int .i64 x5, .int .i64 x6, .int .i64 x7, .int .i64 x8] 70))
  obtain ⟨β, hβ⟩ : ∃ β, okG (x0, x1, x2, x3, x4, x5, x6, x7, x8) = β := ⟨_, rfl⟩
  have HO := Lib.hid hβ
  clear hβ
  cases β
  · have HS : Hid ((okG (x0, x1, x2, x3, x4, x5, x6, x7, x8) && checkM xs x0 [104, x0, x1, x2, x3, x4, x5, x6, x7] x8) = false) := Lib.hid (by rw [HO.out]; rfl)
    go_enter Try.func106, Try.ntmps106
    go_wp2_with fail
    have HC : Hid (∀ w', Qt.Keeps ((w.alloc (.cells #[.int .i64 x0, .int .i64 x1, .int .i64 x2, .int .i64 x3, .int .i64 x4, .int .i64 x5, .int .i64 x6, .int .i64 x7, .int .i64 x8] 70))) w' → w'.cell? ⟨w.heap.size, 0, none⟩ = some (.int .i64 x0) ∧ w'.cell? ⟨w.heap.size, 1, none⟩ = some (.int .i64 x1) ∧ w'.cell? ⟨w.heap.size, 2, none⟩ = some (.int .i64 x2) ∧ w'.cell? ⟨w.heap.size, 3, none⟩ = some (.int .i64 x3) ∧ w'.cell? ⟨w.heap.size, 4, none⟩ = some (.int .i64 x4) ∧ w'.cell? ⟨w.heap.size, 5, none⟩ = some (.int .i64 x5) ∧ w'.cell? ⟨w.heap.size, 6, none⟩ = some (.int .i64 x6) ∧ w'.cell? ⟨w.heap.size, 7, none⟩ = some (.int .i64 x7) ∧ w'.cell? ⟨w.heap.size, 8, none⟩ = some (.int .i64 x8)) := Lib.hid fun w' hw => bxc (HX.out.below hw)
    refine Qt.region (Qt.Keeps ((w.alloc (.cells #[.int .i64 x0, .int .i64 x1, .int .i64 x2, .int .i64 x3, .int .i64 x4, .int .i64 x5, .int .i64 x6, .int .i64 x7, .int .i64 x8] 70)))) (by kernel_rfl) (by kernel_rfl) (Qt.Keeps.drew _) ?_
    repeat (first
      | go_big_quiet_skip
      | (go_big_quiet_want
         refine Qt.val (v := ?_) (fun w hw => ?_) ?_
         rotate_left
         · obtain ⟨s0, s1, s2, s3, s4, s5, s6, s7, s8⟩ := HC.out w hw
           go_simp
           rfl
         simp only [Act.put, List.setIfInBounds_toArray, List.set_cons_zero, List.set_cons_succ]
         go_big_quiet_on)
      | (go_big_quiet_want
         refine Qt.call (v := .bool false) (f := 121) (args := #[.agg #[.int .i64 x0, .int .i64 x1, .int .i64 x2, .int .i64 x3, .int .i64 x4, .int .i64 x5, .int .i64 x6, .int .i64 x7, .int .i64 x8]]) (fun w hw => ?_) (fun w hw => ?_) ?_
         · go_simp
         · refine (isSignature_any x0 x1 x2 x3 x4 x5 x6 x7 x8 _).mono ?_
           rintro e w1 ⟨rfl, hb1⟩
           rw [HO.out]
           exact ⟨rfl, hw.then hb1⟩
         simp only [Act.put, List.setIfInBounds_toArray, List.set_cons_zero, List.set_cons_succ]
         go_big_quiet_on))
    refine wpQuiet_nil ?_
    intro w2 hw2
    have HW2 := Lib.hid (below_on HB.out hw2)
    clear hw2
    go_wp2_with fail
    go_ret
    exact says (by rw [HS.out]) HW2.out
  · have HS : Hid ((okG (x0, x1, x2, x3, x4, x5, x6, x7, x8) && checkM xs x0 [104, x0, x1, x2, x3, x4, x5, x6, x7] x8) = checkM xs x0 [104, x0, x1, x2, x3, x4, x5, x6, x7] x8) := Lib.hid (by rw [HO.out]; rfl)
    have HRA : Hid (∀ w', Below w.heap.size w w' → RdS SlKey.E w' p n xs) := Lib.hid fun w' hb => HR.out.below hb
    go_enter Try.func106, Try.ntmps106
    go_wp2_with fail
    generalize w.alloc (.cells #[.int .i64 x0, .int .i64 x1, .int .i64 x2, .int .i64 x3, .int .i64 x4, .int .i64 x5, .int .i64 x6, .int .i64 x7, .int .i64 x8] 70) = V at HX HB ⊢
    go_region_held3 (fun w' => w'.cell? ⟨w.heap.size, 0, none⟩ = some (.int .i64 x0) ∧ w'.cell? ⟨w.heap.size, 1, none⟩ = some (.int .i64 x1) ∧ w'.cell? ⟨w.heap.size, 2, none⟩ = some (.int .i64 x2) ∧ w'.cell? ⟨w.heap.size, 3, none⟩ = some (.int .i64 x3) ∧ w'.cell? ⟨w.heap.size, 4, none⟩ = some (.int .i64 x4) ∧ w'.cell? ⟨w.heap.size, 5, none⟩ = some (.int .i64 x5) ∧ w'.cell? ⟨w.heap.size, 6, none⟩ = some (.int .i64 x6) ∧ w'.cell? ⟨w.heap.size, 7, none⟩ = some (.int .i64 x7) ∧ w'.cell? ⟨w.heap.size, 8, none⟩ = some (.int .i64 x8)) (first | exact bxc HX3.out | exact bxc HX2.out | exact bxc HX1.out | exact bxc HX.out.drew1 | go_keep) (first
      | (go_at_call 121; (with_reducible refine (isSignature_any x0 x1 x2 x3 x4 x5 x6 x7 x8 _).mono ?_); rintro e w1 ⟨rfl, hb⟩; rw [HO.out]; have HX1 := Lib.hid (HX.out.drew1.below hb); have HB1 := Lib.hid (below_on HB.out (drewOn hb)); clear hb)
      | (go_at_call 123; (with_reducible refine (signatureInts_any x0 x1 x2 x3 x4 x5 x6 x7 x8 _ G0.out G1.out G2.out G3.out G4.out G5.out G6.out G7.out G8.out).mono ?_); rintro e w2 ⟨p2, n2, c2, rfl, ho, hb⟩; have HO2 := Lib.hid ho; have hn2 : n2 ≤ 9 := Nat.le_of_eq ho.len.symm; have HX2 := Lib.hid (HX1.out.below hb); have HB2 := Lib.hid (below_on HB1.out hb); clear ho hb)
      | (go_at_call 122; (with_reducible refine (Ko.checkMark_any p n c xs hR x0 G0.out p2 n2 c2 [104, x0, x1, x2, x3, x4, x5, x6, x7] x8 _ (HRA.out _ HB2.out) HO2.out.rd (by omega)).mono ?_); rintro e w3 ⟨rfl, hb⟩; have HX3 := Lib.hid (HX2.out.below hb); have HB3 := Lib.hid (below_on HB2.out hb); clear hb))
    all_goals
      go_wp2_with fail
      go_ret
      exact says (by rw [HS.out]) HB3.out
end Go.Proofs.Ytjoeacdoblgncaa.MSignature
