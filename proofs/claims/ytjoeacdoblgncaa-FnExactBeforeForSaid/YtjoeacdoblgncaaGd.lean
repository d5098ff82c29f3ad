/- Contracts of the digest of a signature; in the program (the encoder) and in the reference. -/
import Derived.Test.YtjoeacdoblgncaaGe
import Derived.Test.YtjoeacdoblgncaaDg
import Derived.Deep.RegionHeld3
namespace Go.Proofs.Ytjoeacdoblgncaa.Gd
open Go.ChangeShapes Go.WideShapes Go.ChangeAt Go.RowKit Sl St Fnd SlSignature Ki Gi Ge
theorem drewOn {V w1 : World} (hb : Below V.drew.heap.size V.drew w1) : Below V.heap.size V w1 := below_on (below_drewN (Below.refl _ _) 1) hb
theorem litOn {V w1 : World} {o : Obj} (hb : Below (V.drew.alloc o).heap.size (V.drew.alloc o) w1) : Below V.heap.size V w1 := below_on ((below_drewN (Below.refl _ _) 1).alloc (Nat.le_refl _) o) hb
set_option maxRecDepth 100000 in
set_option maxHeartbeats 4000000 in
theorem sigDigest_any (m : Int) (x0 x1 x2 x3 x4 x5 x6 x7 x8 : Int) (w : World) (h0 : -9223372036854775808 ≤ x0 ∧ x0 ≤ 9223372036854775807) (h1 : -9223372036854775808 ≤ x1 ∧ x1 ≤ 9223372036854775807) (h2 : -9223372036854775808 ≤ x2 ∧ x2 ≤ 9223372036854775807) (h3 : -9223372036854775808 ≤ x3 ∧ x3 ≤ 9223372036854775807) (h4 : -9223372036854775808 ≤ x4 ∧ x4 ≤ 9223372036854775807) (h5 : -9223372036854775808 ≤ x5 ∧ x5 ≤ 9223372036854775807) (h6 : -9223372036854775808 ≤ x6 ∧ x6 ≤ 9223372036854775807) (h7 : -9223372036854775808 ≤ x7 ∧ x7 ≤ 9223372036854775807) (h8 : -9223372036854775808 ≤ x8 ∧ x8 ≤ 9223372036854775807) : Calls Try.prog 59 #[.int .i64 m, .agg #[.int .i64 x0, .int .i64 x1, .int .i64 x2, .int .i64 x3, .int .i64 x4, .int .i64 x5, .int .i64 x6, .int .i64 x7, .int .i64 x8]] w (Val (.int .i64 (Dg.dig m [104, x0, x1, x2, x3, x4, x5, x6, x7, x8])) w) := by
  have hE : Bx ((w.alloc (.cells #[.int .i64 x0, .int .i64 x1, .int .i64 x2, .int .i64 x3, .int .i64 x4, .int .i64 x5, .int .i64 x6, .int .i64 x7, .int .i64 x8] 70)).alloc (.cells #[.slice none 0 0] 108)) (w.heap.size + 1) 108 #[.slice none 0 0] := by
    have h := Bx.new (w.alloc (.cells #[.int .i64 x0, .int .i64 x1, .int .i64 x2, .int .i64 x3, .int .i64 x4, .int .i64 x5, .int .i64 x6, .int .i64 x7, .int .i64 x8] 70)) 108 #[.slice none 0 0]
    rw [World.size_alloc] at h
    exact h
  have HE := Lib.hid hE
  have HV : Hid (Below w.heap.size w ((w.alloc (.cells #[.int .i64 x0, .int .i64 x1, .int .i64 x2, .int .i64 x3, .int .i64 x4, .int .i64 x5, .int .i64 x6, .int .i64 x7, .int .i64 x8] 70)).alloc (.cells #[.slice none 0 0] 108))) := Lib.hid (((Below.refl _ w).alloc (Nat.le_refl _) _).alloc (by simp) _)
  have HX := Lib.hid ((Bx.new w 70 #[.int .i64 x0, .int .i64 x1, .int .i64 x2, .int .i64 x3, .int .i64 x4, .int .i64 x5, .int .i64 x6, .int .i64 x7, .int .i64 x8]).alloc (.cells #[.slice none 0 0] 108))
  clear hE
  have G0 := Lib.hid h0
  have G1 := Lib.hid h1
  have G2 := Lib.hid h2
  have G3 := Lib.hid h3
  have G4 := Lib.hid h4
  have G5 := Lib.hid h5
  have G6 := Lib.hid h6
  have G7 := Lib.hid h7
  have G8 := Lib.hid h8
  clear h0 h1 h2 h3 h4 h5 h6 h7 h8
  obtain ⟨cc0, cc1, cc2, cc3, cc4, cc5, cc6, cc7, cc8⟩ := bxc HX.out
  go_enter Try.func59, Try.ntmps59
  go_wp2_with fail
  refine (writeSig_any (w.heap.size + 1) x0 x1 x2 x3 x4 x5 x6 x7 x8 G0.out G1.out G2.out G3.out G4.out G5.out G6.out G7.out G8.out w.heap.size _ HE.out HV.out.size).mono ?_
  rintro e w1 ⟨rfl, p1, c1, hb1, ho1, ht1⟩
  have HB1 := Lib.hid hb1
  have HO1 := Lib.hid (ho1.wide HV.out.size (Nat.le_refl _) (Nat.le_refl _) : Ow .i64 3 w1 w.heap.size w1.heap.size p1 9 c1 [104, x0, x1, x2, x3, x4, x5, x6, x7])
  have HT1 := Lib.hid (HV.out.trans (ht1.below (B := w.heap.size) (fun i h => by subst h; omega) HV.out.size))
  have HX1 := Lib.hid (Tn.bx_turn HX.out ht1 (by omega))
  clear hb1 ho1 ht1 cc0 cc1 cc2 cc3 cc4 cc5 cc6 cc7 cc8
  obtain ⟨cc0, cc1, cc2, cc3, cc4, cc5, cc6, cc7, cc8⟩ := bxc HX1.out
  have s1 : w.heap.size ≤ w1.heap.size := HT1.out.size
  have HL := Lib.hid (litN_at 3 w1 w.heap.size w1.heap.size [x8] (allK_cons G8.out (allK_nil _)) s1 rfl (by simp)).rd
  go_wp2_with fail
  refine (write_any (w.heap.size + 1) 108 (by decide) p1 9 c1 [104, x0, x1, x2, x3, x4, x5, x6, x7] _ _ _ [x8] w.heap.size w1.heap.size (w1.alloc (.cells #[.int .i64 x8] 3)) (HB1.out.alloc _) (HO1.out.alloc _) HL.out (by simp; omega) (by simp)).mono ?_
  rintro e w2 ⟨rfl, p2, c2, hb2, ho2, ht2⟩
  have k0 := hb2.cell (j := 0) rfl
  have HO2 := Lib.hid ho2
  have HB := Lib.hid ((HT1.out.alloc s1 (.cells #[.int .i64 x8] 3)).trans (ht2.below (B := w.heap.size) (fun i h => h.elim (fun e => by omega) (fun e => (HO1.out.far i e).1)) (by simp; omega)))
  clear hb2 ho2 ht2 cc0 cc1 cc2 cc3 cc4 cc5 cc6 cc7 cc8
  go_wp2_with fail
  refine (Dg.dig_any m _ _ _ _ _ HO2.out.rd).mono ?_
  rintro e w3 ⟨rfl, rfl⟩
  go_wp2_with fail
  go_ret
  exact ⟨rfl, HB.out⟩
set_option maxRecDepth 100000 in
set_option maxHeartbeats 8000000 in
theorem spec_sigDigest_any (m : Int) (x0 x1 x2 x3 x4 x5 x6 x7 x8 : Int) (w : World) (hm : inK .i64 m) (h0 : -9223372036854775808 ≤ x0 ∧ x0 ≤ 9223372036854775807) (h1 : -9223372036854775808 ≤ x1 ∧ x1 ≤ 9223372036854775807) (h2 : -9223372036854775808 ≤ x2 ∧ x2 ≤ 9223372036854775807) (h3 : -9223372036854775808 ≤ x3 ∧ x3 ≤ 9223372036854775807) (h4 : -9223372036854775808 ≤ x4 ∧ x4 ≤ 9223372036854775807) (h5 : -9223372036854775808 ≤ x5 ∧ x5 ≤ 9223372036854775807) (h6 : -9223372036854775808 ≤ x6 ∧ x6 ≤ 9223372036854775807) (h7 : -9223372036854775808 ≤ x7 ∧ x7 ≤ 9223372036854775807) (h8 : -9223372036854775808 ≤ x8 ∧ x8 ≤ 9223372036854775807) : Calls Try.prog 47 #[.int .i64 m, .agg #[.int .i64 x0, .int .i64 x1, .int .i64 x2, .int .i64 x3, .int .i64 x4, .int .i64 x5, .int .i64 x6, .int .i64 x7, .int .i64 x8]] w (Val (.int .i64 (Dg.dig m [104, x0, x1, x2, x3, x4, x5, x6, x7, x8])) w) := by
  obtain ⟨i0, hi, hz0, hz1, hz2⟩ := info_parts SlI.info
  have HX := Lib.hid (Bx.new w 70 #[.int .i64 x0, .int .i64 x1, .int .i64 x2, .int .i64 x3, .int .i64 x4, .int .i64 x5, .int .i64 x6, .int .i64 x7, .int .i64 x8])
  have HB := Lib.hid (box1 w (.cells #[.int .i64 x0, .int .i64 x1, .int .i64 x2, .int .i64 x3, .int .i64 x4, .int .i64 x5, .int .i64 x6, .int .i64 x7, .int .i64 x8] 70))
  have G0 := Lib.hid h0
  have G1 := Lib.hid h1
  have G2 := Lib.hid h2
  have G3 := Lib.hid h3
  have G4 := Lib.hid h4
  have G5 := Lib.hid h5
  have G6 := Lib.hid h6
  have G7 := Lib.hid h7
  have G8 := Lib.hid h8
  have HM := Lib.hid hm
  clear h0 h1 h2 h3 h4 h5 h6 h7 h8 hm
  go_enter Try.func47, Try.ntmps47
  go_wp2_with fail
  generalize w.alloc (.cells #[.int .i64 x0, .int .i64 x1, .int .i64 x2, .int .i64 x3, .int .i64 x4, .int .i64 x5, .int .i64 x6, .int .i64 x7, .int .i64 x8] 70) = V at HX HB ⊢
  have HL := Lib.hid (box1 V (.cells #[.int .i64 x8] 3))
  have HR := Lib.hid (litN_at 3 V V.heap.size V.heap.size [x8] (allK_cons G8.out (allK_nil _)) (Nat.le_refl _) rfl (by simp)).rd
  go_region_held3 (fun w' => w'.cell? ⟨w.heap.size, 0, none⟩ = some (.int .i64 x0) ∧ w'.cell? ⟨w.heap.size, 1, none⟩ = some (.int .i64 x1) ∧ w'.cell? ⟨w.heap.size, 2, none⟩ = some (.int .i64 x2) ∧ w'.cell? ⟨w.heap.size, 3, none⟩ = some (.int .i64 x3) ∧ w'.cell? ⟨w.heap.size, 4, none⟩ = some (.int .i64 x4) ∧ w'.cell? ⟨w.heap.size, 5, none⟩ = some (.int .i64 x5) ∧ w'.cell? ⟨w.heap.size, 6, none⟩ = some (.int .i64 x6) ∧ w'.cell? ⟨w.heap.size, 7, none⟩ = some (.int .i64 x7) ∧ w'.cell? ⟨w.heap.size, 8, none⟩ = some (.int .i64 x8)) (first | exact bxc HX3.out | exact bxc HX2.out | exact bxc (HX1.out.alloc _) | exact bxc HX1.out | exact bxc (HX.out.alloc _).drew1 | exact bxc HX.out.drew1 | go_keep) (first
    | (go_at_call 77; (with_reducible refine (spec_signatureInts_any x0 x1 x2 x3 x4 x5 x6 x7 x8 _ G0.out G1.out G2.out G3.out G4.out G5.out G6.out G7.out G8.out).mono ?_); rintro e w1 ⟨p1, n1, c1, rfl, ho, hb⟩; have hv : Below V.heap.size V w1 := (by first | exact drewOn hb | exact litOn hb); have HX1 := Lib.hid (HX.out.below hv); have HB1 := Lib.hid (below_on HB.out hv); have HO1 := Lib.hid ho; have hn1 : n1 ≤ 9 := Nat.le_of_eq ho.len.symm; have hs1 := hb.size; (first | (have HL1 : Hid (Rd .i64 w1 (some ⟨V.heap.size, 0, none⟩) 1 [x8]) := Lib.hid (HR.out.drew1.below hb)) | (have HL1 : Hid (Rd .i64 (w1.alloc (.cells #[.int .i64 x8] 3)) (some ⟨w1.heap.size, 0, none⟩) 1 [x8]) := Lib.hid (litN_at 3 w1 w1.heap.size w1.heap.size [x8] (allK_cons G8.out (allK_nil _)) (Nat.le_refl _) rfl (by simp)).rd)); clear ho hb hv)
    | (refine step_appR (by rfl) (.tmp 7) (.tmp 10) 23 (by rfl) i0 _ 8 Try.underlying23 hi hz0 hz1 hz2 (by rfl) (by rfl) HO1.out _ _ _ _ (by rfl) HL1.out hs1 (by omega) (by omega) ?_; intro p2 c2 w2 how2 hg2; have HX2 := Lib.hid (HX1.out.grown hg2 (fun e => by have h1 := HO1.out.far _ e.symm; have h2 := HX.out.lt; simp at h1; omega)); have HB2 := Lib.hid (below_row HB1.out HO1.out hg2 (by have := HB.out.size; simp; omega)); have HO2 := Lib.hid how2; clear how2 hg2)
    | (refine step_appR (by rfl) (.tmp 7) (.tmp 10) 23 (by rfl) i0 _ 8 Try.underlying23 hi hz0 hz1 hz2 (by rfl) (by rfl) (HO1.out.alloc (.cells #[.int .i64 x8] 3)) _ _ _ _ (by rfl) HL1.out (Nat.le_trans hs1 (by simp)) (by omega) (by omega) ?_; intro p2 c2 w2 how2 hg2; have HX2 := Lib.hid ((HX1.out.alloc (.cells #[.int .i64 x8] 3)).grown hg2 (fun e => by have h1 := HO1.out.far _ e.symm; have h2 := HX.out.lt; simp at h1; omega)); have HB2 := Lib.hid (below_row (HB1.out.alloc HB1.out.size (.cells #[.int .i64 x8] 3)) (HO1.out.alloc (.cells #[.int .i64 x8] 3)) hg2 (by have := HB.out.size; simp; omega)); have HO2 := Lib.hid how2; clear how2 hg2)
    | (go_at_call 76; (with_reducible refine (Dg.spec_dig_any m _ _ _ _ _ HO2.out.rd HM.out (by omega)).mono ?_); rintro e w3 ⟨rfl, hb3⟩; have HB3 := Lib.hid (below_on HB2.out hb3); have HX3 := Lib.hid (HX2.out.below hb3); clear hb3))
  all_goals
    go_wp2_with fail
    go_ret
    exact ⟨rfl, HB3.out⟩
end Go.Proofs.Ytjoeacdoblgncaa.Gd
