/- Contracts of what is marked with a key, made: Signature; in the program (the ring of keys) and in the reference. -/
import Derived.Test.YtbjocgnogcnedaaMSignature
import Derived.Deep.RegionHeld3
import Derived.Deep.RegionWith
namespace Go.Proofs.Ytbjocgnogcnedaa.KSignature
open Go.ChangeShapes Go.WideShapes Go.ChangeAt Go.RowKit Go.Shelf Sl St Fnd Kn Kr Ki Km Ko SlSignature Gi Ge Gs MSignature
def mkd (xs : List I5) : I9 → I9 × Bool := fun (x0, x1, x2, x3, x4, x5, x6, x7, x8) => if (okG (x0, x1, x2, x3, x4, x5, x6, x7, x8) && (ring xs x0).isSome) = true then ((x0, x1, x2, x3, x4, x5, x6, x7, markR xs x0 [104, x0, x1, x2, x3, x4, x5, x6, x7]), true) else ((0, 0, 0, 0, 0, 0, 0, 0, 0), false)
theorem mkd_yes {xs : List I5} {x0 x1 x2 x3 x4 x5 x6 x7 x8 : Int} (h : (okG (x0, x1, x2, x3, x4, x5, x6, x7, x8) && (ring xs x0).isSome) = true) : mkd xs (x0, x1, x2, x3, x4, x5, x6, x7, x8) = ((x0, x1, x2, x3, x4, x5, x6, x7, markR xs x0 [104, x0, x1, x2, x3, x4, x5, x6, x7]), true) := if_pos h
theorem mkd_no {xs : List I5} {x0 x1 x2 x3 x4 x5 x6 x7 x8 : Int} (h : (okG (x0, x1, x2, x3, x4, x5, x6, x7, x8) && (ring xs x0).isSome) = false) : mkd xs (x0, x1, x2, x3, x4, x5, x6, x7, x8) = ((0, 0, 0, 0, 0, 0, 0, 0, 0), false) := if_neg (by rw [h]; simp)
def Made (v : Value) (b : Bool) (w : World) (e : Ending) (w' : World) : Prop := e = .returned (.tuple #[v, .bool b]) ∧ Below w.heap.size w w'
theorem drewB {W w : World} {B : Nat} (h : Below B W w) : Below B W w.drew := below_drewN h 1
set_option maxRecDepth 100000 in
set_option maxHeartbeats 16000000 in
theorem make_any (p : Option Addr) (n c : Nat) (xs : List I5) (hR : ∀ x ∈ xs, SlKey.InR x) (x0 x1 x2 x3 x4 x5 x6 x7 x8 : Int) (h0 : -9223372036854775808 ≤ x0 ∧ x0 ≤ 9223372036854775807) (h1 : -9223372036854775808 ≤ x1 ∧ x1 ≤ 9223372036854775807) (h2 : -9223372036854775808 ≤ x2 ∧ x2 ≤ 9223372036854775807) (h3 : -9223372036854775808 ≤ x3 ∧ x3 ≤ 9223372036854775807) (h4 : -9223372036854775808 ≤ x4 ∧ x4 ≤ 9223372036854775807) (h5 : -9223372036854775808 ≤ x5 ∧ x5 ≤ 9223372036854775807) (h6 : -9223372036854775808 ≤ x6 ∧ x6 ≤ 9223372036854775807) (h7 : -9223372036854775808 ≤ x7 ∧ x7 ≤ 9223372036854775807) (h8 : -9223372036854775808 ≤ x8 ∧ x8 ≤ 9223372036854775807) (y0 y1 y2 y3 y4 y5 y6 y7 y8 : Int) (b : Bool) (hM : mkd xs (x0, x1, x2, x3, x4, x5, x6, x7, x8) = ((y0, y1, y2, y3, y4, y5, y6, y7, y8), b)) (w : World) (hr : RdS SlKey.E w p n xs) : Calls Try.prog 33 #[.slice p n c, .agg #[.int .i64 x0, .int .i64 x1, .int .i64 x2, .int .i64 x3, .int .i64 x4, .int .i64 x5, .int .i64 x6, .int .i64 x7, .int .i64 x8]] w (Made (.agg #[.int .i64 y0, .int .i64 y1, .int .i64 y2, .int .i64 y3, .int .i64 y4, .int .i64 y5, .int .i64 y6, .int .i64 y7, .int .i64 y8]) b w) := by
  have HK := Lib.hid hr
  have hV : Below w.heap.size w ((w.alloc (.cells #[.int .i64 x0, .int .i64 x1, .int .i64 x2, .int .i64 x3, .int .i64 x4, .int .i64 x5, .int .i64 x6, .int .i64 x7, .int .i64 x8] 30)).alloc (.cells #[.int .i64 0, .int .i64 0, .int .i64 0, .int .i64 0, .int .i64 0, .int .i64 0, .int .i64 0, .int .i64 0, .int .i64 0] 30)) := ((Below.refl _ _).alloc (Nat.le_refl _) _).alloc (by simp) _
  have hY : Bx ((w.alloc (.cells #[.int .i64 x0, .int .i64 x1, .int .i64 x2, .int .i64 x3, .int .i64 x4, .int .i64 x5, .int .i64 x6, .int .i64 x7, .int .i64 x8] 30)).alloc (.cells #[.int .i64 0, .int .i64 0, .int .i64 0, .int .i64 0, .int .i64 0, .int .i64 0, .int .i64 0, .int .i64 0, .int .i64 0] 30)) (w.heap.size + 1) 30 #[.int .i64 0, .int .i64 0, .int .i64 0, .int .i64 0, .int .i64 0, .int .i64 0, .int .i64 0, .int .i64 0, .int .i64 0] := by
    have h := Bx.new (w.alloc (.cells #[.int .i64 x0, .int .i64 x1, .int .i64 x2, .int .i64 x3, .int .i64 x4, .int .i64 x5, .int .i64 x6, .int .i64 x7, .int .i64 x8] 30)) 30 #[.int .i64 0, .int .i64 0, .int .i64 0, .int .i64 0, .int .i64 0, .int .i64 0, .int .i64 0, .int .i64 0, .int .i64 0]
    rw [World.size_alloc] at h
    exact h
  have HX := Lib.hid ((Bx.new w 30 #[.int .i64 x0, .int .i64 x1, .int .i64 x2, .int .i64 x3, .int .i64 x4, .int .i64 x5, .int .i64 x6, .int .i64 x7, .int .i64 x8]).alloc (.cells #[.int .i64 0, .int .i64 0, .int .i64 0, .int .i64 0, .int .i64 0, .int .i64 0, .int .i64 0, .int .i64 0, .int .i64 0] 30))
  have HY := Lib.hid hY
  have HB := Lib.hid hV
  have G0 := Lib.hid h0
  have G1 := Lib.hid h1
  have G2 := Lib.hid h2
  have G3 := Lib.hid h3
  have G4 := Lib.hid h4
  have G5 := Lib.hid h5
  have G6 := Lib.hid h6
  have G7 := Lib.hid h7
  have G8 := Lib.hid h8
  clear h0 h1 h2 h3 h4 h5 h6 h7 h8 hr hV hY
  obtain ⟨m, hm⟩ : ∃ m, markR xs x0 [104, x0, x1, x2, x3, x4, x5, x6, x7] = m := ⟨_, rfl⟩
  have HMM := Lib.hid hm
  rcases hγ : (ring xs x0).isSome with _ | _
  · have hM' := (mkd_no (xs := xs) (by rw [hγ]; exact Bool.and_false _)).symm.trans hM
    cases hM'
    have HG := Lib.hid hγ
    clear hM hγ hm
    go_enter Try.func33, Try.ntmps33
    go_wp2_with fail
    generalize ((w.alloc (.cells #[.int .i64 x0, .int .i64 x1, .int .i64 x2, .int .i64 x3, .int .i64 x4, .int .i64 x5, .int .i64 x6, .int .i64 x7, .int .i64 x8] 30)).alloc (.cells #[.int .i64 0, .int .i64 0, .int .i64 0, .int .i64 0, .int .i64 0, .int .i64 0, .int .i64 0, .int .i64 0, .int .i64 0] 30)) = V at HX HY HB ⊢
    replace HB := Lib.hid (drewB HB.out)
    replace HX := Lib.hid HX.out.drew1
    replace HY := Lib.hid HY.out.drew1
    go_region_held3 (fun w' => w'.cell? ⟨w.heap.size, 0, none⟩ = some (.int .i64 x0) ∧ w'.cell? ⟨w.heap.size, 1, none⟩ = some (.int .i64 x1) ∧ w'.cell? ⟨w.heap.size, 2, none⟩ = some (.int .i64 x2) ∧ w'.cell? ⟨w.heap.size, 3, none⟩ = some (.int .i64 x3) ∧ w'.cell? ⟨w.heap.size, 4, none⟩ = some (.int .i64 x4) ∧ w'.cell? ⟨w.heap.size, 5, none⟩ = some (.int .i64 x5) ∧ w'.cell? ⟨w.heap.size, 6, none⟩ = some (.int .i64 x6) ∧ w'.cell? ⟨w.heap.size, 7, none⟩ = some (.int .i64 x7) ∧ w'.cell? ⟨w.heap.size, 8, none⟩ = some (.int .i64 x8)) (first | exact bxc HX.out | go_keep) (first
      | (go_at_call 50; (with_reducible refine (ringOf_any p n c xs hR _ (HK.out.below HB.out)).mono ?_); rintro e w1 ⟨rfl, hh, hb⟩; have HH : Hid (Holds xs V.heap.size w1) := Lib.hid hh; replace HB := Lib.hid (below_on HB.out hb); replace HX := Lib.hid (HX.out.below hb); replace HY := Lib.hid (HY.out.below hb); clear hb hh)
      | (go_at_call 52; (with_reducible refine (signatureInts_any x0 x1 x2 x3 x4 x5 x6 x7 x8 _ G0.out G1.out G2.out G3.out G4.out G5.out G6.out G7.out G8.out).mono ?_); rintro e w2 ⟨p2, n2, c2, rfl, ho, hb⟩; have HO2 := Lib.hid ho; have hn2 : n2 ≤ 9 := Nat.le_of_eq ho.len.symm; replace HB := Lib.hid (below_on HB.out hb); replace HX := Lib.hid (HX.out.below hb); replace HY := Lib.hid (HY.out.below hb); replace HH := Lib.hid (HH.out.below hb); clear ho hb)
      | (go_at_call 51; (with_reducible refine (ringMark_any xs hR _ x0 G0.out _ _ _ [104, x0, x1, x2, x3, x4, x5, x6, x7] _ HH.out HO2.out.rd (by omega)).mono ?_); rintro e w3 ⟨rfl, hb⟩; rw [HG.out, HMM.out]; replace HB := Lib.hid (below_on HB.out hb); replace HX := Lib.hid (HX.out.below hb); replace HY := Lib.hid (HY.out.below hb); clear hb))
    obtain ⟨q0, q1, q2, q3, q4, q5, q6, q7, q8⟩ := bxc HY.out
    have f0 := HY.out.free 0
    have f1 := HY.out.free 1
    have f2 := HY.out.free 2
    have f3 := HY.out.free 3
    have f4 := HY.out.free 4
    have f5 := HY.out.free 5
    have f6 := HY.out.free 6
    have f7 := HY.out.free 7
    have f8 := HY.out.free 8
    go_wp2_with fail
    exact bodyPost_ret (v := .tuple #[.agg #[.int .i64 0, .int .i64 0, .int .i64 0, .int .i64 0, .int .i64 0, .int .i64 0, .int .i64 0, .int .i64 0, .int .i64 0], .bool false]) (by simp [results, Try.results33, go_sem, q0, q1, q2, q3, q4, q5, q6, q7, q8]) rfl ⟨rfl, (((((((((HB.out).setCell (p := ⟨w.heap.size + 1, 0, none⟩) (by simp) _).setCell (p := ⟨w.heap.size + 1, 1, none⟩) (by simp) _).setCell (p := ⟨w.heap.size + 1, 2, none⟩) (by simp) _).setCell (p := ⟨w.heap.size + 1, 3, none⟩) (by simp) _).setCell (p := ⟨w.heap.size + 1, 4, none⟩) (by simp) _).setCell (p := ⟨w.heap.size + 1, 5, none⟩) (by simp) _).setCell (p := ⟨w.heap.size + 1, 6, none⟩) (by simp) _).setCell (p := ⟨w.heap.size + 1, 7, none⟩) (by simp) _).setCell (p := ⟨w.heap.size + 1, 8, none⟩) (by simp) _⟩
  · rcases hβ : okG (x0, x1, x2, x3, x4, x5, x6, x7, x8) with _ | _
    · have hM' := (mkd_no (xs := xs) (by rw [hβ]; exact Bool.false_and _)).symm.trans hM
      cases hM'
      have HG := Lib.hid hγ
      have HO := Lib.hid hβ
      clear hM hγ hm hβ
      go_enter Try.func33, Try.ntmps33
      go_wp2_with fail
      generalize ((w.alloc (.cells #[.int .i64 x0, .int .i64 x1, .int .i64 x2, .int .i64 x3, .int .i64 x4, .int .i64 x5, .int .i64 x6, .int .i64 x7, .int .i64 x8] 30)).alloc (.cells #[.int .i64 0, .int .i64 0, .int .i64 0, .int .i64 0, .int .i64 0, .int .i64 0, .int .i64 0, .int .i64 0, .int .i64 0] 30)) = V at HX HY HB ⊢
      replace HB := Lib.hid (drewB HB.out)
      replace HX := Lib.hid HX.out.drew1
      replace HY := Lib.hid HY.out.drew1
      go_region_held3 (fun w' => w'.cell? ⟨w.heap.size, 0, none⟩ = some (.int .i64 x0) ∧ w'.cell? ⟨w.heap.size, 1, none⟩ = some (.int .i64 x1) ∧ w'.cell? ⟨w.heap.size, 2, none⟩ = some (.int .i64 x2) ∧ w'.cell? ⟨w.heap.size, 3, none⟩ = some (.int .i64 x3) ∧ w'.cell? ⟨w.heap.size, 4, none⟩ = some (.int .i64 x4) ∧ w'.cell? ⟨w.heap.size, 5, none⟩ = some (.int .i64 x5) ∧ w'.cell? ⟨w.heap.size, 6, none⟩ = some (.int .i64 x6) ∧ w'.cell? ⟨w.heap.size, 7, none⟩ = some (.int .i64 x7) ∧ w'.cell? ⟨w.heap.size, 8, none⟩ = some (.int .i64 x8)) (first | exact bxc HX.out | go_keep) (first
        | (go_at_call 50; (with_reducible refine (ringOf_any p n c xs hR _ (HK.out.below HB.out)).mono ?_); rintro e w1 ⟨rfl, hh, hb⟩; have HH : Hid (Holds xs V.heap.size w1) := Lib.hid hh; replace HB := Lib.hid (below_on HB.out hb); replace HX := Lib.hid (HX.out.below hb); replace HY := Lib.hid (HY.out.below hb); clear hb hh)
        | (go_at_call 52; (with_reducible refine (signatureInts_any x0 x1 x2 x3 x4 x5 x6 x7 x8 _ G0.out G1.out G2.out G3.out G4.out G5.out G6.out G7.out G8.out).mono ?_); rintro e w2 ⟨p2, n2, c2, rfl, ho, hb⟩; have HO2 := Lib.hid ho; have hn2 : n2 ≤ 9 := Nat.le_of_eq ho.len.symm; replace HB := Lib.hid (below_on HB.out hb); replace HX := Lib.hid (HX.out.below hb); replace HY := Lib.hid (HY.out.below hb); replace HH := Lib.hid (HH.out.below hb); clear ho hb)
        | (go_at_call 51; (with_reducible refine (ringMark_any xs hR _ x0 G0.out _ _ _ [104, x0, x1, x2, x3, x4, x5, x6, x7] _ HH.out HO2.out.rd (by omega)).mono ?_); rintro e w3 ⟨rfl, hb⟩; rw [HG.out, HMM.out]; replace HB := Lib.hid (below_on HB.out hb); replace HX := Lib.hid (HX.out.below hb); replace HY := Lib.hid (HY.out.below hb); clear hb))
      obtain ⟨cc0, cc1, cc2, cc3, cc4, cc5, cc6, cc7, cc8⟩ := bxc HX.out
      go_wp2_with fail
      refine (isSignature_any x0 x1 x2 x3 x4 x5 x6 x7 x8 _).mono ?_
      rintro e w4 ⟨rfl, hb⟩
      rw [HO.out]
      replace HB := Lib.hid (below_on HB.out hb); replace HX := Lib.hid (HX.out.below hb); replace HY := Lib.hid (HY.out.below hb)
      clear hb cc0 cc1 cc2 cc3 cc4 cc5 cc6 cc7 cc8
      obtain ⟨q0, q1, q2, q3, q4, q5, q6, q7, q8⟩ := bxc HY.out
      have f0 := HY.out.free 0
      have f1 := HY.out.free 1
      have f2 := HY.out.free 2
      have f3 := HY.out.free 3
      have f4 := HY.out.free 4
      have f5 := HY.out.free 5
      have f6 := HY.out.free 6
      have f7 := HY.out.free 7
      have f8 := HY.out.free 8
      go_wp2_with fail
      exact bodyPost_ret (v := .tuple #[.agg #[.int .i64 0, .int .i64 0, .int .i64 0, .int .i64 0, .int .i64 0, .int .i64 0, .int .i64 0, .int .i64 0, .int .i64 0], .bool false]) (by simp [results, Try.results33, go_sem, q0, q1, q2, q3, q4, q5, q6, q7, q8]) rfl ⟨rfl, (((((((((HB.out).setCell (p := ⟨w.heap.size + 1, 0, none⟩) (by simp) _).setCell (p := ⟨w.heap.size + 1, 1, none⟩) (by simp) _).setCell (p := ⟨w.heap.size + 1, 2, none⟩) (by simp) _).setCell (p := ⟨w.heap.size + 1, 3, none⟩) (by simp) _).setCell (p := ⟨w.heap.size + 1, 4, none⟩) (by simp) _).setCell (p := ⟨w.heap.size + 1, 5, none⟩) (by simp) _).setCell (p := ⟨w.heap.size + 1, 6, none⟩) (by simp) _).setCell (p := ⟨w.heap.size + 1, 7, none⟩) (by simp) _).setCell (p := ⟨w.heap.size + 1, 8, none⟩) (by simp) _⟩
    · have hM' := (mkd_yes (xs := xs) (by rw [hβ, hγ]; rfl)).symm.trans hM
      rw [hm] at hM'
      cases hM'
      have HG := Lib.hid hγ
      have HO := Lib.hid hβ
      clear hM hγ hm hβ
      go_enter Try.func33, Try.ntmps33
      go_wp2_with fail
      generalize ((w.alloc (.cells #[.int .i64 x0, .int .i64 x1, .int .i64 x2, .int .i64 x3, .int .i64 x4, .int .i64 x5, .int .i64 x6, .int .i64 x7, .int .i64 x8] 30)).alloc (.cells #[.int .i64 0, .int .i64 0, .int .i64 0, .int .i64 0, .int .i64 0, .int .i64 0, .int .i64 0, .int .i64 0, .int .i64 0] 30)) = V at HX HY HB ⊢
      replace HB := Lib.hid (drewB HB.out)
      replace HX := Lib.hid HX.out.drew1
      replace HY := Lib.hid HY.out.drew1
      go_region_held3 (fun w' => w'.cell? ⟨w.heap.size, 0, none⟩ = some (.int .i64 x0) ∧ w'.cell? ⟨w.heap.size, 1, none⟩ = some (.int .i64 x1) ∧ w'.cell? ⟨w.heap.size, 2, none⟩ = some (.int .i64 x2) ∧ w'.cell? ⟨w.heap.size, 3, none⟩ = some (.int .i64 x3) ∧ w'.cell? ⟨w.heap.size, 4, none⟩ = some (.int .i64 x4) ∧ w'.cell? ⟨w.heap.size, 5, none⟩ = some (.int .i64 x5) ∧ w'.cell? ⟨w.heap.size, 6, none⟩ = some (.int .i64 x6) ∧ w'.cell? ⟨w.heap.size, 7, none⟩ = some (.int .i64 x7) ∧ w'.cell? ⟨w.heap.size, 8, none⟩ = some (.int .i64 x8)) (first | exact bxc HX.out | go_keep) (first
        | (go_at_call 50; (with_reducible refine (ringOf_any p n c xs hR _ (HK.out.below HB.out)).mono ?_); rintro e w1 ⟨rfl, hh, hb⟩; have HH : Hid (Holds xs V.heap.size w1) := Lib.hid hh; replace HB := Lib.hid (below_on HB.out hb); replace HX := Lib.hid (HX.out.below hb); replace HY := Lib.hid (HY.out.below hb); clear hb hh)
        | (go_at_call 52; (with_reducible refine (signatureInts_any x0 x1 x2 x3 x4 x5 x6 x7 x8 _ G0.out G1.out G2.out G3.out G4.out G5.out G6.out G7.out G8.out).mono ?_); rintro e w2 ⟨p2, n2, c2, rfl, ho, hb⟩; have HO2 := Lib.hid ho; have hn2 : n2 ≤ 9 := Nat.le_of_eq ho.len.symm; replace HB := Lib.hid (below_on HB.out hb); replace HX := Lib.hid (HX.out.below hb); replace HY := Lib.hid (HY.out.below hb); replace HH := Lib.hid (HH.out.below hb); clear ho hb)
        | (go_at_call 51; (with_reducible refine (ringMark_any xs hR _ x0 G0.out _ _ _ [104, x0, x1, x2, x3, x4, x5, x6, x7] _ HH.out HO2.out.rd (by omega)).mono ?_); rintro e w3 ⟨rfl, hb⟩; rw [HG.out, HMM.out]; replace HB := Lib.hid (below_on HB.out hb); replace HX := Lib.hid (HX.out.below hb); replace HY := Lib.hid (HY.out.below hb); clear hb))
      obtain ⟨cc0, cc1, cc2, cc3, cc4, cc5, cc6, cc7, cc8⟩ := bxc HX.out
      go_wp2_with fail
      refine (isSignature_any x0 x1 x2 x3 x4 x5 x6 x7 x8 _).mono ?_
      rintro e w4 ⟨rfl, hb⟩
      rw [HO.out]
      replace HB := Lib.hid (below_on HB.out hb); replace HX := Lib.hid (HX.out.below hb); replace HY := Lib.hid (HY.out.below hb)
      clear hb cc0 cc1 cc2 cc3 cc4 cc5 cc6 cc7 cc8
      obtain ⟨cc0, cc1, cc2, cc3, cc4, cc5, cc6, cc7, cc8⟩ := bxc HX.out
      obtain ⟨q0, q1, q2, q3, q4, q5, q6, q7, q8⟩ := bxc HY.out
      have fx := HX.out.free 8
      have f0 := HY.out.free 0
      have f1 := HY.out.free 1
      have f2 := HY.out.free 2
      have f3 := HY.out.free 3
      have f4 := HY.out.free 4
      have f5 := HY.out.free 5
      have f6 := HY.out.free 6
      have f7 := HY.out.free 7
      have f8 := HY.out.free 8
      go_wp2_with fail
      exact bodyPost_ret (v := .tuple #[.agg #[.int .i64 x0, .int .i64 x1, .int .i64 x2, .int .i64 x3, .int .i64 x4, .int .i64 x5, .int .i64 x6, .int .i64 x7, .int .i64 y8], .bool true]) (by simp [results, Try.results33, go_sem, q0, q1, q2, q3, q4, q5, q6, q7, q8]) rfl ⟨rfl, (((((((((HB.out.setCell (p := ⟨w.heap.size, 8, none⟩) (Nat.le_refl _) _).setCell (p := ⟨w.heap.size + 1, 0, none⟩) (by simp) _).setCell (p := ⟨w.heap.size + 1, 1, none⟩) (by simp) _).setCell (p := ⟨w.heap.size + 1, 2, none⟩) (by simp) _).setCell (p := ⟨w.heap.size + 1, 3, none⟩) (by simp) _).setCell (p := ⟨w.heap.size + 1, 4, none⟩) (by simp) _).setCell (p := ⟨w.heap.size + 1, 5, none⟩) (by simp) _).setCell (p := ⟨w.heap.size + 1, 6, none⟩) (by simp) _).setCell (p := ⟨w.heap.size + 1, 7, none⟩) (by simp) _).setCell (p := ⟨w.heap.size + 1, 8, none⟩) (by simp) _⟩
set_option maxRecDepth 100000 in
set_option maxHeartbeats 16000000 in
theorem spec_make_any (p : Option Addr) (n c : Nat) (xs : List I5) (hR : ∀ x ∈ xs, SlKey.InR x) (x0 x1 x2 x3 x4 x5 x6 x7 x8 : Int) (h0 : -9223372036854775808 ≤ x0 ∧ x0 ≤ 9223372036854775807) (h1 : -9223372036854775808 ≤ x1 ∧ x1 ≤ 9223372036854775807) (h2 : -9223372036854775808 ≤ x2 ∧ x2 ≤ 9223372036854775807) (h3 : -9223372036854775808 ≤ x3 ∧ x3 ≤ 9223372036854775807) (h4 : -9223372036854775808 ≤ x4 ∧ x4 ≤ 9223372036854775807) (h5 : -9223372036854775808 ≤ x5 ∧ x5 ≤ 9223372036854775807) (h6 : -9223372036854775808 ≤ x6 ∧ x6 ≤ 9223372036854775807) (h7 : -9223372036854775808 ≤ x7 ∧ x7 ≤ 9223372036854775807) (h8 : -9223372036854775808 ≤ x8 ∧ x8 ≤ 9223372036854775807) (y0 y1 y2 y3 y4 y5 y6 y7 y8 : Int) (b : Bool) (hM : mkd xs (x0, x1, x2, x3, x4, x5, x6, x7, x8) = ((y0, y1, y2, y3, y4, y5, y6, y7, y8), b)) (w : World) (hr : RdS SlKey.E w p n xs) : Calls Try.prog 29 #[.slice p n c, .agg #[.int .i64 x0, .int .i64 x1, .int .i64 x2, .int .i64 x3, .int .i64 x4, .int .i64 x5, .int .i64 x6, .int .i64 x7, .int .i64 x8]] w (Made (.agg #[.int .i64 y0, .int .i64 y1, .int .i64 y2, .int .i64 y3, .int .i64 y4, .int .i64 y5, .int .i64 y6, .int .i64 y7, .int .i64 y8]) b w) := by
  have HK := Lib.hid hr
  have hl := hr.len
  have hle := hr.le
  have hV : Below w.heap.size w ((w.alloc (.cells #[.int .i64 x0, .int .i64 x1, .int .i64 x2, .int .i64 x3, .int .i64 x4, .int .i64 x5, .int .i64 x6, .int .i64 x7, .int .i64 x8] 30)).alloc (.cells #[.int .i64 0, .int .i64 0, .int .i64 0, .int .i64 0, .int .i64 0, .int .i64 0, .int .i64 0, .int .i64 0, .int .i64 0] 30)) := ((Below.refl _ _).alloc (Nat.le_refl _) _).alloc (by simp) _
  have hY : Bx ((w.alloc (.cells #[.int .i64 x0, .int .i64 x1, .int .i64 x2, .int .i64 x3, .int .i64 x4, .int .i64 x5, .int .i64 x6, .int .i64 x7, .int .i64 x8] 30)).alloc (.cells #[.int .i64 0, .int .i64 0, .int .i64 0, .int .i64 0, .int .i64 0, .int .i64 0, .int .i64 0, .int .i64 0, .int .i64 0] 30)) (w.heap.size + 1) 30 #[.int .i64 0, .int .i64 0, .int .i64 0, .int .i64 0, .int .i64 0, .int .i64 0, .int .i64 0, .int .i64 0, .int .i64 0] := by
    have h := Bx.new (w.alloc (.cells #[.int .i64 x0, .int .i64 x1, .int .i64 x2, .int .i64 x3, .int .i64 x4, .int .i64 x5, .int .i64 x6, .int .i64 x7, .int .i64 x8] 30)) 30 #[.int .i64 0, .int .i64 0, .int .i64 0, .int .i64 0, .int .i64 0, .int .i64 0, .int .i64 0, .int .i64 0, .int .i64 0]
    rw [World.size_alloc] at h
    exact h
  have HX := Lib.hid ((Bx.new w 30 #[.int .i64 x0, .int .i64 x1, .int .i64 x2, .int .i64 x3, .int .i64 x4, .int .i64 x5, .int .i64 x6, .int .i64 x7, .int .i64 x8]).alloc (.cells #[.int .i64 0, .int .i64 0, .int .i64 0, .int .i64 0, .int .i64 0, .int .i64 0, .int .i64 0, .int .i64 0, .int .i64 0] 30))
  have HY := Lib.hid hY
  have HB := Lib.hid hV
  have G0 := Lib.hid h0
  have G1 := Lib.hid h1
  have G2 := Lib.hid h2
  have G3 := Lib.hid h3
  have G4 := Lib.hid h4
  have G5 := Lib.hid h5
  have G6 := Lib.hid h6
  have G7 := Lib.hid h7
  have G8 := Lib.hid h8
  clear h0 h1 h2 h3 h4 h5 h6 h7 h8 hr hV hY
  rcases ring_cases xs x0 with ⟨k, g1, g2, g3, _, _⟩ | ⟨g2, g3, _⟩
  · have HF := Lib.hid g2
    have hkn : k < n := by omega
    rcases hβ : okG (x0, x1, x2, x3, x4, x5, x6, x7, x8) with _ | _
    · have hM' := (mkd_no (xs := xs) (by rw [hβ]; exact Bool.false_and _)).symm.trans hM
      cases hM'
      have HO := Lib.hid hβ
      clear hM hβ g1 g2 g3 hl
      go_enter Try.func29, Try.ntmps29
      go_wp2_with fail
      refine (FKey.spec_find_any p n c xs x0 _ (HK.out.below HB.out)).mono ?_
      rintro e w1 ⟨rfl, rfl⟩
      rw [HF.out]
      obtain ⟨cc0, cc1, cc2, cc3, cc4, cc5, cc6, cc7, cc8⟩ := bxc HX.out
      go_wp2_with fail
      refine (spec_isSignature_any x0 x1 x2 x3 x4 x5 x6 x7 x8 _).mono ?_
      rintro e w4 ⟨rfl, hb⟩
      rw [HO.out]
      replace HB := Lib.hid (below_on HB.out hb); replace HX := Lib.hid (HX.out.below hb); replace HY := Lib.hid (HY.out.below hb)
      clear hb cc0 cc1 cc2 cc3 cc4 cc5 cc6 cc7 cc8
      obtain ⟨q0, q1, q2, q3, q4, q5, q6, q7, q8⟩ := bxc HY.out
      have f0 := HY.out.free 0
      have f1 := HY.out.free 1
      have f2 := HY.out.free 2
      have f3 := HY.out.free 3
      have f4 := HY.out.free 4
      have f5 := HY.out.free 5
      have f6 := HY.out.free 6
      have f7 := HY.out.free 7
      have f8 := HY.out.free 8
      go_wp2_with fail
      exact bodyPost_ret (v := .tuple #[.agg #[.int .i64 0, .int .i64 0, .int .i64 0, .int .i64 0, .int .i64 0, .int .i64 0, .int .i64 0, .int .i64 0, .int .i64 0], .bool false]) (by simp [results, Try.results29, go_sem, q0, q1, q2, q3, q4, q5, q6, q7, q8]) rfl ⟨rfl, (((((((((HB.out).setCell (p := ⟨w.heap.size + 1, 0, none⟩) (by simp) _).setCell (p := ⟨w.heap.size + 1, 1, none⟩) (by simp) _).setCell (p := ⟨w.heap.size + 1, 2, none⟩) (by simp) _).setCell (p := ⟨w.heap.size + 1, 3, none⟩) (by simp) _).setCell (p := ⟨w.heap.size + 1, 4, none⟩) (by simp) _).setCell (p := ⟨w.heap.size + 1, 5, none⟩) (by simp) _).setCell (p := ⟨w.heap.size + 1, 6, none⟩) (by simp) _).setCell (p := ⟨w.heap.size + 1, 7, none⟩) (by simp) _).setCell (p := ⟨w.heap.size + 1, 8, none⟩) (by simp) _⟩
    · have hM' := (mkd_yes (xs := xs) (by rw [hβ, g3]; rfl)).symm.trans hM
      obtain ⟨_, _, k2, _, k4⟩ := inr_at hR g1
      have HMR : Hid (markR xs x0 [104, x0, x1, x2, x3, x4, x5, x6, x7] = markW (xs.getD k z5) [104, x0, x1, x2, x3, x4, x5, x6, x7]) := Lib.hid (by unfold markR; rw [g3])
      cases hM'
      have HO := Lib.hid hβ
      have K2' := Lib.hid k2
      have K4' := Lib.hid k4
      clear hM hβ g1 g2 g3 hl k2 k4
      go_enter Try.func29, Try.ntmps29
      go_wp2_with fail
      refine (FKey.spec_find_any p n c xs x0 _ (HK.out.below HB.out)).mono ?_
      rintro e w1 ⟨rfl, rfl⟩
      rw [HF.out]
      obtain ⟨cc0, cc1, cc2, cc3, cc4, cc5, cc6, cc7, cc8⟩ := bxc HX.out
      go_wp2_with fail
      refine (spec_isSignature_any x0 x1 x2 x3 x4 x5 x6 x7 x8 _).mono ?_
      rintro e w4 ⟨rfl, hb⟩
      rw [HO.out]
      replace HB := Lib.hid (below_on HB.out hb); replace HX := Lib.hid (HX.out.below hb); replace HY := Lib.hid (HY.out.below hb)
      clear hb cc0 cc1 cc2 cc3 cc4 cc5 cc6 cc7 cc8
      obtain ⟨bb, o, rfl, hbb, hat⟩ := SlKey.rd_at (HK.out.below HB.out) hkn
      rw [zero_z5] at hat
      generalize xs.getD k z5 = y at hat HMR K2' K4'
      obtain ⟨k0, k1, k2, k3, k4⟩ := y
      have K2 : Hid (inK .i64 k2) := Lib.hid K2'.out
      have K4 : Hid (inK .i64 k4) := Lib.hid K4'.out
      clear K2' K4'
      have HAT := Lib.hid hat
      obtain ⟨c0, c1, c2, c3, c4⟩ := hat
      obtain ⟨cc0, cc1, cc2, cc3, cc4, cc5, cc6, cc7, cc8⟩ := bxc HX.out
      have i1 : (0 : Int) ≤ (k : Int) := by omega
      have i2 : (k : Int) < (n : Int) := by omega
      go_wp2_with fail
      go_region_with (first
        | (go_at_call 46; (with_reducible refine (spec_signatureInts_any x0 x1 x2 x3 x4 x5 x6 x7 x8 _ G0.out G1.out G2.out G3.out G4.out G5.out G6.out G7.out G8.out).mono ?_); rintro e w5 ⟨p2, n2, c2', rfl, ho, hb⟩; have HO2 := Lib.hid ho; have hn2 : n2 ≤ 9 := Nat.le_of_eq ho.len.symm; have HB5 := Lib.hid (below_on (drewB HB.out) hb); have HX5 := Lib.hid (HX.out.drew1.below hb); have HY5 := Lib.hid (HY.out.drew1.below hb); obtain ⟨d0, d1, d2, d3, d4⟩ := HAT.out.below (below_on (drewB (Below.refl _ _)) hb) hbb; clear ho hb)
        | (go_at_call 45; (with_reducible refine (spec_markWith_any k0 k1 k2 k3 k4 _ _ _ [104, x0, x1, x2, x3, x4, x5, x6, x7] _ HO2.out.rd K2.out K4.out (by omega)).mono ?_); rintro e w6 ⟨rfl, hb⟩; rw [← HMR.out]; have HB6 := Lib.hid (below_on HB5.out hb); have HX6 := Lib.hid (HX5.out.below hb); have HY6 := Lib.hid (HY5.out.below hb); obtain ⟨ee0, ee1, ee2, ee3, ee4, ee5, ee6, ee7, ee8⟩ := bxc HX6.out; have fx := HX6.out.free 8; clear hb))
      all_goals
        obtain ⟨q0, q1, q2, q3, q4, q5, q6, q7, q8⟩ := bxc HY6.out
        have f0 := HY6.out.free 0
        have f1 := HY6.out.free 1
        have f2 := HY6.out.free 2
        have f3 := HY6.out.free 3
        have f4 := HY6.out.free 4
        have f5 := HY6.out.free 5
        have f6 := HY6.out.free 6
        have f7 := HY6.out.free 7
        have f8 := HY6.out.free 8
        go_wp2_with fail
        exact bodyPost_ret (v := .tuple #[.agg #[.int .i64 x0, .int .i64 x1, .int .i64 x2, .int .i64 x3, .int .i64 x4, .int .i64 x5, .int .i64 x6, .int .i64 x7, .int .i64 (markR xs x0 [104, x0, x1, x2, x3, x4, x5, x6, x7])], .bool true]) (by simp [results, Try.results29, go_sem, q0, q1, q2, q3, q4, q5, q6, q7, q8]) rfl ⟨rfl, (((((((((HB6.out.setCell (p := ⟨w.heap.size, 8, none⟩) (Nat.le_refl _) _).setCell (p := ⟨w.heap.size + 1, 0, none⟩) (by simp) _).setCell (p := ⟨w.heap.size + 1, 1, none⟩) (by simp) _).setCell (p := ⟨w.heap.size + 1, 2, none⟩) (by simp) _).setCell (p := ⟨w.heap.size + 1, 3, none⟩) (by simp) _).setCell (p := ⟨w.heap.size + 1, 4, none⟩) (by simp) _).setCell (p := ⟨w.heap.size + 1, 5, none⟩) (by simp) _).setCell (p := ⟨w.heap.size + 1, 6, none⟩) (by simp) _).setCell (p := ⟨w.heap.size + 1, 7, none⟩) (by simp) _).setCell (p := ⟨w.heap.size + 1, 8, none⟩) (by simp) _⟩
  · have hM' := (mkd_no (xs := xs) (by rw [g3]; exact Bool.and_false _)).symm.trans hM
    cases hM'
    have HF := Lib.hid g2
    rcases hβ : okG (x0, x1, x2, x3, x4, x5, x6, x7, x8) with _ | _
    all_goals
      have HO := Lib.hid hβ
      clear hβ g2 g3 hl
      go_enter Try.func29, Try.ntmps29
      go_wp2_with fail
      refine (FKey.spec_find_any p n c xs x0 _ (HK.out.below HB.out)).mono ?_
      rintro e w1 ⟨rfl, rfl⟩
      rw [HF.out]
      obtain ⟨cc0, cc1, cc2, cc3, cc4, cc5, cc6, cc7, cc8⟩ := bxc HX.out
      go_wp2_with fail
      refine (spec_isSignature_any x0 x1 x2 x3 x4 x5 x6 x7 x8 _).mono ?_
      rintro e w4 ⟨rfl, hb⟩
      rw [HO.out]
      replace HB := Lib.hid (below_on HB.out hb); replace HX := Lib.hid (HX.out.below hb); replace HY := Lib.hid (HY.out.below hb)
      clear hb cc0 cc1 cc2 cc3 cc4 cc5 cc6 cc7 cc8
      obtain ⟨q0, q1, q2, q3, q4, q5, q6, q7, q8⟩ := bxc HY.out
      have f0 := HY.out.free 0
      have f1 := HY.out.free 1
      have f2 := HY.out.free 2
      have f3 := HY.out.free 3
      have f4 := HY.out.free 4
      have f5 := HY.out.free 5
      have f6 := HY.out.free 6
      have f7 := HY.out.free 7
      have f8 := HY.out.free 8
      go_wp2_with fail
      exact bodyPost_ret (v := .tuple #[.agg #[.int .i64 0, .int .i64 0, .int .i64 0, .int .i64 0, .int .i64 0, .int .i64 0, .int .i64 0, .int .i64 0, .int .i64 0], .bool false]) (by simp [results, Try.results29, go_sem, q0, q1, q2, q3, q4, q5, q6, q7, q8]) rfl ⟨rfl, (((((((((HB.out).setCell (p := ⟨w.heap.size + 1, 0, none⟩) (by simp) _).setCell (p := ⟨w.heap.size + 1, 1, none⟩) (by simp) _).setCell (p := ⟨w.heap.size + 1, 2, none⟩) (by simp) _).setCell (p := ⟨w.heap.size + 1, 3, none⟩) (by simp) _).setCell (p := ⟨w.heap.size + 1, 4, none⟩) (by simp) _).setCell (p := ⟨w.heap.size + 1, 5, none⟩) (by simp) _).setCell (p := ⟨w.heap.size + 1, 6, none⟩) (by simp) _).setCell (p := ⟨w.heap.size + 1, 7, none⟩) (by simp) _).setCell (p := ⟨w.heap.size + 1, 8, none⟩) (by simp) _⟩

end Go.Proofs.Ytbjocgnogcnedaa.KSignature
