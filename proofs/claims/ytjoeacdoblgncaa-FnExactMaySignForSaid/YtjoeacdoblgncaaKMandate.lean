/- Contracts of what is marked with a key, made: Mandate; in the program (the ring of keys) and in the reference. -/
import Derived.Test.YtjoeacdoblgncaaMj
import Derived.Test.YtjoeacdoblgncaaKo
import Derived.Test.YtjoeacdoblgncaaFKey
import Derived.Deep.RegionHeld3
import Derived.Deep.RegionWith
namespace Go.Proofs.Ytjoeacdoblgncaa.KMandate
open Go.ChangeShapes Go.WideShapes Go.ChangeAt Go.RowKit Go.Shelf Sl St Fnd Kn Kr Ki Km Ko SlMandate Mi Mj
def mkd (xs : List I5) : I6 → I6 × Bool := fun (x0, x1, x2, x3, x4, x5) => if (okD (x0, x1, x2, x3, x4, x5) && (ring xs x4).isSome) = true then ((x0, x1, x2, x3, x4, markR xs x4 [105, x0, x1, x2, x3, x4]), true) else ((0, 0, 0, 0, 0, 0), false)
theorem mkd_yes {xs : List I5} {x0 x1 x2 x3 x4 x5 : Int} (h : (okD (x0, x1, x2, x3, x4, x5) && (ring xs x4).isSome) = true) : mkd xs (x0, x1, x2, x3, x4, x5) = ((x0, x1, x2, x3, x4, markR xs x4 [105, x0, x1, x2, x3, x4]), true) := if_pos h
theorem mkd_no {xs : List I5} {x0 x1 x2 x3 x4 x5 : Int} (h : (okD (x0, x1, x2, x3, x4, x5) && (ring xs x4).isSome) = false) : mkd xs (x0, x1, x2, x3, x4, x5) = ((0, 0, 0, 0, 0, 0), false) := if_neg (by rw [h]; simp)
def Made (v : Value) (b : Bool) (w : World) (e : Ending) (w' : World) : Prop := e = .returned (.tuple #[v, .bool b]) ∧ Below w.heap.size w w'
theorem drewB {W w : World} {B : Nat} (h : Below B W w) : Below B W w.drew := below_drewN h 1
set_option maxRecDepth 100000 in
set_option maxHeartbeats 16000000 in
theorem make_any (p : Option Addr) (n c : Nat) (xs : List I5) (hR : ∀ x ∈ xs, SlKey.InR x) (x0 x1 x2 x3 x4 x5 : Int) (h0 : -9223372036854775808 ≤ x0 ∧ x0 ≤ 9223372036854775807) (h1 : -9223372036854775808 ≤ x1 ∧ x1 ≤ 9223372036854775807) (h2 : -9223372036854775808 ≤ x2 ∧ x2 ≤ 9223372036854775807) (h3 : -9223372036854775808 ≤ x3 ∧ x3 ≤ 9223372036854775807) (h4 : -9223372036854775808 ≤ x4 ∧ x4 ≤ 9223372036854775807) (h5 : -9223372036854775808 ≤ x5 ∧ x5 ≤ 9223372036854775807) (y0 y1 y2 y3 y4 y5 : Int) (b : Bool) (hM : mkd xs (x0, x1, x2, x3, x4, x5) = ((y0, y1, y2, y3, y4, y5), b)) (w : World) (hr : RdS SlKey.E w p n xs) : Calls Try.prog 94 #[.slice p n c, .agg #[.int .i64 x0, .int .i64 x1, .int .i64 x2, .int .i64 x3, .int .i64 x4, .int .i64 x5]] w (Made (.agg #[.int .i64 y0, .int .i64 y1, .int .i64 y2, .int .i64 y3, .int .i64 y4, .int .i64 y5]) b w) := by
  have HK := Lib.hid hr
  have hV : Below w.heap.size w ((w.alloc (.cells #[.int .i64 x0, .int .i64 x1, .int .i64 x2, .int .i64 x3, .int .i64 x4, .int .i64 x5] 86)).alloc (.cells #[.int .i64 0, .int .i64 0, .int .i64 0, .int .i64 0, .int .i64 0, .int .i64 0] 86)) := ((Below.refl _ _).alloc (Nat.le_refl _) _).alloc (by simp) _
  have hY : Bx ((w.alloc (.cells #[.int .i64 x0, .int .i64 x1, .int .i64 x2, .int .i64 x3, .int .i64 x4, .int .i64 x5] 86)).alloc (.cells #[.int .i64 0, .int .i64 0, .int .i64 0, .int .i64 0, .int .i64 0, .int .i64 0] 86)) (w.heap.size + 1) 86 #[.int .i64 0, .int .i64 0, .int .i64 0, .int .i64 0, .int .i64 0, .int .i64 0] := by
    have h := Bx.new (w.alloc (.cells #[.int .i64 x0, .int .i64 x1, .int .i64 x2, .int .i64 x3, .int .i64 x4, .int .i64 x5] 86)) 86 #[.int .i64 0, .int .i64 0, .int .i64 0, .int .i64 0, .int .i64 0, .int .i64 0]
    rw [World.size_alloc] at h
    exact h
  have HX := Lib.hid ((Bx.new w 86 #[.int .i64 x0, .int .i64 x1, .int .i64 x2, .int .i64 x3, .int .i64 x4, .int .i64 x5]).alloc (.cells #[.int .i64 0, .int .i64 0, .int .i64 0, .int .i64 0, .int .i64 0, .int .i64 0] 86))
  have HY := Lib.hid hY
  have HB := Lib.hid hV
  have G0 := Lib.hid h0
  have G1 := Lib.hid h1
  have G2 := Lib.hid h2
  have G3 := Lib.hid h3
  have G4 := Lib.hid h4
  have G5 := Lib.hid h5
  clear h0 h1 h2 h3 h4 h5 hr hV hY
  obtain ⟨m, hm⟩ : ∃ m, markR xs x4 [105, x0, x1, x2, x3, x4] = m := ⟨_, rfl⟩
  have HMM := Lib.hid hm
  rcases hγ : (ring xs x4).isSome with _ | _
  · have hM' := (mkd_no (xs := xs) (by rw [hγ]; exact Bool.and_false _)).symm.trans hM
    cases hM'
    have HG := Lib.hid hγ
    clear hM hγ hm
    go_enter Try.func94, Try.ntmps94
    go_wp2_with fail
    generalize ((w.alloc (.cells #[.int .i64 x0, .int .i64 x1, .int .i64 x2, .int .i64 x3, .int .i64 x4, .int .i64 x5] 86)).alloc (.cells #[.int .i64 0, .int .i64 0, .int .i64 0, .int .i64 0, .int .i64 0, .int .i64 0] 86)) = V at HX HY HB ⊢
    replace HB := Lib.hid (drewB HB.out)
    replace HX := Lib.hid HX.out.drew1
    replace HY := Lib.hid HY.out.drew1
    go_region_held3 (fun w' => w'.cell? ⟨w.heap.size, 0, none⟩ = some (.int .i64 x0) ∧ w'.cell? ⟨w.heap.size, 1, none⟩ = some (.int .i64 x1) ∧ w'.cell? ⟨w.heap.size, 2, none⟩ = some (.int .i64 x2) ∧ w'.cell? ⟨w.heap.size, 3, none⟩ = some (.int .i64 x3) ∧ w'.cell? ⟨w.heap.size, 4, none⟩ = some (.int .i64 x4) ∧ w'.cell? ⟨w.heap.size, 5, none⟩ = some (.int .i64 x5)) (first | exact bxc HX.out | go_keep) (first
      | (go_at_call 115; (with_reducible refine (ringOf_any p n c xs hR _ (HK.out.below HB.out)).mono ?_); rintro e w1 ⟨rfl, hh, hb⟩; have HH : Hid (Holds xs V.heap.size w1) := Lib.hid hh; replace HB := Lib.hid (below_on HB.out hb); replace HX := Lib.hid (HX.out.below hb); replace HY := Lib.hid (HY.out.below hb); clear hb hh)
      | (go_at_call 117; (with_reducible refine (mandateInts_any x0 x1 x2 x3 x4 x5 _ G0.out G1.out G2.out G3.out G4.out G5.out).mono ?_); rintro e w2 ⟨p2, n2, c2, d2, rfl, ho, hb⟩; have HO2 := Lib.hid ho; have hn2 : n2 ≤ 6 := Nat.le_of_eq ho.len.symm; replace HB := Lib.hid (below_on HB.out hb); replace HX := Lib.hid (HX.out.below hb); replace HY := Lib.hid (HY.out.below hb); replace HH := Lib.hid (HH.out.below hb); clear ho hb)
      | (go_at_call 116; (with_reducible refine (ringMark_any xs hR _ x4 G4.out _ _ _ [105, x0, x1, x2, x3, x4] _ HH.out HO2.out.rd (by omega)).mono ?_); rintro e w3 ⟨rfl, hb⟩; rw [HG.out, HMM.out]; replace HB := Lib.hid (below_on HB.out hb); replace HX := Lib.hid (HX.out.below hb); replace HY := Lib.hid (HY.out.below hb); clear hb))
    obtain ⟨q0, q1, q2, q3, q4, q5⟩ := bxc HY.out
    have f0 := HY.out.free 0
    have f1 := HY.out.free 1
    have f2 := HY.out.free 2
    have f3 := HY.out.free 3
    have f4 := HY.out.free 4
    have f5 := HY.out.free 5
    go_wp2_with fail
    exact bodyPost_ret (v := .tuple #[.agg #[.int .i64 0, .int .i64 0, .int .i64 0, .int .i64 0, .int .i64 0, .int .i64 0], .bool false]) (by simp [results, Try.results94, go_sem, q0, q1, q2, q3, q4, q5]) rfl ⟨rfl, ((((((HB.out).setCell (p := ⟨w.heap.size + 1, 0, none⟩) (by simp) _).setCell (p := ⟨w.heap.size + 1, 1, none⟩) (by simp) _).setCell (p := ⟨w.heap.size + 1, 2, none⟩) (by simp) _).setCell (p := ⟨w.heap.size + 1, 3, none⟩) (by simp) _).setCell (p := ⟨w.heap.size + 1, 4, none⟩) (by simp) _).setCell (p := ⟨w.heap.size + 1, 5, none⟩) (by simp) _⟩
  · rcases hβ : okD (x0, x1, x2, x3, x4, x5) with _ | _
    · have hM' := (mkd_no (xs := xs) (by rw [hβ]; exact Bool.false_and _)).symm.trans hM
      cases hM'
      have HG := Lib.hid hγ
      have HO := Lib.hid hβ
      clear hM hγ hm hβ
      go_enter Try.func94, Try.ntmps94
      go_wp2_with fail
      generalize ((w.alloc (.cells #[.int .i64 x0, .int .i64 x1, .int .i64 x2, .int .i64 x3, .int .i64 x4, .int .i64 x5] 86)).alloc (.cells #[.int .i64 0, .int .i64 0, .int .i64 0, .int .i64 0, .int .i64 0, .int .i64 0] 86)) = V at HX HY HB ⊢
      replace HB := Lib.hid (drewB HB.out)
      replace HX := Lib.hid HX.out.drew1
      replace HY := Lib.hid HY.out.drew1
      go_region_held3 (fun w' => w'.cell? ⟨w.heap.size, 0, none⟩ = some (.int .i64 x0) ∧ w'.cell? ⟨w.heap.size, 1, none⟩ = some (.int .i64 x1) ∧ w'.cell? ⟨w.heap.size, 2, none⟩ = some (.int .i64 x2) ∧ w'.cell? ⟨w.heap.size, 3, none⟩ = some (.int .i64 x3) ∧ w'.cell? ⟨w.heap.size, 4, none⟩ = some (.int .i64 x4) ∧ w'.cell? ⟨w.heap.size, 5, none⟩ = some (.int .i64 x5)) (first | exact bxc HX.out | go_keep) (first
        | (go_at_call 115; (with_reducible refine (ringOf_any p n c xs hR _ (HK.out.below HB.out)).mono ?_); rintro e w1 ⟨rfl, hh, hb⟩; have HH : Hid (Holds xs V.heap.size w1) := Lib.hid hh; replace HB := Lib.hid (below_on HB.out hb); replace HX := Lib.hid (HX.out.below hb); replace HY := Lib.hid (HY.out.below hb); clear hb hh)
        | (go_at_call 117; (with_reducible refine (mandateInts_any x0 x1 x2 x3 x4 x5 _ G0.out G1.out G2.out G3.out G4.out G5.out).mono ?_); rintro e w2 ⟨p2, n2, c2, d2, rfl, ho, hb⟩; have HO2 := Lib.hid ho; have hn2 : n2 ≤ 6 := Nat.le_of_eq ho.len.symm; replace HB := Lib.hid (below_on HB.out hb); replace HX := Lib.hid (HX.out.below hb); replace HY := Lib.hid (HY.out.below hb); replace HH := Lib.hid (HH.out.below hb); clear ho hb)
        | (go_at_call 116; (with_reducible refine (ringMark_any xs hR _ x4 G4.out _ _ _ [105, x0, x1, x2, x3, x4] _ HH.out HO2.out.rd (by omega)).mono ?_); rintro e w3 ⟨rfl, hb⟩; rw [HG.out, HMM.out]; replace HB := Lib.hid (below_on HB.out hb); replace HX := Lib.hid (HX.out.below hb); replace HY := Lib.hid (HY.out.below hb); clear hb))
      obtain ⟨cc0, cc1, cc2, cc3, cc4, cc5⟩ := bxc HX.out
      go_wp2_with fail
      refine (isMandate_any x0 x1 x2 x3 x4 x5 _).mono ?_
      rintro e w4 ⟨rfl, hb⟩
      rw [HO.out]
      replace HB := Lib.hid (below_on HB.out hb); replace HX := Lib.hid (HX.out.below hb); replace HY := Lib.hid (HY.out.below hb)
      clear hb cc0 cc1 cc2 cc3 cc4 cc5
      obtain ⟨q0, q1, q2, q3, q4, q5⟩ := bxc HY.out
      have f0 := HY.out.free 0
      have f1 := HY.out.free 1
      have f2 := HY.out.free 2
      have f3 := HY.out.free 3
      have f4 := HY.out.free 4
      have f5 := HY.out.free 5
      go_wp2_with fail
      exact bodyPost_ret (v := .tuple #[.agg #[.int .i64 0, .int .i64 0, .int .i64 0, .int .i64 0, .int .i64 0, .int .i64 0], .bool false]) (by simp [results, Try.results94, go_sem, q0, q1, q2, q3, q4, q5]) rfl ⟨rfl, ((((((HB.out).setCell (p := ⟨w.heap.size + 1, 0, none⟩) (by simp) _).setCell (p := ⟨w.heap.size + 1, 1, none⟩) (by simp) _).setCell (p := ⟨w.heap.size + 1, 2, none⟩) (by simp) _).setCell (p := ⟨w.heap.size + 1, 3, none⟩) (by simp) _).setCell (p := ⟨w.heap.size + 1, 4, none⟩) (by simp) _).setCell (p := ⟨w.heap.size + 1, 5, none⟩) (by simp) _⟩
    · have hM' := (mkd_yes (xs := xs) (by rw [hβ, hγ]; rfl)).symm.trans hM
      rw [hm] at hM'
      cases hM'
      have HG := Lib.hid hγ
      have HO := Lib.hid hβ
      clear hM hγ hm hβ
      go_enter Try.func94, Try.ntmps94
      go_wp2_with fail
      generalize ((w.alloc (.cells #[.int .i64 x0, .int .i64 x1, .int .i64 x2, .int .i64 x3, .int .i64 x4, .int .i64 x5] 86)).alloc (.cells #[.int .i64 0, .int .i64 0, .int .i64 0, .int .i64 0, .int .i64 0, .int .i64 0] 86)) = V at HX HY HB ⊢
      replace HB := Lib.hid (drewB HB.out)
      replace HX := Lib.hid HX.out.drew1
      replace HY := Lib.hid HY.out.drew1
      go_region_held3 (fun w' => w'.cell? ⟨w.heap.size, 0, none⟩ = some (.int .i64 x0) ∧ w'.cell? ⟨w.heap.size, 1, none⟩ = some (.int .i64 x1) ∧ w'.cell? ⟨w.heap.size, 2, none⟩ = some (.int .i64 x2) ∧ w'.cell? ⟨w.heap.size, 3, none⟩ = some (.int .i64 x3) ∧ w'.cell? ⟨w.heap.size, 4, none⟩ = some (.int .i64 x4) ∧ w'.cell? ⟨w.heap.size, 5, none⟩ = some (.int .i64 x5)) (first | exact bxc HX.out | go_keep) (first
        | (go_at_call 115; (with_reducible refine (ringOf_any p n c xs hR _ (HK.out.below HB.out)).mono ?_); rintro e w1 ⟨rfl, hh, hb⟩; have HH : Hid (Holds xs V.heap.size w1) := Lib.hid hh; replace HB := Lib.hid (below_on HB.out hb); replace HX := Lib.hid (HX.out.below hb); replace HY := Lib.hid (HY.out.below hb); clear hb hh)
        | (go_at_call 117; (with_reducible refine (mandateInts_any x0 x1 x2 x3 x4 x5 _ G0.out G1.out G2.out G3.out G4.out G5.out).mono ?_); rintro e w2 ⟨p2, n2, c2, d2, rfl, ho, hb⟩; have HO2 := Lib.hid ho; have hn2 : n2 ≤ 6 := Nat.le_of_eq ho.len.symm; replace HB := Lib.hid (below_on HB.out hb); replace HX := Lib.hid (HX.out.below hb); replace HY := Lib.hid (HY.out.below hb); replace HH := Lib.hid (HH.out.below hb); clear ho hb)
        | (go_at_call 116; (with_reducible refine (ringMark_any xs hR _ x4 G4.out _ _ _ [105, x0, x1, x2, x3, x4] _ HH.out HO2.out.rd (by omega)).mono ?_); rintro e w3 ⟨rfl, hb⟩; rw [HG.out, HMM.out]; replace HB := Lib.hid (below_on HB.out hb); replace HX := Lib.hid (HX.out.below hb); replace HY := Lib.hid (HY.out.below hb); clear hb))
      obtain ⟨cc0, cc1, cc2, cc3, cc4, cc5⟩ := bxc HX.out
      go_wp2_with fail
      refine (isMandate_any x0 x1 x2 x3 x4 x5 _).mono ?_
      rintro e w4 ⟨rfl, hb⟩
      rw [HO.out]
      replace HB := Lib.hid (below_on HB.out hb); replace HX := Lib.hid (HX.out.below hb); replace HY := Lib.hid (HY.out.below hb)
      clear hb cc0 cc1 cc2 cc3 cc4 cc5
      obtain ⟨cc0, cc1, cc2, cc3, cc4, cc5⟩ := bxc HX.out
      obtain ⟨q0, q1, q2, q3, q4, q5⟩ := bxc HY.out
      have fx := HX.out.free 5
      have f0 := HY.out.free 0
      have f1 := HY.out.free 1
      have f2 := HY.out.free 2
      have f3 := HY.out.free 3
      have f4 := HY.out.free 4
      have f5 := HY.out.free 5
      go_wp2_with fail
      exact bodyPost_ret (v := .tuple #[.agg #[.int .i64 x0, .int .i64 x1, .int .i64 x2, .int .i64 x3, .int .i64 x4, .int .i64 y5], .bool true]) (by simp [results, Try.results94, go_sem, q0, q1, q2, q3, q4, q5]) rfl ⟨rfl, ((((((HB.out.setCell (p := ⟨w.heap.size, 5, none⟩) (Nat.le_refl _) _).setCell (p := ⟨w.heap.size + 1, 0, none⟩) (by simp) _).setCell (p := ⟨w.heap.size + 1, 1, none⟩) (by simp) _).setCell (p := ⟨w.heap.size + 1, 2, none⟩) (by simp) _).setCell (p := ⟨w.heap.size + 1, 3, none⟩) (by simp) _).setCell (p := ⟨w.heap.size + 1, 4, none⟩) (by simp) _).setCell (p := ⟨w.heap.size + 1, 5, none⟩) (by simp) _⟩
end Go.Proofs.Ytjoeacdoblgncaa.KMandate
