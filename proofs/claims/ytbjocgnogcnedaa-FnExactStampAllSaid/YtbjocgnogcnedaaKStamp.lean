/- Contracts of stamps, made; in the program (a desk with the ring of keys and the authorities) and in the reference. -/
import Derived.Test.YtbjocgnogcnedaaKo
import Derived.Test.YtbjocgnogcnedaaTi
import Derived.Test.YtbjocgnogcnedaaAo
import Derived.Test.YtbjocgnogcnedaaFKey
import Derived.Test.YtbjocgnogcnedaaQt
import Derived.Deep.RegionHeld3
import Derived.Deep.RegionWith
namespace Go.Proofs.Ytbjocgnogcnedaa.KStamp
open Go.ChangeShapes Go.WideShapes Go.ChangeAt Go.RowKit Go.Shelf Sl St Fnd Kn Kr Ki Km Ko SlStamp Ti
def okT (xs : List I5) (us : List I3) (x0 x1 x2 : Int) : Bool := (Ao.aut us x0).2 && ((ring xs (Ao.aut us x0).1.2.1).isSome && (decide (0 ≤ x1) && inB x2 0 10000))
def mkd (xs : List I5) (us : List I3) : I5 → I5 × Bool := fun (x0, x1, x2, x3, _) => if okT xs us x0 x1 x2 = true then ((x0, x1, x2, x3, markR xs (Ao.aut us x0).1.2.1 [103, x0, x1, x2, x3]), true) else ((0, 0, 0, 0, 0), false)
theorem mkd_yes {xs : List I5} {us : List I3} {x0 x1 x2 x3 x4 : Int} (h : okT xs us x0 x1 x2 = true) : mkd xs us (x0, x1, x2, x3, x4) = ((x0, x1, x2, x3, markR xs (Ao.aut us x0).1.2.1 [103, x0, x1, x2, x3]), true) := if_pos h
theorem mkd_no {xs : List I5} {us : List I3} {x0 x1 x2 x3 x4 : Int} (h : okT xs us x0 x1 x2 = false) : mkd xs us (x0, x1, x2, x3, x4) = ((0, 0, 0, 0, 0), false) := if_neg (by rw [h]; simp)
theorem ok_eq {xs : List I5} {us : List I3} {x0 x1 x2 a0 a1 a2 : Int} {b : Bool} (h : Ao.aut us x0 = ((a0, a1, a2), b)) : okT xs us x0 x1 x2 = (b && ((ring xs a1).isSome && (decide (0 ≤ x1) && inB x2 0 10000))) := by unfold okT; rw [h]
theorem mark_eq {xs : List I5} {us : List I3} {x0 a0 a1 a2 : Int} {b : Bool} {l : List Int} (h : Ao.aut us x0 = ((a0, a1, a2), b)) : markR xs (Ao.aut us x0).1.2.1 l = markR xs a1 l := by rw [h]
def Made (v : Value) (b : Bool) (w : World) (e : Ending) (w' : World) : Prop := e = .returned (.tuple #[v, .bool b]) ∧ Below w.heap.size w w'
theorem drewB {W w : World} {B : Nat} (h : Below B W w) : Below B W w.drew := below_drewN h 1
theorem aut_in {us : List I3} (hA : ∀ a ∈ us, SlAuthority.InR a) {x0 a0 a1 a2 : Int} {b : Bool} (h : Ao.aut us x0 = ((a0, a1, a2), b)) : -9223372036854775808 ≤ a1 ∧ a1 ≤ 9223372036854775807 := by
  rcases Ao.aut_cases us x0 h with ⟨k, h1, _, h3, _⟩ | ⟨_, _, h4, _⟩
  · have := hA _ (getD_mem Ao.z3 h1)
    rw [h3] at this
    exact this.2.1
  · subst h4; omega
theorem eight {w : World} {g g' g'' : Nat} {T T' T'' : TypeId} {x0 x1 x2 x3 x4 a0 a1 a2 r q : Value} (h : Bx w g T #[x0, x1, x2, x3, x4]) (h' : Bx w g' T' #[a0, a1, a2]) (h'' : Bx w g'' T'' #[r, q]) : w.cell? ⟨g, 0, none⟩ = some x0 ∧ w.cell? ⟨g, 1, none⟩ = some x1 ∧ w.cell? ⟨g, 2, none⟩ = some x2 ∧ w.cell? ⟨g, 3, none⟩ = some x3 ∧ w.cell? ⟨g, 4, none⟩ = some x4 ∧ w.cell? ⟨g', 1, none⟩ = some a1 ∧ w.cell? ⟨g'', 0, none⟩ = some r := ⟨h.cell rfl, h.cell rfl, h.cell rfl, h.cell rfl, h.cell rfl, h'.cell rfl, h''.cell rfl⟩
set_option maxRecDepth 100000 in
set_option maxHeartbeats 8000000 in
theorem stamp_any (g : Nat) (q : Option Addr) (m c' : Nat) (us : List I3) (hA : ∀ a ∈ us, SlAuthority.InR a) (xs : List I5) (hR : ∀ x ∈ xs, SlKey.InR x) (x0 x1 x2 x3 x4 : Int) (h0 : -9223372036854775808 ≤ x0 ∧ x0 ≤ 9223372036854775807) (h1 : -9223372036854775808 ≤ x1 ∧ x1 ≤ 9223372036854775807) (h2 : -9223372036854775808 ≤ x2 ∧ x2 ≤ 9223372036854775807) (h3 : -9223372036854775808 ≤ x3 ∧ x3 ≤ 9223372036854775807) (h4 : -9223372036854775808 ≤ x4 ∧ x4 ≤ 9223372036854775807) (y0 y1 y2 y3 y4 : Int) (b : Bool) (hM : mkd xs us (x0, x1, x2, x3, x4) = ((y0, y1, y2, y3, y4), b)) (w : World) (hh : Holds xs g w) (hr : RdS SlAuthority.E w q m us) : Calls Try.prog 62 #[.agg #[.map (some g), .slice q m c'], .agg #[.int .i64 x0, .int .i64 x1, .int .i64 x2, .int .i64 x3, .int .i64 x4]] w (Made (.agg #[.int .i64 y0, .int .i64 y1, .int .i64 y2, .int .i64 y3, .int .i64 y4]) b w) := by
  have HK := Lib.hid hr
  have hX : Bx (((w.alloc (.cells #[.map (some g), .slice q m c'] 97)).alloc (.cells #[.int .i64 x0, .int .i64 x1, .int .i64 x2, .int .i64 x3, .int .i64 x4] 67)).alloc (.cells #[.int .i64 0, .int .i64 0, .int .i64 0, .int .i64 0, .int .i64 0] 67)) (w.heap.size + 1) 67 #[.int .i64 x0, .int .i64 x1, .int .i64 x2, .int .i64 x3, .int .i64 x4] := by
    have h := Bx.new (w.alloc (.cells #[.map (some g), .slice q m c'] 97)) 67 #[.int .i64 x0, .int .i64 x1, .int .i64 x2, .int .i64 x3, .int .i64 x4]
    rw [World.size_alloc] at h
    exact h.alloc _
  have hY : Bx (((w.alloc (.cells #[.map (some g), .slice q m c'] 97)).alloc (.cells #[.int .i64 x0, .int .i64 x1, .int .i64 x2, .int .i64 x3, .int .i64 x4] 67)).alloc (.cells #[.int .i64 0, .int .i64 0, .int .i64 0, .int .i64 0, .int .i64 0] 67)) (w.heap.size + 1 + 1) 67 #[.int .i64 0, .int .i64 0, .int .i64 0, .int .i64 0, .int .i64 0] := by
    have h := Bx.new ((w.alloc (.cells #[.map (some g), .slice q m c'] 97)).alloc (.cells #[.int .i64 x0, .int .i64 x1, .int .i64 x2, .int .i64 x3, .int .i64 x4] 67)) 67 #[.int .i64 0, .int .i64 0, .int .i64 0, .int .i64 0, .int .i64 0]
    rw [World.size_alloc, World.size_alloc] at h
    exact h
  have HX := Lib.hid hX
  have HY := Lib.hid hY
  have HD := Lib.hid (((Bx.new w 97 #[.map (some g), .slice q m c']).alloc (.cells #[.int .i64 x0, .int .i64 x1, .int .i64 x2, .int .i64 x3, .int .i64 x4] 67)).alloc (.cells #[.int .i64 0, .int .i64 0, .int .i64 0, .int .i64 0, .int .i64 0] 67))
  have HB : Hid (Below w.heap.size w (((w.alloc (.cells #[.map (some g), .slice q m c'] 97)).alloc (.cells #[.int .i64 x0, .int .i64 x1, .int .i64 x2, .int .i64 x3, .int .i64 x4] 67)).alloc (.cells #[.int .i64 0, .int .i64 0, .int .i64 0, .int .i64 0, .int .i64 0] 67))) := Lib.hid ((((Below.refl w.heap.size w).alloc (Nat.le_refl _) (.cells #[.map (some g), .slice q m c'] 97)).alloc (by simp) (.cells #[.int .i64 x0, .int .i64 x1, .int .i64 x2, .int .i64 x3, .int .i64 x4] 67)).alloc (by simp; omega) (.cells #[.int .i64 0, .int .i64 0, .int .i64 0, .int .i64 0, .int .i64 0] 67))
  have HH : Hid (Holds xs g (((w.alloc (.cells #[.map (some g), .slice q m c'] 97)).alloc (.cells #[.int .i64 x0, .int .i64 x1, .int .i64 x2, .int .i64 x3, .int .i64 x4] 67)).alloc (.cells #[.int .i64 0, .int .i64 0, .int .i64 0, .int .i64 0, .int .i64 0] 67))) := Lib.hid (hh.below HB.out)
  rcases ha : Ao.aut us x0 with ⟨⟨a0, a1, a2⟩, b0⟩
  have HA := Lib.hid ha
  have HAI := Lib.hid (aut_in hA ha)
  have hok := ok_eq (xs := xs) (x1 := x1) (x2 := x2) ha
  have hme := mark_eq (xs := xs) (l := [103, x0, x1, x2, x3]) ha
  have G0 := Lib.hid h0
  have G1 := Lib.hid h1
  have G2 := Lib.hid h2
  have G3 := Lib.hid h3
  have G4 := Lib.hid h4
  clear h0 h1 h2 h3 h4 hr hX hY hh ha
  generalize hm : markR xs a1 [103, x0, x1, x2, x3] = μ at hme
  have HMM := Lib.hid hm
  clear hm
  cases b0
  · obtain ⟨γ, hγ⟩ : ∃ γ, (ring xs a1).isSome = γ := ⟨_, rfl⟩
    have HG := Lib.hid hγ
    have hM' := (mkd_no (xs := xs) (us := us) (by rw [hok]; rfl)).symm.trans hM
    cases hM'
    clear hM hok hme hγ
    go_enter Try.func62, Try.ntmps62
    go_wp2_with fail
    generalize (((w.alloc (.cells #[.map (some g), .slice q m c'] 97)).alloc (.cells #[.int .i64 x0, .int .i64 x1, .int .i64 x2, .int .i64 x3, .int .i64 x4] 67)).alloc (.cells #[.int .i64 0, .int .i64 0, .int .i64 0, .int .i64 0, .int .i64 0] 67)) = V at HX HY HB HH HD ⊢
    refine (Ao.authorityOf_any q m c' us x0 x1 x2 x3 x4 a0 a1 a2 _ HA.out _ (HK.out.below HB.out)).mono ?_
    rintro e w1 ⟨rfl, hb⟩
    replace HB := Lib.hid (below_on HB.out hb); replace HX := Lib.hid (HX.out.below hb); replace HD := Lib.hid (HD.out.below hb); replace HY := Lib.hid (HY.out.below hb); replace HH := Lib.hid (HH.out.below hb)
    have HQ := Lib.hid (Bx.new w1 71 #[.int .i64 a0, .int .i64 a1, .int .i64 a2])
    replace HB := Lib.hid (HB.out.alloc HB.out.size (.cells #[.int .i64 a0, .int .i64 a1, .int .i64 a2] 71))
    replace HX := Lib.hid (HX.out.alloc (.cells #[.int .i64 a0, .int .i64 a1, .int .i64 a2] 71))
    replace HD := Lib.hid (HD.out.alloc (.cells #[.int .i64 a0, .int .i64 a1, .int .i64 a2] 71))
    replace HY := Lib.hid (HY.out.alloc (.cells #[.int .i64 a0, .int .i64 a1, .int .i64 a2] 71))
    replace HH := Lib.hid (HH.out.alloc (.cells #[.int .i64 a0, .int .i64 a1, .int .i64 a2] 71))
    clear hb
    obtain ⟨cc0, cc1, cc2, cc3, cc4, cc5, cc6⟩ := eight HX.out HQ.out HD.out
    go_wp2_with fail
    generalize w1.heap.size = ga at HQ cc5 ⊢
    generalize w1.alloc (.cells #[.int .i64 a0, .int .i64 a1, .int .i64 a2] 71) = V1 at HX HY HB HH HD HQ cc0 cc1 cc2 cc3 cc4 cc5 cc6 ⊢
    replace HB := Lib.hid (drewB HB.out)
    replace HX := Lib.hid HX.out.drew1
    replace HD := Lib.hid HD.out.drew1
    replace HQ := Lib.hid HQ.out.drew1
    replace HY := Lib.hid HY.out.drew1
    replace HH := Lib.hid (HH.out.drewN 1)
    go_region_held3 (fun w' => w'.cell? ⟨w.heap.size + 1, 0, none⟩ = some (.int .i64 x0) ∧ w'.cell? ⟨w.heap.size + 1, 1, none⟩ = some (.int .i64 x1) ∧ w'.cell? ⟨w.heap.size + 1, 2, none⟩ = some (.int .i64 x2) ∧ w'.cell? ⟨w.heap.size + 1, 3, none⟩ = some (.int .i64 x3) ∧ w'.cell? ⟨w.heap.size + 1, 4, none⟩ = some (.int .i64 x4) ∧ w'.cell? ⟨ga, 1, none⟩ = some (.int .i64 a1) ∧ w'.cell? ⟨w.heap.size, 0, none⟩ = some (.map (some g))) (first | exact eight HX.out HQ.out HD.out | go_keep) (first
      | (go_at_call 80; (with_reducible refine (stampInts_any x0 x1 x2 x3 x4 _ G0.out G1.out G2.out G3.out G4.out).mono ?_); rintro e w2 ⟨p2, n2, c2, rfl, ho, hb⟩; have HO2 := Lib.hid ho; have hn2 : n2 ≤ 5 := Nat.le_of_eq ho.len.symm; replace HB := Lib.hid (below_on HB.out hb); replace HX := Lib.hid (HX.out.below hb); replace HD := Lib.hid (HD.out.below hb); replace HY := Lib.hid (HY.out.below hb); replace HH := Lib.hid (HH.out.below hb); replace HQ := Lib.hid (HQ.out.below hb); clear ho hb)
      | (go_at_call 51; (with_reducible refine (ringMark_any xs hR g a1 HAI.out _ _ _ [103, x0, x1, x2, x3] _ HH.out HO2.out.rd (by omega)).mono ?_); rintro e w3 ⟨rfl, hb⟩; rw [HG.out, HMM.out]; replace HB := Lib.hid (below_on HB.out hb); replace HX := Lib.hid (HX.out.below hb); replace HD := Lib.hid (HD.out.below hb); replace HY := Lib.hid (HY.out.below hb); replace HH := Lib.hid (HH.out.below hb); replace HQ := Lib.hid (HQ.out.below hb); clear hb))
    clear cc0 cc1 cc2 cc3 cc4 cc5 cc6
    all_goals
      obtain ⟨cc0, cc1, cc2, cc3, cc4⟩ := bxc HX.out
      obtain ⟨q0, q1, q2, q3, q4⟩ := bxc HY.out
      have f0 := HY.out.free 0
      have f1 := HY.out.free 1
      have f2 := HY.out.free 2
      have f3 := HY.out.free 3
      have f4 := HY.out.free 4
      go_wp2_with fail
      exact bodyPost_ret (v := .tuple #[.agg #[.int .i64 0, .int .i64 0, .int .i64 0, .int .i64 0, .int .i64 0], .bool false]) (by simp [results, Try.results62, go_sem, q0, q1, q2, q3, q4]) rfl ⟨rfl, (((((HB.out).setCell (p := ⟨w.heap.size + 1 + 1, 0, none⟩) (by simp; try omega) _).setCell (p := ⟨w.heap.size + 1 + 1, 1, none⟩) (by simp; try omega) _).setCell (p := ⟨w.heap.size + 1 + 1, 2, none⟩) (by simp; try omega) _).setCell (p := ⟨w.heap.size + 1 + 1, 3, none⟩) (by simp; try omega) _).setCell (p := ⟨w.heap.size + 1 + 1, 4, none⟩) (by simp; try omega) _⟩
  rcases hγ : (ring xs a1).isSome with _ | _
  · have HG := Lib.hid hγ
    have hM' := (mkd_no (xs := xs) (us := us) (by rw [hok, hγ]; rfl)).symm.trans hM
    cases hM'
    clear hM hok hme hγ
    go_enter Try.func62, Try.ntmps62
    go_wp2_with fail
    generalize (((w.alloc (.cells #[.map (some g), .slice q m c'] 97)).alloc (.cells #[.int .i64 x0, .int .i64 x1, .int .i64 x2, .int .i64 x3, .int .i64 x4] 67)).alloc (.cells #[.int .i64 0, .int .i64 0, .int .i64 0, .int .i64 0, .int .i64 0] 67)) = V at HX HY HB HH HD ⊢
    refine (Ao.authorityOf_any q m c' us x0 x1 x2 x3 x4 a0 a1 a2 _ HA.out _ (HK.out.below HB.out)).mono ?_
    rintro e w1 ⟨rfl, hb⟩
    replace HB := Lib.hid (below_on HB.out hb); replace HX := Lib.hid (HX.out.below hb); replace HD := Lib.hid (HD.out.below hb); replace HY := Lib.hid (HY.out.below hb); replace HH := Lib.hid (HH.out.below hb)
    have HQ := Lib.hid (Bx.new w1 71 #[.int .i64 a0, .int .i64 a1, .int .i64 a2])
    replace HB := Lib.hid (HB.out.alloc HB.out.size (.cells #[.int .i64 a0, .int .i64 a1, .int .i64 a2] 71))
    replace HX := Lib.hid (HX.out.alloc (.cells #[.int .i64 a0, .int .i64 a1, .int .i64 a2] 71))
    replace HD := Lib.hid (HD.out.alloc (.cells #[.int .i64 a0, .int .i64 a1, .int .i64 a2] 71))
    replace HY := Lib.hid (HY.out.alloc (.cells #[.int .i64 a0, .int .i64 a1, .int .i64 a2] 71))
    replace HH := Lib.hid (HH.out.alloc (.cells #[.int .i64 a0, .int .i64 a1, .int .i64 a2] 71))
    clear hb
    obtain ⟨cc0, cc1, cc2, cc3, cc4, cc5, cc6⟩ := eight HX.out HQ.out HD.out
    go_wp2_with fail
    generalize w1.heap.size = ga at HQ cc5 ⊢
    generalize w1.alloc (.cells #[.int .i64 a0, .int .i64 a1, .int .i64 a2] 71) = V1 at HX HY HB HH HD HQ cc0 cc1 cc2 cc3 cc4 cc5 cc6 ⊢
    replace HB := Lib.hid (drewB HB.out)
    replace HX := Lib.hid HX.out.drew1
    replace HD := Lib.hid HD.out.drew1
    replace HQ := Lib.hid HQ.out.drew1
    replace HY := Lib.hid HY.out.drew1
    replace HH := Lib.hid (HH.out.drewN 1)
    go_region_held3 (fun w' => w'.cell? ⟨w.heap.size + 1, 0, none⟩ = some (.int .i64 x0) ∧ w'.cell? ⟨w.heap.size + 1, 1, none⟩ = some (.int .i64 x1) ∧ w'.cell? ⟨w.heap.size + 1, 2, none⟩ = some (.int .i64 x2) ∧ w'.cell? ⟨w.heap.size + 1, 3, none⟩ = some (.int .i64 x3) ∧ w'.cell? ⟨w.heap.size + 1, 4, none⟩ = some (.int .i64 x4) ∧ w'.cell? ⟨ga, 1, none⟩ = some (.int .i64 a1) ∧ w'.cell? ⟨w.heap.size, 0, none⟩ = some (.map (some g))) (first | exact eight HX.out HQ.out HD.out | go_keep) (first
      | (go_at_call 80; (with_reducible refine (stampInts_any x0 x1 x2 x3 x4 _ G0.out G1.out G2.out G3.out G4.out).mono ?_); rintro e w2 ⟨p2, n2, c2, rfl, ho, hb⟩; have HO2 := Lib.hid ho; have hn2 : n2 ≤ 5 := Nat.le_of_eq ho.len.symm; replace HB := Lib.hid (below_on HB.out hb); replace HX := Lib.hid (HX.out.below hb); replace HD := Lib.hid (HD.out.below hb); replace HY := Lib.hid (HY.out.below hb); replace HH := Lib.hid (HH.out.below hb); replace HQ := Lib.hid (HQ.out.below hb); clear ho hb)
      | (go_at_call 51; (with_reducible refine (ringMark_any xs hR g a1 HAI.out _ _ _ [103, x0, x1, x2, x3] _ HH.out HO2.out.rd (by omega)).mono ?_); rintro e w3 ⟨rfl, hb⟩; rw [HG.out, HMM.out]; replace HB := Lib.hid (below_on HB.out hb); replace HX := Lib.hid (HX.out.below hb); replace HD := Lib.hid (HD.out.below hb); replace HY := Lib.hid (HY.out.below hb); replace HH := Lib.hid (HH.out.below hb); replace HQ := Lib.hid (HQ.out.below hb); clear hb))
    clear cc0 cc1 cc2 cc3 cc4 cc5 cc6
    all_goals
      obtain ⟨cc0, cc1, cc2, cc3, cc4⟩ := bxc HX.out
      obtain ⟨q0, q1, q2, q3, q4⟩ := bxc HY.out
      have f0 := HY.out.free 0
      have f1 := HY.out.free 1
      have f2 := HY.out.free 2
      have f3 := HY.out.free 3
      have f4 := HY.out.free 4
      go_wp2_with fail
      exact bodyPost_ret (v := .tuple #[.agg #[.int .i64 0, .int .i64 0, .int .i64 0, .int .i64 0, .int .i64 0], .bool false]) (by simp [results, Try.results62, go_sem, q0, q1, q2, q3, q4]) rfl ⟨rfl, (((((HB.out).setCell (p := ⟨w.heap.size + 1 + 1, 0, none⟩) (by simp; try omega) _).setCell (p := ⟨w.heap.size + 1 + 1, 1, none⟩) (by simp; try omega) _).setCell (p := ⟨w.heap.size + 1 + 1, 2, none⟩) (by simp; try omega) _).setCell (p := ⟨w.heap.size + 1 + 1, 3, none⟩) (by simp; try omega) _).setCell (p := ⟨w.heap.size + 1 + 1, 4, none⟩) (by simp; try omega) _⟩
  have HG := Lib.hid hγ
  by_cases h1 : 0 ≤ x1
  rotate_left
  · have hM' := (mkd_no (xs := xs) (us := us) (by rw [hok, hγ, decide_eq_false h1]; rfl)).symm.trans hM
    cases hM'
    have h1' : x1 < 0 := by omega
    clear hM hok hme hγ h1
    go_enter Try.func62, Try.ntmps62
    go_wp2_with fail
    generalize (((w.alloc (.cells #[.map (some g), .slice q m c'] 97)).alloc (.cells #[.int .i64 x0, .int .i64 x1, .int .i64 x2, .int .i64 x3, .int .i64 x4] 67)).alloc (.cells #[.int .i64 0, .int .i64 0, .int .i64 0, .int .i64 0, .int .i64 0] 67)) = V at HX HY HB HH HD ⊢
    refine (Ao.authorityOf_any q m c' us x0 x1 x2 x3 x4 a0 a1 a2 _ HA.out _ (HK.out.below HB.out)).mono ?_
    rintro e w1 ⟨rfl, hb⟩
    replace HB := Lib.hid (below_on HB.out hb); replace HX := Lib.hid (HX.out.below hb); replace HD := Lib.hid (HD.out.below hb); replace HY := Lib.hid (HY.out.below hb); replace HH := Lib.hid (HH.out.below hb)
    have HQ := Lib.hid (Bx.new w1 71 #[.int .i64 a0, .int .i64 a1, .int .i64 a2])
    replace HB := Lib.hid (HB.out.alloc HB.out.size (.cells #[.int .i64 a0, .int .i64 a1, .int .i64 a2] 71))
    replace HX := Lib.hid (HX.out.alloc (.cells #[.int .i64 a0, .int .i64 a1, .int .i64 a2] 71))
    replace HD := Lib.hid (HD.out.alloc (.cells #[.int .i64 a0, .int .i64 a1, .int .i64 a2] 71))
    replace HY := Lib.hid (HY.out.alloc (.cells #[.int .i64 a0, .int .i64 a1, .int .i64 a2] 71))
    replace HH := Lib.hid (HH.out.alloc (.cells #[.int .i64 a0, .int .i64 a1, .int .i64 a2] 71))
    clear hb
    obtain ⟨cc0, cc1, cc2, cc3, cc4, cc5, cc6⟩ := eight HX.out HQ.out HD.out
    go_wp2_with fail
    generalize w1.heap.size = ga at HQ cc5 ⊢
    generalize w1.alloc (.cells #[.int .i64 a0, .int .i64 a1, .int .i64 a2] 71) = V1 at HX HY HB HH HD HQ cc0 cc1 cc2 cc3 cc4 cc5 cc6 ⊢
    replace HB := Lib.hid (drewB HB.out)
    replace HX := Lib.hid HX.out.drew1
    replace HD := Lib.hid HD.out.drew1
    replace HQ := Lib.hid HQ.out.drew1
    replace HY := Lib.hid HY.out.drew1
    replace HH := Lib.hid (HH.out.drewN 1)
    go_region_held3 (fun w' => w'.cell? ⟨w.heap.size + 1, 0, none⟩ = some (.int .i64 x0) ∧ w'.cell? ⟨w.heap.size + 1, 1, none⟩ = some (.int .i64 x1) ∧ w'.cell? ⟨w.heap.size + 1, 2, none⟩ = some (.int .i64 x2) ∧ w'.cell? ⟨w.heap.size + 1, 3, none⟩ = some (.int .i64 x3) ∧ w'.cell? ⟨w.heap.size + 1, 4, none⟩ = some (.int .i64 x4) ∧ w'.cell? ⟨ga, 1, none⟩ = some (.int .i64 a1) ∧ w'.cell? ⟨w.heap.size, 0, none⟩ = some (.map (some g))) (first | exact eight HX.out HQ.out HD.out | go_keep) (first
      | (go_at_call 80; (with_reducible refine (stampInts_any x0 x1 x2 x3 x4 _ G0.out G1.out G2.out G3.out G4.out).mono ?_); rintro e w2 ⟨p2, n2, c2, rfl, ho, hb⟩; have HO2 := Lib.hid ho; have hn2 : n2 ≤ 5 := Nat.le_of_eq ho.len.symm; replace HB := Lib.hid (below_on HB.out hb); replace HX := Lib.hid (HX.out.below hb); replace HD := Lib.hid (HD.out.below hb); replace HY := Lib.hid (HY.out.below hb); replace HH := Lib.hid (HH.out.below hb); replace HQ := Lib.hid (HQ.out.below hb); clear ho hb)
      | (go_at_call 51; (with_reducible refine (ringMark_any xs hR g a1 HAI.out _ _ _ [103, x0, x1, x2, x3] _ HH.out HO2.out.rd (by omega)).mono ?_); rintro e w3 ⟨rfl, hb⟩; rw [HG.out, HMM.out]; replace HB := Lib.hid (below_on HB.out hb); replace HX := Lib.hid (HX.out.below hb); replace HD := Lib.hid (HD.out.below hb); replace HY := Lib.hid (HY.out.below hb); replace HH := Lib.hid (HH.out.below hb); replace HQ := Lib.hid (HQ.out.below hb); clear hb))
    clear cc0 cc1 cc2 cc3 cc4 cc5 cc6
    all_goals
      obtain ⟨cc0, cc1, cc2, cc3, cc4⟩ := bxc HX.out
      obtain ⟨q0, q1, q2, q3, q4⟩ := bxc HY.out
      have f0 := HY.out.free 0
      have f1 := HY.out.free 1
      have f2 := HY.out.free 2
      have f3 := HY.out.free 3
      have f4 := HY.out.free 4
      go_wp2_with fail
      exact bodyPost_ret (v := .tuple #[.agg #[.int .i64 0, .int .i64 0, .int .i64 0, .int .i64 0, .int .i64 0], .bool false]) (by simp [results, Try.results62, go_sem, q0, q1, q2, q3, q4]) rfl ⟨rfl, (((((HB.out).setCell (p := ⟨w.heap.size + 1 + 1, 0, none⟩) (by simp; try omega) _).setCell (p := ⟨w.heap.size + 1 + 1, 1, none⟩) (by simp; try omega) _).setCell (p := ⟨w.heap.size + 1 + 1, 2, none⟩) (by simp; try omega) _).setCell (p := ⟨w.heap.size + 1 + 1, 3, none⟩) (by simp; try omega) _).setCell (p := ⟨w.heap.size + 1 + 1, 4, none⟩) (by simp; try omega) _⟩
  rcases hτ : inB x2 0 10000 with _ | _
  · have HT := Lib.hid hτ
    have hM' := (mkd_no (xs := xs) (us := us) (by rw [hok, hγ, decide_eq_true h1, hτ]; rfl)).symm.trans hM
    cases hM'
    clear hM hok hme hγ hτ
    go_enter Try.func62, Try.ntmps62
    go_wp2_with fail
    generalize (((w.alloc (.cells #[.map (some g), .slice q m c'] 97)).alloc (.cells #[.int .i64 x0, .int .i64 x1, .int .i64 x2, .int .i64 x3, .int .i64 x4] 67)).alloc (.cells #[.int .i64 0, .int .i64 0, .int .i64 0, .int .i64 0, .int .i64 0] 67)) = V at HX HY HB HH HD ⊢
    refine (Ao.authorityOf_any q m c' us x0 x1 x2 x3 x4 a0 a1 a2 _ HA.out _ (HK.out.below HB.out)).mono ?_
    rintro e w1 ⟨rfl, hb⟩
    replace HB := Lib.hid (below_on HB.out hb); replace HX := Lib.hid (HX.out.below hb); replace HD := Lib.hid (HD.out.below hb); replace HY := Lib.hid (HY.out.below hb); replace HH := Lib.hid (HH.out.below hb)
    have HQ := Lib.hid (Bx.new w1 71 #[.int .i64 a0, .int .i64 a1, .int .i64 a2])
    replace HB := Lib.hid (HB.out.alloc HB.out.size (.cells #[.int .i64 a0, .int .i64 a1, .int .i64 a2] 71))
    replace HX := Lib.hid (HX.out.alloc (.cells #[.int .i64 a0, .int .i64 a1, .int .i64 a2] 71))
    replace HD := Lib.hid (HD.out.alloc (.cells #[.int .i64 a0, .int .i64 a1, .int .i64 a2] 71))
    replace HY := Lib.hid (HY.out.alloc (.cells #[.int .i64 a0, .int .i64 a1, .int .i64 a2] 71))
    replace HH := Lib.hid (HH.out.alloc (.cells #[.int .i64 a0, .int .i64 a1, .int .i64 a2] 71))
    clear hb
    obtain ⟨cc0, cc1, cc2, cc3, cc4, cc5, cc6⟩ := eight HX.out HQ.out HD.out
    go_wp2_with fail
    generalize w1.heap.size = ga at HQ cc5 ⊢
    generalize w1.alloc (.cells #[.int .i64 a0, .int .i64 a1, .int .i64 a2] 71) = V1 at HX HY HB HH HD HQ cc0 cc1 cc2 cc3 cc4 cc5 cc6 ⊢
    replace HB := Lib.hid (drewB HB.out)
    replace HX := Lib.hid HX.out.drew1
    replace HD := Lib.hid HD.out.drew1
    replace HQ := Lib.hid HQ.out.drew1
    replace HY := Lib.hid HY.out.drew1
    replace HH := Lib.hid (HH.out.drewN 1)
    go_region_held3 (fun w' => w'.cell? ⟨w.heap.size + 1, 0, none⟩ = some (.int .i64 x0) ∧ w'.cell? ⟨w.heap.size + 1, 1, none⟩ = some (.int .i64 x1) ∧ w'.cell? ⟨w.heap.size + 1, 2, none⟩ = some (.int .i64 x2) ∧ w'.cell? ⟨w.heap.size + 1, 3, none⟩ = some (.int .i64 x3) ∧ w'.cell? ⟨w.heap.size + 1, 4, none⟩ = some (.int .i64 x4) ∧ w'.cell? ⟨ga, 1, none⟩ = some (.int .i64 a1) ∧ w'.cell? ⟨w.heap.size, 0, none⟩ = some (.map (some g))) (first | exact eight HX.out HQ.out HD.out | go_keep) (first
      | (go_at_call 80; (with_reducible refine (stampInts_any x0 x1 x2 x3 x4 _ G0.out G1.out G2.out G3.out G4.out).mono ?_); rintro e w2 ⟨p2, n2, c2, rfl, ho, hb⟩; have HO2 := Lib.hid ho; have hn2 : n2 ≤ 5 := Nat.le_of_eq ho.len.symm; replace HB := Lib.hid (below_on HB.out hb); replace HX := Lib.hid (HX.out.below hb); replace HD := Lib.hid (HD.out.below hb); replace HY := Lib.hid (HY.out.below hb); replace HH := Lib.hid (HH.out.below hb); replace HQ := Lib.hid (HQ.out.below hb); clear ho hb)
      | (go_at_call 51; (with_reducible refine (ringMark_any xs hR g a1 HAI.out _ _ _ [103, x0, x1, x2, x3] _ HH.out HO2.out.rd (by omega)).mono ?_); rintro e w3 ⟨rfl, hb⟩; rw [HG.out, HMM.out]; replace HB := Lib.hid (below_on HB.out hb); replace HX := Lib.hid (HX.out.below hb); replace HD := Lib.hid (HD.out.below hb); replace HY := Lib.hid (HY.out.below hb); replace HH := Lib.hid (HH.out.below hb); replace HQ := Lib.hid (HQ.out.below hb); clear hb))
    clear cc0 cc1 cc2 cc3 cc4 cc5 cc6
    all_goals
      obtain ⟨cc0, cc1, cc2, cc3, cc4⟩ := bxc HX.out
      go_wp2_with fail
      replace HB := Lib.hid (HB.out.alloc HB.out.size (.cells #[.int .i64 x2] 3))
      replace HX := Lib.hid (HX.out.alloc (.cells #[.int .i64 x2] 3))
      replace HY := Lib.hid (HY.out.alloc (.cells #[.int .i64 x2] 3))
      refine (time1_any _ x2 _ (by go_simp)).mono ?_
      rintro e w5 ⟨rfl, rfl⟩
      rw [HT.out]
      clear cc0 cc1 cc2 cc3 cc4
      obtain ⟨cc0, cc1, cc2, cc3, cc4⟩ := bxc HX.out
      obtain ⟨q0, q1, q2, q3, q4⟩ := bxc HY.out
      have f0 := HY.out.free 0
      have f1 := HY.out.free 1
      have f2 := HY.out.free 2
      have f3 := HY.out.free 3
      have f4 := HY.out.free 4
      go_wp2_with fail
      exact bodyPost_ret (v := .tuple #[.agg #[.int .i64 0, .int .i64 0, .int .i64 0, .int .i64 0, .int .i64 0], .bool false]) (by simp [results, Try.results62, go_sem, q0, q1, q2, q3, q4]) rfl ⟨rfl, (((((HB.out).setCell (p := ⟨w.heap.size + 1 + 1, 0, none⟩) (by simp; try omega) _).setCell (p := ⟨w.heap.size + 1 + 1, 1, none⟩) (by simp; try omega) _).setCell (p := ⟨w.heap.size + 1 + 1, 2, none⟩) (by simp; try omega) _).setCell (p := ⟨w.heap.size + 1 + 1, 3, none⟩) (by simp; try omega) _).setCell (p := ⟨w.heap.size + 1 + 1, 4, none⟩) (by simp; try omega) _⟩
  · have HT := Lib.hid hτ
    have hM' := (mkd_yes (xs := xs) (us := us) (by rw [hok, hγ, decide_eq_true h1, hτ]; rfl)).symm.trans hM
    rw [hme] at hM'
    cases hM'
    clear hM hok hme hγ hτ
    go_enter Try.func62, Try.ntmps62
    go_wp2_with fail
    generalize (((w.alloc (.cells #[.map (some g), .slice q m c'] 97)).alloc (.cells #[.int .i64 x0, .int .i64 x1, .int .i64 x2, .int .i64 x3, .int .i64 x4] 67)).alloc (.cells #[.int .i64 0, .int .i64 0, .int .i64 0, .int .i64 0, .int .i64 0] 67)) = V at HX HY HB HH HD ⊢
    refine (Ao.authorityOf_any q m c' us x0 x1 x2 x3 x4 a0 a1 a2 _ HA.out _ (HK.out.below HB.out)).mono ?_
    rintro e w1 ⟨rfl, hb⟩
    replace HB := Lib.hid (below_on HB.out hb); replace HX := Lib.hid (HX.out.below hb); replace HD := Lib.hid (HD.out.below hb); replace HY := Lib.hid (HY.out.below hb); replace HH := Lib.hid (HH.out.below hb)
    have HQ := Lib.hid (Bx.new w1 71 #[.int .i64 a0, .int .i64 a1, .int .i64 a2])
    replace HB := Lib.hid (HB.out.alloc HB.out.size (.cells #[.int .i64 a0, .int .i64 a1, .int .i64 a2] 71))
    replace HX := Lib.hid (HX.out.alloc (.cells #[.int .i64 a0, .int .i64 a1, .int .i64 a2] 71))
    replace HD := Lib.hid (HD.out.alloc (.cells #[.int .i64 a0, .int .i64 a1, .int .i64 a2] 71))
    replace HY := Lib.hid (HY.out.alloc (.cells #[.int .i64 a0, .int .i64 a1, .int .i64 a2] 71))
    replace HH := Lib.hid (HH.out.alloc (.cells #[.int .i64 a0, .int .i64 a1, .int .i64 a2] 71))
    clear hb
    obtain ⟨cc0, cc1, cc2, cc3, cc4, cc5, cc6⟩ := eight HX.out HQ.out HD.out
    go_wp2_with fail
    generalize w1.heap.size = ga at HQ cc5 ⊢
    generalize w1.alloc (.cells #[.int .i64 a0, .int .i64 a1, .int .i64 a2] 71) = V1 at HX HY HB HH HD HQ cc0 cc1 cc2 cc3 cc4 cc5 cc6 ⊢
    replace HB := Lib.hid (drewB HB.out)
    replace HX := Lib.hid HX.out.drew1
    replace HD := Lib.hid HD.out.drew1
    replace HQ := Lib.hid HQ.out.drew1
    replace HY := Lib.hid HY.out.drew1
    replace HH := Lib.hid (HH.out.drewN 1)
    go_region_held3 (fun w' => w'.cell? ⟨w.heap.size + 1, 0, none⟩ = some (.int .i64 x0) ∧ w'.cell? ⟨w.heap.size + 1, 1, none⟩ = some (.int .i64 x1) ∧ w'.cell? ⟨w.heap.size + 1, 2, none⟩ = some (.int .i64 x2) ∧ w'.cell? ⟨w.heap.size + 1, 3, none⟩ = some (.int .i64 x3) ∧ w'.cell? ⟨w.heap.size + 1, 4, none⟩ = some (.int .i64 x4) ∧ w'.cell? ⟨ga, 1, none⟩ = some (.int .i64 a1) ∧ w'.cell? ⟨w.heap.size, 0, none⟩ = some (.map (some g))) (first | exact eight HX.out HQ.out HD.out | go_keep) (first
      | (go_at_call 80; (with_reducible refine (stampInts_any x0 x1 x2 x3 x4 _ G0.out G1.out G2.out G3.out G4.out).mono ?_); rintro e w2 ⟨p2, n2, c2, rfl, ho, hb⟩; have HO2 := Lib.hid ho; have hn2 : n2 ≤ 5 := Nat.le_of_eq ho.len.symm; replace HB := Lib.hid (below_on HB.out hb); replace HX := Lib.hid (HX.out.below hb); replace HD := Lib.hid (HD.out.below hb); replace HY := Lib.hid (HY.out.below hb); replace HH := Lib.hid (HH.out.below hb); replace HQ := Lib.hid (HQ.out.below hb); clear ho hb)
      | (go_at_call 51; (with_reducible refine (ringMark_any xs hR g a1 HAI.out _ _ _ [103, x0, x1, x2, x3] _ HH.out HO2.out.rd (by omega)).mono ?_); rintro e w3 ⟨rfl, hb⟩; rw [HG.out, HMM.out]; replace HB := Lib.hid (below_on HB.out hb); replace HX := Lib.hid (HX.out.below hb); replace HD := Lib.hid (HD.out.below hb); replace HY := Lib.hid (HY.out.below hb); replace HH := Lib.hid (HH.out.below hb); replace HQ := Lib.hid (HQ.out.below hb); clear hb))
    clear cc0 cc1 cc2 cc3 cc4 cc5 cc6
    all_goals
      obtain ⟨cc0, cc1, cc2, cc3, cc4⟩ := bxc HX.out
      go_wp2_with fail
      replace HB := Lib.hid (HB.out.alloc HB.out.size (.cells #[.int .i64 x2] 3))
      replace HX := Lib.hid (HX.out.alloc (.cells #[.int .i64 x2] 3))
      replace HY := Lib.hid (HY.out.alloc (.cells #[.int .i64 x2] 3))
      refine (time1_any _ x2 _ (by go_simp)).mono ?_
      rintro e w5 ⟨rfl, rfl⟩
      rw [HT.out]
      clear cc0 cc1 cc2 cc3 cc4
      obtain ⟨cc0, cc1, cc2, cc3, cc4⟩ := bxc HX.out
      obtain ⟨q0, q1, q2, q3, q4⟩ := bxc HY.out
      have f0 := HY.out.free 0
      have f1 := HY.out.free 1
      have f2 := HY.out.free 2
      have f3 := HY.out.free 3
      have f4 := HY.out.free 4
      have fx := HX.out.free 4
      go_wp2_with fail
      exact bodyPost_ret (v := .tuple #[.agg #[.int .i64 x0, .int .i64 x1, .int .i64 x2, .int .i64 x3, .int .i64 y4], .bool true]) (by simp [results, Try.results62, go_sem, q0, q1, q2, q3, q4]) rfl ⟨rfl, (((((HB.out.setCell (p := ⟨w.heap.size + 1, 4, none⟩) (by simp; try omega) _).setCell (p := ⟨w.heap.size + 1 + 1, 0, none⟩) (by simp; try omega) _).setCell (p := ⟨w.heap.size + 1 + 1, 1, none⟩) (by simp; try omega) _).setCell (p := ⟨w.heap.size + 1 + 1, 2, none⟩) (by simp; try omega) _).setCell (p := ⟨w.heap.size + 1 + 1, 3, none⟩) (by simp; try omega) _).setCell (p := ⟨w.heap.size + 1 + 1, 4, none⟩) (by simp; try omega) _⟩
end Go.Proofs.Ytbjocgnogcnedaa.KStamp
