/- Contracts of stamps, made; in the program (a desk with the ring of keys and the authorities) and in the reference. Contracts of stamps, made, in the program. Contracts of stamps, made, in the reference. Contracts of stamps, checked: made anew and equal; in the program (a method value) and in the reference. -/
import Derived.Test.YtfojilogcecphaaGreatKrA
import Derived.Test.YtfojilogcecphaaGreatKnA
import Derived.Test.YtfojilogcecphaaGreatAo
import Derived.Test.YtfojilogcecphaaGreatQrA
import Derived.Deep.RegionHeld3
import Derived.Deep.RegionWith
import Derived.Laws.StructEq
namespace Go.Proofs.YtfojilogcecphaaGreat.KStamp
open Go.ChangeShapes Go.WideShapes Go.ChangeAt Go.RowKit Go.Shelf Sl St Fnd Kn Kr Ki Km Ko SlStamp Ti
def okT (xs : List I5) (us : List I3) (x0 x1 x2 : Int) : Bool := (Ao.aut us x0).2 && ((ring xs (Ao.aut us x0).1.2.1).isSome && (decide (0 ≤ x1) && inB x2 0 10000))
def mkd (xs : List I5) (us : List I3) : I5 → I5 × Bool := fun (x0, x1, x2, x3, _) => if okT xs us x0 x1 x2 = true then ((x0, x1, x2, x3, markR xs (Ao.aut us x0).1.2.1 [103, x0, x1, x2, x3]), true) else ((0, 0, 0, 0, 0), false)
theorem mkd_yes {xs : List I5} {us : List I3} {x0 x1 x2 x3 x4 : Int} (h : okT xs us x0 x1 x2 = true) : mkd xs us (x0, x1, x2, x3, x4) = ((x0, x1, x2, x3, markR xs (Ao.aut us x0).1.2.1 [103, x0, x1, x2, x3]), true) := if_pos h
theorem mkd_no {xs : List I5} {us : List I3} {x0 x1 x2 x3 x4 : Int} (h : okT xs us x0 x1 x2 = false) : mkd xs us (x0, x1, x2, x3, x4) = ((0, 0, 0, 0, 0), false) := if_neg (by rw [h]; simp)
theorem ok_eq {xs : List I5} {us : List I3} {x0 x1 x2 a0 a1 a2 : Int} {b : Bool} (h : Ao.aut us x0 = ((a0, a1, a2), b)) : okT xs us x0 x1 x2 = (b && ((ring xs a1).isSome && (decide (0 ≤ x1) && inB x2 0 10000))) := by unfold okT; rw [h]
theorem mark_eq {xs : List I5} {us : List I3} {x0 a0 a1 a2 : Int} {b : Bool} {l : List Int} (h : Ao.aut us x0 = ((a0, a1, a2), b)) : markR xs (Ao.aut us x0).1.2.1 l = markR xs a1 l := by rw [h]
def Made (v : Value) (b : Bool) (w : World) (e : Ending) (w' : World) : Prop := e = .returned (.tuple #[v, .bool b]) ∧ Below w.heap.size w w'
theorem drewB {W w : World} {B : Nat} (h : Below B W w) : Below B W w.drew := below_drewN h 1
theorem aut_in {us : List I3} (hA : ∀ a ∈ us, SlAuthority.InR a) {x0 a0 a1 a2 : Int} {b : Bool} (h : Ao.aut us x0 = ((a0, a1, a2), b)) : -9223372036854775808 ≤ a1 ∧ a1 ≤ 9223372036854775807 := by
  rcases Ao.aut_cases us x0 h with ⟨k, h1, _, h3, _⟩ | ⟨_, _, h4, _⟩
  · have := hA _ (getD_mem Ao.z3 h1)
    rw [h3] at this
    exact this.2.1
  · subst h4; omega
theorem eight {w : World} {g g' g'' : Nat} {T T' T'' : TypeId} {x0 x1 x2 x3 x4 a0 a1 a2 r q : Value} (h : Bx w g T #[x0, x1, x2, x3, x4]) (h' : Bx w g' T' #[a0, a1, a2]) (h'' : Bx w g'' T'' #[r, q]) : w.cell? ⟨g, 0, none⟩ = some x0 ∧ w.cell? ⟨g, 1, none⟩ = some x1 ∧ w.cell? ⟨g, 2, none⟩ = some x2 ∧ w.cell? ⟨g, 3, none⟩ = some x3 ∧ w.cell? ⟨g, 4, none⟩ = some x4 ∧ w.cell? ⟨g', 1, none⟩ = some a1 ∧ w.cell? ⟨g'', 0, none⟩ = some r := ⟨h.cell rfl, h.cell rfl, h.cell rfl, h.cell rfl, h.cell rfl, h'.cell rfl, h''.cell rfl⟩
set_option maxRecDepth 100000 in
set_option maxHeartbeats 8000000 in
theorem stamp_any (g : Nat) (q : Option Addr) (m c' : Nat) (us : List I3) (hA : ∀ a ∈ us, SlAuthority.InR a) (xs : List I5) (hR : ∀ x ∈ xs, SlKey.InR x) (x0 x1 x2 x3 x4 : Int) (h0 : -9223372036854775808 ≤ x0 ∧ x0 ≤ 9223372036854775807) (h1 : -9223372036854775808 ≤ x1 ∧ x1 ≤ 9223372036854775807) (h2 : -9223372036854775808 ≤ x2 ∧ x2 ≤ 9223372036854775807) (h3 : -9223372036854775808 ≤ x3 ∧ x3 ≤ 9223372036854775807) (h4 : -9223372036854775808 ≤ x4 ∧ x4 ≤ 9223372036854775807) (y0 y1 y2 y3 y4 : Int) (b : Bool) (hM : mkd xs us (x0, x1, x2, x3, x4) = ((y0, y1, y2, y3, y4), b)) (w : World) (hh : Holds xs g w) (hr : RdS SlAuthority.E w q m us) : Calls Tryz.prog 142 #[.agg #[.map (some g), .slice q m c'], .agg #[.int .i64 x0, .int .i64 x1, .int .i64 x2, .int .i64 x3, .int .i64 x4]] w (Made (.agg #[.int .i64 y0, .int .i64 y1, .int .i64 y2, .int .i64 y3, .int .i64 y4]) b w) := by
  have HK := Lib.hid hr
  have hX : Bx (((w.alloc (.cells #[.map (some g), .slice q m c'] 204)).alloc (.cells #[.int .i64 x0, .int .i64 x1, .int .i64 x2, .int .i64 x3, .int .i64 x4] 154)).alloc (.cells #[.int .i64 0, .int .i64 0, .int .i64 0, .int .i64 0, .int .i64 0] 154)) (w.heap.size + 1) 154 #[.int .i64 x0, .int .i64 x1, .int .i64 x2, .int .i64 x3, .int .i64 x4] := by
    have h := Bx.new (w.alloc (.cells #[.map (some g), .slice q m c'] 204)) 154 #[.int .i64 x0, .int .i64 x1, .int .i64 x2, .int .i64 x3, .int .i64 x4]
    rw [World.size_alloc] at h
    exact h.alloc _
  have hY : Bx (((w.alloc (.cells #[.map (some g), .slice q m c'] 204)).alloc (.cells #[.int .i64 x0, .int .i64 x1, .int .i64 x2, .int .i64 x3, .int .i64 x4] 154)).alloc (.cells #[.int .i64 0, .int .i64 0, .int .i64 0, .int .i64 0, .int .i64 0] 154)) (w.heap.size + 1 + 1) 154 #[.int .i64 0, .int .i64 0, .int .i64 0, .int .i64 0, .int .i64 0] := by
    have h := Bx.new ((w.alloc (.cells #[.map (some g), .slice q m c'] 204)).alloc (.cells #[.int .i64 x0, .int .i64 x1, .int .i64 x2, .int .i64 x3, .int .i64 x4] 154)) 154 #[.int .i64 0, .int .i64 0, .int .i64 0, .int .i64 0, .int .i64 0]
    rw [World.size_alloc, World.size_alloc] at h
    exact h
  have HX := Lib.hid hX
  have HY := Lib.hid hY
  have HD := Lib.hid (((Bx.new w 204 #[.map (some g), .slice q m c']).alloc (.cells #[.int .i64 x0, .int .i64 x1, .int .i64 x2, .int .i64 x3, .int .i64 x4] 154)).alloc (.cells #[.int .i64 0, .int .i64 0, .int .i64 0, .int .i64 0, .int .i64 0] 154))
  have HB : Hid (Below w.heap.size w (((w.alloc (.cells #[.map (some g), .slice q m c'] 204)).alloc (.cells #[.int .i64 x0, .int .i64 x1, .int .i64 x2, .int .i64 x3, .int .i64 x4] 154)).alloc (.cells #[.int .i64 0, .int .i64 0, .int .i64 0, .int .i64 0, .int .i64 0] 154))) := Lib.hid ((((Below.refl w.heap.size w).alloc (Nat.le_refl _) (.cells #[.map (some g), .slice q m c'] 204)).alloc (by simp) (.cells #[.int .i64 x0, .int .i64 x1, .int .i64 x2, .int .i64 x3, .int .i64 x4] 154)).alloc (by simp; omega) (.cells #[.int .i64 0, .int .i64 0, .int .i64 0, .int .i64 0, .int .i64 0] 154))
  have HH : Hid (Holds xs g (((w.alloc (.cells #[.map (some g), .slice q m c'] 204)).alloc (.cells #[.int .i64 x0, .int .i64 x1, .int .i64 x2, .int .i64 x3, .int .i64 x4] 154)).alloc (.cells #[.int .i64 0, .int .i64 0, .int .i64 0, .int .i64 0, .int .i64 0] 154))) := Lib.hid (hh.below HB.out)
  rcases ha : Ao.aut us x0 with ⟨⟨a0, a1, a2⟩, b0⟩
  have HA := Lib.hid ha
  have HAI := Lib.hid (aut_in hA ha)
  have hok := ok_eq (xs := xs) (x1 := x1) (x2 := x2) ha
  have hme := mark_eq (xs := xs) (l := [103, x0, x1, x2, x3]) ha
  have G0 := Lib.hid h0
  have G1 := Lib.hid h1
  have G2 := Lib.hid h2
  have G3 := Lib.hid h3
  have G4 := Lib.hid h4
  clear h0 h1 h2 h3 h4 hr hX hY hh ha
  generalize hm : markR xs a1 [103, x0, x1, x2, x3] = μ at hme
  have HMM := Lib.hid hm
  clear hm
  cases b0
  · obtain ⟨γ, hγ⟩ : ∃ γ, (ring xs a1).isSome = γ := ⟨_, rfl⟩
    have HG := Lib.hid hγ
    have hM' := (mkd_no (xs := xs) (us := us) (by rw [hok]; rfl)).symm.trans hM
    cases hM'
    clear hM hok hme hγ
    go_enter Tryz.func142, Tryz.ntmps142
    go_wp2_with fail
    generalize (((w.alloc (.cells #[.map (some g), .slice q m c'] 204)).alloc (.cells #[.int .i64 x0, .int .i64 x1, .int .i64 x2, .int .i64 x3, .int .i64 x4] 154)).alloc (.cells #[.int .i64 0, .int .i64 0, .int .i64 0, .int .i64 0, .int .i64 0] 154)) = V at HX HY HB HH HD ⊢
    refine (Ao.authorityOf_any q m c' us x0 x1 x2 x3 x4 a0 a1 a2 _ HA.out _ (HK.out.below HB.out)).mono ?_
    rintro e w1 ⟨rfl, hb⟩
    replace HB := Lib.hid (below_on HB.out hb); replace HX := Lib.hid (HX.out.below hb); replace HD := Lib.hid (HD.out.below hb); replace HY := Lib.hid (HY.out.below hb); replace HH := Lib.hid (HH.out.below hb)
    have HQ := Lib.hid (Bx.new w1 134 #[.int .i64 a0, .int .i64 a1, .int .i64 a2])
    replace HB := Lib.hid (HB.out.alloc HB.out.size (.cells #[.int .i64 a0, .int .i64 a1, .int .i64 a2] 134))
    replace HX := Lib.hid (HX.out.alloc (.cells #[.int .i64 a0, .int .i64 a1, .int .i64 a2] 134))
    replace HD := Lib.hid (HD.out.alloc (.cells #[.int .i64 a0, .int .i64 a1, .int .i64 a2] 134))
    replace HY := Lib.hid (HY.out.alloc (.cells #[.int .i64 a0, .int .i64 a1, .int .i64 a2] 134))
    replace HH := Lib.hid (HH.out.alloc (.cells #[.int .i64 a0, .int .i64 a1, .int .i64 a2] 134))
    clear hb
    obtain ⟨cc0, cc1, cc2, cc3, cc4, cc5, cc6⟩ := eight HX.out HQ.out HD.out
    go_wp2_with fail
    generalize w1.heap.size = ga at HQ cc5 ⊢
    generalize w1.alloc (.cells #[.int .i64 a0, .int .i64 a1, .int .i64 a2] 134) = V1 at HX HY HB HH HD HQ cc0 cc1 cc2 cc3 cc4 cc5 cc6 ⊢
    replace HB := Lib.hid (drewB HB.out)
    replace HX := Lib.hid HX.out.drew1
    replace HD := Lib.hid HD.out.drew1
    replace HQ := Lib.hid HQ.out.drew1
    replace HY := Lib.hid HY.out.drew1
    replace HH := Lib.hid (HH.out.drewN 1)
    go_region_held3 (fun w' => w'.cell? ⟨w.heap.size + 1, 0, none⟩ = some (.int .i64 x0) ∧ w'.cell? ⟨w.heap.size + 1, 1, none⟩ = some (.int .i64 x1) ∧ w'.cell? ⟨w.heap.size + 1, 2, none⟩ = some (.int .i64 x2) ∧ w'.cell? ⟨w.heap.size + 1, 3, none⟩ = some (.int .i64 x3) ∧ w'.cell? ⟨w.heap.size + 1, 4, none⟩ = some (.int .i64 x4) ∧ w'.cell? ⟨ga, 1, none⟩ = some (.int .i64 a1) ∧ w'.cell? ⟨w.heap.size, 0, none⟩ = some (.map (some g))) (first | exact eight HX.out HQ.out HD.out | go_keep) (first
      | (go_at_call 164; (with_reducible refine (stampInts_any x0 x1 x2 x3 x4 _ G0.out G1.out G2.out G3.out G4.out).mono ?_); rintro e w2 ⟨p2, n2, c2, rfl, ho, hb⟩; have HO2 := Lib.hid ho; have hn2 : n2 ≤ 5 := Nat.le_of_eq ho.len.symm; replace HB := Lib.hid (below_on HB.out hb); replace HX := Lib.hid (HX.out.below hb); replace HD := Lib.hid (HD.out.below hb); replace HY := Lib.hid (HY.out.below hb); replace HH := Lib.hid (HH.out.below hb); replace HQ := Lib.hid (HQ.out.below hb); clear ho hb)
      | (go_at_call 163; (with_reducible refine (ringMark_any xs hR g a1 HAI.out _ _ _ [103, x0, x1, x2, x3] _ HH.out HO2.out.rd (by omega)).mono ?_); rintro e w3 ⟨rfl, hb⟩; rw [HG.out, HMM.out]; replace HB := Lib.hid (below_on HB.out hb); replace HX := Lib.hid (HX.out.below hb); replace HD := Lib.hid (HD.out.below hb); replace HY := Lib.hid (HY.out.below hb); replace HH := Lib.hid (HH.out.below hb); replace HQ := Lib.hid (HQ.out.below hb); clear hb))
    clear cc0 cc1 cc2 cc3 cc4 cc5 cc6
    all_goals
      obtain ⟨cc0, cc1, cc2, cc3, cc4⟩ := bxc HX.out
      obtain ⟨q0, q1, q2, q3, q4⟩ := bxc HY.out
      have f0 := HY.out.free 0
      have f1 := HY.out.free 1
      have f2 := HY.out.free 2
      have f3 := HY.out.free 3
      have f4 := HY.out.free 4
      go_wp2_with fail
      exact bodyPost_ret (v := .tuple #[.agg #[.int .i64 0, .int .i64 0, .int .i64 0, .int .i64 0, .int .i64 0], .bool false]) (by simp [results, Tryz.results142, go_sem, q0, q1, q2, q3, q4]) rfl ⟨rfl, (((((HB.out).setCell (p := ⟨w.heap.size + 1 + 1, 0, none⟩) (by simp; try omega) _).setCell (p := ⟨w.heap.size + 1 + 1, 1, none⟩) (by simp; try omega) _).setCell (p := ⟨w.heap.size + 1 + 1, 2, none⟩) (by simp; try omega) _).setCell (p := ⟨w.heap.size + 1 + 1, 3, none⟩) (by simp; try omega) _).setCell (p := ⟨w.heap.size + 1 + 1, 4, none⟩) (by simp; try omega) _⟩
  rcases hγ : (ring xs a1).isSome with _ | _
  · have HG := Lib.hid hγ
    have hM' := (mkd_no (xs := xs) (us := us) (by rw [hok, hγ]; rfl)).symm.trans hM
    cases hM'
    clear hM hok hme hγ
    go_enter Tryz.func142, Tryz.ntmps142
    go_wp2_with fail
    generalize (((w.alloc (.cells #[.map (some g), .slice q m c'] 204)).alloc (.cells #[.int .i64 x0, .int .i64 x1, .int .i64 x2, .int .i64 x3, .int .i64 x4] 154)).alloc (.cells #[.int .i64 0, .int .i64 0, .int .i64 0, .int .i64 0, .int .i64 0] 154)) = V at HX HY HB HH HD ⊢
    refine (Ao.authorityOf_any q m c' us x0 x1 x2 x3 x4 a0 a1 a2 _ HA.out _ (HK.out.below HB.out)).mono ?_
    rintro e w1 ⟨rfl, hb⟩
    replace HB := Lib.hid (below_on HB.out hb); replace HX := Lib.hid (HX.out.below hb); replace HD := Lib.hid (HD.out.below hb); replace HY := Lib.hid (HY.out.below hb); replace HH := Lib.hid (HH.out.below hb)
    have HQ := Lib.hid (Bx.new w1 134 #[.int .i64 a0, .int .i64 a1, .int .i64 a2])
    replace HB := Lib.hid (HB.out.alloc HB.out.size (.cells #[.int .i64 a0, .int .i64 a1, .int .i64 a2] 134))
    replace HX := Lib.hid (HX.out.alloc (.cells #[.int .i64 a0, .int .i64 a1, .int .i64 a2] 134))
    replace HD := Lib.hid (HD.out.alloc (.cells #[.int .i64 a0, .int .i64 a1, .int .i64 a2] 134))
    replace HY := Lib.hid (HY.out.alloc (.cells #[.int .i64 a0, .int .i64 a1, .int .i64 a2] 134))
    replace HH := Lib.hid (HH.out.alloc (.cells #[.int .i64 a0, .int .i64 a1, .int .i64 a2] 134))
    clear hb
    obtain ⟨cc0, cc1, cc2, cc3, cc4, cc5, cc6⟩ := eight HX.out HQ.out HD.out
    go_wp2_with fail
    generalize w1.heap.size = ga at HQ cc5 ⊢
    generalize w1.alloc (.cells #[.int .i64 a0, .int .i64 a1, .int .i64 a2] 134) = V1 at HX HY HB HH HD HQ cc0 cc1 cc2 cc3 cc4 cc5 cc6 ⊢
    replace HB := Lib.hid (drewB HB.out)
    replace HX := Lib.hid HX.out.drew1
    replace HD := Lib.hid HD.out.drew1
    replace HQ := Lib.hid HQ.out.drew1
    replace HY := Lib.hid HY.out.drew1
    replace HH := Lib.hid (HH.out.drewN 1)
    go_region_held3 (fun w' => w'.cell? ⟨w.heap.size + 1, 0, none⟩ = some (.int .i64 x0) ∧ w'.cell? ⟨w.heap.size + 1, 1, none⟩ = some (.int .i64 x1) ∧ w'.cell? ⟨w.heap.size + 1, 2, none⟩ = some (.int .i64 x2) ∧ w'.cell? ⟨w.heap.size + 1, 3, none⟩ = some (.int .i64 x3) ∧ w'.cell? ⟨w.heap.size + 1, 4, none⟩ = some (.int .i64 x4) ∧ w'.cell? ⟨ga, 1, none⟩ = some (.int .i64 a1) ∧ w'.cell? ⟨w.heap.size, 0, none⟩ = some (.map (some g))) (first | exact eight HX.out HQ.out HD.out | go_keep) (first
      | (go_at_call 164; (with_reducible refine (stampInts_any x0 x1 x2 x3 x4 _ G0.out G1.out G2.out G3.out G4.out).mono ?_); rintro e w2 ⟨p2, n2, c2, rfl, ho, hb⟩; have HO2 := Lib.hid ho; have hn2 : n2 ≤ 5 := Nat.le_of_eq ho.len.symm; replace HB := Lib.hid (below_on HB.out hb); replace HX := Lib.hid (HX.out.below hb); replace HD := Lib.hid (HD.out.below hb); replace HY := Lib.hid (HY.out.below hb); replace HH := Lib.hid (HH.out.below hb); replace HQ := Lib.hid (HQ.out.below hb); clear ho hb)
      | (go_at_call 163; (with_reducible refine (ringMark_any xs hR g a1 HAI.out _ _ _ [103, x0, x1, x2, x3] _ HH.out HO2.out.rd (by omega)).mono ?_); rintro e w3 ⟨rfl, hb⟩; rw [HG.out, HMM.out]; replace HB := Lib.hid (below_on HB.out hb); replace HX := Lib.hid (HX.out.below hb); replace HD := Lib.hid (HD.out.below hb); replace HY := Lib.hid (HY.out.below hb); replace HH := Lib.hid (HH.out.below hb); replace HQ := Lib.hid (HQ.out.below hb); clear hb))
    clear cc0 cc1 cc2 cc3 cc4 cc5 cc6
    all_goals
      obtain ⟨cc0, cc1, cc2, cc3, cc4⟩ := bxc HX.out
      obtain ⟨q0, q1, q2, q3, q4⟩ := bxc HY.out
      have f0 := HY.out.free 0
      have f1 := HY.out.free 1
      have f2 := HY.out.free 2
      have f3 := HY.out.free 3
      have f4 := HY.out.free 4
      go_wp2_with fail
      exact bodyPost_ret (v := .tuple #[.agg #[.int .i64 0, .int .i64 0, .int .i64 0, .int .i64 0, .int .i64 0], .bool false]) (by simp [results, Tryz.results142, go_sem, q0, q1, q2, q3, q4]) rfl ⟨rfl, (((((HB.out).setCell (p := ⟨w.heap.size + 1 + 1, 0, none⟩) (by simp; try omega) _).setCell (p := ⟨w.heap.size + 1 + 1, 1, none⟩) (by simp; try omega) _).setCell (p := ⟨w.heap.size + 1 + 1, 2, none⟩) (by simp; try omega) _).setCell (p := ⟨w.heap.size + 1 + 1, 3, none⟩) (by simp; try omega) _).setCell (p := ⟨w.heap.size + 1 + 1, 4, none⟩) (by simp; try omega) _⟩
  have HG := Lib.hid hγ
  by_cases h1 : 0 ≤ x1
  rotate_left
  · have hM' := (mkd_no (xs := xs) (us := us) (by rw [hok, hγ, decide_eq_false h1]; rfl)).symm.trans hM
    cases hM'
    have h1' : x1 < 0 := by omega
    clear hM hok hme hγ h1
    go_enter Tryz.func142, Tryz.ntmps142
    go_wp2_with fail
    generalize (((w.alloc (.cells #[.map (some g), .slice q m c'] 204)).alloc (.cells #[.int .i64 x0, .int .i64 x1, .int .i64 x2, .int .i64 x3, .int .i64 x4] 154)).alloc (.cells #[.int .i64 0, .int .i64 0, .int .i64 0, .int .i64 0, .int .i64 0] 154)) = V at HX HY HB HH HD ⊢
    refine (Ao.authorityOf_any q m c' us x0 x1 x2 x3 x4 a0 a1 a2 _ HA.out _ (HK.out.below HB.out)).mono ?_
    rintro e w1 ⟨rfl, hb⟩
    replace HB := Lib.hid (below_on HB.out hb); replace HX := Lib.hid (HX.out.below hb); replace HD := Lib.hid (HD.out.below hb); replace HY := Lib.hid (HY.out.below hb); replace HH := Lib.hid (HH.out.below hb)
    have HQ := Lib.hid (Bx.new w1 134 #[.int .i64 a0, .int .i64 a1, .int .i64 a2])
    replace HB := Lib.hid (HB.out.alloc HB.out.size (.cells #[.int .i64 a0, .int .i64 a1, .int .i64 a2] 134))
    replace HX := Lib.hid (HX.out.alloc (.cells #[.int .i64 a0, .int .i64 a1, .int .i64 a2] 134))
    replace HD := Lib.hid (HD.out.alloc (.cells #[.int .i64 a0, .int .i64 a1, .int .i64 a2] 134))
    replace HY := Lib.hid (HY.out.alloc (.cells #[.int .i64 a0, .int .i64 a1, .int .i64 a2] 134))
    replace HH := Lib.hid (HH.out.alloc (.cells #[.int .i64 a0, .int .i64 a1, .int .i64 a2] 134))
    clear hb
    obtain ⟨cc0, cc1, cc2, cc3, cc4, cc5, cc6⟩ := eight HX.out HQ.out HD.out
    go_wp2_with fail
    generalize w1.heap.size = ga at HQ cc5 ⊢
    generalize w1.alloc (.cells #[.int .i64 a0, .int .i64 a1, .int .i64 a2] 134) = V1 at HX HY HB HH HD HQ cc0 cc1 cc2 cc3 cc4 cc5 cc6 ⊢
    replace HB := Lib.hid (drewB HB.out)
    replace HX := Lib.hid HX.out.drew1
    replace HD := Lib.hid HD.out.drew1
    replace HQ := Lib.hid HQ.out.drew1
    replace HY := Lib.hid HY.out.drew1
    replace HH := Lib.hid (HH.out.drewN 1)
    go_region_held3 (fun w' => w'.cell? ⟨w.heap.size + 1, 0, none⟩ = some (.int .i64 x0) ∧ w'.cell? ⟨w.heap.size + 1, 1, none⟩ = some (.int .i64 x1) ∧ w'.cell? ⟨w.heap.size + 1, 2, none⟩ = some (.int .i64 x2) ∧ w'.cell? ⟨w.heap.size + 1, 3, none⟩ = some (.int .i64 x3) ∧ w'.cell? ⟨w.heap.size + 1, 4, none⟩ = some (.int .i64 x4) ∧ w'.cell? ⟨ga, 1, none⟩ = some (.int .i64 a1) ∧ w'.cell? ⟨w.heap.size, 0, none⟩ = some (.map (some g))) (first | exact eight HX.out HQ.out HD.out | go_keep) (first
      | (go_at_call 164; (with_reducible refine (stampInts_any x0 x1 x2 x3 x4 _ G0.out G1.out G2.out G3.out G4.out).mono ?_); rintro e w2 ⟨p2, n2, c2, rfl, ho, hb⟩; have HO2 := Lib.hid ho; have hn2 : n2 ≤ 5 := Nat.le_of_eq ho.len.symm; replace HB := Lib.hid (below_on HB.out hb); replace HX := Lib.hid (HX.out.below hb); replace HD := Lib.hid (HD.out.below hb); replace HY := Lib.hid (HY.out.below hb); replace HH := Lib.hid (HH.out.below hb); replace HQ := Lib.hid (HQ.out.below hb); clear ho hb)
      | (go_at_call 163; (with_reducible refine (ringMark_any xs hR g a1 HAI.out _ _ _ [103, x0, x1, x2, x3] _ HH.out HO2.out.rd (by omega)).mono ?_); rintro e w3 ⟨rfl, hb⟩; rw [HG.out, HMM.out]; replace HB := Lib.hid (below_on HB.out hb); replace HX := Lib.hid (HX.out.below hb); replace HD := Lib.hid (HD.out.below hb); replace HY := Lib.hid (HY.out.below hb); replace HH := Lib.hid (HH.out.below hb); replace HQ := Lib.hid (HQ.out.below hb); clear hb))
    clear cc0 cc1 cc2 cc3 cc4 cc5 cc6
    all_goals
      obtain ⟨cc0, cc1, cc2, cc3, cc4⟩ := bxc HX.out
      obtain ⟨q0, q1, q2, q3, q4⟩ := bxc HY.out
      have f0 := HY.out.free 0
      have f1 := HY.out.free 1
      have f2 := HY.out.free 2
      have f3 := HY.out.free 3
      have f4 := HY.out.free 4
      go_wp2_with fail
      exact bodyPost_ret (v := .tuple #[.agg #[.int .i64 0, .int .i64 0, .int .i64 0, .int .i64 0, .int .i64 0], .bool false]) (by simp [results, Tryz.results142, go_sem, q0, q1, q2, q3, q4]) rfl ⟨rfl, (((((HB.out).setCell (p := ⟨w.heap.size + 1 + 1, 0, none⟩) (by simp; try omega) _).setCell (p := ⟨w.heap.size + 1 + 1, 1, none⟩) (by simp; try omega) _).setCell (p := ⟨w.heap.size + 1 + 1, 2, none⟩) (by simp; try omega) _).setCell (p := ⟨w.heap.size + 1 + 1, 3, none⟩) (by simp; try omega) _).setCell (p := ⟨w.heap.size + 1 + 1, 4, none⟩) (by simp; try omega) _⟩
  rcases hτ : inB x2 0 10000 with _ | _
  · have HT := Lib.hid hτ
    have hM' := (mkd_no (xs := xs) (us := us) (by rw [hok, hγ, decide_eq_true h1, hτ]; rfl)).symm.trans hM
    cases hM'
    clear hM hok hme hγ hτ
    go_enter Tryz.func142, Tryz.ntmps142
    go_wp2_with fail
    generalize (((w.alloc (.cells #[.map (some g), .slice q m c'] 204)).alloc (.cells #[.int .i64 x0, .int .i64 x1, .int .i64 x2, .int .i64 x3, .int .i64 x4] 154)).alloc (.cells #[.int .i64 0, .int .i64 0, .int .i64 0, .int .i64 0, .int .i64 0] 154)) = V at HX HY HB HH HD ⊢
    refine (Ao.authorityOf_any q m c' us x0 x1 x2 x3 x4 a0 a1 a2 _ HA.out _ (HK.out.below HB.out)).mono ?_
    rintro e w1 ⟨rfl, hb⟩
    replace HB := Lib.hid (below_on HB.out hb); replace HX := Lib.hid (HX.out.below hb); replace HD := Lib.hid (HD.out.below hb); replace HY := Lib.hid (HY.out.below hb); replace HH := Lib.hid (HH.out.below hb)
    have HQ := Lib.hid (Bx.new w1 134 #[.int .i64 a0, .int .i64 a1, .int .i64 a2])
    replace HB := Lib.hid (HB.out.alloc HB.out.size (.cells #[.int .i64 a0, .int .i64 a1, .int .i64 a2] 134))
    replace HX := Lib.hid (HX.out.alloc (.cells #[.int .i64 a0, .int .i64 a1, .int .i64 a2] 134))
    replace HD := Lib.hid (HD.out.alloc (.cells #[.int .i64 a0, .int .i64 a1, .int .i64 a2] 134))
    replace HY := Lib.hid (HY.out.alloc (.cells #[.int .i64 a0, .int .i64 a1, .int .i64 a2] 134))
    replace HH := Lib.hid (HH.out.alloc (.cells #[.int .i64 a0, .int .i64 a1, .int .i64 a2] 134))
    clear hb
    obtain ⟨cc0, cc1, cc2, cc3, cc4, cc5, cc6⟩ := eight HX.out HQ.out HD.out
    go_wp2_with fail
    generalize w1.heap.size = ga at HQ cc5 ⊢
    generalize w1.alloc (.cells #[.int .i64 a0, .int .i64 a1, .int .i64 a2] 134) = V1 at HX HY HB HH HD HQ cc0 cc1 cc2 cc3 cc4 cc5 cc6 ⊢
    replace HB := Lib.hid (drewB HB.out)
    replace HX := Lib.hid HX.out.drew1
    replace HD := Lib.hid HD.out.drew1
    replace HQ := Lib.hid HQ.out.drew1
    replace HY := Lib.hid HY.out.drew1
    replace HH := Lib.hid (HH.out.drewN 1)
    go_region_held3 (fun w' => w'.cell? ⟨w.heap.size + 1, 0, none⟩ = some (.int .i64 x0) ∧ w'.cell? ⟨w.heap.size + 1, 1, none⟩ = some (.int .i64 x1) ∧ w'.cell? ⟨w.heap.size + 1, 2, none⟩ = some (.int .i64 x2) ∧ w'.cell? ⟨w.heap.size + 1, 3, none⟩ = some (.int .i64 x3) ∧ w'.cell? ⟨w.heap.size + 1, 4, none⟩ = some (.int .i64 x4) ∧ w'.cell? ⟨ga, 1, none⟩ = some (.int .i64 a1) ∧ w'.cell? ⟨w.heap.size, 0, none⟩ = some (.map (some g))) (first | exact eight HX.out HQ.out HD.out | go_keep) (first
      | (go_at_call 164; (with_reducible refine (stampInts_any x0 x1 x2 x3 x4 _ G0.out G1.out G2.out G3.out G4.out).mono ?_); rintro e w2 ⟨p2, n2, c2, rfl, ho, hb⟩; have HO2 := Lib.hid ho; have hn2 : n2 ≤ 5 := Nat.le_of_eq ho.len.symm; replace HB := Lib.hid (below_on HB.out hb); replace HX := Lib.hid (HX.out.below hb); replace HD := Lib.hid (HD.out.below hb); replace HY := Lib.hid (HY.out.below hb); replace HH := Lib.hid (HH.out.below hb); replace HQ := Lib.hid (HQ.out.below hb); clear ho hb)
      | (go_at_call 163; (with_reducible refine (ringMark_any xs hR g a1 HAI.out _ _ _ [103, x0, x1, x2, x3] _ HH.out HO2.out.rd (by omega)).mono ?_); rintro e w3 ⟨rfl, hb⟩; rw [HG.out, HMM.out]; replace HB := Lib.hid (below_on HB.out hb); replace HX := Lib.hid (HX.out.below hb); replace HD := Lib.hid (HD.out.below hb); replace HY := Lib.hid (HY.out.below hb); replace HH := Lib.hid (HH.out.below hb); replace HQ := Lib.hid (HQ.out.below hb); clear hb))
    clear cc0 cc1 cc2 cc3 cc4 cc5 cc6
    all_goals
      obtain ⟨cc0, cc1, cc2, cc3, cc4⟩ := bxc HX.out
      go_wp2_with fail
      replace HB := Lib.hid (HB.out.alloc HB.out.size (.cells #[.int .i64 x2] 3))
      replace HX := Lib.hid (HX.out.alloc (.cells #[.int .i64 x2] 3))
      replace HY := Lib.hid (HY.out.alloc (.cells #[.int .i64 x2] 3))
      refine (time1_any _ x2 _ (by go_simp)).mono ?_
      rintro e w5 ⟨rfl, rfl⟩
      rw [HT.out]
      clear cc0 cc1 cc2 cc3 cc4
      obtain ⟨cc0, cc1, cc2, cc3, cc4⟩ := bxc HX.out
      obtain ⟨q0, q1, q2, q3, q4⟩ := bxc HY.out
      have f0 := HY.out.free 0
      have f1 := HY.out.free 1
      have f2 := HY.out.free 2
      have f3 := HY.out.free 3
      have f4 := HY.out.free 4
      go_wp2_with fail
      exact bodyPost_ret (v := .tuple #[.agg #[.int .i64 0, .int .i64 0, .int .i64 0, .int .i64 0, .int .i64 0], .bool false]) (by simp [results, Tryz.results142, go_sem, q0, q1, q2, q3, q4]) rfl ⟨rfl, (((((HB.out).setCell (p := ⟨w.heap.size + 1 + 1, 0, none⟩) (by simp; try omega) _).setCell (p := ⟨w.heap.size + 1 + 1, 1, none⟩) (by simp; try omega) _).setCell (p := ⟨w.heap.size + 1 + 1, 2, none⟩) (by simp; try omega) _).setCell (p := ⟨w.heap.size + 1 + 1, 3, none⟩) (by simp; try omega) _).setCell (p := ⟨w.heap.size + 1 + 1, 4, none⟩) (by simp; try omega) _⟩
  · have HT := Lib.hid hτ
    have hM' := (mkd_yes (xs := xs) (us := us) (by rw [hok, hγ, decide_eq_true h1, hτ]; rfl)).symm.trans hM
    rw [hme] at hM'
    cases hM'
    clear hM hok hme hγ hτ
    go_enter Tryz.func142, Tryz.ntmps142
    go_wp2_with fail
    generalize (((w.alloc (.cells #[.map (some g), .slice q m c'] 204)).alloc (.cells #[.int .i64 x0, .int .i64 x1, .int .i64 x2, .int .i64 x3, .int .i64 x4] 154)).alloc (.cells #[.int .i64 0, .int .i64 0, .int .i64 0, .int .i64 0, .int .i64 0] 154)) = V at HX HY HB HH HD ⊢
    refine (Ao.authorityOf_any q m c' us x0 x1 x2 x3 x4 a0 a1 a2 _ HA.out _ (HK.out.below HB.out)).mono ?_
    rintro e w1 ⟨rfl, hb⟩
    replace HB := Lib.hid (below_on HB.out hb); replace HX := Lib.hid (HX.out.below hb); replace HD := Lib.hid (HD.out.below hb); replace HY := Lib.hid (HY.out.below hb); replace HH := Lib.hid (HH.out.below hb)
    have HQ := Lib.hid (Bx.new w1 134 #[.int .i64 a0, .int .i64 a1, .int .i64 a2])
    replace HB := Lib.hid (HB.out.alloc HB.out.size (.cells #[.int .i64 a0, .int .i64 a1, .int .i64 a2] 134))
    replace HX := Lib.hid (HX.out.alloc (.cells #[.int .i64 a0, .int .i64 a1, .int .i64 a2] 134))
    replace HD := Lib.hid (HD.out.alloc (.cells #[.int .i64 a0, .int .i64 a1, .int .i64 a2] 134))
    replace HY := Lib.hid (HY.out.alloc (.cells #[.int .i64 a0, .int .i64 a1, .int .i64 a2] 134))
    replace HH := Lib.hid (HH.out.alloc (.cells #[.int .i64 a0, .int .i64 a1, .int .i64 a2] 134))
    clear hb
    obtain ⟨cc0, cc1, cc2, cc3, cc4, cc5, cc6⟩ := eight HX.out HQ.out HD.out
    go_wp2_with fail
    generalize w1.heap.size = ga at HQ cc5 ⊢
    generalize w1.alloc (.cells #[.int .i64 a0, .int .i64 a1, .int .i64 a2] 134) = V1 at HX HY HB HH HD HQ cc0 cc1 cc2 cc3 cc4 cc5 cc6 ⊢
    replace HB := Lib.hid (drewB HB.out)
    replace HX := Lib.hid HX.out.drew1
    replace HD := Lib.hid HD.out.drew1
    replace HQ := Lib.hid HQ.out.drew1
    replace HY := Lib.hid HY.out.drew1
    replace HH := Lib.hid (HH.out.drewN 1)
    go_region_held3 (fun w' => w'.cell? ⟨w.heap.size + 1, 0, none⟩ = some (.int .i64 x0) ∧ w'.cell? ⟨w.heap.size + 1, 1, none⟩ = some (.int .i64 x1) ∧ w'.cell? ⟨w.heap.size + 1, 2, none⟩ = some (.int .i64 x2) ∧ w'.cell? ⟨w.heap.size + 1, 3, none⟩ = some (.int .i64 x3) ∧ w'.cell? ⟨w.heap.size + 1, 4, none⟩ = some (.int .i64 x4) ∧ w'.cell? ⟨ga, 1, none⟩ = some (.int .i64 a1) ∧ w'.cell? ⟨w.heap.size, 0, none⟩ = some (.map (some g))) (first | exact eight HX.out HQ.out HD.out | go_keep) (first
      | (go_at_call 164; (with_reducible refine (stampInts_any x0 x1 x2 x3 x4 _ G0.out G1.out G2.out G3.out G4.out).mono ?_); rintro e w2 ⟨p2, n2, c2, rfl, ho, hb⟩; have HO2 := Lib.hid ho; have hn2 : n2 ≤ 5 := Nat.le_of_eq ho.len.symm; replace HB := Lib.hid (below_on HB.out hb); replace HX := Lib.hid (HX.out.below hb); replace HD := Lib.hid (HD.out.below hb); replace HY := Lib.hid (HY.out.below hb); replace HH := Lib.hid (HH.out.below hb); replace HQ := Lib.hid (HQ.out.below hb); clear ho hb)
      | (go_at_call 163; (with_reducible refine (ringMark_any xs hR g a1 HAI.out _ _ _ [103, x0, x1, x2, x3] _ HH.out HO2.out.rd (by omega)).mono ?_); rintro e w3 ⟨rfl, hb⟩; rw [HG.out, HMM.out]; replace HB := Lib.hid (below_on HB.out hb); replace HX := Lib.hid (HX.out.below hb); replace HD := Lib.hid (HD.out.below hb); replace HY := Lib.hid (HY.out.below hb); replace HH := Lib.hid (HH.out.below hb); replace HQ := Lib.hid (HQ.out.below hb); clear hb))
    clear cc0 cc1 cc2 cc3 cc4 cc5 cc6
    all_goals
      obtain ⟨cc0, cc1, cc2, cc3, cc4⟩ := bxc HX.out
      go_wp2_with fail
      replace HB := Lib.hid (HB.out.alloc HB.out.size (.cells #[.int .i64 x2] 3))
      replace HX := Lib.hid (HX.out.alloc (.cells #[.int .i64 x2] 3))
      replace HY := Lib.hid (HY.out.alloc (.cells #[.int .i64 x2] 3))
      refine (time1_any _ x2 _ (by go_simp)).mono ?_
      rintro e w5 ⟨rfl, rfl⟩
      rw [HT.out]
      clear cc0 cc1 cc2 cc3 cc4
      obtain ⟨cc0, cc1, cc2, cc3, cc4⟩ := bxc HX.out
      obtain ⟨q0, q1, q2, q3, q4⟩ := bxc HY.out
      have f0 := HY.out.free 0
      have f1 := HY.out.free 1
      have f2 := HY.out.free 2
      have f3 := HY.out.free 3
      have f4 := HY.out.free 4
      have fx := HX.out.free 4
      go_wp2_with fail
      exact bodyPost_ret (v := .tuple #[.agg #[.int .i64 x0, .int .i64 x1, .int .i64 x2, .int .i64 x3, .int .i64 y4], .bool true]) (by simp [results, Tryz.results142, go_sem, q0, q1, q2, q3, q4]) rfl ⟨rfl, (((((HB.out.setCell (p := ⟨w.heap.size + 1, 4, none⟩) (by simp; try omega) _).setCell (p := ⟨w.heap.size + 1 + 1, 0, none⟩) (by simp; try omega) _).setCell (p := ⟨w.heap.size + 1 + 1, 1, none⟩) (by simp; try omega) _).setCell (p := ⟨w.heap.size + 1 + 1, 2, none⟩) (by simp; try omega) _).setCell (p := ⟨w.heap.size + 1 + 1, 3, none⟩) (by simp; try omega) _).setCell (p := ⟨w.heap.size + 1 + 1, 4, none⟩) (by simp; try omega) _⟩
end Go.Proofs.YtfojilogcecphaaGreat.KStamp

namespace Go.Proofs.YtfojilogcecphaaGreat.KStampM
open Go.ChangeShapes Go.WideShapes Go.ChangeAt Go.RowKit Go.Shelf Sl St Fnd Kn Kr Ki Km Ko SlStamp Ti KStamp
end Go.Proofs.YtfojilogcecphaaGreat.KStampM

namespace Go.Proofs.YtfojilogcecphaaGreat.KStampS
open Go.ChangeShapes Go.WideShapes Go.ChangeAt Go.RowKit Go.Shelf Sl St Fnd Kn Kr Ki Km Ko SlStamp Ti KStamp
set_option maxRecDepth 100000 in
set_option maxHeartbeats 8000000 in
theorem spec_make_any (p : Option Addr) (n c : Nat) (xs : List I5) (hR : ∀ x ∈ xs, SlKey.InR x) (q : Option Addr) (m c' : Nat) (us : List I3) (x0 x1 x2 x3 x4 : Int) (h0 : -9223372036854775808 ≤ x0 ∧ x0 ≤ 9223372036854775807) (h1 : -9223372036854775808 ≤ x1 ∧ x1 ≤ 9223372036854775807) (h2 : -9223372036854775808 ≤ x2 ∧ x2 ≤ 9223372036854775807) (h3 : -9223372036854775808 ≤ x3 ∧ x3 ≤ 9223372036854775807) (h4 : -9223372036854775808 ≤ x4 ∧ x4 ≤ 9223372036854775807) (y0 y1 y2 y3 y4 : Int) (b : Bool) (hM : mkd xs us (x0, x1, x2, x3, x4) = ((y0, y1, y2, y3, y4), b)) (w : World) (hr : RdS SlKey.E w p n xs) (hs : RdS SlAuthority.E w q m us) : Calls Tryz.prog 131 #[.slice p n c, .slice q m c', .agg #[.int .i64 x0, .int .i64 x1, .int .i64 x2, .int .i64 x3, .int .i64 x4]] w (Made (.agg #[.int .i64 y0, .int .i64 y1, .int .i64 y2, .int .i64 y3, .int .i64 y4]) b w) := by
  have HK := Lib.hid hr
  have HL := Lib.hid hs
  have hl := hr.len
  have hle := hr.le
  have hl' := hs.len
  have hle' := hs.le
  have hY : Bx ((w.alloc (.cells #[.int .i64 x0, .int .i64 x1, .int .i64 x2, .int .i64 x3, .int .i64 x4] 154)).alloc (.cells #[.int .i64 0, .int .i64 0, .int .i64 0, .int .i64 0, .int .i64 0] 154)) (w.heap.size + 1) 154 #[.int .i64 0, .int .i64 0, .int .i64 0, .int .i64 0, .int .i64 0] := by
    have h := Bx.new (w.alloc (.cells #[.int .i64 x0, .int .i64 x1, .int .i64 x2, .int .i64 x3, .int .i64 x4] 154)) 154 #[.int .i64 0, .int .i64 0, .int .i64 0, .int .i64 0, .int .i64 0]
    rw [World.size_alloc] at h
    exact h
  have HX := Lib.hid ((Bx.new w 154 #[.int .i64 x0, .int .i64 x1, .int .i64 x2, .int .i64 x3, .int .i64 x4]).alloc (.cells #[.int .i64 0, .int .i64 0, .int .i64 0, .int .i64 0, .int .i64 0] 154))
  have HY := Lib.hid hY
  have HB : Hid (Below w.heap.size w ((w.alloc (.cells #[.int .i64 x0, .int .i64 x1, .int .i64 x2, .int .i64 x3, .int .i64 x4] 154)).alloc (.cells #[.int .i64 0, .int .i64 0, .int .i64 0, .int .i64 0, .int .i64 0] 154))) := Lib.hid (((Below.refl _ _).alloc (Nat.le_refl _) _).alloc (by simp) _)
  rcases ha : Ao.aut us x0 with ⟨⟨a0, a1, a2⟩, b0⟩
  have hok := ok_eq (xs := xs) (x1 := x1) (x2 := x2) ha
  have hme := mark_eq (xs := xs) (l := [103, x0, x1, x2, x3]) ha
  have G0 := Lib.hid h0
  have G1 := Lib.hid h1
  have G2 := Lib.hid h2
  have G3 := Lib.hid h3
  have G4 := Lib.hid h4
  clear h0 h1 h2 h3 h4 hr hY hs
  rcases Ao.aut_cases us x0 ha with ⟨k, g1, g2, g3, g4⟩ | ⟨g2, g3, g4, g5, g6⟩
  rotate_left
  · subst g6
    have HF := Lib.hid g2
    have hM' := (mkd_no (xs := xs) (us := us) (by rw [hok]; rfl)).symm.trans hM
    cases hM'
    clear hM hok hme ha g2 g3 g4 g5 hl hl'
    go_enter Tryz.func131, Tryz.ntmps131
    go_wp2_with fail
    generalize ((w.alloc (.cells #[.int .i64 x0, .int .i64 x1, .int .i64 x2, .int .i64 x3, .int .i64 x4] 154)).alloc (.cells #[.int .i64 0, .int .i64 0, .int .i64 0, .int .i64 0, .int .i64 0] 154)) = V at HX HY HB  ⊢
    refine (FAuthority.spec_find_any _ m c' us x0 _ (HL.out.below HB.out)).mono ?_
    rintro e w1 ⟨rfl, rfl⟩
    rw [HF.out]
    obtain ⟨cc0, cc1, cc2, cc3, cc4⟩ := bxc HX.out
    obtain ⟨q0, q1, q2, q3, q4⟩ := bxc HY.out
    have f0 := HY.out.free 0
    have f1 := HY.out.free 1
    have f2 := HY.out.free 2
    have f3 := HY.out.free 3
    have f4 := HY.out.free 4
    go_wp2_with fail
    refine bodyPost_ret (v := .tuple #[.agg #[.int .i64 0, .int .i64 0, .int .i64 0, .int .i64 0, .int .i64 0], .bool false]) ?_ rfl ?_
    · simp [results, Tryz.results131, go_sem, q0, q1, q2, q3, q4]
    · exact ⟨rfl, (((((HB.out).setCell (p := ⟨w.heap.size + 1, 0, none⟩) (by simp) _).setCell (p := ⟨w.heap.size + 1, 1, none⟩) (by simp) _).setCell (p := ⟨w.heap.size + 1, 2, none⟩) (by simp) _).setCell (p := ⟨w.heap.size + 1, 3, none⟩) (by simp) _).setCell (p := ⟨w.heap.size + 1, 4, none⟩) (by simp) _⟩
  subst g4
  have HF := Lib.hid g2
  have hkm : k < m := by omega
  by_cases h1 : 0 ≤ x1
  rotate_left
  · have hM' := (mkd_no (xs := xs) (us := us) (by rw [hok, decide_eq_false h1]; simp)).symm.trans hM
    cases hM'
    have h1' : x1 < 0 := by omega
    clear hM hok hme ha g1 g2 g3 hl hl' h1
    go_enter Tryz.func131, Tryz.ntmps131
    go_wp2_with fail
    generalize ((w.alloc (.cells #[.int .i64 x0, .int .i64 x1, .int .i64 x2, .int .i64 x3, .int .i64 x4] 154)).alloc (.cells #[.int .i64 0, .int .i64 0, .int .i64 0, .int .i64 0, .int .i64 0] 154)) = V at HX HY HB  ⊢
    refine (FAuthority.spec_find_any _ m c' us x0 _ (HL.out.below HB.out)).mono ?_
    rintro e w1 ⟨rfl, rfl⟩
    rw [HF.out]
    obtain ⟨cc0, cc1, cc2, cc3, cc4⟩ := bxc HX.out
    obtain ⟨q0, q1, q2, q3, q4⟩ := bxc HY.out
    have f0 := HY.out.free 0
    have f1 := HY.out.free 1
    have f2 := HY.out.free 2
    have f3 := HY.out.free 3
    have f4 := HY.out.free 4
    go_wp2_with fail
    refine bodyPost_ret (v := .tuple #[.agg #[.int .i64 0, .int .i64 0, .int .i64 0, .int .i64 0, .int .i64 0], .bool false]) ?_ rfl ?_
    · simp [results, Tryz.results131, go_sem, q0, q1, q2, q3, q4]
    · exact ⟨rfl, (((((HB.out).setCell (p := ⟨w.heap.size + 1, 0, none⟩) (by simp) _).setCell (p := ⟨w.heap.size + 1, 1, none⟩) (by simp) _).setCell (p := ⟨w.heap.size + 1, 2, none⟩) (by simp) _).setCell (p := ⟨w.heap.size + 1, 3, none⟩) (by simp) _).setCell (p := ⟨w.heap.size + 1, 4, none⟩) (by simp) _⟩
  rcases hτ : inB x2 0 10000 with _ | _
  · have HT := Lib.hid hτ
    have hM' := (mkd_no (xs := xs) (us := us) (by rw [hok, hτ]; simp)).symm.trans hM
    cases hM'
    clear hM hok hme ha g1 g2 g3 hl hl' hτ
    go_enter Tryz.func131, Tryz.ntmps131
    go_wp2_with fail
    generalize ((w.alloc (.cells #[.int .i64 x0, .int .i64 x1, .int .i64 x2, .int .i64 x3, .int .i64 x4] 154)).alloc (.cells #[.int .i64 0, .int .i64 0, .int .i64 0, .int .i64 0, .int .i64 0] 154)) = V at HX HY HB  ⊢
    refine (FAuthority.spec_find_any _ m c' us x0 _ (HL.out.below HB.out)).mono ?_
    rintro e w1 ⟨rfl, rfl⟩
    rw [HF.out]
    obtain ⟨cc0, cc1, cc2, cc3, cc4⟩ := bxc HX.out
    go_wp2_with fail
    refine (time_any x2 _).mono ?_
    rintro e w1 ⟨rfl, rfl⟩
    rw [HT.out]
    obtain ⟨q0, q1, q2, q3, q4⟩ := bxc HY.out
    have f0 := HY.out.free 0
    have f1 := HY.out.free 1
    have f2 := HY.out.free 2
    have f3 := HY.out.free 3
    have f4 := HY.out.free 4
    go_wp2_with fail
    refine bodyPost_ret (v := .tuple #[.agg #[.int .i64 0, .int .i64 0, .int .i64 0, .int .i64 0, .int .i64 0], .bool false]) ?_ rfl ?_
    · simp [results, Tryz.results131, go_sem, q0, q1, q2, q3, q4]
    · exact ⟨rfl, (((((HB.out).setCell (p := ⟨w.heap.size + 1, 0, none⟩) (by simp) _).setCell (p := ⟨w.heap.size + 1, 1, none⟩) (by simp) _).setCell (p := ⟨w.heap.size + 1, 2, none⟩) (by simp) _).setCell (p := ⟨w.heap.size + 1, 3, none⟩) (by simp) _).setCell (p := ⟨w.heap.size + 1, 4, none⟩) (by simp) _⟩
  have HT := Lib.hid hτ
  have hrd := SlAuthority.rd_at (HL.out.below HB.out) hkm
  obtain ⟨bb, o, rfl, hbb, hat⟩ := hrd
  rw [show SlAuthority.zero = Ao.z3 from rfl, g3] at hat
  obtain ⟨t0, t1, t2⟩ := hat
  have i1 : (0 : Int) ≤ (k : Int) := by omega
  have i2 : (k : Int) < (m : Int) := by omega
  rcases ring_cases xs a1 with ⟨j, j1, j2, j3, _, _⟩ | ⟨j2, j3, _⟩
  rotate_left
  · have HF2 := Lib.hid j2
    have hM' := (mkd_no (xs := xs) (us := us) (by rw [hok, j3]; simp)).symm.trans hM
    cases hM'
    clear hM hok hme ha g1 g2 g3 hl hl' hτ j2 j3
    go_enter Tryz.func131, Tryz.ntmps131
    go_wp2_with fail
    generalize ((w.alloc (.cells #[.int .i64 x0, .int .i64 x1, .int .i64 x2, .int .i64 x3, .int .i64 x4] 154)).alloc (.cells #[.int .i64 0, .int .i64 0, .int .i64 0, .int .i64 0, .int .i64 0] 154)) = V at HX HY HB t0 t1 t2 hbb ⊢
    refine (FAuthority.spec_find_any _ m c' us x0 _ (HL.out.below HB.out)).mono ?_
    rintro e w1 ⟨rfl, rfl⟩
    rw [HF.out]
    obtain ⟨cc0, cc1, cc2, cc3, cc4⟩ := bxc HX.out
    go_wp2_with fail
    refine (time_any x2 _).mono ?_
    rintro e w1 ⟨rfl, rfl⟩
    rw [HT.out]
    go_wp2_with fail
    refine (FKey.spec_find_any p n c xs a1 _ (HK.out.below HB.out)).mono ?_
    rintro e w1 ⟨rfl, rfl⟩
    rw [HF2.out]
    obtain ⟨q0, q1, q2, q3, q4⟩ := bxc HY.out
    have f0 := HY.out.free 0
    have f1 := HY.out.free 1
    have f2 := HY.out.free 2
    have f3 := HY.out.free 3
    have f4 := HY.out.free 4
    go_wp2_with fail
    refine bodyPost_ret (v := .tuple #[.agg #[.int .i64 0, .int .i64 0, .int .i64 0, .int .i64 0, .int .i64 0], .bool false]) ?_ rfl ?_
    · simp [results, Tryz.results131, go_sem, q0, q1, q2, q3, q4]
    · exact ⟨rfl, (((((HB.out).setCell (p := ⟨w.heap.size + 1, 0, none⟩) (by simp) _).setCell (p := ⟨w.heap.size + 1, 1, none⟩) (by simp) _).setCell (p := ⟨w.heap.size + 1, 2, none⟩) (by simp) _).setCell (p := ⟨w.heap.size + 1, 3, none⟩) (by simp) _).setCell (p := ⟨w.heap.size + 1, 4, none⟩) (by simp) _⟩
  have HF2 := Lib.hid j2
  have hjn : j < n := by omega
  obtain ⟨_, _, k2, _, k4⟩ := inr_at hR j1
  have HMR : Hid (markR xs a1 [103, x0, x1, x2, x3] = markW (xs.getD j z5) [103, x0, x1, x2, x3]) := Lib.hid (by unfold markR; rw [j3])
  have hM' := (mkd_yes (xs := xs) (us := us) (by rw [hok, j3, decide_eq_true h1, hτ]; rfl)).symm.trans hM
  rw [hme] at hM'
  cases hM'
  have K2' := Lib.hid k2
  have K4' := Lib.hid k4
  clear hM hok hme ha g1 g2 g3 hl hl' hτ j1 j2 j3 k2 k4
  go_enter Tryz.func131, Tryz.ntmps131
  go_wp2_with fail
  generalize ((w.alloc (.cells #[.int .i64 x0, .int .i64 x1, .int .i64 x2, .int .i64 x3, .int .i64 x4] 154)).alloc (.cells #[.int .i64 0, .int .i64 0, .int .i64 0, .int .i64 0, .int .i64 0] 154)) = V at HX HY HB t0 t1 t2 hbb ⊢
  refine (FAuthority.spec_find_any _ m c' us x0 _ (HL.out.below HB.out)).mono ?_
  rintro e w1 ⟨rfl, rfl⟩
  rw [HF.out]
  obtain ⟨cc0, cc1, cc2, cc3, cc4⟩ := bxc HX.out
  go_wp2_with fail
  refine (time_any x2 _).mono ?_
  rintro e w1 ⟨rfl, rfl⟩
  rw [HT.out]
  go_wp2_with fail
  refine (FKey.spec_find_any p n c xs a1 _ (HK.out.below HB.out)).mono ?_
  rintro e w1 ⟨rfl, rfl⟩
  rw [HF2.out]
  obtain ⟨b2, o2, rfl, hb2, hat⟩ := SlKey.rd_at (HK.out.below HB.out) hjn
  rw [zero_z5] at hat
  generalize xs.getD j z5 = y at hat HMR K2' K4'
  obtain ⟨k0, k1, k2, k3, k4⟩ := y
  have K2 : Hid (inK .i64 k2) := Lib.hid K2'.out
  have K4 : Hid (inK .i64 k4) := Lib.hid K4'.out
  clear K2' K4'
  have HAT := Lib.hid hat
  obtain ⟨c0, c1, c2, c3, c4⟩ := hat
  have j1 : (0 : Int) ≤ (j : Int) := by omega
  have j2 : (j : Int) < (n : Int) := by omega
  go_wp2_with fail
  go_region_with (first
    | (go_at_call 132; (with_reducible refine (spec_stampInts_any x0 x1 x2 x3 x4 _ G0.out G1.out G2.out G3.out G4.out).mono ?_); rintro e w5 ⟨p2, n2, c2', rfl, ho, hb⟩; have HO2 := Lib.hid ho; have hn2 : n2 ≤ 5 := Nat.le_of_eq ho.len.symm; have HB5 := Lib.hid (below_on (drewB HB.out) hb); have HX5 := Lib.hid (HX.out.drew1.below hb); have HY5 := Lib.hid (HY.out.drew1.below hb); obtain ⟨d0, d1, d2, d3, d4⟩ := HAT.out.below (below_on (drewB (Below.refl _ _)) hb) hb2; clear ho hb)
    | (go_at_call 153; (with_reducible refine (spec_markWith_any k0 k1 k2 k3 k4 _ _ _ [103, x0, x1, x2, x3] _ HO2.out.rd K2.out K4.out (by omega)).mono ?_); rintro e w6 ⟨rfl, hb⟩; rw [← HMR.out]; have HB6 := Lib.hid (below_on HB5.out hb); have HX6 := Lib.hid (HX5.out.below hb); have HY6 := Lib.hid (HY5.out.below hb); obtain ⟨ee0, ee1, ee2, ee3, ee4⟩ := bxc HX6.out; have fx := HX6.out.free 4; clear hb))
  all_goals
    obtain ⟨q0, q1, q2, q3, q4⟩ := bxc HY6.out
    have f0 := HY6.out.free 0
    have f1 := HY6.out.free 1
    have f2 := HY6.out.free 2
    have f3 := HY6.out.free 3
    have f4 := HY6.out.free 4
    go_wp2_with fail
    refine bodyPost_ret (v := .tuple #[.agg #[.int .i64 x0, .int .i64 x1, .int .i64 x2, .int .i64 x3, .int .i64 (markR xs a1 [103, x0, x1, x2, x3])], .bool true]) ?_ rfl ?_
    · simp [results, Tryz.results131, go_sem, q0, q1, q2, q3, q4]
    · exact ⟨rfl, (((((HB6.out.setCell (p := ⟨w.heap.size, 4, none⟩) (Nat.le_refl _) _).setCell (p := ⟨w.heap.size + 1, 0, none⟩) (by simp) _).setCell (p := ⟨w.heap.size + 1, 1, none⟩) (by simp) _).setCell (p := ⟨w.heap.size + 1, 2, none⟩) (by simp) _).setCell (p := ⟨w.heap.size + 1, 3, none⟩) (by simp) _).setCell (p := ⟨w.heap.size + 1, 4, none⟩) (by simp) _⟩
end Go.Proofs.YtfojilogcecphaaGreat.KStampS

namespace Go.Proofs.YtfojilogcecphaaGreat.MStamp
open Go.ChangeShapes Go.WideShapes Go.ChangeAt Go.RowKit Go.Shelf Sl St Fnd Kn Kr Ki Km Ko SlStamp Ti KStamp
def chk (xs : List I5) (us : List I3) : I5 → Bool := fun (x0, x1, x2, x3, x4) => okT xs us x0 x1 x2 && decide (markR xs (Ao.aut us x0).1.2.1 [103, x0, x1, x2, x3] = x4)
theorem says {b b' : Bool} {w w' : World} (h : b' = b) (hb : Below w.heap.size w w') : SlStamp.Val (.bool b) w (.returned (.bool b')) w' := ⟨by rw [h], hb⟩
theorem drewB {W w : World} {B : Nat} (h : Below B W w) : Below B W w.drew := below_drewN h 1
set_option maxRecDepth 100000 in
set_option maxHeartbeats 8000000 in
theorem remade_any (g : Nat) (q : Option Addr) (m c' : Nat) (us : List I3) (hA : ∀ a ∈ us, SlAuthority.InR a) (xs : List I5) (hR : ∀ x ∈ xs, SlKey.InR x) (x0 x1 x2 x3 x4 : Int) (h0 : -9223372036854775808 ≤ x0 ∧ x0 ≤ 9223372036854775807) (h1 : -9223372036854775808 ≤ x1 ∧ x1 ≤ 9223372036854775807) (h2 : -9223372036854775808 ≤ x2 ∧ x2 ≤ 9223372036854775807) (h3 : -9223372036854775808 ≤ x3 ∧ x3 ≤ 9223372036854775807) (h4 : -9223372036854775808 ≤ x4 ∧ x4 ≤ 9223372036854775807) (w : World) (hh : Holds xs g w) (hr : RdS SlAuthority.E w q m us) : Calls Tryz.prog 140 #[.agg #[.int .i64 x0, .int .i64 x1, .int .i64 x2, .int .i64 x3, .int .i64 x4], .func (.func 142) #[.agg #[.map (some g), .slice q m c']] #[]] w (SlStamp.Val (.bool (chk xs us (x0, x1, x2, x3, x4))) w) := by
  have HL := Lib.hid hr
  have HX := Lib.hid (Bx.new w 154 #[.int .i64 x0, .int .i64 x1, .int .i64 x2, .int .i64 x3, .int .i64 x4])
  have HB : Hid (Below w.heap.size w (w.alloc (.cells #[.int .i64 x0, .int .i64 x1, .int .i64 x2, .int .i64 x3, .int .i64 x4] 154))) := Lib.hid (box1 w _)
  have HH : Hid (Holds xs g (w.alloc (.cells #[.int .i64 x0, .int .i64 x1, .int .i64 x2, .int .i64 x3, .int .i64 x4] 154))) := Lib.hid (hh.below HB.out)
  have G0 := Lib.hid h0
  have G1 := Lib.hid h1
  have G2 := Lib.hid h2
  have G3 := Lib.hid h3
  have G4 := Lib.hid h4
  clear h0 h1 h2 h3 h4 hr
  clear hh
  rcases hok : okT xs us x0 x1 x2 with _ | _
  · have HM := Lib.hid (mkd_no (x3 := x3) (x4 := x4) hok)
    have HS : Hid (chk xs us (x0, x1, x2, x3, x4) = false) := Lib.hid (by show (okT xs us x0 x1 x2 && _) = false; rw [hok]; rfl)
    clear hok
    go_enter Tryz.func140, Tryz.ntmps140
    go_wp2_with fail
    generalize (w.alloc (.cells #[.int .i64 x0, .int .i64 x1, .int .i64 x2, .int .i64 x3, .int .i64 x4] 154)) = V at HX HB HH ⊢
    refine (stamp_any g q m c' us hA xs hR x0 x1 x2 x3 x4 G0.out G1.out G2.out G3.out G4.out 0 0 0 0 0 false HM.out _ HH.out (HL.out.below HB.out)).mono ?_
    rintro e w1 ⟨rfl, hb⟩
    replace HB := Lib.hid (below_on HB.out hb)
    replace HX := Lib.hid ((HX.out.below hb).alloc (.cells #[.int .i64 0, .int .i64 0, .int .i64 0, .int .i64 0, .int .i64 0] 154))
    replace HB := Lib.hid (HB.out.alloc HB.out.size (.cells #[.int .i64 0, .int .i64 0, .int .i64 0, .int .i64 0, .int .i64 0] 154))
    have HQ := Lib.hid (Bx.new w1 154 #[.int .i64 0, .int .i64 0, .int .i64 0, .int .i64 0, .int .i64 0])
    obtain ⟨cc0, cc1, cc2, cc3, cc4⟩ := bxc HX.out
    obtain ⟨q0, q1, q2, q3, q4⟩ := bxc HQ.out
    clear hb
    go_wp2_with fail
    go_ret
    exact says (by rw [HS.out]) HB.out
  · have hm1 := mkd_yes (x3 := x3) (x4 := x4) hok
    have hs1 : chk xs us (x0, x1, x2, x3, x4) = decide (markR xs (Ao.aut us x0).1.2.1 [103, x0, x1, x2, x3] = x4) := by show (okT xs us x0 x1 x2 && _) = _; rw [hok]; rfl
    generalize hmm : markR xs (Ao.aut us x0).1.2.1 [103, x0, x1, x2, x3] = m0 at hm1 hs1
    clear hmm hok
    have HM := Lib.hid hm1
    clear hm1
    by_cases he : m0 = x4
    · have HS : Hid (chk xs us (x0, x1, x2, x3, x4) = true) := Lib.hid (by rw [hs1, decide_eq_true he])
      clear hs1
      subst he
      go_enter Tryz.func140, Tryz.ntmps140
      go_wp2_with fail
      generalize (w.alloc (.cells #[.int .i64 x0, .int .i64 x1, .int .i64 x2, .int .i64 x3, .int .i64 m0] 154)) = V at HX HB HH ⊢
      refine (stamp_any g q m c' us hA xs hR x0 x1 x2 x3 m0 G0.out G1.out G2.out G3.out G4.out x0 x1 x2 x3 m0 true HM.out _ HH.out (HL.out.below HB.out)).mono ?_
      rintro e w1 ⟨rfl, hb⟩
      replace HB := Lib.hid (below_on HB.out hb)
      replace HX := Lib.hid ((HX.out.below hb).alloc (.cells #[.int .i64 x0, .int .i64 x1, .int .i64 x2, .int .i64 x3, .int .i64 m0] 154))
      replace HB := Lib.hid (HB.out.alloc HB.out.size (.cells #[.int .i64 x0, .int .i64 x1, .int .i64 x2, .int .i64 x3, .int .i64 m0] 154))
      have HQ := Lib.hid (Bx.new w1 154 #[.int .i64 x0, .int .i64 x1, .int .i64 x2, .int .i64 x3, .int .i64 m0])
      obtain ⟨cc0, cc1, cc2, cc3, cc4⟩ := bxc HX.out
      obtain ⟨q0, q1, q2, q3, q4⟩ := bxc HQ.out
      clear hb
      go_wp2_with fail
      go_ret
      exact says (by rw [HS.out]) HB.out
    · have HS : Hid (chk xs us (x0, x1, x2, x3, x4) = false) := Lib.hid (by rw [hs1, decide_eq_false he])
      have e1 : (m0 == x4) = false := by simpa using he
      clear hs1 he
      go_enter Tryz.func140, Tryz.ntmps140
      go_wp2_with fail
      generalize (w.alloc (.cells #[.int .i64 x0, .int .i64 x1, .int .i64 x2, .int .i64 x3, .int .i64 x4] 154)) = V at HX HB HH ⊢
      refine (stamp_any g q m c' us hA xs hR x0 x1 x2 x3 x4 G0.out G1.out G2.out G3.out G4.out x0 x1 x2 x3 m0 true HM.out _ HH.out (HL.out.below HB.out)).mono ?_
      rintro e w1 ⟨rfl, hb⟩
      replace HB := Lib.hid (below_on HB.out hb)
      replace HX := Lib.hid ((HX.out.below hb).alloc (.cells #[.int .i64 x0, .int .i64 x1, .int .i64 x2, .int .i64 x3, .int .i64 m0] 154))
      replace HB := Lib.hid (HB.out.alloc HB.out.size (.cells #[.int .i64 x0, .int .i64 x1, .int .i64 x2, .int .i64 x3, .int .i64 m0] 154))
      have HQ := Lib.hid (Bx.new w1 154 #[.int .i64 x0, .int .i64 x1, .int .i64 x2, .int .i64 x3, .int .i64 m0])
      obtain ⟨cc0, cc1, cc2, cc3, cc4⟩ := bxc HX.out
      obtain ⟨q0, q1, q2, q3, q4⟩ := bxc HQ.out
      clear hb
      go_wp2_with fail
      go_ret
      exact says (by rw [HS.out]) HB.out
set_option maxRecDepth 100000 in
set_option maxHeartbeats 8000000 in
theorem check_any (p : Option Addr) (n c : Nat) (xs : List I5) (hR : ∀ x ∈ xs, SlKey.InR x) (q : Option Addr) (m c' : Nat) (us : List I3) (hA : ∀ a ∈ us, SlAuthority.InR a) (x0 x1 x2 x3 x4 : Int) (h0 : -9223372036854775808 ≤ x0 ∧ x0 ≤ 9223372036854775807) (h1 : -9223372036854775808 ≤ x1 ∧ x1 ≤ 9223372036854775807) (h2 : -9223372036854775808 ≤ x2 ∧ x2 ≤ 9223372036854775807) (h3 : -9223372036854775808 ≤ x3 ∧ x3 ≤ 9223372036854775807) (h4 : -9223372036854775808 ≤ x4 ∧ x4 ≤ 9223372036854775807) (w : World) (hr : RdS SlKey.E w p n xs) (hs : RdS SlAuthority.E w q m us) : Calls Tryz.prog 110 #[.slice p n c, .slice q m c', .agg #[.int .i64 x0, .int .i64 x1, .int .i64 x2, .int .i64 x3, .int .i64 x4]] w (SlStamp.Val (.bool (chk xs us (x0, x1, x2, x3, x4))) w) := by
  have HK := Lib.hid hr
  have HL := Lib.hid hs
  have HX := Lib.hid (Bx.new w 154 #[.int .i64 x0, .int .i64 x1, .int .i64 x2, .int .i64 x3, .int .i64 x4])
  have HB : Hid (Below w.heap.size w (w.alloc (.cells #[.int .i64 x0, .int .i64 x1, .int .i64 x2, .int .i64 x3, .int .i64 x4] 154))) := Lib.hid (box1 w _)
  have G0 := Lib.hid h0
  have G1 := Lib.hid h1
  have G2 := Lib.hid h2
  have G3 := Lib.hid h3
  have G4 := Lib.hid h4
  clear h0 h1 h2 h3 h4 hr
  clear hs
  go_enter Tryz.func110, Tryz.ntmps110
  go_wp2_with fail
  generalize (w.alloc (.cells #[.int .i64 x0, .int .i64 x1, .int .i64 x2, .int .i64 x3, .int .i64 x4] 154)) = V at HB HX ⊢
  replace HB := Lib.hid (drewB HB.out)
  replace HX := Lib.hid HX.out.drew1
  go_region_held3 (fun w' => w'.cell? ⟨w.heap.size, 0, none⟩ = some (.int .i64 x0) ∧ w'.cell? ⟨w.heap.size, 1, none⟩ = some (.int .i64 x1) ∧ w'.cell? ⟨w.heap.size, 2, none⟩ = some (.int .i64 x2) ∧ w'.cell? ⟨w.heap.size, 3, none⟩ = some (.int .i64 x3) ∧ w'.cell? ⟨w.heap.size, 4, none⟩ = some (.int .i64 x4)) (first | exact bxc HX.out | go_keep) (first
    | (go_at_call 141; (with_reducible refine (ringOf_any p n c xs hR _ (HK.out.below HB.out)).mono ?_); rintro e w1 ⟨rfl, hh, hb⟩; have HH : Hid (Holds xs V.heap.size w1) := Lib.hid hh; replace HB := Lib.hid (below_on HB.out hb); replace HX := Lib.hid (HX.out.below hb); clear hb hh)
    | (go_at_call 140; (with_reducible refine (remade_any _ q m c' us hA xs hR x0 x1 x2 x3 x4 G0.out G1.out G2.out G3.out G4.out _ HH.out (HL.out.below HB.out)).mono ?_); rintro e w2 ⟨rfl, hb⟩; replace HB := Lib.hid (below_on HB.out hb); replace HX := Lib.hid (HX.out.below hb); clear hb))
  all_goals
    go_wp2_with fail
    go_ret
    exact says rfl HB.out
set_option maxRecDepth 100000 in
set_option maxHeartbeats 8000000 in
theorem spec_check_any (p : Option Addr) (n c : Nat) (xs : List I5) (hR : ∀ x ∈ xs, SlKey.InR x) (q : Option Addr) (m c' : Nat) (us : List I3) (x0 x1 x2 x3 x4 : Int) (h0 : -9223372036854775808 ≤ x0 ∧ x0 ≤ 9223372036854775807) (h1 : -9223372036854775808 ≤ x1 ∧ x1 ≤ 9223372036854775807) (h2 : -9223372036854775808 ≤ x2 ∧ x2 ≤ 9223372036854775807) (h3 : -9223372036854775808 ≤ x3 ∧ x3 ≤ 9223372036854775807) (h4 : -9223372036854775808 ≤ x4 ∧ x4 ≤ 9223372036854775807) (w : World) (hr : RdS SlKey.E w p n xs) (hs : RdS SlAuthority.E w q m us) : Calls Tryz.prog 99 #[.slice p n c, .slice q m c', .agg #[.int .i64 x0, .int .i64 x1, .int .i64 x2, .int .i64 x3, .int .i64 x4]] w (SlStamp.Val (.bool (chk xs us (x0, x1, x2, x3, x4))) w) := by
  have HK := Lib.hid hr
  have HL := Lib.hid hs
  have HX := Lib.hid (Bx.new w 154 #[.int .i64 x0, .int .i64 x1, .int .i64 x2, .int .i64 x3, .int .i64 x4])
  have HB : Hid (Below w.heap.size w (w.alloc (.cells #[.int .i64 x0, .int .i64 x1, .int .i64 x2, .int .i64 x3, .int .i64 x4] 154))) := Lib.hid (box1 w _)
  have G0 := Lib.hid h0
  have G1 := Lib.hid h1
  have G2 := Lib.hid h2
  have G3 := Lib.hid h3
  have G4 := Lib.hid h4
  clear h0 h1 h2 h3 h4 hr
  clear hs
  rcases hok : okT xs us x0 x1 x2 with _ | _
  · have HM := Lib.hid (mkd_no (x3 := x3) (x4 := x4) hok)
    have HS : Hid (chk xs us (x0, x1, x2, x3, x4) = false) := Lib.hid (by show (okT xs us x0 x1 x2 && _) = false; rw [hok]; rfl)
    clear hok
    go_enter Tryz.func99, Tryz.ntmps99
    go_wp2_with fail
    generalize (w.alloc (.cells #[.int .i64 x0, .int .i64 x1, .int .i64 x2, .int .i64 x3, .int .i64 x4] 154)) = V at HX HB ⊢
    refine (KStampS.spec_make_any p n c xs hR q m c' us x0 x1 x2 x3 x4 G0.out G1.out G2.out G3.out G4.out 0 0 0 0 0 false HM.out _ (HK.out.below HB.out) (HL.out.below HB.out)).mono ?_
    rintro e w1 ⟨rfl, hb⟩
    replace HB := Lib.hid (below_on HB.out hb)
    replace HX := Lib.hid ((HX.out.below hb).alloc (.cells #[.int .i64 0, .int .i64 0, .int .i64 0, .int .i64 0, .int .i64 0] 154))
    replace HB := Lib.hid (HB.out.alloc HB.out.size (.cells #[.int .i64 0, .int .i64 0, .int .i64 0, .int .i64 0, .int .i64 0] 154))
    have HQ := Lib.hid (Bx.new w1 154 #[.int .i64 0, .int .i64 0, .int .i64 0, .int .i64 0, .int .i64 0])
    obtain ⟨cc0, cc1, cc2, cc3, cc4⟩ := bxc HX.out
    obtain ⟨q0, q1, q2, q3, q4⟩ := bxc HQ.out
    clear hb
    go_wp2_with fail
    go_ret
    exact says (by rw [HS.out]) HB.out
  · have hm1 := mkd_yes (x3 := x3) (x4 := x4) hok
    have hs1 : chk xs us (x0, x1, x2, x3, x4) = decide (markR xs (Ao.aut us x0).1.2.1 [103, x0, x1, x2, x3] = x4) := by show (okT xs us x0 x1 x2 && _) = _; rw [hok]; rfl
    generalize hmm : markR xs (Ao.aut us x0).1.2.1 [103, x0, x1, x2, x3] = m0 at hm1 hs1
    clear hmm hok
    have HM := Lib.hid hm1
    clear hm1
    by_cases he : m0 = x4
    · have HS : Hid (chk xs us (x0, x1, x2, x3, x4) = true) := Lib.hid (by rw [hs1, decide_eq_true he])
      clear hs1
      subst he
      go_enter Tryz.func99, Tryz.ntmps99
      go_wp2_with fail
      generalize (w.alloc (.cells #[.int .i64 x0, .int .i64 x1, .int .i64 x2, .int .i64 x3, .int .i64 m0] 154)) = V at HX HB ⊢
      refine (KStampS.spec_make_any p n c xs hR q m c' us x0 x1 x2 x3 m0 G0.out G1.out G2.out G3.out G4.out x0 x1 x2 x3 m0 true HM.out _ (HK.out.below HB.out) (HL.out.below HB.out)).mono ?_
      rintro e w1 ⟨rfl, hb⟩
      replace HB := Lib.hid (below_on HB.out hb)
      replace HX := Lib.hid ((HX.out.below hb).alloc (.cells #[.int .i64 x0, .int .i64 x1, .int .i64 x2, .int .i64 x3, .int .i64 m0] 154))
      replace HB := Lib.hid (HB.out.alloc HB.out.size (.cells #[.int .i64 x0, .int .i64 x1, .int .i64 x2, .int .i64 x3, .int .i64 m0] 154))
      have HQ := Lib.hid (Bx.new w1 154 #[.int .i64 x0, .int .i64 x1, .int .i64 x2, .int .i64 x3, .int .i64 m0])
      obtain ⟨cc0, cc1, cc2, cc3, cc4⟩ := bxc HX.out
      obtain ⟨q0, q1, q2, q3, q4⟩ := bxc HQ.out
      clear hb
      go_wp2_with fail
      go_ret
      exact says (by rw [HS.out]) HB.out
    · have HS : Hid (chk xs us (x0, x1, x2, x3, x4) = false) := Lib.hid (by rw [hs1, decide_eq_false he])
      have e1 : (m0 == x4) = false := by simpa using he
      clear hs1 he
      go_enter Tryz.func99, Tryz.ntmps99
      go_wp2_with fail
      generalize (w.alloc (.cells #[.int .i64 x0, .int .i64 x1, .int .i64 x2, .int .i64 x3, .int .i64 x4] 154)) = V at HX HB ⊢
      refine (KStampS.spec_make_any p n c xs hR q m c' us x0 x1 x2 x3 x4 G0.out G1.out G2.out G3.out G4.out x0 x1 x2 x3 m0 true HM.out _ (HK.out.below HB.out) (HL.out.below HB.out)).mono ?_
      rintro e w1 ⟨rfl, hb⟩
      replace HB := Lib.hid (below_on HB.out hb)
      replace HX := Lib.hid ((HX.out.below hb).alloc (.cells #[.int .i64 x0, .int .i64 x1, .int .i64 x2, .int .i64 x3, .int .i64 m0] 154))
      replace HB := Lib.hid (HB.out.alloc HB.out.size (.cells #[.int .i64 x0, .int .i64 x1, .int .i64 x2, .int .i64 x3, .int .i64 m0] 154))
      have HQ := Lib.hid (Bx.new w1 154 #[.int .i64 x0, .int .i64 x1, .int .i64 x2, .int .i64 x3, .int .i64 m0])
      obtain ⟨cc0, cc1, cc2, cc3, cc4⟩ := bxc HX.out
      obtain ⟨q0, q1, q2, q3, q4⟩ := bxc HQ.out
      clear hb
      go_wp2_with fail
      go_ret
      exact says (by rw [HS.out]) HB.out
end Go.Proofs.YtfojilogcecphaaGreat.MStamp
