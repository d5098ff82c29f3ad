/- Contracts of successions, made; in the program (the ring of keys) and in the reference. -/
import Derived.Test.YtlipcnaimpplpaaKo
import Derived.Test.YtlipcnaimpplpaaYi
import Derived.Test.YtlipcnaimpplpaaFKey
import Derived.Test.YtlipcnaimpplpaaQt
import Derived.Deep.RegionHeld3
import Derived.Deep.RegionWith
namespace Go.Proofs.Ytlipcnaimpplpaa.KSuccession
open Go.ChangeShapes Go.WideShapes Go.ChangeAt Go.RowKit Go.Shelf Sl St Fnd Kn Kr Ki Km Ko SlSuccession Yi
attribute [local go_sem] Oper.semAt_some
/-- whether a succession can be made -/
def okY (xs : List I5) (x0 x1 x2 : Int) : Bool := match ring xs x0, ring xs x1 with | some a, some b => decide (x0 ≠ x1) && (decide (a.2.1 = b.2.1) && inB x2 0 10000) | _, _ => false
def mkd (xs : List I5) : I4 → I4 × Bool := fun (x0, x1, x2, _) => if okY xs x0 x1 x2 = true then ((x0, x1, x2, markR xs x0 [106, x0, x1, x2]), true) else ((0, 0, 0, 0), false)
theorem mkd_yes {xs : List I5} {x0 x1 x2 x3 : Int} (h : okY xs x0 x1 x2 = true) : mkd xs (x0, x1, x2, x3) = ((x0, x1, x2, markR xs x0 [106, x0, x1, x2]), true) := if_pos h
theorem mkd_no {xs : List I5} {x0 x1 x2 x3 : Int} (h : okY xs x0 x1 x2 = false) : mkd xs (x0, x1, x2, x3) = ((0, 0, 0, 0), false) := if_neg (by rw [h]; simp)
theorem ok_none0 {xs : List I5} {x0 x1 x2 : Int} (h : ring xs x0 = none) : okY xs x0 x1 x2 = false := by unfold okY; rw [h]
theorem ok_none1 {xs : List I5} {x0 x1 x2 : Int} (h : ring xs x1 = none) : okY xs x0 x1 x2 = false := by unfold okY; rw [h]; cases ring xs x0 <;> rfl
theorem ok_some {xs : List I5} {x0 x1 x2 : Int} {a b : I5} (h : ring xs x0 = some a) (h' : ring xs x1 = some b) : okY xs x0 x1 x2 = (decide (x0 ≠ x1) && (decide (a.2.1 = b.2.1) && inB x2 0 10000)) := by unfold okY; rw [h, h']
def Made (v : Value) (b : Bool) (w : World) (e : Ending) (w' : World) : Prop := e = .returned (.tuple #[v, .bool b]) ∧ Below w.heap.size w w'
theorem drewB {W w : World} {B : Nat} (h : Below B W w) : Below B W w.drew := below_drewN h 1
theorem keyField (k0 k1 k2 k3 k4 : Int) (w : World) : (Instr.field 59 (.agg #[.int .i64 k0, .int .i64 k1, .int .i64 k2, .int .i64 k3, .int .i64 k4]) 1).run Try.prog w = .ok (.int .i64 k1) w := by kernel_rfl
/-- what the ring gives at a number that it has -/
theorem looks {xs : List I5} {g : Nat} {w : World} (hh : Holds xs g w) {n : Int} (hn : -9223372036854775808 ≤ n ∧ n ≤ 9223372036854775807) {k : I5} (hs : ring xs n = some k) : (Instr.lookup 65 (.map (some g)) (.int .i64 n) false).run Try.prog w = .ok (kv k) w := by
  have hkey := Maps.keyOf_int_mk (a := n) Try.underlying3 (WalkArith.wf_i64 hn)
  obtain ⟨m', D, hown, hD⟩ := hh
  obtain ⟨v, ps, h1, h2⟩ := hown.lookup (Maps.int_keyed Try.underlying3) Try.underlying65 (zeroE _) (kR_kv z5) hkey
  rcases hD n with ⟨k', g1, g2, g3⟩ | ⟨g1, _⟩
  · rw [hs, Option.some.injEq] at g1
    subst g1
    rw [g3] at h2
    rw [← kR_inv h2]
    exact h1
  · rw [hs] at g1; cases g1
set_option maxRecDepth 100000 in
set_option maxHeartbeats 16000000 in
theorem make_any (p : Option Addr) (n c : Nat) (xs : List I5) (hR : ∀ x ∈ xs, SlKey.InR x) (x0 x1 x2 x3 : Int) (h0 : -9223372036854775808 ≤ x0 ∧ x0 ≤ 9223372036854775807) (h1 : -9223372036854775808 ≤ x1 ∧ x1 ≤ 9223372036854775807) (h2 : -9223372036854775808 ≤ x2 ∧ x2 ≤ 9223372036854775807) (h3 : -9223372036854775808 ≤ x3 ∧ x3 ≤ 9223372036854775807) (y0 y1 y2 y3 : Int) (b : Bool) (hM : mkd xs (x0, x1, x2, x3) = ((y0, y1, y2, y3), b)) (w : World) (hr : RdS SlKey.E w p n xs) : Calls Try.prog 72 #[.slice p n c, .agg #[.int .i64 x0, .int .i64 x1, .int .i64 x2, .int .i64 x3]] w (Made (.agg #[.int .i64 y0, .int .i64 y1, .int .i64 y2, .int .i64 y3]) b w) := by
  have HK := Lib.hid hr
  have hY : Bx ((w.alloc (.cells #[.int .i64 x0, .int .i64 x1, .int .i64 x2, .int .i64 x3] 76)).alloc (.cells #[.int .i64 0, .int .i64 0, .int .i64 0, .int .i64 0] 76)) (w.heap.size + 1) 76 #[.int .i64 0, .int .i64 0, .int .i64 0, .int .i64 0] := by
    have h := Bx.new (w.alloc (.cells #[.int .i64 x0, .int .i64 x1, .int .i64 x2, .int .i64 x3] 76)) 76 #[.int .i64 0, .int .i64 0, .int .i64 0, .int .i64 0]
    rw [World.size_alloc] at h
    exact h
  have HX := Lib.hid ((Bx.new w 76 #[.int .i64 x0, .int .i64 x1, .int .i64 x2, .int .i64 x3]).alloc (.cells #[.int .i64 0, .int .i64 0, .int .i64 0, .int .i64 0] 76))
  have HY := Lib.hid hY
  have HB : Hid (Below w.heap.size w ((w.alloc (.cells #[.int .i64 x0, .int .i64 x1, .int .i64 x2, .int .i64 x3] 76)).alloc (.cells #[.int .i64 0, .int .i64 0, .int .i64 0, .int .i64 0] 76))) := Lib.hid (((Below.refl _ _).alloc (Nat.le_refl _) _).alloc (by simp) _)
  have G0 := Lib.hid h0
  have G1 := Lib.hid h1
  have G2 := Lib.hid h2
  have G3 := Lib.hid h3
  clear h0 h1 h2 h3 hr hY
  obtain ⟨m, hm⟩ : ∃ m, markR xs x0 [106, x0, x1, x2] = m := ⟨_, rfl⟩
  have HMM := Lib.hid hm
  rcases ha : ring xs x0 with _ | a
  · have hM' := (mkd_no (xs := xs) (ok_none0 ha)).symm.trans hM
    cases hM'
    have HG : Hid ((ring xs x0).isSome = false) := Lib.hid (by rw [ha]; rfl)
    clear hM ha hm
    go_enter Try.func72, Try.ntmps72
    go_wp2_with fail
    generalize ((w.alloc (.cells #[.int .i64 x0, .int .i64 x1, .int .i64 x2, .int .i64 x3] 76)).alloc (.cells #[.int .i64 0, .int .i64 0, .int .i64 0, .int .i64 0] 76)) = V at HX HY HB ⊢
    refine (ringOf_any p n c xs hR _ (HK.out.below HB.out)).mono ?_
    rintro e w1 ⟨rfl, hh, hb⟩
    have HH : Hid (Holds xs V.heap.size w1) := Lib.hid hh
    replace HB := Lib.hid (below_on HB.out hb); replace HX := Lib.hid (HX.out.below hb); replace HY := Lib.hid (HY.out.below hb)
    clear hb hh
    obtain ⟨cc0, cc1, cc2, cc3⟩ := bxc HX.out
    go_wp2_with fail
    replace HB := Lib.hid (drewB HB.out)
    replace HX := Lib.hid HX.out.drew1
    replace HY := Lib.hid HY.out.drew1
    replace HH := Lib.hid (HH.out.drewN 1)
    go_region_held3 (fun w' => w'.cell? ⟨w.heap.size, 0, none⟩ = some (.int .i64 x0) ∧ w'.cell? ⟨w.heap.size, 1, none⟩ = some (.int .i64 x1) ∧ w'.cell? ⟨w.heap.size, 2, none⟩ = some (.int .i64 x2) ∧ w'.cell? ⟨w.heap.size, 3, none⟩ = some (.int .i64 x3)) (first | exact bxc HX.out | go_keep) (first
      | (go_at_call 78; (with_reducible refine (succInts_any x0 x1 x2 x3 _ G0.out G1.out G2.out G3.out).mono ?_); rintro e w2 ⟨p2, n2, c2, rfl, ho, hb⟩; have HO2 := Lib.hid ho; have hn2 : n2 ≤ 4 := Nat.le_of_eq ho.len.symm; replace HB := Lib.hid (below_on HB.out hb); replace HX := Lib.hid (HX.out.below hb); replace HY := Lib.hid (HY.out.below hb); replace HH := Lib.hid (HH.out.below hb); clear ho hb)
      | (go_at_call 77; (with_reducible refine (ringMark_any xs hR _ x0 G0.out _ _ _ [106, x0, x1, x2] _ HH.out HO2.out.rd (by omega)).mono ?_); rintro e w3 ⟨rfl, hb⟩; rw [HG.out, HMM.out]; replace HB := Lib.hid (below_on HB.out hb); replace HX := Lib.hid (HX.out.below hb); replace HY := Lib.hid (HY.out.below hb); replace HH := Lib.hid (HH.out.below hb); clear hb))
    clear cc0 cc1 cc2 cc3
    all_goals
      obtain ⟨cc0, cc1, cc2, cc3⟩ := bxc HX.out
      obtain ⟨q0, q1, q2, q3⟩ := bxc HY.out
      have f0 := HY.out.free 0
      have f1 := HY.out.free 1
      have f2 := HY.out.free 2
      have f3 := HY.out.free 3
      go_wp2_with fail
      exact bodyPost_ret (v := .tuple #[.agg #[.int .i64 0, .int .i64 0, .int .i64 0, .int .i64 0], .bool false]) (by simp [results, Try.results72, go_sem, q0, q1, q2, q3]) rfl ⟨rfl, ((((HB.out).setCell (p := ⟨w.heap.size + 1, 0, none⟩) (by simp) _).setCell (p := ⟨w.heap.size + 1, 1, none⟩) (by simp) _).setCell (p := ⟨w.heap.size + 1, 2, none⟩) (by simp) _).setCell (p := ⟨w.heap.size + 1, 3, none⟩) (by simp) _⟩
  have HG : Hid ((ring xs x0).isSome = true) := Lib.hid (by rw [ha]; rfl)
  rcases hb' : ring xs x1 with _ | b'
  · have hM' := (mkd_no (xs := xs) (ok_none1 hb')).symm.trans hM
    cases hM'
    have HG1 : Hid ((ring xs x1).isSome = false) := Lib.hid (by rw [hb']; rfl)
    clear hM ha hm hb'
    go_enter Try.func72, Try.ntmps72
    go_wp2_with fail
    generalize ((w.alloc (.cells #[.int .i64 x0, .int .i64 x1, .int .i64 x2, .int .i64 x3] 76)).alloc (.cells #[.int .i64 0, .int .i64 0, .int .i64 0, .int .i64 0] 76)) = V at HX HY HB ⊢
    refine (ringOf_any p n c xs hR _ (HK.out.below HB.out)).mono ?_
    rintro e w1 ⟨rfl, hh, hb⟩
    have HH : Hid (Holds xs V.heap.size w1) := Lib.hid hh
    replace HB := Lib.hid (below_on HB.out hb); replace HX := Lib.hid (HX.out.below hb); replace HY := Lib.hid (HY.out.below hb)
    clear hb hh
    obtain ⟨cc0, cc1, cc2, cc3⟩ := bxc HX.out
    go_wp2_with fail
    replace HB := Lib.hid (drewB HB.out)
    replace HX := Lib.hid HX.out.drew1
    replace HY := Lib.hid HY.out.drew1
    replace HH := Lib.hid (HH.out.drewN 1)
    go_region_held3 (fun w' => w'.cell? ⟨w.heap.size, 0, none⟩ = some (.int .i64 x0) ∧ w'.cell? ⟨w.heap.size, 1, none⟩ = some (.int .i64 x1) ∧ w'.cell? ⟨w.heap.size, 2, none⟩ = some (.int .i64 x2) ∧ w'.cell? ⟨w.heap.size, 3, none⟩ = some (.int .i64 x3)) (first | exact bxc HX.out | go_keep) (first
      | (go_at_call 78; (with_reducible refine (succInts_any x0 x1 x2 x3 _ G0.out G1.out G2.out G3.out).mono ?_); rintro e w2 ⟨p2, n2, c2, rfl, ho, hb⟩; have HO2 := Lib.hid ho; have hn2 : n2 ≤ 4 := Nat.le_of_eq ho.len.symm; replace HB := Lib.hid (below_on HB.out hb); replace HX := Lib.hid (HX.out.below hb); replace HY := Lib.hid (HY.out.below hb); replace HH := Lib.hid (HH.out.below hb); clear ho hb)
      | (go_at_call 77; (with_reducible refine (ringMark_any xs hR _ x0 G0.out _ _ _ [106, x0, x1, x2] _ HH.out HO2.out.rd (by omega)).mono ?_); rintro e w3 ⟨rfl, hb⟩; rw [HG.out, HMM.out]; replace HB := Lib.hid (below_on HB.out hb); replace HX := Lib.hid (HX.out.below hb); replace HY := Lib.hid (HY.out.below hb); replace HH := Lib.hid (HH.out.below hb); clear hb))
    clear cc0 cc1 cc2 cc3
    all_goals
      obtain ⟨cc0, cc1, cc2, cc3⟩ := bxc HX.out
      go_wp2_with fail
      refine (has_any xs _ x1 G1.out _ HH.out).mono ?_
      rintro e w4 ⟨rfl, hb⟩
      rw [HG1.out]
      replace HB := Lib.hid (below_on HB.out hb); replace HX := Lib.hid (HX.out.below hb); replace HY := Lib.hid (HY.out.below hb); replace HH := Lib.hid (HH.out.below hb)
      clear hb cc0 cc1 cc2 cc3
      obtain ⟨cc0, cc1, cc2, cc3⟩ := bxc HX.out
      obtain ⟨q0, q1, q2, q3⟩ := bxc HY.out
      have f0 := HY.out.free 0
      have f1 := HY.out.free 1
      have f2 := HY.out.free 2
      have f3 := HY.out.free 3
      go_wp2_with fail
      exact bodyPost_ret (v := .tuple #[.agg #[.int .i64 0, .int .i64 0, .int .i64 0, .int .i64 0], .bool false]) (by simp [results, Try.results72, go_sem, q0, q1, q2, q3]) rfl ⟨rfl, ((((HB.out).setCell (p := ⟨w.heap.size + 1, 0, none⟩) (by simp) _).setCell (p := ⟨w.heap.size + 1, 1, none⟩) (by simp) _).setCell (p := ⟨w.heap.size + 1, 2, none⟩) (by simp) _).setCell (p := ⟨w.heap.size + 1, 3, none⟩) (by simp) _⟩
  have HG1 : Hid ((ring xs x1).isSome = true) := Lib.hid (by rw [hb']; rfl)
  have hok := ok_some (x2 := x2) ha hb'
  have HA := Lib.hid ha
  have HB' := Lib.hid hb'
  obtain ⟨a0, a1, a2, a3, a4⟩ := a
  obtain ⟨b0, b1, b2, b3, b4⟩ := b'
  dsimp only at hok
  by_cases he : x0 = x1
  · have hM' := (mkd_no (xs := xs) (by rw [hok, decide_eq_false (fun h => h he)]; rfl)).symm.trans hM
    cases hM'
    clear hM hok ha hb' hm
    subst he
    go_enter Try.func72, Try.ntmps72
    go_wp2_with fail
    generalize ((w.alloc (.cells #[.int .i64 x0, .int .i64 x0, .int .i64 x2, .int .i64 x3] 76)).alloc (.cells #[.int .i64 0, .int .i64 0, .int .i64 0, .int .i64 0] 76)) = V at HX HY HB ⊢
    refine (ringOf_any p n c xs hR _ (HK.out.below HB.out)).mono ?_
    rintro e w1 ⟨rfl, hh, hb⟩
    have HH : Hid (Holds xs V.heap.size w1) := Lib.hid hh
    replace HB := Lib.hid (below_on HB.out hb); replace HX := Lib.hid (HX.out.below hb); replace HY := Lib.hid (HY.out.below hb)
    clear hb hh
    obtain ⟨cc0, cc1, cc2, cc3⟩ := bxc HX.out
    go_wp2_with fail
    replace HB := Lib.hid (drewB HB.out)
    replace HX := Lib.hid HX.out.drew1
    replace HY := Lib.hid HY.out.drew1
    replace HH := Lib.hid (HH.out.drewN 1)
    go_region_held3 (fun w' => w'.cell? ⟨w.heap.size, 0, none⟩ = some (.int .i64 x0) ∧ w'.cell? ⟨w.heap.size, 1, none⟩ = some (.int .i64 x0) ∧ w'.cell? ⟨w.heap.size, 2, none⟩ = some (.int .i64 x2) ∧ w'.cell? ⟨w.heap.size, 3, none⟩ = some (.int .i64 x3)) (first | exact bxc HX.out | go_keep) (first
      | (go_at_call 78; (with_reducible refine (succInts_any x0 x0 x2 x3 _ G0.out G1.out G2.out G3.out).mono ?_); rintro e w2 ⟨p2, n2, c2, rfl, ho, hb⟩; have HO2 := Lib.hid ho; have hn2 : n2 ≤ 4 := Nat.le_of_eq ho.len.symm; replace HB := Lib.hid (below_on HB.out hb); replace HX := Lib.hid (HX.out.below hb); replace HY := Lib.hid (HY.out.below hb); replace HH := Lib.hid (HH.out.below hb); clear ho hb)
      | (go_at_call 77; (with_reducible refine (ringMark_any xs hR _ x0 G0.out _ _ _ [106, x0, x0, x2] _ HH.out HO2.out.rd (by omega)).mono ?_); rintro e w3 ⟨rfl, hb⟩; rw [HG.out, HMM.out]; replace HB := Lib.hid (below_on HB.out hb); replace HX := Lib.hid (HX.out.below hb); replace HY := Lib.hid (HY.out.below hb); replace HH := Lib.hid (HH.out.below hb); clear hb))
    clear cc0 cc1 cc2 cc3
    all_goals
      obtain ⟨cc0, cc1, cc2, cc3⟩ := bxc HX.out
      go_wp2_with fail
      refine (has_any xs _ x0 G1.out _ HH.out).mono ?_
      rintro e w4 ⟨rfl, hb⟩
      rw [HG1.out]
      replace HB := Lib.hid (below_on HB.out hb); replace HX := Lib.hid (HX.out.below hb); replace HY := Lib.hid (HY.out.below hb); replace HH := Lib.hid (HH.out.below hb)
      clear hb cc0 cc1 cc2 cc3
      obtain ⟨cc0, cc1, cc2, cc3⟩ := bxc HX.out
      obtain ⟨q0, q1, q2, q3⟩ := bxc HY.out
      have f0 := HY.out.free 0
      have f1 := HY.out.free 1
      have f2 := HY.out.free 2
      have f3 := HY.out.free 3
      go_wp2_with fail
      exact bodyPost_ret (v := .tuple #[.agg #[.int .i64 0, .int .i64 0, .int .i64 0, .int .i64 0], .bool false]) (by simp [results, Try.results72, go_sem, q0, q1, q2, q3]) rfl ⟨rfl, ((((HB.out).setCell (p := ⟨w.heap.size + 1, 0, none⟩) (by simp) _).setCell (p := ⟨w.heap.size + 1, 1, none⟩) (by simp) _).setCell (p := ⟨w.heap.size + 1, 2, none⟩) (by simp) _).setCell (p := ⟨w.heap.size + 1, 3, none⟩) (by simp) _⟩
  have e1 : (x0 == x1) = false := by simpa using he
  by_cases ho : a1 = b1
  rotate_left
  · have hM' := (mkd_no (xs := xs) (by rw [hok, decide_eq_false ho]; simp)).symm.trans hM
    cases hM'
    have e2 : (a1 != b1) = true := by simpa using ho
    have e3 : (a1 == b1) = false := by simpa using ho
    clear hM hok ha hb' hm he ho
    go_enter Try.func72, Try.ntmps72
    go_wp2_with fail
    generalize ((w.alloc (.cells #[.int .i64 x0, .int .i64 x1, .int .i64 x2, .int .i64 x3] 76)).alloc (.cells #[.int .i64 0, .int .i64 0, .int .i64 0, .int .i64 0] 76)) = V at HX HY HB ⊢
    refine (ringOf_any p n c xs hR _ (HK.out.below HB.out)).mono ?_
    rintro e w1 ⟨rfl, hh, hb⟩
    have HH : Hid (Holds xs V.heap.size w1) := Lib.hid hh
    replace HB := Lib.hid (below_on HB.out hb); replace HX := Lib.hid (HX.out.below hb); replace HY := Lib.hid (HY.out.below hb)
    clear hb hh
    obtain ⟨cc0, cc1, cc2, cc3⟩ := bxc HX.out
    go_wp2_with fail
    replace HB := Lib.hid (drewB HB.out)
    replace HX := Lib.hid HX.out.drew1
    replace HY := Lib.hid HY.out.drew1
    replace HH := Lib.hid (HH.out.drewN 1)
    go_region_held3 (fun w' => w'.cell? ⟨w.heap.size, 0, none⟩ = some (.int .i64 x0) ∧ w'.cell? ⟨w.heap.size, 1, none⟩ = some (.int .i64 x1) ∧ w'.cell? ⟨w.heap.size, 2, none⟩ = some (.int .i64 x2) ∧ w'.cell? ⟨w.heap.size, 3, none⟩ = some (.int .i64 x3)) (first | exact bxc HX.out | go_keep) (first
      | (go_at_call 78; (with_reducible refine (succInts_any x0 x1 x2 x3 _ G0.out G1.out G2.out G3.out).mono ?_); rintro e w2 ⟨p2, n2, c2, rfl, ho, hb⟩; have HO2 := Lib.hid ho; have hn2 : n2 ≤ 4 := Nat.le_of_eq ho.len.symm; replace HB := Lib.hid (below_on HB.out hb); replace HX := Lib.hid (HX.out.below hb); replace HY := Lib.hid (HY.out.below hb); replace HH := Lib.hid (HH.out.below hb); clear ho hb)
      | (go_at_call 77; (with_reducible refine (ringMark_any xs hR _ x0 G0.out _ _ _ [106, x0, x1, x2] _ HH.out HO2.out.rd (by omega)).mono ?_); rintro e w3 ⟨rfl, hb⟩; rw [HG.out, HMM.out]; replace HB := Lib.hid (below_on HB.out hb); replace HX := Lib.hid (HX.out.below hb); replace HY := Lib.hid (HY.out.below hb); replace HH := Lib.hid (HH.out.below hb); clear hb))
    clear cc0 cc1 cc2 cc3
    all_goals
      obtain ⟨cc0, cc1, cc2, cc3⟩ := bxc HX.out
      go_wp2_with fail
      refine (has_any xs _ x1 G1.out _ HH.out).mono ?_
      rintro e w4 ⟨rfl, hb⟩
      rw [HG1.out]
      replace HB := Lib.hid (below_on HB.out hb); replace HX := Lib.hid (HX.out.below hb); replace HY := Lib.hid (HY.out.below hb); replace HH := Lib.hid (HH.out.below hb)
      clear hb cc0 cc1 cc2 cc3
      have l0 := looks HH.out G0.out HA.out
      have l1 := looks HH.out G1.out HB'.out
      simp only [kv] at l0 l1
      have lf0 := keyField a0 a1 a2 a3 a4 w4
      have lf1 := keyField b0 b1 b2 b3 b4 w4
      obtain ⟨cc0, cc1, cc2, cc3⟩ := bxc HX.out
      obtain ⟨q0, q1, q2, q3⟩ := bxc HY.out
      have f0 := HY.out.free 0
      have f1 := HY.out.free 1
      have f2 := HY.out.free 2
      have f3 := HY.out.free 3
      go_wp2_with fail
      exact bodyPost_ret (v := .tuple #[.agg #[.int .i64 0, .int .i64 0, .int .i64 0, .int .i64 0], .bool false]) (by simp [results, Try.results72, go_sem, q0, q1, q2, q3]) rfl ⟨rfl, ((((HB.out).setCell (p := ⟨w.heap.size + 1, 0, none⟩) (by simp) _).setCell (p := ⟨w.heap.size + 1, 1, none⟩) (by simp) _).setCell (p := ⟨w.heap.size + 1, 2, none⟩) (by simp) _).setCell (p := ⟨w.heap.size + 1, 3, none⟩) (by simp) _⟩
  have HA1 : Hid (ring xs x0 = some (a0, a1, a2, a3, a4)) := Lib.hid HA.out
  clear HA
  subst ho
  obtain ⟨τ, hτ⟩ : ∃ τ, inB x2 0 10000 = τ := ⟨_, rfl⟩
  have HT := Lib.hid hτ
  cases τ
  · have hM' := (mkd_no (xs := xs) (by rw [hok, hτ]; simp)).symm.trans hM
    cases hM'
    clear hM hok ha hb' hm he hτ
    go_enter Try.func72, Try.ntmps72
    go_wp2_with fail
    generalize ((w.alloc (.cells #[.int .i64 x0, .int .i64 x1, .int .i64 x2, .int .i64 x3] 76)).alloc (.cells #[.int .i64 0, .int .i64 0, .int .i64 0, .int .i64 0] 76)) = V at HX HY HB ⊢
    refine (ringOf_any p n c xs hR _ (HK.out.below HB.out)).mono ?_
    rintro e w1 ⟨rfl, hh, hb⟩
    have HH : Hid (Holds xs V.heap.size w1) := Lib.hid hh
    replace HB := Lib.hid (below_on HB.out hb); replace HX := Lib.hid (HX.out.below hb); replace HY := Lib.hid (HY.out.below hb)
    clear hb hh
    obtain ⟨cc0, cc1, cc2, cc3⟩ := bxc HX.out
    go_wp2_with fail
    replace HB := Lib.hid (drewB HB.out)
    replace HX := Lib.hid HX.out.drew1
    replace HY := Lib.hid HY.out.drew1
    replace HH := Lib.hid (HH.out.drewN 1)
    go_region_held3 (fun w' => w'.cell? ⟨w.heap.size, 0, none⟩ = some (.int .i64 x0) ∧ w'.cell? ⟨w.heap.size, 1, none⟩ = some (.int .i64 x1) ∧ w'.cell? ⟨w.heap.size, 2, none⟩ = some (.int .i64 x2) ∧ w'.cell? ⟨w.heap.size, 3, none⟩ = some (.int .i64 x3)) (first | exact bxc HX.out | go_keep) (first
      | (go_at_call 78; (with_reducible refine (succInts_any x0 x1 x2 x3 _ G0.out G1.out G2.out G3.out).mono ?_); rintro e w2 ⟨p2, n2, c2, rfl, ho, hb⟩; have HO2 := Lib.hid ho; have hn2 : n2 ≤ 4 := Nat.le_of_eq ho.len.symm; replace HB := Lib.hid (below_on HB.out hb); replace HX := Lib.hid (HX.out.below hb); replace HY := Lib.hid (HY.out.below hb); replace HH := Lib.hid (HH.out.below hb); clear ho hb)
      | (go_at_call 77; (with_reducible refine (ringMark_any xs hR _ x0 G0.out _ _ _ [106, x0, x1, x2] _ HH.out HO2.out.rd (by omega)).mono ?_); rintro e w3 ⟨rfl, hb⟩; rw [HG.out, HMM.out]; replace HB := Lib.hid (below_on HB.out hb); replace HX := Lib.hid (HX.out.below hb); replace HY := Lib.hid (HY.out.below hb); replace HH := Lib.hid (HH.out.below hb); clear hb))
    clear cc0 cc1 cc2 cc3
    all_goals
      obtain ⟨cc0, cc1, cc2, cc3⟩ := bxc HX.out
      go_wp2_with fail
      refine (has_any xs _ x1 G1.out _ HH.out).mono ?_
      rintro e w4 ⟨rfl, hb⟩
      rw [HG1.out]
      replace HB := Lib.hid (below_on HB.out hb); replace HX := Lib.hid (HX.out.below hb); replace HY := Lib.hid (HY.out.below hb); replace HH := Lib.hid (HH.out.below hb)
      clear hb cc0 cc1 cc2 cc3
      have l0 := looks HH.out G0.out HA1.out
      have l1 := looks HH.out G1.out HB'.out
      simp only [kv] at l0 l1
      have lf0 := keyField a0 a1 a2 a3 a4 w4
      have lf1 := keyField b0 a1 b2 b3 b4 w4
      obtain ⟨cc0, cc1, cc2, cc3⟩ := bxc HX.out
      go_wp2_with fail
      replace HB := Lib.hid (HB.out.alloc HB.out.size (.cells #[.int .i64 x2] 3))
      replace HX := Lib.hid (HX.out.alloc (.cells #[.int .i64 x2] 3))
      replace HY := Lib.hid (HY.out.alloc (.cells #[.int .i64 x2] 3))
      refine (time1_any _ x2 _ (by go_simp)).mono ?_
      rintro e w5 ⟨rfl, rfl⟩
      rw [HT.out]
      clear cc0 cc1 cc2 cc3 l0 l1 lf0 lf1
      obtain ⟨cc0, cc1, cc2, cc3⟩ := bxc HX.out
      obtain ⟨q0, q1, q2, q3⟩ := bxc HY.out
      have f0 := HY.out.free 0
      have f1 := HY.out.free 1
      have f2 := HY.out.free 2
      have f3 := HY.out.free 3
      go_wp2_with fail
      exact bodyPost_ret (v := .tuple #[.agg #[.int .i64 0, .int .i64 0, .int .i64 0, .int .i64 0], .bool false]) (by simp [results, Try.results72, go_sem, q0, q1, q2, q3]) rfl ⟨rfl, ((((HB.out).setCell (p := ⟨w.heap.size + 1, 0, none⟩) (by simp) _).setCell (p := ⟨w.heap.size + 1, 1, none⟩) (by simp) _).setCell (p := ⟨w.heap.size + 1, 2, none⟩) (by simp) _).setCell (p := ⟨w.heap.size + 1, 3, none⟩) (by simp) _⟩
  · have hM' := (mkd_yes (xs := xs) (by rw [hok, hτ, decide_eq_true he]; simp)).symm.trans hM
    rw [hm] at hM'
    cases hM'
    clear hM hok ha hb' hm he hτ
    go_enter Try.func72, Try.ntmps72
    go_wp2_with fail
    generalize ((w.alloc (.cells #[.int .i64 x0, .int .i64 x1, .int .i64 x2, .int .i64 x3] 76)).alloc (.cells #[.int .i64 0, .int .i64 0, .int .i64 0, .int .i64 0] 76)) = V at HX HY HB ⊢
    refine (ringOf_any p n c xs hR _ (HK.out.below HB.out)).mono ?_
    rintro e w1 ⟨rfl, hh, hb⟩
    have HH : Hid (Holds xs V.heap.size w1) := Lib.hid hh
    replace HB := Lib.hid (below_on HB.out hb); replace HX := Lib.hid (HX.out.below hb); replace HY := Lib.hid (HY.out.below hb)
    clear hb hh
    obtain ⟨cc0, cc1, cc2, cc3⟩ := bxc HX.out
    go_wp2_with fail
    replace HB := Lib.hid (drewB HB.out)
    replace HX := Lib.hid HX.out.drew1
    replace HY := Lib.hid HY.out.drew1
    replace HH := Lib.hid (HH.out.drewN 1)
    go_region_held3 (fun w' => w'.cell? ⟨w.heap.size, 0, none⟩ = some (.int .i64 x0) ∧ w'.cell? ⟨w.heap.size, 1, none⟩ = some (.int .i64 x1) ∧ w'.cell? ⟨w.heap.size, 2, none⟩ = some (.int .i64 x2) ∧ w'.cell? ⟨w.heap.size, 3, none⟩ = some (.int .i64 x3)) (first | exact bxc HX.out | go_keep) (first
      | (go_at_call 78; (with_reducible refine (succInts_any x0 x1 x2 x3 _ G0.out G1.out G2.out G3.out).mono ?_); rintro e w2 ⟨p2, n2, c2, rfl, ho, hb⟩; have HO2 := Lib.hid ho; have hn2 : n2 ≤ 4 := Nat.le_of_eq ho.len.symm; replace HB := Lib.hid (below_on HB.out hb); replace HX := Lib.hid (HX.out.below hb); replace HY := Lib.hid (HY.out.below hb); replace HH := Lib.hid (HH.out.below hb); clear ho hb)
      | (go_at_call 77; (with_reducible refine (ringMark_any xs hR _ x0 G0.out _ _ _ [106, x0, x1, x2] _ HH.out HO2.out.rd (by omega)).mono ?_); rintro e w3 ⟨rfl, hb⟩; rw [HG.out, HMM.out]; replace HB := Lib.hid (below_on HB.out hb); replace HX := Lib.hid (HX.out.below hb); replace HY := Lib.hid (HY.out.below hb); replace HH := Lib.hid (HH.out.below hb); clear hb))
    clear cc0 cc1 cc2 cc3
    all_goals
      obtain ⟨cc0, cc1, cc2, cc3⟩ := bxc HX.out
      go_wp2_with fail
      refine (has_any xs _ x1 G1.out _ HH.out).mono ?_
      rintro e w4 ⟨rfl, hb⟩
      rw [HG1.out]
      replace HB := Lib.hid (below_on HB.out hb); replace HX := Lib.hid (HX.out.below hb); replace HY := Lib.hid (HY.out.below hb); replace HH := Lib.hid (HH.out.below hb)
      clear hb cc0 cc1 cc2 cc3
      have l0 := looks HH.out G0.out HA1.out
      have l1 := looks HH.out G1.out HB'.out
      simp only [kv] at l0 l1
      have lf0 := keyField a0 a1 a2 a3 a4 w4
      have lf1 := keyField b0 a1 b2 b3 b4 w4
      obtain ⟨cc0, cc1, cc2, cc3⟩ := bxc HX.out
      go_wp2_with fail
      replace HB := Lib.hid (HB.out.alloc HB.out.size (.cells #[.int .i64 x2] 3))
      replace HX := Lib.hid (HX.out.alloc (.cells #[.int .i64 x2] 3))
      replace HY := Lib.hid (HY.out.alloc (.cells #[.int .i64 x2] 3))
      refine (time1_any _ x2 _ (by go_simp)).mono ?_
      rintro e w5 ⟨rfl, rfl⟩
      rw [HT.out]
      clear cc0 cc1 cc2 cc3 l0 l1 lf0 lf1
      obtain ⟨cc0, cc1, cc2, cc3⟩ := bxc HX.out
      obtain ⟨q0, q1, q2, q3⟩ := bxc HY.out
      have fx := HX.out.free 3
      have f0 := HY.out.free 0
      have f1 := HY.out.free 1
      have f2 := HY.out.free 2
      have f3 := HY.out.free 3
      go_wp2_with fail
      exact bodyPost_ret (v := .tuple #[.agg #[.int .i64 x0, .int .i64 x1, .int .i64 x2, .int .i64 y3], .bool true]) (by simp [results, Try.results72, go_sem, q0, q1, q2, q3]) rfl ⟨rfl, ((((HB.out.setCell (p := ⟨w.heap.size, 3, none⟩) (Nat.le_refl _) _).setCell (p := ⟨w.heap.size + 1, 0, none⟩) (by simp) _).setCell (p := ⟨w.heap.size + 1, 1, none⟩) (by simp) _).setCell (p := ⟨w.heap.size + 1, 2, none⟩) (by simp) _).setCell (p := ⟨w.heap.size + 1, 3, none⟩) (by simp) _⟩
end Go.Proofs.Ytlipcnaimpplpaa.KSuccession
