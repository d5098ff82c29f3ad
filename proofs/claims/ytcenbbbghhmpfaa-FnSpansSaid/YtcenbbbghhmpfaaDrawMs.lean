/- The reference's draw of two spans. -/
import Derived.Test.YtcenbbbghhmpfaaDrawSp
import Derived.Deep.QuietTactic
import Derived.BigQuiet
namespace Go.Proofs.Ytcenbbbghhmpfaa.Cur
open Go.ChangeShapes Go.WideShapes Go.ChangeAt Go.RowKit Sl St Jn SlSpan Jo

/-- the world behind the two results' boxes -/
def bx2 (w : World) : World := (w.alloc (.cells #[.int .i64 0, .int .i64 0] 28)).alloc (.cells #[.int .i64 0, .int .i64 0] 28)
theorem bx2_def (w : World) : (w.alloc (.cells #[.int .i64 0, .int .i64 0] 28)).alloc (.cells #[.int .i64 0, .int .i64 0] 28) = bx2 w := rfl
theorem bx2_at (w : World) : Bx (bx2 w) w.heap.size 28 #[.int .i64 0, .int .i64 0] ∧ Bx (bx2 w) (w.heap.size + 1) 28 #[.int .i64 0, .int .i64 0] ∧ Below w.heap.size w (bx2 w) ∧ (bx2 w).heap.size = w.heap.size + 2 := by
  have b0 := (Bx.new w 28 #[.int .i64 0, .int .i64 0]).alloc (.cells #[.int .i64 0, .int .i64 0] 28)
  have b1 := Bx.new (w.alloc (.cells #[.int .i64 0, .int .i64 0] 28)) 28 #[.int .i64 0, .int .i64 0]
  rw [World.size_alloc] at b1
  exact ⟨b0, b1, ((Below.refl w.heap.size w).alloc (Nat.le_refl _) _).alloc (by simp) _, by simp [bx2]⟩
/-- two boxes stored whole, one after the other -/
theorem stored2 {w W : World} {X Y : Nat} {T : TypeId} {a b c d : Value} (hX : Bx W X T #[a, b]) (hY : Bx W Y T #[c, d]) (hB : Below w.heap.size w W) (hne : X ≠ Y) (h1 : w.heap.size ≤ X) (h2 : w.heap.size ≤ Y) (x y x' y' : Value) :
    ((((W.setCell ⟨X, 0, none⟩ x).setCell ⟨X, 1, none⟩ y).setCell ⟨Y, 0, none⟩ x').setCell ⟨Y, 1, none⟩ y').cell? ⟨X, 0, none⟩ = some x ∧ ((((W.setCell ⟨X, 0, none⟩ x).setCell ⟨X, 1, none⟩ y).setCell ⟨Y, 0, none⟩ x').setCell ⟨Y, 1, none⟩ y').cell? ⟨X, 1, none⟩ = some y ∧ ((((W.setCell ⟨X, 0, none⟩ x).setCell ⟨X, 1, none⟩ y).setCell ⟨Y, 0, none⟩ x').setCell ⟨Y, 1, none⟩ y').cell? ⟨Y, 0, none⟩ = some x' ∧ ((((W.setCell ⟨X, 0, none⟩ x).setCell ⟨X, 1, none⟩ y).setCell ⟨Y, 0, none⟩ x').setCell ⟨Y, 1, none⟩ y').cell? ⟨Y, 1, none⟩ = some y' ∧ Below w.heap.size w ((((W.setCell ⟨X, 0, none⟩ x).setCell ⟨X, 1, none⟩ y).setCell ⟨Y, 0, none⟩ x').setCell ⟨Y, 1, none⟩ y') := by
  have kX := (((hX.set_ 0 x).set_ 1 y).far (q := ⟨Y, 0, none⟩) hne x').far (q := ⟨Y, 1, none⟩) hne y'
  have kY := (((hY.far (q := ⟨X, 0, none⟩) (Ne.symm hne) x).far (q := ⟨X, 1, none⟩) (Ne.symm hne) y).set_ 0 x').set_ 1 y'
  exact ⟨kX.cell rfl, kX.cell rfl, kY.cell rfl, kY.cell rfl, (((hB.setCell (p := ⟨X, 0, none⟩) h1 x).setCell (p := ⟨X, 1, none⟩) h1 y).setCell (p := ⟨Y, 0, none⟩) h2 x').setCell (p := ⟨Y, 1, none⟩) h2 y'⟩
set_option maxRecDepth 100000 in
set_option maxHeartbeats 4000000 in
theorem drawMeetSpans_any (v : Value) (n : Nat) (w : World) (hc : Code v n w) : Calls Try.prog 24 #[v] w fun e w' => ∃ a b c d : Int, e = .returned (.tuple #[.agg #[.int .i64 a, .int .i64 b], .agg #[.int .i64 c, .int .i64 d]]) ∧ Below w.heap.size w w' := by
  obtain ⟨b0, b1, bb, bs⟩ := bx2_at w
  have HC := Lib.hid (hc.on bb)
  have HX := Lib.hid b0
  have HY := Lib.hid b1
  have HB := Lib.hid bb
  clear b0 b1 bb hc
  go_enter Try.func24, Try.ntmps24
  go_wp2_with fail
  rw [bx2_def]
  refine (new_any v n _ HC.out).mono ?_
  rintro e w1 ⟨rfl, hc1, hb1⟩
  have HC1 := Lib.hid hc1
  have HX1 := Lib.hid (HX.out.below hb1)
  have HY1 := Lib.hid (HY.out.below hb1)
  have HB1 := Lib.hid (below_on HB.out hb1)
  rw [bs] at HC1 ⊢
  clear hc1 hb1
  go_wp2_with fail
  refine (any4_any _ _ HC1.out).mono ?_
  rintro e w2 ⟨x, y, rfl, hx, hy, hc2, hg2⟩
  have HC2 := Lib.hid hc2
  have HX2 := Lib.hid (HX1.out.grown hg2 (by simp))
  have HY2 := Lib.hid (HY1.out.grown hg2 (by simp))
  have HB2 := Lib.hid (HB1.out.grown hg2 HB1.out.size (fun _ h => by cases h; omega))
  clear hc2 hg2 hx hy
  have hl0 := HX2.out.lt
  have hl1 := HY2.out.lt
  have HZ := Lib.hid (Bx.new w2 28 #[.int .i64 x, .int .i64 y]).drew1
  have HCa := Lib.hid (HC2.out.on (below_alloc w2 (.cells #[.int .i64 x, .int .i64 y] 28)))
  have HCd : Hid (Cur (w.heap.size + 2) (w2.alloc (.cells #[.int .i64 x, .int .i64 y] 28)).drew) := Lib.hid (HCa.out.keep (only_drewN (only_refl _ none) 1) (fun _ h => by cases h))
  have HXa := Lib.hid (HX2.out.alloc (.cells #[.int .i64 x, .int .i64 y] 28)).drew1
  have HYa := Lib.hid (HY2.out.alloc (.cells #[.int .i64 x, .int .i64 y] 28)).drew1
  have HBa : Hid (Below w.heap.size w (w2.alloc (.cells #[.int .i64 x, .int .i64 y] 28)).drew) := Lib.hid (below_drewN (HB2.out.alloc HB2.out.size (.cells #[.int .i64 x, .int .i64 y] 28)) 1)
  have hlc := HC2.out.lt
  clear HCa
  obtain ⟨z0, z1, _, _⟩ := HZ.out.two
  go_wp2_with fail
  go_region_with (go_at_call 70; refine (any4_any _ _ HCd.out).mono ?_; rintro e w3 ⟨x', y', rfl, _, _, hc3, hg3⟩; obtain ⟨z0', z1', _, _⟩ := (HZ.out.grown hg3 (by simp; omega)).two; obtain ⟨u0, u1, u2, u3⟩ := (HXa.out.grown hg3 (by simp)).two; obtain ⟨v0, v1, v2, v3⟩ := (HYa.out.grown hg3 (by simp)).two; have HB3 := Lib.hid (HBa.out.grown hg3 HBa.out.size (fun _ h => by cases h; omega)); have HX3 := Lib.hid (HXa.out.grown hg3 (by simp)); have HY3 := Lib.hid (HYa.out.grown hg3 (by simp)); clear hc3 hg3)
  all_goals first
    | (obtain ⟨r0, r1, r2, r3, hbF⟩ := stored2 HX3.out HY3.out HB3.out (by omega) (Nat.le_refl _) (by omega) (.int .i64 x) (.int .i64 y) (.int .i64 x') (.int .i64 y'); have HF := Lib.hid hbF; clear hbF; go_wp2_with fail; exact bodyPost_ret (v := .tuple #[.agg #[.int .i64 x, .int .i64 y], .agg #[.int .i64 x', .int .i64 y']]) (by simp [results, Try.results24, go_sem, r0, r1, r2, r3]) rfl ⟨_, _, _, _, rfl, HF.out⟩)
    | (obtain ⟨r0, r1, r2, r3, hbF⟩ := stored2 HY3.out HX3.out HB3.out (by omega) (by omega) (Nat.le_refl _) (.int .i64 x') (.int .i64 y') (.int .i64 x) (.int .i64 y); have HF := Lib.hid hbF; clear hbF; go_wp2_with fail; exact bodyPost_ret (v := .tuple #[.agg #[.int .i64 x, .int .i64 y], .agg #[.int .i64 x', .int .i64 y']]) (by simp [results, Try.results24, go_sem, r0, r1, r2, r3]) rfl ⟨_, _, _, _, rfl, HF.out⟩)
end Go.Proofs.Ytcenbbbghhmpfaa.Cur
