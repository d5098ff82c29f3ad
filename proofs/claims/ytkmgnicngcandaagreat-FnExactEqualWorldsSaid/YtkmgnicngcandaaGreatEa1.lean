/- Items and archives compared, in the program. -/
import Derived.Test.YtkmgnicngcandaaGreatEst
import Derived.Test.YtkmgnicngcandaaGreatDe
import Derived.Test.YtkmgnicngcandaaGreatDpArchive
import Derived.Laws.StructEq
import Derived.LoopTactic
import Derived.Outline
namespace Go.Proofs.YtkmgnicngcandaaGreat.Ea1
open Go.ChangeShapes Go.WideShapes Go.ChangeAt Go.RowKit Sl St Ed Dz Ef
noncomputable def eqDoc (a b : DpDocument.A) : Bool := De.eqD a b
noncomputable def eqG (a b : Int × Int × Int × Int × Int × Int × Int × Int × Int) : Bool := @decide (a = b) (Classical.propDecidable _)
theorem eqG_no {a b : Int × Int × Int × Int × Int × Int × Int × Int × Int} (h : ¬ a = b) : eqG a b = false := @decide_eq_false _ (Classical.propDecidable _) h
theorem eqG_yes {a b : Int × Int × Int × Int × Int × Int × Int × Int × Int} (h : a = b) : eqG a b = true := @decide_eq_true _ (Classical.propDecidable _) h
def five (b0 b1 b2 b3 b4 : Bool) : Bool := b0 && (b1 && (b2 && (b3 && b4)))
noncomputable def eqIt (a b : DpItem.A) : Bool := five (decide (a.1 = b.1)) (decide (a.2.1 = b.2.1)) (eqDoc a.2.2.1 b.2.2.1) (eqG a.2.2.2.1 b.2.2.2.1) (Est.eqS a.2.2.2.2.1 a.2.2.2.2.2 b.2.2.2.2.1 b.2.2.2.2.2)
theorem five0 {b c d e : Bool} : five false b c d e = false := rfl
theorem five1 {a c d e : Bool} : five a false c d e = false := by cases a <;> rfl
theorem five2 {a b d e : Bool} : five a b false d e = false := by cases a <;> cases b <;> rfl
theorem five3 {a b c e : Bool} : five a b c false e = false := by cases a <;> cases b <;> cases c <;> rfl
theorem five4 {a b c d : Bool} : five a b c d false = false := by cases a <;> cases b <;> cases c <;> cases d <;> rfl
set_option maxRecDepth 100000 in
set_option maxHeartbeats 16000000 in
theorem items_any (xx0 : Int) (xx1 : Int) (xx2 : Int) (lx3 : List ByteArray) (px3 : Option Addr) (nx3 cx3 : Nat) (lx4 : List Int) (px4 : Option Addr) (nx4 cx4 : Nat) (xx5 : Int) (xx6 : Int) (xx7 : Int) (xx8 : Int) (xx9 : Int) (xx10 : Int) (xx11 : Int) (xx12 : Int) (xx13 : Int) (lx14 : List DpPiece.A) (px14 : Option Addr) (nx14 cx14 : Nat) (lx15 : List DpRenewal.A) (px15 : Option Addr) (nx15 cx15 : Nat) (xy0 : Int) (xy1 : Int) (xy2 : Int) (ly3 : List ByteArray) (py3 : Option Addr) (ny3 cy3 : Nat) (ly4 : List Int) (py4 : Option Addr) (ny4 cy4 : Nat) (xy5 : Int) (xy6 : Int) (xy7 : Int) (xy8 : Int) (xy9 : Int) (xy10 : Int) (xy11 : Int) (xy12 : Int) (xy13 : Int) (ly14 : List DpPiece.A) (py14 : Option Addr) (ny14 cy14 : Nat) (ly15 : List DpRenewal.A) (py15 : Option Addr) (ny15 cy15 : Nat) {Sx3 Sx4 Sx14 Sx15 Sy3 Sy4 Sy14 Sy15 : Nat → Prop} (w : World) (hx3 : RdD str Sx3 w px3 nx3 lx3) (hx4 : RdD int Sx4 w px4 nx4 lx4) (hx14 : RdD DpPiece.E Sx14 w px14 nx14 lx14) (hx15 : RdD DpRenewal.E Sx15 w px15 nx15 lx15) (hy3 : RdD str Sy3 w py3 ny3 ly3) (hy4 : RdD int Sy4 w py4 ny4 ly4) (hy14 : RdD DpPiece.E Sy14 w py14 ny14 ly14) (hy15 : RdD DpRenewal.E Sy15 w py15 ny15 ly15) : Calls Tryz.prog 45 #[.agg #[.int .i64 xx0, .int .i64 xx1, .int .i64 xx2, .slice px3 nx3 cx3, .slice px4 nx4 cx4, .int .i64 xx5, .int .i64 xx6, .int .i64 xx7, .int .i64 xx8, .int .i64 xx9, .int .i64 xx10, .int .i64 xx11, .int .i64 xx12, .int .i64 xx13, .slice px14 nx14 cx14, .slice px15 nx15 cx15], .agg #[.int .i64 xy0, .int .i64 xy1, .int .i64 xy2, .slice py3 ny3 cy3, .slice py4 ny4 cy4, .int .i64 xy5, .int .i64 xy6, .int .i64 xy7, .int .i64 xy8, .int .i64 xy9, .int .i64 xy10, .int .i64 xy11, .int .i64 xy12, .int .i64 xy13, .slice py14 ny14 cy14, .slice py15 ny15 cy15]] w (Val (.bool (eqIt (xx0, xx1, (xx2, lx3, lx4), (xx5, xx6, xx7, xx8, xx9, xx10, xx11, xx12, xx13), (lx14, lx15)) (xy0, xy1, (xy2, ly3, ly4), (xy5, xy6, xy7, xy8, xy9, xy10, xy11, xy12, xy13), (ly14, ly15)))) w) := by
  have hb : Below w.heap.size w ((w.alloc (.cells #[.int .i64 xx0, .int .i64 xx1, .int .i64 xx2, .slice px3 nx3 cx3, .slice px4 nx4 cx4, .int .i64 xx5, .int .i64 xx6, .int .i64 xx7, .int .i64 xx8, .int .i64 xx9, .int .i64 xx10, .int .i64 xx11, .int .i64 xx12, .int .i64 xx13, .slice px14 nx14 cx14, .slice px15 nx15 cx15] 81)).alloc (.cells #[.int .i64 xy0, .int .i64 xy1, .int .i64 xy2, .slice py3 ny3 cy3, .slice py4 ny4 cy4, .int .i64 xy5, .int .i64 xy6, .int .i64 xy7, .int .i64 xy8, .int .i64 xy9, .int .i64 xy10, .int .i64 xy11, .int .i64 xy12, .int .i64 xy13, .slice py14 ny14 cy14, .slice py15 ny15 cy15] 81)) := (box1 w _).alloc (by simp) _
  have hy := Bx.new (w.alloc (.cells #[.int .i64 xx0, .int .i64 xx1, .int .i64 xx2, .slice px3 nx3 cx3, .slice px4 nx4 cx4, .int .i64 xx5, .int .i64 xx6, .int .i64 xx7, .int .i64 xx8, .int .i64 xx9, .int .i64 xx10, .int .i64 xx11, .int .i64 xx12, .int .i64 xx13, .slice px14 nx14 cx14, .slice px15 nx15 cx15] 81)) 81 #[.int .i64 xy0, .int .i64 xy1, .int .i64 xy2, .slice py3 ny3 cy3, .slice py4 ny4 cy4, .int .i64 xy5, .int .i64 xy6, .int .i64 xy7, .int .i64 xy8, .int .i64 xy9, .int .i64 xy10, .int .i64 xy11, .int .i64 xy12, .int .i64 xy13, .slice py14 ny14 cy14, .slice py15 ny15 cy15]
  rw [World.size_alloc] at hy
  have HBV := Lib.hid hb
  have HX := Lib.hid ((Bx.new w 81 #[.int .i64 xx0, .int .i64 xx1, .int .i64 xx2, .slice px3 nx3 cx3, .slice px4 nx4 cx4, .int .i64 xx5, .int .i64 xx6, .int .i64 xx7, .int .i64 xx8, .int .i64 xx9, .int .i64 xx10, .int .i64 xx11, .int .i64 xx12, .int .i64 xx13, .slice px14 nx14 cx14, .slice px15 nx15 cx15]).alloc (.cells #[.int .i64 xy0, .int .i64 xy1, .int .i64 xy2, .slice py3 ny3 cy3, .slice py4 ny4 cy4, .int .i64 xy5, .int .i64 xy6, .int .i64 xy7, .int .i64 xy8, .int .i64 xy9, .int .i64 xy10, .int .i64 xy11, .int .i64 xy12, .int .i64 xy13, .slice py14 ny14 cy14, .slice py15 ny15 cy15] 81))
  have HY := Lib.hid hy
  have Hx3 := Lib.hid (hx3.below hb)
  have Hx4 := Lib.hid (hx4.below hb)
  have Hx14 := Lib.hid (hx14.below hb)
  have Hx15 := Lib.hid (hx15.below hb)
  have Hy3 := Lib.hid (hy3.below hb)
  have Hy4 := Lib.hid (hy4.below hb)
  have Hy14 := Lib.hid (hy14.below hb)
  have Hy15 := Lib.hid (hy15.below hb)
  clear hb hy hx3 hx4 hx14 hx15 hy3 hy4 hy14 hy15
  have HB := HBV
  by_cases a0 : xx0 = xy0
  rotate_left
  · have HF : Hid (eqIt (xx0, xx1, (xx2, lx3, lx4), (xx5, xx6, xx7, xx8, xx9, xx10, xx11, xx12, xx13), (lx14, lx15)) (xy0, xy1, (xy2, ly3, ly4), (xy5, xy6, xy7, xy8, xy9, xy10, xy11, xy12, xy13), (ly14, ly15)) = false) := Lib.hid (by show five (decide (xx0 = xy0)) _ _ _ _ = false; rw [decide_eq_false a0]; exact five0)
    have e1 : (xx0 == xy0) = false := beq_eq_false_iff_ne.2 a0
    clear a0
    go_enter Tryz.func45, Tryz.ntmps45
    go_wp2_with fail
    go_ret
    exact val_of (by rw [HF.out]; first | done | rfl) HB.out
  subst a0
  by_cases a1 : xx1 = xy1
  rotate_left
  · have HF : Hid (eqIt (xx0, xx1, (xx2, lx3, lx4), (xx5, xx6, xx7, xx8, xx9, xx10, xx11, xx12, xx13), (lx14, lx15)) (xx0, xy1, (xy2, ly3, ly4), (xy5, xy6, xy7, xy8, xy9, xy10, xy11, xy12, xy13), (ly14, ly15)) = false) := Lib.hid (by show five _ (decide (xx1 = xy1)) _ _ _ = false; rw [decide_eq_false a1]; exact five1)
    have e1 : (xx1 == xy1) = false := beq_eq_false_iff_ne.2 a1
    clear a1
    go_enter Tryz.func45, Tryz.ntmps45
    go_wp2_with fail
    go_ret
    exact val_of (by rw [HF.out]; first | done | rfl) HB.out
  subst a1
  obtain ⟨β, hβ⟩ : ∃ β, De.eqD (xx2, lx3, lx4) (xy2, ly3, ly4) = β := ⟨_, rfl⟩
  obtain ⟨γ, hγ⟩ : ∃ γ, Est.eqS lx14 lx15 ly14 ly15 = γ := ⟨_, rfl⟩
  obtain ⟨δ, hδ⟩ : ∃ δ, eqG (xx5, xx6, xx7, xx8, xx9, xx10, xx11, xx12, xx13) (xy5, xy6, xy7, xy8, xy9, xy10, xy11, xy12, xy13) = δ := ⟨_, rfl⟩
  have HV : Hid (eqIt (xx0, xx1, (xx2, lx3, lx4), (xx5, xx6, xx7, xx8, xx9, xx10, xx11, xx12, xx13), (lx14, lx15)) (xx0, xx1, (xy2, ly3, ly4), (xy5, xy6, xy7, xy8, xy9, xy10, xy11, xy12, xy13), (ly14, ly15)) = five true true β δ γ) := Lib.hid (by
    show five (decide (xx0 = xx0)) (decide (xx1 = xx1)) (De.eqD (xx2, lx3, lx4) (xy2, ly3, ly4)) (eqG (xx5, xx6, xx7, xx8, xx9, xx10, xx11, xx12, xx13) (xy5, xy6, xy7, xy8, xy9, xy10, xy11, xy12, xy13)) (Est.eqS lx14 lx15 ly14 ly15) = _
    rw [show decide (xx0 = xx0) = true from decide_eq_true rfl, show decide (xx1 = xx1) = true from decide_eq_true rfl, hβ, hγ, hδ])
  have B1 := Lib.hid hβ
  have B2 := Lib.hid hγ
  have B3 := Lib.hid hδ
  clear hβ hγ hδ
  go_enter Tryz.func45, Tryz.ntmps45
  go_wp2_with fail
  generalize ((w.alloc (.cells #[.int .i64 xx0, .int .i64 xx1, .int .i64 xx2, .slice px3 nx3 cx3, .slice px4 nx4 cx4, .int .i64 xx5, .int .i64 xx6, .int .i64 xx7, .int .i64 xx8, .int .i64 xx9, .int .i64 xx10, .int .i64 xx11, .int .i64 xx12, .int .i64 xx13, .slice px14 nx14 cx14, .slice px15 nx15 cx15] 81)).alloc (.cells #[.int .i64 xx0, .int .i64 xx1, .int .i64 xy2, .slice py3 ny3 cy3, .slice py4 ny4 cy4, .int .i64 xy5, .int .i64 xy6, .int .i64 xy7, .int .i64 xy8, .int .i64 xy9, .int .i64 xy10, .int .i64 xy11, .int .i64 xy12, .int .i64 xy13, .slice py14 ny14 cy14, .slice py15 ny15 cy15] 81)) = V at HBV HB HX HY Hx3 Hx4 Hx14 Hx15 Hy3 Hy4 Hy14 Hy15 ⊢
  refine (De.eqDoc_any xx2 xy2 _ _ _ _ _ _ _ _ _ _ _ _ lx3 ly3 lx4 ly4 _ (RdD.strs SlStr.C_eq SlStr.of_eq (Hx3.out)).1 Hx4.out.ints (RdD.strs SlStr.C_eq SlStr.of_eq (Hy3.out)).1 Hy4.out.ints).mono ?_
  rintro e w1 ⟨rfl, hb⟩
  rw [B1.out]
  have HB := Lib.hid (below_on HB.out hb)
  cases β
  · clear hb
    go_wp2_with fail
    go_ret
    exact val_of (by rw [HV.out]; first | done | rfl) HB.out
  have HX1 := Lib.hid (HX.out.below hb)
  have HY1 := Lib.hid (HY.out.below hb)
  have G1 := Lib.hid (Hx14.out.below hb)
  have G2 := Lib.hid (Hx15.out.below hb)
  have G3 := Lib.hid (Hy14.out.below hb)
  have G4 := Lib.hid (Hy15.out.below hb)
  clear hb
  obtain ⟨zx0, zx1, zx2, zx3, zx4, zx5, zx6, zx7, zx8, zx9, zx10, zx11, zx12, zx13, zx14, zx15⟩ := DpItem.bxc HX1.out
  obtain ⟨zy0, zy1, zy2, zy3, zy4, zy5, zy6, zy7, zy8, zy9, zy10, zy11, zy12, zy13, zy14, zy15⟩ := DpItem.bxc HY1.out
  cases δ
  · have hxy : ¬ (xx5, xx6, xx7, xx8, xx9, xx10, xx11, xx12, xx13) = (xy5, xy6, xy7, xy8, xy9, xy10, xy11, xy12, xy13) := fun h => by have := eqG_yes h; rw [B3.out] at this; cases this
    have HF : Hid (eqIt (xx0, xx1, (xx2, lx3, lx4), (xx5, xx6, xx7, xx8, xx9, xx10, xx11, xx12, xx13), (lx14, lx15)) (xx0, xx1, (xy2, ly3, ly4), (xy5, xy6, xy7, xy8, xy9, xy10, xy11, xy12, xy13), (ly14, ly15)) = false) := Lib.hid (by rw [HV.out]; exact five3)
    clear B3 HV
    have hd : (¬ xx5 = xy5) ∨ (xx5 = xy5 ∧ ¬ xx6 = xy6) ∨ (xx5 = xy5 ∧ xx6 = xy6 ∧ ¬ xx7 = xy7) ∨ (xx5 = xy5 ∧ xx6 = xy6 ∧ xx7 = xy7 ∧ ¬ xx8 = xy8) ∨ (xx5 = xy5 ∧ xx6 = xy6 ∧ xx7 = xy7 ∧ xx8 = xy8 ∧ ¬ xx9 = xy9) ∨ (xx5 = xy5 ∧ xx6 = xy6 ∧ xx7 = xy7 ∧ xx8 = xy8 ∧ xx9 = xy9 ∧ ¬ xx10 = xy10) ∨ (xx5 = xy5 ∧ xx6 = xy6 ∧ xx7 = xy7 ∧ xx8 = xy8 ∧ xx9 = xy9 ∧ xx10 = xy10 ∧ ¬ xx11 = xy11) ∨ (xx5 = xy5 ∧ xx6 = xy6 ∧ xx7 = xy7 ∧ xx8 = xy8 ∧ xx9 = xy9 ∧ xx10 = xy10 ∧ xx11 = xy11 ∧ ¬ xx12 = xy12) ∨ (xx5 = xy5 ∧ xx6 = xy6 ∧ xx7 = xy7 ∧ xx8 = xy8 ∧ xx9 = xy9 ∧ xx10 = xy10 ∧ xx11 = xy11 ∧ xx12 = xy12 ∧ ¬ xx13 = xy13) := by
      by_cases e0 : xx5 = xy5
      rotate_left
      · exact Or.inl e0
      by_cases e1 : xx6 = xy6
      rotate_left
      · exact Or.inr (Or.inl ⟨e0, e1⟩)
      by_cases e2 : xx7 = xy7
      rotate_left
      · exact Or.inr (Or.inr (Or.inl ⟨e0, e1, e2⟩))
      by_cases e3 : xx8 = xy8
      rotate_left
      · exact Or.inr (Or.inr (Or.inr (Or.inl ⟨e0, e1, e2, e3⟩)))
      by_cases e4 : xx9 = xy9
      rotate_left
      · exact Or.inr (Or.inr (Or.inr (Or.inr (Or.inl ⟨e0, e1, e2, e3, e4⟩))))
      by_cases e5 : xx10 = xy10
      rotate_left
      · exact Or.inr (Or.inr (Or.inr (Or.inr (Or.inr (Or.inl ⟨e0, e1, e2, e3, e4, e5⟩)))))
      by_cases e6 : xx11 = xy11
      rotate_left
      · exact Or.inr (Or.inr (Or.inr (Or.inr (Or.inr (Or.inr (Or.inl ⟨e0, e1, e2, e3, e4, e5, e6⟩))))))
      by_cases e7 : xx12 = xy12
      rotate_left
      · exact Or.inr (Or.inr (Or.inr (Or.inr (Or.inr (Or.inr (Or.inr (Or.inl ⟨e0, e1, e2, e3, e4, e5, e6, e7⟩)))))))
      by_cases e8 : xx13 = xy13
      rotate_left
      · exact Or.inr (Or.inr (Or.inr (Or.inr (Or.inr (Or.inr (Or.inr (Or.inr (⟨e0, e1, e2, e3, e4, e5, e6, e7, e8⟩))))))))
      exact absurd (by rw [e0, e1, e2, e3, e4, e5, e6, e7, e8]) hxy
    rcases hd with hne | ⟨rfl, hne⟩ | ⟨rfl, rfl, hne⟩ | ⟨rfl, rfl, rfl, hne⟩ | ⟨rfl, rfl, rfl, rfl, hne⟩ | ⟨rfl, rfl, rfl, rfl, rfl, hne⟩ | ⟨rfl, rfl, rfl, rfl, rfl, rfl, hne⟩ | ⟨rfl, rfl, rfl, rfl, rfl, rfl, rfl, hne⟩ | ⟨rfl, rfl, rfl, rfl, rfl, rfl, rfl, rfl, hne⟩
    all_goals clear hxy
    all_goals
      go_wp2_with fail
      go_ret
      exact val_of (by rw [HF.out]; first | done | rfl) HB.out
  have hxy : (xx5, xx6, xx7, xx8, xx9, xx10, xx11, xx12, xx13) = (xy5, xy6, xy7, xy8, xy9, xy10, xy11, xy12, xy13) := Classical.byContradiction fun h => by have := eqG_no h; rw [B3.out] at this; cases this
  simp only [Prod.mk.injEq] at hxy
  obtain ⟨rfl, rfl, rfl, rfl, rfl, rfl, rfl, rfl, rfl⟩ := hxy
  go_wp2_with fail
  refine (Est.equal_any lx14 _ _ _ lx15 _ _ _ ly14 _ _ _ ly15 _ _ _ _ G1.out G2.out G3.out G4.out).mono ?_
  rintro e w2 ⟨rfl, hb⟩
  rw [B2.out]
  have HB2 := Lib.hid (below_on HB.out hb)
  clear hb
  go_wp2_with fail
  go_ret
  exact val_of (by rw [HV.out]; first | done | rfl | (cases γ <;> rfl)) HB2.out
noncomputable def eqA (x0 y0 : Int) (l1 m1 : List DpItem.A) : Bool := decide (x0 = y0) && eqAll eqIt l1 m1
end Go.Proofs.YtkmgnicngcandaaGreat.Ea1
