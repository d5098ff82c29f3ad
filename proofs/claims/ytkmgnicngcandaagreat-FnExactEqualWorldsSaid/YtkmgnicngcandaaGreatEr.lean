/- Renewals compared; in the program and in the reference. -/
import Derived.Test.YtkmgnicngcandaaGreatDpRenewal
import Derived.Test.YtkmgnicngcandaaGreatEqStep
import Derived.Test.YtkmgnicngcandaaGreatEqStamp
import Derived.LoopTactic
import Derived.Laws.StructEq
import Derived.Deep.QuietTactic
import Derived.BigQuiet
import Derived.Outline
namespace Go.Proofs.YtkmgnicngcandaaGreat.Er
open Go.ChangeShapes Go.WideShapes Go.ChangeAt Go.RowKit Sl St Ed Dz
noncomputable def eqR (a b : DpRenewal.A) : Bool := @decide (a = b) (Classical.propDecidable _)
theorem eqR_no {a b : DpRenewal.A} (h : a ≠ b) : eqR a b = false := @decide_eq_false _ (Classical.propDecidable _) h
theorem eqR_yes {a b : DpRenewal.A} (h : a = b) : eqR a b = true := @decide_eq_true _ (Classical.propDecidable _) h
theorem eqR_ints {x0 x1 x2 y0 y1 y2 : Int} {l3 m3 : List (Int × Bool)} {l4 m4 : List (Int × Int × Int × Int × Int)} (h0 : x0 = y0) (h1 : x1 = y1) (h2 : x2 = y2) : eqR (x0, x1, x2, l3, l4) (y0, y1, y2, m3, m4) = (EqStep.eqL l3 m3 && EqStamp.eqL l4 m4) := by
  subst h0 h1 h2
  unfold eqR EqStep.eqL EqStamp.eqL
  rw [Bool.eq_iff_iff]
  simp
set_option maxRecDepth 100000 in
set_option maxHeartbeats 4000000 in
theorem equal_any (x0 x1 x2 : Int) (l3 : List (Int × Bool)) (p3 : Option Addr) (n3 c3 : Nat) (l4 : List (Int × Int × Int × Int × Int)) (p4 : Option Addr) (n4 c4 : Nat) (y0 y1 y2 : Int) (m3 : List (Int × Bool)) (q3 : Option Addr) (k3 d3 : Nat) (m4 : List (Int × Int × Int × Int × Int)) (q4 : Option Addr) (k4 d4 : Nat) {S3 S4 S3' S4' : Nat → Prop} (w : World) (h3 : RdD (flat SlStep.E SlStep.InR) S3 w p3 n3 l3) (h4 : RdD (flat SlStamp.E SlStamp.InR) S4 w p4 n4 l4) (g3 : RdD (flat SlStep.E SlStep.InR) S3' w q3 k3 m3) (g4 : RdD (flat SlStamp.E SlStamp.InR) S4' w q4 k4 m4) : Calls Tryz.prog 70 #[.agg #[.int .i64 x0, .int .i64 x1, .int .i64 x2, .slice p3 n3 c3, .slice p4 n4 c4], .agg #[.int .i64 y0, .int .i64 y1, .int .i64 y2, .slice q3 k3 d3, .slice q4 k4 d4]] w (Val (.bool (eqR (x0, x1, x2, l3, l4) (y0, y1, y2, m3, m4))) w) := by
  have HX := Lib.hid ((Bx.new w 110 #[.int .i64 x0, .int .i64 x1, .int .i64 x2, .slice p3 n3 c3, .slice p4 n4 c4]).alloc (.cells #[.int .i64 y0, .int .i64 y1, .int .i64 y2, .slice q3 k3 d3, .slice q4 k4 d4] 110))
  have hy := Bx.new (w.alloc (.cells #[.int .i64 x0, .int .i64 x1, .int .i64 x2, .slice p3 n3 c3, .slice p4 n4 c4] 110)) 110 #[.int .i64 y0, .int .i64 y1, .int .i64 y2, .slice q3 k3 d3, .slice q4 k4 d4]
  rw [World.size_alloc] at hy
  have HY := Lib.hid hy
  have HB := Lib.hid ((box1 w (.cells #[.int .i64 x0, .int .i64 x1, .int .i64 x2, .slice p3 n3 c3, .slice p4 n4 c4] 110)).alloc (by simp) (.cells #[.int .i64 y0, .int .i64 y1, .int .i64 y2, .slice q3 k3 d3, .slice q4 k4 d4] 110))
  have H3 := Lib.hid (h3.below HB.out)
  have H4 := Lib.hid (h4.below HB.out)
  have G3 := Lib.hid (g3.below HB.out)
  have G4 := Lib.hid (g4.below HB.out)
  have hn3 := h3.le
  have hn4 := h4.le
  have hk3 := g3.le
  have hk4 := g4.le
  clear hy h3 h4 g3 g4
  by_cases a0 : x0 = y0
  rotate_left
  · have HN : Hid (eqR (x0, x1, x2, l3, l4) (y0, y1, y2, m3, m4) = false) := Lib.hid (eqR_no fun e => a0 (by simp only [Prod.mk.injEq] at e; exact e.1))
    have e0 : (x0 == y0) = false := beq_eq_false_iff_ne.2 a0
    have f0 : (x0 != y0) = true := by rw [bne, e0]; rfl
    clear a0
    go_enter Tryz.func70, Tryz.ntmps70
    go_wp2_with fail
    go_ret
    exact val_of (by rw [HN.out]; rfl) HB.out
  by_cases a1 : x1 = y1
  rotate_left
  · have HN : Hid (eqR (x0, x1, x2, l3, l4) (y0, y1, y2, m3, m4) = false) := Lib.hid (eqR_no fun e => a1 (by simp only [Prod.mk.injEq] at e; exact e.2.1))
    have e1 : (x1 == y1) = false := beq_eq_false_iff_ne.2 a1
    have f1 : (x1 != y1) = true := by rw [bne, e1]; rfl
    subst a0
    clear a1
    go_enter Tryz.func70, Tryz.ntmps70
    go_wp2_with fail
    go_ret
    exact val_of (by rw [HN.out]; rfl) HB.out
  by_cases a2 : x2 = y2
  rotate_left
  · have HN : Hid (eqR (x0, x1, x2, l3, l4) (y0, y1, y2, m3, m4) = false) := Lib.hid (eqR_no fun e => a2 (by simp only [Prod.mk.injEq] at e; exact e.2.2.1))
    have e2 : (x2 == y2) = false := beq_eq_false_iff_ne.2 a2
    have f2 : (x2 != y2) = true := by rw [bne, e2]; rfl
    subst a0
    subst a1
    clear a2
    go_enter Tryz.func70, Tryz.ntmps70
    go_wp2_with fail
    go_ret
    exact val_of (by rw [HN.out]; rfl) HB.out
  have HE := Lib.hid (eqR_ints (l3 := l3) (m3 := m3) (l4 := l4) (m4 := m4) a0 a1 a2)
  subst a0 a1 a2
  obtain ⟨β3, hβ3⟩ : ∃ b, EqStep.eqL l3 m3 = b := ⟨_, rfl⟩
  obtain ⟨β4, hβ4⟩ : ∃ b, EqStamp.eqL l4 m4 = b := ⟨_, rfl⟩
  rw [hβ3, hβ4] at HE
  have B3 := Lib.hid hβ3
  have B4 := Lib.hid hβ4
  clear hβ3 hβ4
  go_enter Tryz.func70, Tryz.ntmps70
  go_wp2_with fail
  generalize ((w.alloc (.cells #[.int .i64 x0, .int .i64 x1, .int .i64 x2, .slice p3 n3 c3, .slice p4 n4 c4] 110)).alloc (.cells #[.int .i64 x0, .int .i64 x1, .int .i64 x2, .slice q3 k3 d3, .slice q4 k4 d4] 110)) = V at HX HY HB H3 H4 G3 G4 ⊢
  refine (EqStep.equal_any _ _ _ _ _ _ _ _ _ H3.out.rdS G3.out.rdS).mono ?_
  rintro e w1 ⟨rfl, hb⟩
  rw [B3.out]
  replace HB := Lib.hid (below_on HB.out hb)
  cases β3
  · clear hb
    go_wp2_with fail
    go_ret
    exact val_of (by rw [HE.out]; rfl) HB.out
  obtain ⟨u0, u1, u2, u3, u4⟩ := DpRenewal.bxc (HX.out.below hb)
  obtain ⟨v0, v1, v2, v3, v4⟩ := DpRenewal.bxc (HY.out.below hb)
  replace H4 := Lib.hid (H4.out.below hb)
  replace G4 := Lib.hid (G4.out.below hb)
  clear hb
  go_wp2_with fail
  refine (EqStamp.equal_any _ _ _ _ _ _ _ _ _ H4.out.rdS G4.out.rdS).mono ?_
  rintro e w2 ⟨rfl, hb⟩
  rw [B4.out]
  replace HB := Lib.hid (below_on HB.out hb)
  clear hb
  go_wp2_with fail
  go_ret
  exact val_of (by rw [HE.out]; cases β4 <;> rfl) HB.out
set_option maxRecDepth 100000 in
set_option maxHeartbeats 8000000 in
theorem spec_equal_any (x0 x1 x2 : Int) (l3 : List (Int × Bool)) (p3 : Option Addr) (n3 c3 : Nat) (l4 : List (Int × Int × Int × Int × Int)) (p4 : Option Addr) (n4 c4 : Nat) (y0 y1 y2 : Int) (m3 : List (Int × Bool)) (q3 : Option Addr) (k3 d3 : Nat) (m4 : List (Int × Int × Int × Int × Int)) (q4 : Option Addr) (k4 d4 : Nat) {S3 S4 S3' S4' : Nat → Prop} (w : World) (h3 : RdD (flat SlStep.E SlStep.InR) S3 w p3 n3 l3) (h4 : RdD (flat SlStamp.E SlStamp.InR) S4 w p4 n4 l4) (g3 : RdD (flat SlStep.E SlStep.InR) S3' w q3 k3 m3) (g4 : RdD (flat SlStamp.E SlStamp.InR) S4' w q4 k4 m4) : Calls Tryz.prog 53 #[.agg #[.int .i64 x0, .int .i64 x1, .int .i64 x2, .slice p3 n3 c3, .slice p4 n4 c4], .agg #[.int .i64 y0, .int .i64 y1, .int .i64 y2, .slice q3 k3 d3, .slice q4 k4 d4]] w (Val (.bool (eqR (x0, x1, x2, l3, l4) (y0, y1, y2, m3, m4))) w) := by
  have HX := Lib.hid ((Bx.new w 110 #[.int .i64 x0, .int .i64 x1, .int .i64 x2, .slice p3 n3 c3, .slice p4 n4 c4]).alloc (.cells #[.int .i64 y0, .int .i64 y1, .int .i64 y2, .slice q3 k3 d3, .slice q4 k4 d4] 110))
  have hy := Bx.new (w.alloc (.cells #[.int .i64 x0, .int .i64 x1, .int .i64 x2, .slice p3 n3 c3, .slice p4 n4 c4] 110)) 110 #[.int .i64 y0, .int .i64 y1, .int .i64 y2, .slice q3 k3 d3, .slice q4 k4 d4]
  rw [World.size_alloc] at hy
  have HY := Lib.hid hy
  have HB := Lib.hid ((box1 w (.cells #[.int .i64 x0, .int .i64 x1, .int .i64 x2, .slice p3 n3 c3, .slice p4 n4 c4] 110)).alloc (by simp) (.cells #[.int .i64 y0, .int .i64 y1, .int .i64 y2, .slice q3 k3 d3, .slice q4 k4 d4] 110))
  have H3 := Lib.hid (h3.below HB.out)
  have H4 := Lib.hid (h4.below HB.out)
  have G3 := Lib.hid (g3.below HB.out)
  have G4 := Lib.hid (g4.below HB.out)
  have hn3 := h3.le
  have hn4 := h4.le
  have hk3 := g3.le
  have hk4 := g4.le
  clear hy h3 h4 g3 g4
  by_cases a0 : x0 = y0
  rotate_left
  · have HN : Hid (eqR (x0, x1, x2, l3, l4) (y0, y1, y2, m3, m4) = false) := Lib.hid (eqR_no fun e => a0 (by simp only [Prod.mk.injEq] at e; exact e.1))
    have e0 : (x0 == y0) = false := beq_eq_false_iff_ne.2 a0
    have f0 : (x0 != y0) = true := by rw [bne, e0]; rfl
    clear a0
    go_enter Tryz.func53, Tryz.ntmps53
    go_wp2_with fail
    go_ret
    exact val_of (by rw [HN.out]; rfl) HB.out
  by_cases a1 : x1 = y1
  rotate_left
  · have HN : Hid (eqR (x0, x1, x2, l3, l4) (y0, y1, y2, m3, m4) = false) := Lib.hid (eqR_no fun e => a1 (by simp only [Prod.mk.injEq] at e; exact e.2.1))
    have e1 : (x1 == y1) = false := beq_eq_false_iff_ne.2 a1
    have f1 : (x1 != y1) = true := by rw [bne, e1]; rfl
    subst a0
    clear a1
    go_enter Tryz.func53, Tryz.ntmps53
    go_wp2_with fail
    go_ret
    exact val_of (by rw [HN.out]; rfl) HB.out
  by_cases a2 : x2 = y2
  rotate_left
  · have HN : Hid (eqR (x0, x1, x2, l3, l4) (y0, y1, y2, m3, m4) = false) := Lib.hid (eqR_no fun e => a2 (by simp only [Prod.mk.injEq] at e; exact e.2.2.1))
    have e2 : (x2 == y2) = false := beq_eq_false_iff_ne.2 a2
    have f2 : (x2 != y2) = true := by rw [bne, e2]; rfl
    subst a0
    subst a1
    clear a2
    go_enter Tryz.func53, Tryz.ntmps53
    go_wp2_with fail
    go_ret
    exact val_of (by rw [HN.out]; rfl) HB.out
  subst a0 a1 a2
  by_cases a3 : n3 = k3
  rotate_left
  · have HN : Hid (eqR (x0, x1, x2, l3, l4) (x0, x1, x2, m3, m4) = false) := Lib.hid (eqR_no fun e => a3 (by simp only [Prod.mk.injEq] at e; rw [← H3.out.len, ← G3.out.len, e.2.2.2.1]))
    have e3 : ((n3 : Int) == k3) = false := beq_eq_false_iff_ne.2 (by omega)
    have f3 : ((n3 : Int) != k3) = true := by rw [bne, e3]; rfl
    have e3' : (n3 == k3) = false := beq_eq_false_iff_ne.2 a3
    have f3' : (n3 != k3) = true := by rw [bne, e3']; rfl
    skip
    clear a3
    go_enter Tryz.func53, Tryz.ntmps53
    go_wp2_with fail
    go_ret
    exact val_of (by rw [HN.out]; rfl) HB.out
  by_cases a4 : n4 = k4
  rotate_left
  · have HN : Hid (eqR (x0, x1, x2, l3, l4) (x0, x1, x2, m3, m4) = false) := Lib.hid (eqR_no fun e => a4 (by simp only [Prod.mk.injEq] at e; rw [← H4.out.len, ← G4.out.len, e.2.2.2.2]))
    have e4 : ((n4 : Int) == k4) = false := beq_eq_false_iff_ne.2 (by omega)
    have f4 : ((n4 : Int) != k4) = true := by rw [bne, e4]; rfl
    have e4' : (n4 == k4) = false := beq_eq_false_iff_ne.2 a4
    have f4' : (n4 != k4) = true := by rw [bne, e4']; rfl
    subst a3
    clear a4
    go_enter Tryz.func53, Tryz.ntmps53
    go_wp2_with fail
    go_ret
    exact val_of (by rw [HN.out]; rfl) HB.out
  subst a3 a4
  go_enter Tryz.func53, Tryz.ntmps53
  go_wp2_with fail
  generalize ((w.alloc (.cells #[.int .i64 x0, .int .i64 x1, .int .i64 x2, .slice p3 n3 c3, .slice p4 n4 c4] 110)).alloc (.cells #[.int .i64 x0, .int .i64 x1, .int .i64 x2, .slice q3 n3 d3, .slice q4 n4 d4] 110)) = V at HX HY HB H3 H4 G3 G4 ⊢
  go_loopw [5] (fun i wr => ∃ k q : Nat, k ≤ n3 ∧ i = .int .i64 k ∧ wr = V.drewN q ∧ Hid (∀ j, j < k → l3[j]? = m3[j]?)) (fun i _ => n3 - (intOf i).toNat)
  case atStart => exact ⟨0, 0, Nat.zero_le _, rfl, rfl, fun j hj => absurd hj (Nat.not_lt_zero _)⟩
  case round =>
    obtain ⟨k, q, hk, rfl, rfl, HE⟩ := hrel
    by_cases hlt : k < n3
    · obtain ⟨b, o, x, rfl, hb, hx, hc⟩ := H3.out.rdS.at_ hlt
      obtain ⟨b', o', y, rfl, hb', hy, hc'⟩ := G3.out.rdS.at_ hlt
      have HX1 := Lib.hid hx
      have HY1 := Lib.hid hy
      clear hx hy
      obtain ⟨s0, s1⟩ := x
      obtain ⟨t0, t1⟩ := y
      have hu : ∀ j v, [.int .i64 s0, .bool s1][j]? = some v → V.cell? ⟨b, o + k * 2 + j, none⟩ = some v := hc
      have hv : ∀ j v, [.int .i64 t0, .bool t1][j]? = some v → V.cell? ⟨b', o' + k * 2 + j, none⟩ = some v := hc'
      have hu0 : V.cell? ⟨b, o + k * 2, none⟩ = some (.int .i64 s0) := hu 0 _ rfl
      have hv0 : V.cell? ⟨b', o' + k * 2, none⟩ = some (.int .i64 t0) := hv 0 _ rfl
      have hu1 : V.cell? ⟨b, o + k * 2 + 1, none⟩ = some (.bool s1) := hu 1 _ rfl
      have hv1 : V.cell? ⟨b', o' + k * 2 + 1, none⟩ = some (.bool t1) := hv 1 _ rfl
      clear hc hc' hu hv
      obtain ⟨u0, u1, u2, u3, u4⟩ := DpRenewal.bxc HX.out
      obtain ⟨v0, v1, v2, v3, v4⟩ := DpRenewal.bxc HY.out
      have i1 : (0 : Int) ≤ (k : Int) := by omega
      have i2 : (k : Int) < (n3 : Int) := by omega
      by_cases hxy : (s0, s1) = (t0, t1)
      · have HXY := Lib.hid hxy
        simp only [Prod.mk.injEq] at hxy
        obtain ⟨rfl, rfl⟩ := hxy
        go_wp2_with fail
        go_quiet (fail)
        go_wp2_with fail
        refine ⟨⟨k + 1, _, by omega, by go_num, rfl, fun j hj => ?_⟩, by simp [intOf]; omega⟩
        by_cases hjk : j = k
        · rw [hjk, HX1.out, HY1.out]
        · exact HE.out j (by omega)
      · have HN := Lib.hid (EqStep.first_ne HX1.out HY1.out hxy)
        have HF : Hid (eqR (x0, x1, x2, l3, l4) (x0, x1, x2, m3, m4) = false) := Lib.hid (eqR_no fun e => HN.out (by simp only [Prod.mk.injEq] at e; exact e.2.2.2.1))
        have hd : (¬ s0 = t0) ∨ (s0 = t0 ∧ ¬ s1 = t1) := by
          by_cases e0 : s0 = t0
          rotate_left
          · exact Or.inl e0
          by_cases e1 : s1 = t1
          rotate_left
          · exact Or.inr (⟨e0, e1⟩)
          exact absurd (by rw [e0, e1]) hxy
        rcases hd with hne | ⟨rfl, hne⟩
        all_goals
          clear hxy HX1 HY1
          try (cases s1 <;> cases t1 <;> first | exact absurd rfl hne | skip)
        all_goals
          go_wp2_with fail
          go_quiet (fail)
          go_wp2_with fail
          go_ret
          exact val_of (by rw [HF.out]; rfl) (below_drewN (below_drewN HB.out _) _)
    · obtain rfl : k = n3 := by omega
      have HA3 := Lib.hid (EqStep.all_eq H3.out.len G3.out.len HE.out)
      obtain ⟨q3_, hq3⟩ : ∃ q', q' = q := ⟨_, rfl⟩
      subst hq3
      obtain ⟨u0, u1, u2, u3, u4⟩ := DpRenewal.bxc HX.out
      go_wp2_with fail
      go_loopw [6] (fun i wr => ∃ k q : Nat, k ≤ n4 ∧ i = .int .i64 k ∧ wr = V.drewN q ∧ Hid (∀ j, j < k → l4[j]? = m4[j]?)) (fun i _ => n4 - (intOf i).toNat)
      case atStart => exact ⟨0, q3_, Nat.zero_le _, rfl, rfl, fun j hj => absurd hj (Nat.not_lt_zero _)⟩
      case round =>
        obtain ⟨k, q, hk, rfl, rfl, HE⟩ := hrel
        by_cases hlt : k < n4
        · obtain ⟨b, o, x, rfl, hb, hx, hc⟩ := H4.out.rdS.at_ hlt
          obtain ⟨b', o', y, rfl, hb', hy, hc'⟩ := G4.out.rdS.at_ hlt
          have HX1 := Lib.hid hx
          have HY1 := Lib.hid hy
          clear hx hy
          obtain ⟨s0, s1, s2, s3, s4⟩ := x
          obtain ⟨t0, t1, t2, t3, t4⟩ := y
          have hu : ∀ j v, [.int .i64 s0, .int .i64 s1, .int .i64 s2, .int .i64 s3, .int .i64 s4][j]? = some v → V.cell? ⟨b, o + k * 5 + j, none⟩ = some v := hc
          have hv : ∀ j v, [.int .i64 t0, .int .i64 t1, .int .i64 t2, .int .i64 t3, .int .i64 t4][j]? = some v → V.cell? ⟨b', o' + k * 5 + j, none⟩ = some v := hc'
          have hu0 : V.cell? ⟨b, o + k * 5, none⟩ = some (.int .i64 s0) := hu 0 _ rfl
          have hv0 : V.cell? ⟨b', o' + k * 5, none⟩ = some (.int .i64 t0) := hv 0 _ rfl
          have hu1 : V.cell? ⟨b, o + k * 5 + 1, none⟩ = some (.int .i64 s1) := hu 1 _ rfl
          have hv1 : V.cell? ⟨b', o' + k * 5 + 1, none⟩ = some (.int .i64 t1) := hv 1 _ rfl
          have hu2 : V.cell? ⟨b, o + k * 5 + 2, none⟩ = some (.int .i64 s2) := hu 2 _ rfl
          have hv2 : V.cell? ⟨b', o' + k * 5 + 2, none⟩ = some (.int .i64 t2) := hv 2 _ rfl
          have hu3 : V.cell? ⟨b, o + k * 5 + 3, none⟩ = some (.int .i64 s3) := hu 3 _ rfl
          have hv3 : V.cell? ⟨b', o' + k * 5 + 3, none⟩ = some (.int .i64 t3) := hv 3 _ rfl
          have hu4 : V.cell? ⟨b, o + k * 5 + 4, none⟩ = some (.int .i64 s4) := hu 4 _ rfl
          have hv4 : V.cell? ⟨b', o' + k * 5 + 4, none⟩ = some (.int .i64 t4) := hv 4 _ rfl
          clear hc hc' hu hv
          obtain ⟨u0, u1, u2, u3, u4⟩ := DpRenewal.bxc HX.out
          obtain ⟨v0, v1, v2, v3, v4⟩ := DpRenewal.bxc HY.out
          have i1 : (0 : Int) ≤ (k : Int) := by omega
          have i2 : (k : Int) < (n4 : Int) := by omega
          by_cases hxy : (s0, s1, s2, s3, s4) = (t0, t1, t2, t3, t4)
          · have HXY := Lib.hid hxy
            simp only [Prod.mk.injEq] at hxy
            obtain ⟨rfl, rfl, rfl, rfl, rfl⟩ := hxy
            go_wp2_with fail
            go_quiet (fail)
            go_wp2_with fail
            refine ⟨⟨k + 1, _, by omega, by go_num, rfl, fun j hj => ?_⟩, by simp [intOf]; omega⟩
            by_cases hjk : j = k
            · rw [hjk, HX1.out, HY1.out]
            · exact HE.out j (by omega)
          · have HN := Lib.hid (EqStep.first_ne HX1.out HY1.out hxy)
            have HF : Hid (eqR (x0, x1, x2, l3, l4) (x0, x1, x2, m3, m4) = false) := Lib.hid (eqR_no fun e => HN.out (by simp only [Prod.mk.injEq] at e; exact e.2.2.2.2))
            have hd : (¬ s0 = t0) ∨ (s0 = t0 ∧ ¬ s1 = t1) ∨ (s0 = t0 ∧ s1 = t1 ∧ ¬ s2 = t2) ∨ (s0 = t0 ∧ s1 = t1 ∧ s2 = t2 ∧ ¬ s3 = t3) ∨ (s0 = t0 ∧ s1 = t1 ∧ s2 = t2 ∧ s3 = t3 ∧ ¬ s4 = t4) := by
              by_cases e0 : s0 = t0
              rotate_left
              · exact Or.inl e0
              by_cases e1 : s1 = t1
              rotate_left
              · exact Or.inr (Or.inl ⟨e0, e1⟩)
              by_cases e2 : s2 = t2
              rotate_left
              · exact Or.inr (Or.inr (Or.inl ⟨e0, e1, e2⟩))
              by_cases e3 : s3 = t3
              rotate_left
              · exact Or.inr (Or.inr (Or.inr (Or.inl ⟨e0, e1, e2, e3⟩)))
              by_cases e4 : s4 = t4
              rotate_left
              · exact Or.inr (Or.inr (Or.inr (Or.inr (⟨e0, e1, e2, e3, e4⟩))))
              exact absurd (by rw [e0, e1, e2, e3, e4]) hxy
            rcases hd with hne | ⟨rfl, hne⟩ | ⟨rfl, rfl, hne⟩ | ⟨rfl, rfl, rfl, hne⟩ | ⟨rfl, rfl, rfl, rfl, hne⟩
            all_goals
              clear hxy HX1 HY1
              skip
            all_goals
              go_wp2_with fail
              go_quiet (fail)
              go_wp2_with fail
              go_ret
              exact val_of (by rw [HF.out]; rfl) (below_drewN (below_drewN HB.out _) _)
        · obtain rfl : k = n4 := by omega
          have HA4 := Lib.hid (EqStep.all_eq H4.out.len G4.out.len HE.out)
          go_wp2_with fail
          go_ret
          exact val_of (by rw [show eqR (x0, x1, x2, l3, l4) (x0, x1, x2, m3, m4) = true from eqR_yes (by rw [HA3.out, HA4.out])]; rfl) (below_drewN HB.out _)
end Go.Proofs.YtkmgnicngcandaaGreat.Er
