/- Frames, and archives in turn, compared in the program. Worlds compared in the program. Frames compared in the reference. Worlds compared in the reference. -/
import Derived.Test.YtkmgnicngcandaaGreatEa3
import Derived.Test.YtkmgnicngcandaaGreatEqN
import Derived.Test.YtkmgnicngcandaaGreatDpFrame
import Derived.Test.YtkmgnicngcandaaGreatDpWorld
import Derived.Test.YtkmgnicngcandaaGreatDe
import Derived.Test.YtkmgnicngcandaaGreatEf
import Derived.LoopTactic
import Derived.Laws.StructEq
import Derived.Deep.QuietTactic
import Derived.Deep.RegionHeld3
import Derived.BigQuiet
import Derived.Outline
import Derived.Test.YtkmgnicngcandaaGreatEa2
namespace Go.Proofs.YtkmgnicngcandaaGreat.Ew0
open Go.ChangeShapes Go.WideShapes Go.ChangeAt Go.RowKit Sl St Ed Dz Ef Ea1
def eqFr (a b : DpFrame.A) : Bool := five (EqKey.eqL a.1 b.1) (EqAuthority.eqL a.2.1 b.2.1) (EqMethod.eqL a.2.2.1 b.2.2.1) (decide (a.2.2.2.1 = b.2.2.2.1)) (decide (a.2.2.2.2 = b.2.2.2.2))
noncomputable def eqArc (a b : DpArchive.A) : Bool := eqA a.1 b.1 a.2 b.2
def eight (b0 b1 b2 b3 b4 b5 b6 b7 : Bool) : Bool := b0 && (b1 && (b2 && (b3 && (b4 && (b5 && (b6 && b7))))))
noncomputable def eqWo (a b : DpFrame.A × List (Int × Int × Int × Int × Int × Int × Int) × List Int × List DpArchive.A × List Int × List Int × Int × List Int) : Bool := eight (eqFr a.1 b.1) (EqCert.eqL a.2.1 b.2.1) (De.eqL a.2.2.1 b.2.2.1) (eqAll eqArc a.2.2.2.1 b.2.2.2.1) (De.eqL a.2.2.2.2.1 b.2.2.2.2.1) (De.eqL a.2.2.2.2.2.1 b.2.2.2.2.2.1) (decide (a.2.2.2.2.2.2.1 = b.2.2.2.2.2.2.1)) (De.eqL a.2.2.2.2.2.2.2 b.2.2.2.2.2.2.2)
theorem eight1 {a c d e f g h : Bool} : eight a false c d e f g h = false := by cases a <;> rfl
theorem eight3 {a b c e f g h : Bool} : eight a b c false e f g h = false := by cases a <;> cases b <;> cases c <;> rfl
theorem eight6 {a b c d e f h : Bool} : eight a b c d e f false h = false := by cases a <;> cases b <;> cases c <;> cases d <;> cases e <;> cases f <;> rfl
theorem eight_mid {a c e f h : Bool} : eight a true c true e f true h = (a && (c && (e && (f && h)))) := by cases a <;> cases c <;> cases e <;> cases f <;> rfl
set_option maxRecDepth 100000 in
set_option maxHeartbeats 8000000 in
theorem archives_any (xs ys : List DpArchive.A) (p p' : Option Addr) (n n' c c' : Nat) {S S' : Nat → Prop} (w : World) (hr : RdD DpArchive.E S w p n xs) (hr' : RdD DpArchive.E S' w p' n' ys) : Calls Tryz.prog 23 #[.slice p n c, .slice p' n' c', .func (.func 24) #[] #[]] w (Val (.bool (eqAll eqArc xs ys)) w) := by
  have HR := Lib.hid hr
  have HR' := Lib.hid hr'
  have hle := hr.le
  have hle' := hr'.le
  clear hr hr'
  by_cases hne : n = n'
  rotate_left
  · have hb1 : ((n : Int) == n') = false := beq_eq_false_iff_ne.2 (by omega)
    have hb2 : ((n : Int) != n') = true := by rw [bne, hb1]; rfl
    have hb3 : (n == n') = false := beq_eq_false_iff_ne.2 hne
    have hb4 : (n != n') = true := by rw [bne, hb3]; rfl
    have HN := Lib.hid (eqAll_len (f := eqArc) (xs := xs) (ys := ys) (by rw [HR.out.len, HR'.out.len]; exact hne))
    clear hne
    go_enter Tryz.func23, Tryz.ntmps23
    go_wp2_with fail
    go_ret
    exact val_of (by rw [HN.out]; rfl) (Below.refl _ _)
  subst hne
  go_enter Tryz.func23, Tryz.ntmps23
  go_wp2_with fail
  go_loopw [17] (fun i wr => ∃ k : Nat, k ≤ n ∧ i = .int .i64 k ∧ Hid (Upto eqArc xs ys k) ∧ Hid (Below w.heap.size w wr)) (fun i _ => n - (intOf i).toNat)
  case atStart => exact ⟨0, Nat.zero_le _, rfl, Lib.hid upto_zero, Lib.hid (Below.refl _ _)⟩
  case round =>
    obtain ⟨k, hk, rfl, HU, HB⟩ := hrel
    by_cases hlt : k < n
    · skip
      obtain ⟨b, o, x_x, cs_x, rfl, _, hbwx, hxx, hcx, hrdx⟩ := HR.out.at_ hlt
      obtain ⟨xx0, lx1⟩ := x_x
      obtain ⟨px1, nx1, cx1, rfl, bx0, hx1⟩ := DpArchive.ex hrdx
      have hccx : ∀ jj v, [.int .i64 xx0, .slice px1 nx1 cx1][jj]? = some v → wr.cell? ⟨b, o + k * 2 + jj, none⟩ = some v := fun jj v hv => (HB.out.cell (p := ⟨b, o + k * 2 + jj, none⟩) hbwx).trans (hcx jj v hv)
      have HXx := Lib.hid hxx
      have HCx := Lib.hid hccx
      have Hx1 := Lib.hid (hx1.below HB.out)
      have hnx1 := hx1.le
      have Gbx0 := Lib.hid bx0
      obtain ⟨u0, u1⟩ := DpArchive.at_cells hccx
      clear hccx hcx hxx hrdx bx0 hx1
      obtain ⟨b', o', x_y, cs_y, rfl, _, hbwy, hxy, hcy, hrdy⟩ := HR'.out.at_ hlt
      obtain ⟨xy0, ly1⟩ := x_y
      obtain ⟨py1, ny1, cy1, rfl, by0, hy1⟩ := DpArchive.ex hrdy
      have hccy : ∀ jj v, [.int .i64 xy0, .slice py1 ny1 cy1][jj]? = some v → wr.cell? ⟨b', o' + k * 2 + jj, none⟩ = some v := fun jj v hv => (HB.out.cell (p := ⟨b', o' + k * 2 + jj, none⟩) hbwy).trans (hcy jj v hv)
      have HXy := Lib.hid hxy
      have HCy := Lib.hid hccy
      have Hy1 := Lib.hid (hy1.below HB.out)
      have hny1 := hy1.le
      have Gby0 := Lib.hid by0
      obtain ⟨v0, v1⟩ := DpArchive.at_cells hccy
      clear hccy hcy hxy hrdy by0 hy1
      have hlv : b' < wr.heap.size := Nat.lt_of_lt_of_le hbwy HB.out.size
      have hB1 := box1 wr (.cells #[.int .i64 xx0, .slice px1 nx1 cx1] 54)
      have z0 : (wr.alloc (.cells #[.int .i64 xx0, .slice px1 nx1 cx1] 54)).cell? ⟨b', o' + k * 2, none⟩ = some (.int .i64 xy0) := (hB1.cell (p := ⟨b', o' + k * 2 + 0, none⟩) hlv).trans v0
      have z1 : (wr.alloc (.cells #[.int .i64 xx0, .slice px1 nx1 cx1] 54)).cell? ⟨b', o' + k * 2 + 1, none⟩ = some (.slice py1 ny1 cy1) := (hB1.cell (p := ⟨b', o' + k * 2 + 1, none⟩) hlv).trans v1
      have hB2 : Below wr.heap.size wr ((wr.alloc (.cells #[.int .i64 xx0, .slice px1 nx1 cx1] 54)).alloc (.cells #[.int .i64 xy0, .slice py1 ny1 cy1] 54)) := hB1.alloc (by simp) _
      have HB2 := Lib.hid hB2
      have HB3 := Lib.hid (below_on HB.out hB2)
      clear hB1 hB2
      go_wp2_with fail
      refine (Ea3.equal_any xx0 lx1 _ _ _ xy0 ly1 _ _ _ _ (Hx1.out.below HB2.out) (Hy1.out.below HB2.out)).mono ?_
      rintro e w1 ⟨rfl, hb⟩
      obtain ⟨β, hβ⟩ : ∃ β, eqA xx0 xy0 lx1 ly1 = β := ⟨_, rfl⟩
      rw [hβ]
      have HE : Hid (eqArc (xx0, lx1) (xy0, ly1) = β) := Lib.hid hβ
      have HB4 := Lib.hid (below_on HB3.out hb)
      clear hb hβ u0 v0 z0 u1 v1 z1
      cases β
      · have HF := Lib.hid (eqAll_at HXx.out HXy.out HE.out)
        go_wp2_with fail
        go_ret
        exact val_of (by rw [HF.out]; rfl) HB4.out
      · have HU2 := Lib.hid (upto_next HU.out HXx.out HXy.out HE.out)
        go_wp2_with fail
        go_roundw
        case rel => exact ⟨k + 1, by omega, by go_num, HU2, HB4⟩
        case measure => simp [intOf]; omega
    · obtain rfl : k = n := by omega
      have HF := Lib.hid (eqAll_yes HR.out.len HR'.out.len HU.out)
      go_wp2_with fail
      go_ret
      exact val_of (by rw [HF.out]; rfl) HB.out
set_option maxRecDepth 100000 in
set_option maxHeartbeats 8000000 in
theorem frames_any (l0 : List (Int × Int × Int × Int × Int)) (p0 : Option Addr) (n0 c0 : Nat) (l1 : List (Int × Int × Int)) (p1 : Option Addr) (n1 c1 : Nat) (l2 : List (Int × Int × Int × Int)) (p2 : Option Addr) (n2 c2 : Nat) (x3 : Int) (x4 : Int) (m0 : List (Int × Int × Int × Int × Int)) (q0 : Option Addr) (k0 d0 : Nat) (m1 : List (Int × Int × Int)) (q1 : Option Addr) (k1 d1 : Nat) (m2 : List (Int × Int × Int × Int)) (q2 : Option Addr) (k2 d2 : Nat) (y3 : Int) (y4 : Int) {S S2 : Nat → Prop} (w : World) (h0 : RdD (flat SlKey.E SlKey.InR) S w p0 n0 l0) (g0 : RdD (flat SlKey.E SlKey.InR) S2 w q0 k0 m0) (h1 : RdD (flat SlAuthority.E SlAuthority.InR) S w p1 n1 l1) (g1 : RdD (flat SlAuthority.E SlAuthority.InR) S2 w q1 k1 m1) (h2 : RdD (flat SlMethod.E SlMethod.InR) S w p2 n2 l2) (g2 : RdD (flat SlMethod.E SlMethod.InR) S2 w q2 k2 m2) : Calls Tryz.prog 20 #[.agg #[.slice p0 n0 c0, .slice p1 n1 c1, .slice p2 n2 c2, .int .i64 x3, .int .i64 x4], .agg #[.slice q0 k0 d0, .slice q1 k1 d1, .slice q2 k2 d2, .int .i64 y3, .int .i64 y4]] w (Val (.bool (eqFr (l0, l1, l2, x3, x4) (m0, m1, m2, y3, y4))) w) := by
  have hB : Below w.heap.size w ((w.alloc (.cells #[.slice p0 n0 c0, .slice p1 n1 c1, .slice p2 n2 c2, .int .i64 x3, .int .i64 x4] 38)).alloc (.cells #[.slice q0 k0 d0, .slice q1 k1 d1, .slice q2 k2 d2, .int .i64 y3, .int .i64 y4] 38)) := (box1 w _).alloc (by simp) _
  have hy := Bx.new (w.alloc (.cells #[.slice p0 n0 c0, .slice p1 n1 c1, .slice p2 n2 c2, .int .i64 x3, .int .i64 x4] 38)) 38 #[.slice q0 k0 d0, .slice q1 k1 d1, .slice q2 k2 d2, .int .i64 y3, .int .i64 y4]
  rw [World.size_alloc] at hy
  have HX := Lib.hid ((Bx.new w 38 #[.slice p0 n0 c0, .slice p1 n1 c1, .slice p2 n2 c2, .int .i64 x3, .int .i64 x4]).alloc (.cells #[.slice q0 k0 d0, .slice q1 k1 d1, .slice q2 k2 d2, .int .i64 y3, .int .i64 y4] 38))
  have HY := Lib.hid hy
  have HBV := Lib.hid hB
  have H0 := Lib.hid (h0.below hB)
  have G0 := Lib.hid (g0.below hB)
  have le0 := h0.le
  have lf0 := g0.le
  have H1 := Lib.hid (h1.below hB)
  have G1 := Lib.hid (g1.below hB)
  have le1 := h1.le
  have lf1 := g1.le
  have H2 := Lib.hid (h2.below hB)
  have G2 := Lib.hid (g2.below hB)
  have le2 := h2.le
  have lf2 := g2.le
  clear hy hB h0 g0 h1 g1 h2 g2
  obtain ⟨β0, hβ0⟩ : ∃ b, (EqKey.eqL l0 m0) = b := ⟨_, rfl⟩
  obtain ⟨β1, hβ1⟩ : ∃ b, (EqAuthority.eqL l1 m1) = b := ⟨_, rfl⟩
  obtain ⟨β2, hβ2⟩ : ∃ b, (EqMethod.eqL l2 m2) = b := ⟨_, rfl⟩
  obtain ⟨β3, hβ3⟩ : ∃ b, (decide (x3 = y3)) = b := ⟨_, rfl⟩
  obtain ⟨β4, hβ4⟩ : ∃ b, (decide (x4 = y4)) = b := ⟨_, rfl⟩
  have HE : Hid (eqFr (l0, l1, l2, x3, x4) (m0, m1, m2, y3, y4) = five β0 β1 β2 β3 β4) := Lib.hid (by rw [← hβ0, ← hβ1, ← hβ2, ← hβ3, ← hβ4]; rfl)
  have B0 := Lib.hid hβ0
  have B1 := Lib.hid hβ1
  have B2 := Lib.hid hβ2
  have E3 : (x3 == y3) = β3 := hβ3
  have E4 : (x4 == y4) = β4 := hβ4
  clear hβ0 hβ1 hβ2 hβ3 hβ4
  go_enter Tryz.func20, Tryz.ntmps20
  go_wp2_with fail
  generalize ((w.alloc (.cells #[.slice p0 n0 c0, .slice p1 n1 c1, .slice p2 n2 c2, .int .i64 x3, .int .i64 x4] 38)).alloc (.cells #[.slice q0 k0 d0, .slice q1 k1 d1, .slice q2 k2 d2, .int .i64 y3, .int .i64 y4] 38)) = V at HX HY HBV H0 G0 H1 G1 H2 G2 ⊢
  have HB := Lib.hid (Below.refl V.heap.size V)
  refine (EqKey.equal_any _ _ _ _ _ _ _ _ _ (H0.out.below HB.out).rdS (G0.out.below HB.out).rdS).mono ?_
  rintro e w0 ⟨rfl, hb⟩
  rw [B0.out]
  have HB_ := Lib.hid (below_on HB.out hb)
  clear HB hb
  have HB := HB_
  clear HB_
  cases β0
  · go_wp2_with fail
    go_ret
    exact val_of (by rw [HE.out]; rfl) (HBV.out.trans (HB.out.mono HBV.out.size))
  obtain ⟨u0, u1, u2, u3, u4⟩ := DpFrame.bxc (HX.out.below HB.out)
  obtain ⟨v0, v1, v2, v3, v4⟩ := DpFrame.bxc (HY.out.below HB.out)
  go_wp2_with fail
  refine (EqAuthority.equal_any _ _ _ _ _ _ _ _ _ (H1.out.below HB.out).rdS (G1.out.below HB.out).rdS).mono ?_
  rintro e w1 ⟨rfl, hb⟩
  rw [B1.out]
  have HB_ := Lib.hid (below_on HB.out hb)
  clear HB hb
  have HB := HB_
  clear HB_
  clear u0 v0 u1 v1 u2 v2 u3 v3 u4 v4
  cases β1
  · go_wp2_with fail
    go_ret
    exact val_of (by rw [HE.out]; rfl) (HBV.out.trans (HB.out.mono HBV.out.size))
  obtain ⟨u0, u1, u2, u3, u4⟩ := DpFrame.bxc (HX.out.below HB.out)
  obtain ⟨v0, v1, v2, v3, v4⟩ := DpFrame.bxc (HY.out.below HB.out)
  go_wp2_with fail
  refine (EqMethod.equal_any _ _ _ _ _ _ _ _ _ (H2.out.below HB.out).rdS (G2.out.below HB.out).rdS).mono ?_
  rintro e w2 ⟨rfl, hb⟩
  rw [B2.out]
  have HB_ := Lib.hid (below_on HB.out hb)
  clear HB hb
  have HB := HB_
  clear HB_
  clear u0 v0 u1 v1 u2 v2 u3 v3 u4 v4
  cases β2
  · go_wp2_with fail
    go_ret
    exact val_of (by rw [HE.out]; rfl) (HBV.out.trans (HB.out.mono HBV.out.size))
  obtain ⟨u0, u1, u2, u3, u4⟩ := DpFrame.bxc (HX.out.below HB.out)
  obtain ⟨v0, v1, v2, v3, v4⟩ := DpFrame.bxc (HY.out.below HB.out)
  cases β3
  · go_wp2_with fail
    go_ret
    exact val_of (by rw [HE.out]; rfl) (HBV.out.trans (HB.out.mono HBV.out.size))
  go_wp2_with fail
  go_ret
  exact val_of (by rw [HE.out]; cases β4 <;> rfl) (HBV.out.trans (HB.out.mono HBV.out.size))
end Go.Proofs.YtkmgnicngcandaaGreat.Ew0

namespace Go.Proofs.YtkmgnicngcandaaGreat.Ew1
open Go.ChangeShapes Go.WideShapes Go.ChangeAt Go.RowKit Sl St Ed Dz Ef Ea1 Ew0
set_option maxRecDepth 100000 in
set_option maxHeartbeats 8000000 in
theorem equal_any (l0 : List (Int × Int × Int × Int × Int)) (p0 : Option Addr) (n0 c0 : Nat) (l1 : List (Int × Int × Int)) (p1 : Option Addr) (n1 c1 : Nat) (l2 : List (Int × Int × Int × Int)) (p2 : Option Addr) (n2 c2 : Nat) (x3 : Int) (x4 : Int) (l5 : List (Int × Int × Int × Int × Int × Int × Int)) (p5 : Option Addr) (n5 c5 : Nat) (l6 : List Int) (p6 : Option Addr) (n6 c6 : Nat) (l7 : List DpArchive.A) (p7 : Option Addr) (n7 c7 : Nat) (l8 : List Int) (p8 : Option Addr) (n8 c8 : Nat) (l9 : List Int) (p9 : Option Addr) (n9 c9 : Nat) (x10 : Int) (l11 : List Int) (p11 : Option Addr) (n11 c11 : Nat) (m0 : List (Int × Int × Int × Int × Int)) (q0 : Option Addr) (k0 d0 : Nat) (m1 : List (Int × Int × Int)) (q1 : Option Addr) (k1 d1 : Nat) (m2 : List (Int × Int × Int × Int)) (q2 : Option Addr) (k2 d2 : Nat) (y3 : Int) (y4 : Int) (m5 : List (Int × Int × Int × Int × Int × Int × Int)) (q5 : Option Addr) (k5 d5 : Nat) (m6 : List Int) (q6 : Option Addr) (k6 d6 : Nat) (m7 : List DpArchive.A) (q7 : Option Addr) (k7 d7 : Nat) (m8 : List Int) (q8 : Option Addr) (k8 d8 : Nat) (m9 : List Int) (q9 : Option Addr) (k9 d9 : Nat) (y10 : Int) (m11 : List Int) (q11 : Option Addr) (k11 d11 : Nat) {S S2 : Nat → Prop} (w : World) (h0 : RdD (flat SlKey.E SlKey.InR) S w p0 n0 l0) (g0 : RdD (flat SlKey.E SlKey.InR) S2 w q0 k0 m0) (h1 : RdD (flat SlAuthority.E SlAuthority.InR) S w p1 n1 l1) (g1 : RdD (flat SlAuthority.E SlAuthority.InR) S2 w q1 k1 m1) (h2 : RdD (flat SlMethod.E SlMethod.InR) S w p2 n2 l2) (g2 : RdD (flat SlMethod.E SlMethod.InR) S2 w q2 k2 m2) (h5 : RdD (flat SlCert.E SlCert.InR) S w p5 n5 l5) (g5 : RdD (flat SlCert.E SlCert.InR) S2 w q5 k5 m5) (h6 : RdD int S w p6 n6 l6) (g6 : RdD int S2 w q6 k6 m6) (h7 : RdD DpArchive.E S w p7 n7 l7) (g7 : RdD DpArchive.E S2 w q7 k7 m7) (h8 : RdD int S w p8 n8 l8) (g8 : RdD int S2 w q8 k8 m8) (h9 : RdD int S w p9 n9 l9) (g9 : RdD int S2 w q9 k9 m9) (h11 : RdD int S w p11 n11 l11) (g11 : RdD int S2 w q11 k11 m11) : Calls Tryz.prog 7 #[.agg #[.slice p0 n0 c0, .slice p1 n1 c1, .slice p2 n2 c2, .int .i64 x3, .int .i64 x4, .slice p5 n5 c5, .slice p6 n6 c6, .slice p7 n7 c7, .slice p8 n8 c8, .slice p9 n9 c9, .int .i64 x10, .slice p11 n11 c11], .agg #[.slice q0 k0 d0, .slice q1 k1 d1, .slice q2 k2 d2, .int .i64 y3, .int .i64 y4, .slice q5 k5 d5, .slice q6 k6 d6, .slice q7 k7 d7, .slice q8 k8 d8, .slice q9 k9 d9, .int .i64 y10, .slice q11 k11 d11]] w (Val (.bool (eqWo ((l0, l1, l2, x3, x4), l5, l6, l7, l8, l9, x10, l11) ((m0, m1, m2, y3, y4), m5, m6, m7, m8, m9, y10, m11))) w) := by
  have hB : Below w.heap.size w ((w.alloc (.cells #[.slice p0 n0 c0, .slice p1 n1 c1, .slice p2 n2 c2, .int .i64 x3, .int .i64 x4, .slice p5 n5 c5, .slice p6 n6 c6, .slice p7 n7 c7, .slice p8 n8 c8, .slice p9 n9 c9, .int .i64 x10, .slice p11 n11 c11] 42)).alloc (.cells #[.slice q0 k0 d0, .slice q1 k1 d1, .slice q2 k2 d2, .int .i64 y3, .int .i64 y4, .slice q5 k5 d5, .slice q6 k6 d6, .slice q7 k7 d7, .slice q8 k8 d8, .slice q9 k9 d9, .int .i64 y10, .slice q11 k11 d11] 42)) := (box1 w _).alloc (by simp) _
  have hy := Bx.new (w.alloc (.cells #[.slice p0 n0 c0, .slice p1 n1 c1, .slice p2 n2 c2, .int .i64 x3, .int .i64 x4, .slice p5 n5 c5, .slice p6 n6 c6, .slice p7 n7 c7, .slice p8 n8 c8, .slice p9 n9 c9, .int .i64 x10, .slice p11 n11 c11] 42)) 42 #[.slice q0 k0 d0, .slice q1 k1 d1, .slice q2 k2 d2, .int .i64 y3, .int .i64 y4, .slice q5 k5 d5, .slice q6 k6 d6, .slice q7 k7 d7, .slice q8 k8 d8, .slice q9 k9 d9, .int .i64 y10, .slice q11 k11 d11]
  rw [World.size_alloc] at hy
  have HX := Lib.hid ((Bx.new w 42 #[.slice p0 n0 c0, .slice p1 n1 c1, .slice p2 n2 c2, .int .i64 x3, .int .i64 x4, .slice p5 n5 c5, .slice p6 n6 c6, .slice p7 n7 c7, .slice p8 n8 c8, .slice p9 n9 c9, .int .i64 x10, .slice p11 n11 c11]).alloc (.cells #[.slice q0 k0 d0, .slice q1 k1 d1, .slice q2 k2 d2, .int .i64 y3, .int .i64 y4, .slice q5 k5 d5, .slice q6 k6 d6, .slice q7 k7 d7, .slice q8 k8 d8, .slice q9 k9 d9, .int .i64 y10, .slice q11 k11 d11] 42))
  have HY := Lib.hid hy
  have HBV := Lib.hid hB
  have H0 := Lib.hid (h0.below hB)
  have G0 := Lib.hid (g0.below hB)
  have le0 := h0.le
  have lf0 := g0.le
  have H1 := Lib.hid (h1.below hB)
  have G1 := Lib.hid (g1.below hB)
  have le1 := h1.le
  have lf1 := g1.le
  have H2 := Lib.hid (h2.below hB)
  have G2 := Lib.hid (g2.below hB)
  have le2 := h2.le
  have lf2 := g2.le
  have H5 := Lib.hid (h5.below hB)
  have G5 := Lib.hid (g5.below hB)
  have le5 := h5.le
  have lf5 := g5.le
  have H6 := Lib.hid (h6.below hB)
  have G6 := Lib.hid (g6.below hB)
  have le6 := h6.le
  have lf6 := g6.le
  have H7 := Lib.hid (h7.below hB)
  have G7 := Lib.hid (g7.below hB)
  have le7 := h7.le
  have lf7 := g7.le
  have H8 := Lib.hid (h8.below hB)
  have G8 := Lib.hid (g8.below hB)
  have le8 := h8.le
  have lf8 := g8.le
  have H9 := Lib.hid (h9.below hB)
  have G9 := Lib.hid (g9.below hB)
  have le9 := h9.le
  have lf9 := g9.le
  have H11 := Lib.hid (h11.below hB)
  have G11 := Lib.hid (g11.below hB)
  have le11 := h11.le
  have lf11 := g11.le
  clear hy hB h0 g0 h1 g1 h2 g2 h5 g5 h6 g6 h7 g7 h8 g8 h9 g9 h11 g11
  obtain ⟨β0, hβ0⟩ : ∃ b, (eqFr (l0, l1, l2, x3, x4) (m0, m1, m2, y3, y4)) = b := ⟨_, rfl⟩
  obtain ⟨β1, hβ1⟩ : ∃ b, (EqCert.eqL l5 m5) = b := ⟨_, rfl⟩
  obtain ⟨β2, hβ2⟩ : ∃ b, (De.eqL l6 m6) = b := ⟨_, rfl⟩
  obtain ⟨β3, hβ3⟩ : ∃ b, (eqAll eqArc l7 m7) = b := ⟨_, rfl⟩
  obtain ⟨β4, hβ4⟩ : ∃ b, (De.eqL l8 m8) = b := ⟨_, rfl⟩
  obtain ⟨β5, hβ5⟩ : ∃ b, (De.eqL l9 m9) = b := ⟨_, rfl⟩
  obtain ⟨β6, hβ6⟩ : ∃ b, (decide (x10 = y10)) = b := ⟨_, rfl⟩
  obtain ⟨β7, hβ7⟩ : ∃ b, (De.eqL l11 m11) = b := ⟨_, rfl⟩
  have HE : Hid (eqWo ((l0, l1, l2, x3, x4), l5, l6, l7, l8, l9, x10, l11) ((m0, m1, m2, y3, y4), m5, m6, m7, m8, m9, y10, m11) = eight β0 β1 β2 β3 β4 β5 β6 β7) := Lib.hid (by rw [← hβ0, ← hβ1, ← hβ2, ← hβ3, ← hβ4, ← hβ5, ← hβ6, ← hβ7]; rfl)
  have B0 := Lib.hid hβ0
  have B1 := Lib.hid hβ1
  have B2 := Lib.hid hβ2
  have B3 := Lib.hid hβ3
  have B4 := Lib.hid hβ4
  have B5 := Lib.hid hβ5
  have E6 : (x10 == y10) = β6 := hβ6
  have B7 := Lib.hid hβ7
  clear hβ0 hβ1 hβ2 hβ3 hβ4 hβ5 hβ6 hβ7
  go_enter Tryz.func7, Tryz.ntmps7
  go_wp2_with fail
  generalize ((w.alloc (.cells #[.slice p0 n0 c0, .slice p1 n1 c1, .slice p2 n2 c2, .int .i64 x3, .int .i64 x4, .slice p5 n5 c5, .slice p6 n6 c6, .slice p7 n7 c7, .slice p8 n8 c8, .slice p9 n9 c9, .int .i64 x10, .slice p11 n11 c11] 42)).alloc (.cells #[.slice q0 k0 d0, .slice q1 k1 d1, .slice q2 k2 d2, .int .i64 y3, .int .i64 y4, .slice q5 k5 d5, .slice q6 k6 d6, .slice q7 k7 d7, .slice q8 k8 d8, .slice q9 k9 d9, .int .i64 y10, .slice q11 k11 d11] 42)) = V at HX HY HBV H0 G0 H1 G1 H2 G2 H5 G5 H6 G6 H7 G7 H8 G8 H9 G9 H11 G11 ⊢
  have HB := Lib.hid (Below.refl V.heap.size V)
  refine (frames_any l0 _ _ _ l1 _ _ _ l2 _ _ _ x3 x4 m0 _ _ _ m1 _ _ _ m2 _ _ _ y3 y4 _ (H0.out.below HB.out) (G0.out.below HB.out) (H1.out.below HB.out) (G1.out.below HB.out) (H2.out.below HB.out) (G2.out.below HB.out)).mono ?_
  rintro e w0 ⟨rfl, hb⟩
  rw [B0.out]
  have HB_ := Lib.hid (below_on HB.out hb)
  clear HB hb
  have HB := HB_
  clear HB_
  cases β0
  · go_wp2_with fail
    go_ret
    exact val_of (by rw [HE.out]; rfl) (HBV.out.trans (HB.out.mono HBV.out.size))
  obtain ⟨u0, u1, u2, u3, u4, u5, u6, u7, u8, u9, u10, u11⟩ := DpWorld.bxc (HX.out.below HB.out)
  obtain ⟨v0, v1, v2, v3, v4, v5, v6, v7, v8, v9, v10, v11⟩ := DpWorld.bxc (HY.out.below HB.out)
  go_wp2_with fail
  refine (EqCert.equal_any _ _ _ _ _ _ _ _ _ (H5.out.below HB.out).rdS (G5.out.below HB.out).rdS).mono ?_
  rintro e w1 ⟨rfl, hb⟩
  rw [B1.out]
  have HB_ := Lib.hid (below_on HB.out hb)
  clear HB hb
  have HB := HB_
  clear HB_
  clear u0 v0 u1 v1 u2 v2 u3 v3 u4 v4 u5 v5 u6 v6 u7 v7 u8 v8 u9 v9 u10 v10 u11 v11
  cases β1
  · go_wp2_with fail
    go_ret
    exact val_of (by rw [HE.out]; rfl) (HBV.out.trans (HB.out.mono HBV.out.size))
  obtain ⟨u0, u1, u2, u3, u4, u5, u6, u7, u8, u9, u10, u11⟩ := DpWorld.bxc (HX.out.below HB.out)
  obtain ⟨v0, v1, v2, v3, v4, v5, v6, v7, v8, v9, v10, v11⟩ := DpWorld.bxc (HY.out.below HB.out)
  go_wp2_with fail
  refine (De.eqInts_any _ _ _ _ _ _ _ _ _ (H6.out.below HB.out).ints (G6.out.below HB.out).ints).mono ?_
  rintro e w2 ⟨rfl, hb⟩
  rw [B2.out]
  have HB_ := Lib.hid (below_on HB.out hb)
  clear HB hb
  have HB := HB_
  clear HB_
  clear u0 v0 u1 v1 u2 v2 u3 v3 u4 v4 u5 v5 u6 v6 u7 v7 u8 v8 u9 v9 u10 v10 u11 v11
  cases β2
  · go_wp2_with fail
    go_ret
    exact val_of (by rw [HE.out]; rfl) (HBV.out.trans (HB.out.mono HBV.out.size))
  obtain ⟨u0, u1, u2, u3, u4, u5, u6, u7, u8, u9, u10, u11⟩ := DpWorld.bxc (HX.out.below HB.out)
  obtain ⟨v0, v1, v2, v3, v4, v5, v6, v7, v8, v9, v10, v11⟩ := DpWorld.bxc (HY.out.below HB.out)
  go_wp2_with fail
  refine (archives_any _ _ _ _ _ _ _ _ _ (H7.out.below HB.out) (G7.out.below HB.out)).mono ?_
  rintro e w3 ⟨rfl, hb⟩
  rw [B3.out]
  have HB_ := Lib.hid (below_on HB.out hb)
  clear HB hb
  have HB := HB_
  clear HB_
  clear u0 v0 u1 v1 u2 v2 u3 v3 u4 v4 u5 v5 u6 v6 u7 v7 u8 v8 u9 v9 u10 v10 u11 v11
  cases β3
  · go_wp2_with fail
    go_ret
    exact val_of (by rw [HE.out]; rfl) (HBV.out.trans (HB.out.mono HBV.out.size))
  obtain ⟨u0, u1, u2, u3, u4, u5, u6, u7, u8, u9, u10, u11⟩ := DpWorld.bxc (HX.out.below HB.out)
  obtain ⟨v0, v1, v2, v3, v4, v5, v6, v7, v8, v9, v10, v11⟩ := DpWorld.bxc (HY.out.below HB.out)
  go_wp2_with fail
  refine (De.eqInts_any _ _ _ _ _ _ _ _ _ (H8.out.below HB.out).ints (G8.out.below HB.out).ints).mono ?_
  rintro e w4 ⟨rfl, hb⟩
  rw [B4.out]
  have HB_ := Lib.hid (below_on HB.out hb)
  clear HB hb
  have HB := HB_
  clear HB_
  clear u0 v0 u1 v1 u2 v2 u3 v3 u4 v4 u5 v5 u6 v6 u7 v7 u8 v8 u9 v9 u10 v10 u11 v11
  cases β4
  · go_wp2_with fail
    go_ret
    exact val_of (by rw [HE.out]; rfl) (HBV.out.trans (HB.out.mono HBV.out.size))
  obtain ⟨u0, u1, u2, u3, u4, u5, u6, u7, u8, u9, u10, u11⟩ := DpWorld.bxc (HX.out.below HB.out)
  obtain ⟨v0, v1, v2, v3, v4, v5, v6, v7, v8, v9, v10, v11⟩ := DpWorld.bxc (HY.out.below HB.out)
  go_wp2_with fail
  refine (De.eqInts_any _ _ _ _ _ _ _ _ _ (H9.out.below HB.out).ints (G9.out.below HB.out).ints).mono ?_
  rintro e w5 ⟨rfl, hb⟩
  rw [B5.out]
  have HB_ := Lib.hid (below_on HB.out hb)
  clear HB hb
  have HB := HB_
  clear HB_
  clear u0 v0 u1 v1 u2 v2 u3 v3 u4 v4 u5 v5 u6 v6 u7 v7 u8 v8 u9 v9 u10 v10 u11 v11
  cases β5
  · go_wp2_with fail
    go_ret
    exact val_of (by rw [HE.out]; rfl) (HBV.out.trans (HB.out.mono HBV.out.size))
  obtain ⟨u0, u1, u2, u3, u4, u5, u6, u7, u8, u9, u10, u11⟩ := DpWorld.bxc (HX.out.below HB.out)
  obtain ⟨v0, v1, v2, v3, v4, v5, v6, v7, v8, v9, v10, v11⟩ := DpWorld.bxc (HY.out.below HB.out)
  cases β6
  · go_wp2_with fail
    go_ret
    exact val_of (by rw [HE.out]; rfl) (HBV.out.trans (HB.out.mono HBV.out.size))
  go_wp2_with fail
  refine (De.eqInts_any _ _ _ _ _ _ _ _ _ (H11.out.below HB.out).ints (G11.out.below HB.out).ints).mono ?_
  rintro e w7 ⟨rfl, hb⟩
  rw [B7.out]
  have HB_ := Lib.hid (below_on HB.out hb)
  clear HB hb
  have HB := HB_
  clear HB_
  clear u0 v0 u1 v1 u2 v2 u3 v3 u4 v4 u5 v5 u6 v6 u7 v7 u8 v8 u9 v9 u10 v10 u11 v11
  go_wp2_with fail
  go_ret
  exact val_of (by rw [HE.out]; cases β7 <;> rfl) (HBV.out.trans (HB.out.mono HBV.out.size))
end Go.Proofs.YtkmgnicngcandaaGreat.Ew1

namespace Go.Proofs.YtkmgnicngcandaaGreat.Ew2
open Go.ChangeShapes Go.WideShapes Go.ChangeAt Go.RowKit Sl St Ed Dz Ef Ea1 Ew0
set_option maxRecDepth 100000 in
set_option maxHeartbeats 8000000 in
theorem frames_any (l0 : List (Int × Int × Int × Int × Int)) (p0 : Option Addr) (n0 c0 : Nat) (l1 : List (Int × Int × Int)) (p1 : Option Addr) (n1 c1 : Nat) (l2 : List (Int × Int × Int × Int)) (p2 : Option Addr) (n2 c2 : Nat) (x3 : Int) (x4 : Int) (m0 : List (Int × Int × Int × Int × Int)) (q0 : Option Addr) (k0 d0 : Nat) (m1 : List (Int × Int × Int)) (q1 : Option Addr) (k1 d1 : Nat) (m2 : List (Int × Int × Int × Int)) (q2 : Option Addr) (k2 d2 : Nat) (y3 : Int) (y4 : Int) {S S2 : Nat → Prop} (w : World) (h0 : RdD (flat SlKey.E SlKey.InR) S w p0 n0 l0) (g0 : RdD (flat SlKey.E SlKey.InR) S2 w q0 k0 m0) (h1 : RdD (flat SlAuthority.E SlAuthority.InR) S w p1 n1 l1) (g1 : RdD (flat SlAuthority.E SlAuthority.InR) S2 w q1 k1 m1) (h2 : RdD (flat SlMethod.E SlMethod.InR) S w p2 n2 l2) (g2 : RdD (flat SlMethod.E SlMethod.InR) S2 w q2 k2 m2) : Calls Tryz.prog 14 #[.agg #[.slice p0 n0 c0, .slice p1 n1 c1, .slice p2 n2 c2, .int .i64 x3, .int .i64 x4], .agg #[.slice q0 k0 d0, .slice q1 k1 d1, .slice q2 k2 d2, .int .i64 y3, .int .i64 y4]] w (Val (.bool (eqFr (l0, l1, l2, x3, x4) (m0, m1, m2, y3, y4))) w) := by
  have hB : Below w.heap.size w ((w.alloc (.cells #[.slice p0 n0 c0, .slice p1 n1 c1, .slice p2 n2 c2, .int .i64 x3, .int .i64 x4] 38)).alloc (.cells #[.slice q0 k0 d0, .slice q1 k1 d1, .slice q2 k2 d2, .int .i64 y3, .int .i64 y4] 38)) := (box1 w _).alloc (by simp) _
  have hy := Bx.new (w.alloc (.cells #[.slice p0 n0 c0, .slice p1 n1 c1, .slice p2 n2 c2, .int .i64 x3, .int .i64 x4] 38)) 38 #[.slice q0 k0 d0, .slice q1 k1 d1, .slice q2 k2 d2, .int .i64 y3, .int .i64 y4]
  rw [World.size_alloc] at hy
  have HX := Lib.hid ((Bx.new w 38 #[.slice p0 n0 c0, .slice p1 n1 c1, .slice p2 n2 c2, .int .i64 x3, .int .i64 x4]).alloc (.cells #[.slice q0 k0 d0, .slice q1 k1 d1, .slice q2 k2 d2, .int .i64 y3, .int .i64 y4] 38))
  have HY := Lib.hid hy
  have HBV := Lib.hid hB
  have H0 := Lib.hid (h0.below hB)
  have G0 := Lib.hid (g0.below hB)
  have le0 := h0.le
  have lf0 := g0.le
  have H1 := Lib.hid (h1.below hB)
  have G1 := Lib.hid (g1.below hB)
  have le1 := h1.le
  have lf1 := g1.le
  have H2 := Lib.hid (h2.below hB)
  have G2 := Lib.hid (g2.below hB)
  have le2 := h2.le
  have lf2 := g2.le
  clear hy hB h0 g0 h1 g1 h2 g2
  by_cases a0 : n0 = k0
  rotate_left
  · have HN : Hid (eqFr (l0, l1, l2, x3, x4) (m0, m1, m2, y3, y4) = false) := Lib.hid (by show five _ _ _ _ _ = false; rw [show EqKey.eqL l0 m0 = false from EqKey.eqL_no (fun e => a0 (by rw [← H0.out.len, ← G0.out.len, e]))]; exact five0)
    have b1 : ((n0 : Int) == k0) = false := beq_eq_false_iff_ne.2 (by omega)
    have b2 : ((n0 : Int) != k0) = true := by rw [bne, b1]; rfl
    have b3 : (n0 == k0) = false := beq_eq_false_iff_ne.2 a0
    have b4 : (n0 != k0) = true := by rw [bne, b3]; rfl
    clear a0
    go_enter Tryz.func14, Tryz.ntmps14
    go_wp2_with fail
    go_ret
    exact val_of (by rw [HN.out]; rfl) HBV.out
  by_cases a1 : n1 = k1
  rotate_left
  · have HN : Hid (eqFr (l0, l1, l2, x3, x4) (m0, m1, m2, y3, y4) = false) := Lib.hid (by show five _ _ _ _ _ = false; rw [show EqAuthority.eqL l1 m1 = false from EqAuthority.eqL_no (fun e => a1 (by rw [← H1.out.len, ← G1.out.len, e]))]; exact five1)
    have b1 : ((n1 : Int) == k1) = false := beq_eq_false_iff_ne.2 (by omega)
    have b2 : ((n1 : Int) != k1) = true := by rw [bne, b1]; rfl
    have b3 : (n1 == k1) = false := beq_eq_false_iff_ne.2 a1
    have b4 : (n1 != k1) = true := by rw [bne, b3]; rfl
    subst a0
    clear a1
    go_enter Tryz.func14, Tryz.ntmps14
    go_wp2_with fail
    go_ret
    exact val_of (by rw [HN.out]; rfl) HBV.out
  by_cases a2 : n2 = k2
  rotate_left
  · have HN : Hid (eqFr (l0, l1, l2, x3, x4) (m0, m1, m2, y3, y4) = false) := Lib.hid (by show five _ _ _ _ _ = false; rw [show EqMethod.eqL l2 m2 = false from EqMethod.eqL_no (fun e => a2 (by rw [← H2.out.len, ← G2.out.len, e]))]; exact five2)
    have b1 : ((n2 : Int) == k2) = false := beq_eq_false_iff_ne.2 (by omega)
    have b2 : ((n2 : Int) != k2) = true := by rw [bne, b1]; rfl
    have b3 : (n2 == k2) = false := beq_eq_false_iff_ne.2 a2
    have b4 : (n2 != k2) = true := by rw [bne, b3]; rfl
    subst a0 a1
    clear a2
    go_enter Tryz.func14, Tryz.ntmps14
    go_wp2_with fail
    go_ret
    exact val_of (by rw [HN.out]; rfl) HBV.out
  by_cases a3 : x3 = y3
  rotate_left
  · have HN : Hid (eqFr (l0, l1, l2, x3, x4) (m0, m1, m2, y3, y4) = false) := Lib.hid (by show five _ _ _ _ _ = false; rw [show decide (x3 = y3) = false from decide_eq_false a3]; exact five3)
    have b1 : (x3 == y3) = false := beq_eq_false_iff_ne.2 a3
    have b2 : (x3 != y3) = true := by rw [bne, b1]; rfl
    subst a0 a1 a2
    clear a3
    go_enter Tryz.func14, Tryz.ntmps14
    go_wp2_with fail
    go_ret
    exact val_of (by rw [HN.out]; rfl) HBV.out
  by_cases a4 : x4 = y4
  rotate_left
  · have HN : Hid (eqFr (l0, l1, l2, x3, x4) (m0, m1, m2, y3, y4) = false) := Lib.hid (by show five _ _ _ _ _ = false; rw [show decide (x4 = y4) = false from decide_eq_false a4]; exact five4)
    have b1 : (x4 == y4) = false := beq_eq_false_iff_ne.2 a4
    have b2 : (x4 != y4) = true := by rw [bne, b1]; rfl
    subst a0 a1 a2 a3
    clear a4
    go_enter Tryz.func14, Tryz.ntmps14
    go_wp2_with fail
    go_ret
    exact val_of (by rw [HN.out]; rfl) HBV.out
  subst a0 a1 a2 a3 a4
  go_enter Tryz.func14, Tryz.ntmps14
  go_wp2_with fail
  generalize ((w.alloc (.cells #[.slice p0 n0 c0, .slice p1 n1 c1, .slice p2 n2 c2, .int .i64 x3, .int .i64 x4] 38)).alloc (.cells #[.slice q0 n0 d0, .slice q1 n1 d1, .slice q2 n2 d2, .int .i64 x3, .int .i64 x4] 38)) = V at HX HY HBV H0 G0 H1 G1 H2 G2 ⊢
  go_loopw [5] (fun i wr => ∃ k q : Nat, k ≤ n0 ∧ i = .int .i64 k ∧ wr = V.drewN q ∧ Hid (∀ jj, jj < k → l0[jj]? = m0[jj]?)) (fun i _ => n0 - (intOf i).toNat)
  case atStart => exact ⟨0, 0, Nat.zero_le _, rfl, rfl, fun j hj => absurd hj (Nat.not_lt_zero _)⟩
  case round =>
    obtain ⟨k, q, hk, rfl, rfl, HE⟩ := hrel
    by_cases hlt : k < n0
    · obtain ⟨b, o, x, rfl, hb, hx, hc⟩ := H0.out.rdS.at_ hlt
      obtain ⟨b', o', y, rfl, hb', hy, hc'⟩ := G0.out.rdS.at_ hlt
      have HX1 := Lib.hid hx
      have HY1 := Lib.hid hy
      clear hx hy
      obtain ⟨s0, s1, s2, s3, s4⟩ := x
      obtain ⟨t0, t1, t2, t3, t4⟩ := y
      have hu : ∀ j v, [.int .i64 s0, .int .i64 s1, .int .i64 s2, .int .i64 s3, .int .i64 s4][j]? = some v → V.cell? ⟨b, o + k * 5 + j, none⟩ = some v := hc
      have hv : ∀ j v, [.int .i64 t0, .int .i64 t1, .int .i64 t2, .int .i64 t3, .int .i64 t4][j]? = some v → V.cell? ⟨b', o' + k * 5 + j, none⟩ = some v := hc'
      have hu0 : V.cell? ⟨b, o + k * 5, none⟩ = some (.int .i64 s0) := hu 0 _ rfl
      have hv0 : V.cell? ⟨b', o' + k * 5, none⟩ = some (.int .i64 t0) := hv 0 _ rfl
      have hu1 : V.cell? ⟨b, o + k * 5 + 1, none⟩ = some (.int .i64 s1) := hu 1 _ rfl
      have hv1 : V.cell? ⟨b', o' + k * 5 + 1, none⟩ = some (.int .i64 t1) := hv 1 _ rfl
      have hu2 : V.cell? ⟨b, o + k * 5 + 2, none⟩ = some (.int .i64 s2) := hu 2 _ rfl
      have hv2 : V.cell? ⟨b', o' + k * 5 + 2, none⟩ = some (.int .i64 t2) := hv 2 _ rfl
      have hu3 : V.cell? ⟨b, o + k * 5 + 3, none⟩ = some (.int .i64 s3) := hu 3 _ rfl
      have hv3 : V.cell? ⟨b', o' + k * 5 + 3, none⟩ = some (.int .i64 t3) := hv 3 _ rfl
      have hu4 : V.cell? ⟨b, o + k * 5 + 4, none⟩ = some (.int .i64 s4) := hu 4 _ rfl
      have hv4 : V.cell? ⟨b', o' + k * 5 + 4, none⟩ = some (.int .i64 t4) := hv 4 _ rfl
      clear hc hc' hu hv
      obtain ⟨u0, u1, u2, u3, u4⟩ := DpFrame.bxc HX.out
      obtain ⟨v0, v1, v2, v3, v4⟩ := DpFrame.bxc HY.out
      have i1 : (0 : Int) ≤ (k : Int) := by omega
      have i2 : (k : Int) < (n0 : Int) := by omega
      by_cases hxy : (s0, s1, s2, s3, s4) = (t0, t1, t2, t3, t4)
      · have HXY := Lib.hid hxy
        simp only [Prod.mk.injEq] at hxy
        obtain ⟨rfl, rfl, rfl, rfl, rfl⟩ := hxy
        go_wp2_with fail
        go_quiet (fail)
        go_wp2_with fail
        refine ⟨⟨k + 1, _, by omega, by go_num, rfl, fun j hj => ?_⟩, by simp [intOf]; omega⟩
        by_cases hjk : j = k
        · rw [hjk, HX1.out, HY1.out]
        · exact HE.out j (by omega)
      · have HN := Lib.hid (EqKey.first_ne HX1.out HY1.out hxy)
        have HF : Hid (eqFr (l0, l1, l2, x3, x4) (m0, m1, m2, x3, x4) = false) := Lib.hid (by have h0 : EqKey.eqL l0 m0 = false := EqKey.eqL_no HN.out; show five _ _ _ _ _ = false; rw [h0]; exact five0)
        have hd : (¬ s0 = t0) ∨ (s0 = t0 ∧ ¬ s1 = t1) ∨ (s0 = t0 ∧ s1 = t1 ∧ ¬ s2 = t2) ∨ (s0 = t0 ∧ s1 = t1 ∧ s2 = t2 ∧ ¬ s3 = t3) ∨ (s0 = t0 ∧ s1 = t1 ∧ s2 = t2 ∧ s3 = t3 ∧ ¬ s4 = t4) := by
          by_cases e0 : s0 = t0
          rotate_left
          · exact Or.inl e0
          by_cases e1 : s1 = t1
          rotate_left
          · exact Or.inr (Or.inl ⟨e0, e1⟩)
          by_cases e2 : s2 = t2
          rotate_left
          · exact Or.inr (Or.inr (Or.inl ⟨e0, e1, e2⟩))
          by_cases e3 : s3 = t3
          rotate_left
          · exact Or.inr (Or.inr (Or.inr (Or.inl ⟨e0, e1, e2, e3⟩)))
          by_cases e4 : s4 = t4
          rotate_left
          · exact Or.inr (Or.inr (Or.inr (Or.inr (⟨e0, e1, e2, e3, e4⟩))))
          exact absurd (by rw [e0, e1, e2, e3, e4]) hxy
        rcases hd with hne | ⟨rfl, hne⟩ | ⟨rfl, rfl, hne⟩ | ⟨rfl, rfl, rfl, hne⟩ | ⟨rfl, rfl, rfl, rfl, hne⟩
        all_goals
          clear hxy HX1 HY1
          go_wp2_with fail
          go_quiet (fail)
          go_wp2_with fail
          go_ret
          exact val_of (by rw [HF.out]; rfl) (below_drewN (below_drewN HBV.out _) _)
    · obtain rfl : k = n0 := by omega
      have HA0 : Hid (EqKey.eqL l0 m0 = true) := Lib.hid (EqKey.eqL_yes (EqKey.all_eq H0.out.len G0.out.len HE.out))
      obtain ⟨Q0, hq⟩ : ∃ q', q' = q := ⟨_, rfl⟩
      subst hq
      clear HE
      obtain ⟨u0, u1, u2, u3, u4⟩ := DpFrame.bxc HX.out
      obtain ⟨v0, v1, v2, v3, v4⟩ := DpFrame.bxc HY.out
      go_wp2_with fail
      go_loopw [6] (fun i wr => ∃ k q : Nat, k ≤ n1 ∧ i = .int .i64 k ∧ wr = V.drewN q ∧ Hid (∀ jj, jj < k → l1[jj]? = m1[jj]?)) (fun i _ => n1 - (intOf i).toNat)
      case atStart => exact ⟨0, Q0, Nat.zero_le _, rfl, rfl, fun j hj => absurd hj (Nat.not_lt_zero _)⟩
      case round =>
        obtain ⟨k, q, hk, rfl, rfl, HE⟩ := hrel
        by_cases hlt : k < n1
        · obtain ⟨b, o, x, rfl, hb, hx, hc⟩ := H1.out.rdS.at_ hlt
          obtain ⟨b', o', y, rfl, hb', hy, hc'⟩ := G1.out.rdS.at_ hlt
          have HX1 := Lib.hid hx
          have HY1 := Lib.hid hy
          clear hx hy
          obtain ⟨s0, s1, s2⟩ := x
          obtain ⟨t0, t1, t2⟩ := y
          have hu : ∀ j v, [.int .i64 s0, .int .i64 s1, .int .i64 s2][j]? = some v → V.cell? ⟨b, o + k * 3 + j, none⟩ = some v := hc
          have hv : ∀ j v, [.int .i64 t0, .int .i64 t1, .int .i64 t2][j]? = some v → V.cell? ⟨b', o' + k * 3 + j, none⟩ = some v := hc'
          have hu0 : V.cell? ⟨b, o + k * 3, none⟩ = some (.int .i64 s0) := hu 0 _ rfl
          have hv0 : V.cell? ⟨b', o' + k * 3, none⟩ = some (.int .i64 t0) := hv 0 _ rfl
          have hu1 : V.cell? ⟨b, o + k * 3 + 1, none⟩ = some (.int .i64 s1) := hu 1 _ rfl
          have hv1 : V.cell? ⟨b', o' + k * 3 + 1, none⟩ = some (.int .i64 t1) := hv 1 _ rfl
          have hu2 : V.cell? ⟨b, o + k * 3 + 2, none⟩ = some (.int .i64 s2) := hu 2 _ rfl
          have hv2 : V.cell? ⟨b', o' + k * 3 + 2, none⟩ = some (.int .i64 t2) := hv 2 _ rfl
          clear hc hc' hu hv
          obtain ⟨u0, u1, u2, u3, u4⟩ := DpFrame.bxc HX.out
          obtain ⟨v0, v1, v2, v3, v4⟩ := DpFrame.bxc HY.out
          have i1 : (0 : Int) ≤ (k : Int) := by omega
          have i2 : (k : Int) < (n1 : Int) := by omega
          by_cases hxy : (s0, s1, s2) = (t0, t1, t2)
          · have HXY := Lib.hid hxy
            simp only [Prod.mk.injEq] at hxy
            obtain ⟨rfl, rfl, rfl⟩ := hxy
            go_wp2_with fail
            go_quiet (fail)
            go_wp2_with fail
            refine ⟨⟨k + 1, _, by omega, by go_num, rfl, fun j hj => ?_⟩, by simp [intOf]; omega⟩
            by_cases hjk : j = k
            · rw [hjk, HX1.out, HY1.out]
            · exact HE.out j (by omega)
          · have HN := Lib.hid (EqAuthority.first_ne HX1.out HY1.out hxy)
            have HF : Hid (eqFr (l0, l1, l2, x3, x4) (m0, m1, m2, x3, x4) = false) := Lib.hid (by have h0 : EqAuthority.eqL l1 m1 = false := EqAuthority.eqL_no HN.out; show five _ _ _ _ _ = false; rw [h0]; exact five1)
            have hd : (¬ s0 = t0) ∨ (s0 = t0 ∧ ¬ s1 = t1) ∨ (s0 = t0 ∧ s1 = t1 ∧ ¬ s2 = t2) := by
              by_cases e0 : s0 = t0
              rotate_left
              · exact Or.inl e0
              by_cases e1 : s1 = t1
              rotate_left
              · exact Or.inr (Or.inl ⟨e0, e1⟩)
              by_cases e2 : s2 = t2
              rotate_left
              · exact Or.inr (Or.inr (⟨e0, e1, e2⟩))
              exact absurd (by rw [e0, e1, e2]) hxy
            rcases hd with hne | ⟨rfl, hne⟩ | ⟨rfl, rfl, hne⟩
            all_goals
              clear hxy HX1 HY1
              go_wp2_with fail
              go_quiet (fail)
              go_wp2_with fail
              go_ret
              exact val_of (by rw [HF.out]; rfl) (below_drewN (below_drewN HBV.out _) _)
        · obtain rfl : k = n1 := by omega
          have HA1 : Hid (EqAuthority.eqL l1 m1 = true) := Lib.hid (EqAuthority.eqL_yes (EqAuthority.all_eq H1.out.len G1.out.len HE.out))
          obtain ⟨Q1, hq⟩ : ∃ q', q' = q := ⟨_, rfl⟩
          subst hq
          clear HE
          obtain ⟨u0, u1, u2, u3, u4⟩ := DpFrame.bxc HX.out
          obtain ⟨v0, v1, v2, v3, v4⟩ := DpFrame.bxc HY.out
          go_wp2_with fail
          go_loopw [7] (fun i wr => ∃ k q : Nat, k ≤ n2 ∧ i = .int .i64 k ∧ wr = V.drewN q ∧ Hid (∀ jj, jj < k → l2[jj]? = m2[jj]?)) (fun i _ => n2 - (intOf i).toNat)
          case atStart => exact ⟨0, Q1, Nat.zero_le _, rfl, rfl, fun j hj => absurd hj (Nat.not_lt_zero _)⟩
          case round =>
            obtain ⟨k, q, hk, rfl, rfl, HE⟩ := hrel
            by_cases hlt : k < n2
            · obtain ⟨b, o, x, rfl, hb, hx, hc⟩ := H2.out.rdS.at_ hlt
              obtain ⟨b', o', y, rfl, hb', hy, hc'⟩ := G2.out.rdS.at_ hlt
              have HX1 := Lib.hid hx
              have HY1 := Lib.hid hy
              clear hx hy
              obtain ⟨s0, s1, s2, s3⟩ := x
              obtain ⟨t0, t1, t2, t3⟩ := y
              have hu : ∀ j v, [.int .i64 s0, .int .i64 s1, .int .i64 s2, .int .i64 s3][j]? = some v → V.cell? ⟨b, o + k * 4 + j, none⟩ = some v := hc
              have hv : ∀ j v, [.int .i64 t0, .int .i64 t1, .int .i64 t2, .int .i64 t3][j]? = some v → V.cell? ⟨b', o' + k * 4 + j, none⟩ = some v := hc'
              have hu0 : V.cell? ⟨b, o + k * 4, none⟩ = some (.int .i64 s0) := hu 0 _ rfl
              have hv0 : V.cell? ⟨b', o' + k * 4, none⟩ = some (.int .i64 t0) := hv 0 _ rfl
              have hu1 : V.cell? ⟨b, o + k * 4 + 1, none⟩ = some (.int .i64 s1) := hu 1 _ rfl
              have hv1 : V.cell? ⟨b', o' + k * 4 + 1, none⟩ = some (.int .i64 t1) := hv 1 _ rfl
              have hu2 : V.cell? ⟨b, o + k * 4 + 2, none⟩ = some (.int .i64 s2) := hu 2 _ rfl
              have hv2 : V.cell? ⟨b', o' + k * 4 + 2, none⟩ = some (.int .i64 t2) := hv 2 _ rfl
              have hu3 : V.cell? ⟨b, o + k * 4 + 3, none⟩ = some (.int .i64 s3) := hu 3 _ rfl
              have hv3 : V.cell? ⟨b', o' + k * 4 + 3, none⟩ = some (.int .i64 t3) := hv 3 _ rfl
              clear hc hc' hu hv
              obtain ⟨u0, u1, u2, u3, u4⟩ := DpFrame.bxc HX.out
              obtain ⟨v0, v1, v2, v3, v4⟩ := DpFrame.bxc HY.out
              have i1 : (0 : Int) ≤ (k : Int) := by omega
              have i2 : (k : Int) < (n2 : Int) := by omega
              by_cases hxy : (s0, s1, s2, s3) = (t0, t1, t2, t3)
              · have HXY := Lib.hid hxy
                simp only [Prod.mk.injEq] at hxy
                obtain ⟨rfl, rfl, rfl, rfl⟩ := hxy
                go_wp2_with fail
                go_quiet (fail)
                go_wp2_with fail
                refine ⟨⟨k + 1, _, by omega, by go_num, rfl, fun j hj => ?_⟩, by simp [intOf]; omega⟩
                by_cases hjk : j = k
                · rw [hjk, HX1.out, HY1.out]
                · exact HE.out j (by omega)
              · have HN := Lib.hid (EqMethod.first_ne HX1.out HY1.out hxy)
                have HF : Hid (eqFr (l0, l1, l2, x3, x4) (m0, m1, m2, x3, x4) = false) := Lib.hid (by have h0 : EqMethod.eqL l2 m2 = false := EqMethod.eqL_no HN.out; show five _ _ _ _ _ = false; rw [h0]; exact five2)
                have hd : (¬ s0 = t0) ∨ (s0 = t0 ∧ ¬ s1 = t1) ∨ (s0 = t0 ∧ s1 = t1 ∧ ¬ s2 = t2) ∨ (s0 = t0 ∧ s1 = t1 ∧ s2 = t2 ∧ ¬ s3 = t3) := by
                  by_cases e0 : s0 = t0
                  rotate_left
                  · exact Or.inl e0
                  by_cases e1 : s1 = t1
                  rotate_left
                  · exact Or.inr (Or.inl ⟨e0, e1⟩)
                  by_cases e2 : s2 = t2
                  rotate_left
                  · exact Or.inr (Or.inr (Or.inl ⟨e0, e1, e2⟩))
                  by_cases e3 : s3 = t3
                  rotate_left
                  · exact Or.inr (Or.inr (Or.inr (⟨e0, e1, e2, e3⟩)))
                  exact absurd (by rw [e0, e1, e2, e3]) hxy
                rcases hd with hne | ⟨rfl, hne⟩ | ⟨rfl, rfl, hne⟩ | ⟨rfl, rfl, rfl, hne⟩
                all_goals
                  clear hxy HX1 HY1
                  go_wp2_with fail
                  go_quiet (fail)
                  go_wp2_with fail
                  go_ret
                  exact val_of (by rw [HF.out]; rfl) (below_drewN (below_drewN HBV.out _) _)
            · obtain rfl : k = n2 := by omega
              have HA2 : Hid (EqMethod.eqL l2 m2 = true) := Lib.hid (EqMethod.eqL_yes (EqMethod.all_eq H2.out.len G2.out.len HE.out))
              obtain ⟨Q2, hq⟩ : ∃ q', q' = q := ⟨_, rfl⟩
              subst hq
              clear HE
              obtain ⟨u0, u1, u2, u3, u4⟩ := DpFrame.bxc HX.out
              obtain ⟨v0, v1, v2, v3, v4⟩ := DpFrame.bxc HY.out
              go_wp2_with fail
              go_ret
              exact val_of (by show Value.bool true = Value.bool (five _ _ _ _ _); rw [HA0.out, HA1.out, HA2.out]; simp [five]) (below_drewN HBV.out _)
end Go.Proofs.YtkmgnicngcandaaGreat.Ew2

namespace Go.Proofs.YtkmgnicngcandaaGreat.Ew3
open Go.ChangeShapes Go.WideShapes Go.ChangeAt Go.RowKit Sl St Ed Dz Ef Ea1 Ew0
set_option maxRecDepth 100000 in
set_option maxHeartbeats 8000000 in
theorem spec_equal_any (l0 : List (Int × Int × Int × Int × Int)) (p0 : Option Addr) (n0 c0 : Nat) (l1 : List (Int × Int × Int)) (p1 : Option Addr) (n1 c1 : Nat) (l2 : List (Int × Int × Int × Int)) (p2 : Option Addr) (n2 c2 : Nat) (x3 : Int) (x4 : Int) (l5 : List (Int × Int × Int × Int × Int × Int × Int)) (p5 : Option Addr) (n5 c5 : Nat) (l6 : List Int) (p6 : Option Addr) (n6 c6 : Nat) (l7 : List DpArchive.A) (p7 : Option Addr) (n7 c7 : Nat) (l8 : List Int) (p8 : Option Addr) (n8 c8 : Nat) (l9 : List Int) (p9 : Option Addr) (n9 c9 : Nat) (x10 : Int) (l11 : List Int) (p11 : Option Addr) (n11 c11 : Nat) (m0 : List (Int × Int × Int × Int × Int)) (q0 : Option Addr) (k0 d0 : Nat) (m1 : List (Int × Int × Int)) (q1 : Option Addr) (k1 d1 : Nat) (m2 : List (Int × Int × Int × Int)) (q2 : Option Addr) (k2 d2 : Nat) (y3 : Int) (y4 : Int) (m5 : List (Int × Int × Int × Int × Int × Int × Int)) (q5 : Option Addr) (k5 d5 : Nat) (m6 : List Int) (q6 : Option Addr) (k6 d6 : Nat) (m7 : List DpArchive.A) (q7 : Option Addr) (k7 d7 : Nat) (m8 : List Int) (q8 : Option Addr) (k8 d8 : Nat) (m9 : List Int) (q9 : Option Addr) (k9 d9 : Nat) (y10 : Int) (m11 : List Int) (q11 : Option Addr) (k11 d11 : Nat) {S S2 : Nat → Prop} (w : World) (h0 : RdD (flat SlKey.E SlKey.InR) S w p0 n0 l0) (g0 : RdD (flat SlKey.E SlKey.InR) S2 w q0 k0 m0) (h1 : RdD (flat SlAuthority.E SlAuthority.InR) S w p1 n1 l1) (g1 : RdD (flat SlAuthority.E SlAuthority.InR) S2 w q1 k1 m1) (h2 : RdD (flat SlMethod.E SlMethod.InR) S w p2 n2 l2) (g2 : RdD (flat SlMethod.E SlMethod.InR) S2 w q2 k2 m2) (h5 : RdD (flat SlCert.E SlCert.InR) S w p5 n5 l5) (g5 : RdD (flat SlCert.E SlCert.InR) S2 w q5 k5 m5) (h6 : RdD int S w p6 n6 l6) (g6 : RdD int S2 w q6 k6 m6) (h7 : RdD DpArchive.E S w p7 n7 l7) (g7 : RdD DpArchive.E S2 w q7 k7 m7) (h8 : RdD int S w p8 n8 l8) (g8 : RdD int S2 w q8 k8 m8) (h9 : RdD int S w p9 n9 l9) (g9 : RdD int S2 w q9 k9 m9) (h11 : RdD int S w p11 n11 l11) (g11 : RdD int S2 w q11 k11 m11) : Calls Tryz.prog 5 #[.agg #[.slice p0 n0 c0, .slice p1 n1 c1, .slice p2 n2 c2, .int .i64 x3, .int .i64 x4, .slice p5 n5 c5, .slice p6 n6 c6, .slice p7 n7 c7, .slice p8 n8 c8, .slice p9 n9 c9, .int .i64 x10, .slice p11 n11 c11], .agg #[.slice q0 k0 d0, .slice q1 k1 d1, .slice q2 k2 d2, .int .i64 y3, .int .i64 y4, .slice q5 k5 d5, .slice q6 k6 d6, .slice q7 k7 d7, .slice q8 k8 d8, .slice q9 k9 d9, .int .i64 y10, .slice q11 k11 d11]] w (Val (.bool (eqWo ((l0, l1, l2, x3, x4), l5, l6, l7, l8, l9, x10, l11) ((m0, m1, m2, y3, y4), m5, m6, m7, m8, m9, y10, m11))) w) := by
  have hB : Below w.heap.size w ((w.alloc (.cells #[.slice p0 n0 c0, .slice p1 n1 c1, .slice p2 n2 c2, .int .i64 x3, .int .i64 x4, .slice p5 n5 c5, .slice p6 n6 c6, .slice p7 n7 c7, .slice p8 n8 c8, .slice p9 n9 c9, .int .i64 x10, .slice p11 n11 c11] 42)).alloc (.cells #[.slice q0 k0 d0, .slice q1 k1 d1, .slice q2 k2 d2, .int .i64 y3, .int .i64 y4, .slice q5 k5 d5, .slice q6 k6 d6, .slice q7 k7 d7, .slice q8 k8 d8, .slice q9 k9 d9, .int .i64 y10, .slice q11 k11 d11] 42)) := (box1 w _).alloc (by simp) _
  have hy := Bx.new (w.alloc (.cells #[.slice p0 n0 c0, .slice p1 n1 c1, .slice p2 n2 c2, .int .i64 x3, .int .i64 x4, .slice p5 n5 c5, .slice p6 n6 c6, .slice p7 n7 c7, .slice p8 n8 c8, .slice p9 n9 c9, .int .i64 x10, .slice p11 n11 c11] 42)) 42 #[.slice q0 k0 d0, .slice q1 k1 d1, .slice q2 k2 d2, .int .i64 y3, .int .i64 y4, .slice q5 k5 d5, .slice q6 k6 d6, .slice q7 k7 d7, .slice q8 k8 d8, .slice q9 k9 d9, .int .i64 y10, .slice q11 k11 d11]
  rw [World.size_alloc] at hy
  have HX := Lib.hid ((Bx.new w 42 #[.slice p0 n0 c0, .slice p1 n1 c1, .slice p2 n2 c2, .int .i64 x3, .int .i64 x4, .slice p5 n5 c5, .slice p6 n6 c6, .slice p7 n7 c7, .slice p8 n8 c8, .slice p9 n9 c9, .int .i64 x10, .slice p11 n11 c11]).alloc (.cells #[.slice q0 k0 d0, .slice q1 k1 d1, .slice q2 k2 d2, .int .i64 y3, .int .i64 y4, .slice q5 k5 d5, .slice q6 k6 d6, .slice q7 k7 d7, .slice q8 k8 d8, .slice q9 k9 d9, .int .i64 y10, .slice q11 k11 d11] 42))
  have HY := Lib.hid hy
  have HBV := Lib.hid hB
  have H0 := Lib.hid (h0.below hB)
  have G0 := Lib.hid (g0.below hB)
  have le0 := h0.le
  have lf0 := g0.le
  have H1 := Lib.hid (h1.below hB)
  have G1 := Lib.hid (g1.below hB)
  have le1 := h1.le
  have lf1 := g1.le
  have H2 := Lib.hid (h2.below hB)
  have G2 := Lib.hid (g2.below hB)
  have le2 := h2.le
  have lf2 := g2.le
  have H5 := Lib.hid (h5.below hB)
  have G5 := Lib.hid (g5.below hB)
  have le5 := h5.le
  have lf5 := g5.le
  have H6 := Lib.hid (h6.below hB)
  have G6 := Lib.hid (g6.below hB)
  have le6 := h6.le
  have lf6 := g6.le
  have H7 := Lib.hid (h7.below hB)
  have G7 := Lib.hid (g7.below hB)
  have le7 := h7.le
  have lf7 := g7.le
  have H8 := Lib.hid (h8.below hB)
  have G8 := Lib.hid (g8.below hB)
  have le8 := h8.le
  have lf8 := g8.le
  have H9 := Lib.hid (h9.below hB)
  have G9 := Lib.hid (g9.below hB)
  have le9 := h9.le
  have lf9 := g9.le
  have H11 := Lib.hid (h11.below hB)
  have G11 := Lib.hid (g11.below hB)
  have le11 := h11.le
  have lf11 := g11.le
  clear hy hB h0 g0 h1 g1 h2 g2 h5 g5 h6 g6 h7 g7 h8 g8 h9 g9 h11 g11
  by_cases a5 : n5 = k5
  rotate_left
  · have HN : Hid (eqWo ((l0, l1, l2, x3, x4), l5, l6, l7, l8, l9, x10, l11) ((m0, m1, m2, y3, y4), m5, m6, m7, m8, m9, y10, m11) = false) := Lib.hid (by show eight _ _ _ _ _ _ _ _ = false; rw [show EqCert.eqL l5 m5 = false from EqCert.eqL_no (fun e => a5 (by rw [← H5.out.len, ← G5.out.len, e]))]; exact eight1)
    have b1 : ((n5 : Int) == k5) = false := beq_eq_false_iff_ne.2 (by omega)
    have b2 : ((n5 : Int) != k5) = true := by rw [bne, b1]; rfl
    have b3 : (n5 == k5) = false := beq_eq_false_iff_ne.2 a5
    have b4 : (n5 != k5) = true := by rw [bne, b3]; rfl
    clear a5
    go_enter Tryz.func5, Tryz.ntmps5
    go_wp2_with fail
    go_ret
    exact val_of (by rw [HN.out]; rfl) HBV.out
  by_cases a7 : n7 = k7
  rotate_left
  · have HN : Hid (eqWo ((l0, l1, l2, x3, x4), l5, l6, l7, l8, l9, x10, l11) ((m0, m1, m2, y3, y4), m5, m6, m7, m8, m9, y10, m11) = false) := Lib.hid (by show eight _ _ _ _ _ _ _ _ = false; rw [eqAll_len (f := eqArc) (xs := l7) (ys := m7) (by rw [H7.out.len, G7.out.len]; exact a7)]; exact eight3)
    have b1 : ((n7 : Int) == k7) = false := beq_eq_false_iff_ne.2 (by omega)
    have b2 : ((n7 : Int) != k7) = true := by rw [bne, b1]; rfl
    have b3 : (n7 == k7) = false := beq_eq_false_iff_ne.2 a7
    have b4 : (n7 != k7) = true := by rw [bne, b3]; rfl
    subst a5
    clear a7
    go_enter Tryz.func5, Tryz.ntmps5
    go_wp2_with fail
    go_ret
    exact val_of (by rw [HN.out]; rfl) HBV.out
  by_cases a10 : x10 = y10
  rotate_left
  · have HN : Hid (eqWo ((l0, l1, l2, x3, x4), l5, l6, l7, l8, l9, x10, l11) ((m0, m1, m2, y3, y4), m5, m6, m7, m8, m9, y10, m11) = false) := Lib.hid (by show eight _ _ _ _ _ _ _ _ = false; rw [show decide (x10 = y10) = false from decide_eq_false a10]; exact eight6)
    have b1 : (x10 == y10) = false := beq_eq_false_iff_ne.2 a10
    have b2 : (x10 != y10) = true := by rw [bne, b1]; rfl
    subst a5 a7
    clear a10
    go_enter Tryz.func5, Tryz.ntmps5
    go_wp2_with fail
    go_ret
    exact val_of (by rw [HN.out]; rfl) HBV.out
  subst a5 a7 a10
  go_enter Tryz.func5, Tryz.ntmps5
  go_wp2_with fail
  generalize ((w.alloc (.cells #[.slice p0 n0 c0, .slice p1 n1 c1, .slice p2 n2 c2, .int .i64 x3, .int .i64 x4, .slice p5 n5 c5, .slice p6 n6 c6, .slice p7 n7 c7, .slice p8 n8 c8, .slice p9 n9 c9, .int .i64 x10, .slice p11 n11 c11] 42)).alloc (.cells #[.slice q0 k0 d0, .slice q1 k1 d1, .slice q2 k2 d2, .int .i64 y3, .int .i64 y4, .slice q5 n5 d5, .slice q6 k6 d6, .slice q7 n7 d7, .slice q8 k8 d8, .slice q9 k9 d9, .int .i64 x10, .slice q11 k11 d11] 42)) = V at HX HY HBV H0 G0 H1 G1 H2 G2 H5 G5 H6 G6 H7 G7 H8 G8 H9 G9 H11 G11 ⊢
  go_loopw [5] (fun i wr => ∃ k q : Nat, k ≤ n5 ∧ i = .int .i64 k ∧ wr = V.drewN q ∧ Hid (∀ jj, jj < k → l5[jj]? = m5[jj]?)) (fun i _ => n5 - (intOf i).toNat)
  case atStart => exact ⟨0, 0, Nat.zero_le _, rfl, rfl, fun j hj => absurd hj (Nat.not_lt_zero _)⟩
  case round =>
    obtain ⟨k, q, hk, rfl, rfl, HE⟩ := hrel
    by_cases hlt : k < n5
    · obtain ⟨b, o, x, rfl, hb, hx, hc⟩ := H5.out.rdS.at_ hlt
      obtain ⟨b', o', y, rfl, hb', hy, hc'⟩ := G5.out.rdS.at_ hlt
      have HX1 := Lib.hid hx
      have HY1 := Lib.hid hy
      clear hx hy
      obtain ⟨s0, s1, s2, s3, s4, s5, s6⟩ := x
      obtain ⟨t0, t1, t2, t3, t4, t5, t6⟩ := y
      have hu : ∀ j v, [.int .i64 s0, .int .i64 s1, .int .i64 s2, .int .i64 s3, .int .i64 s4, .int .i64 s5, .int .i64 s6][j]? = some v → V.cell? ⟨b, o + k * 7 + j, none⟩ = some v := hc
      have hv : ∀ j v, [.int .i64 t0, .int .i64 t1, .int .i64 t2, .int .i64 t3, .int .i64 t4, .int .i64 t5, .int .i64 t6][j]? = some v → V.cell? ⟨b', o' + k * 7 + j, none⟩ = some v := hc'
      have hu0 : V.cell? ⟨b, o + k * 7, none⟩ = some (.int .i64 s0) := hu 0 _ rfl
      have hv0 : V.cell? ⟨b', o' + k * 7, none⟩ = some (.int .i64 t0) := hv 0 _ rfl
      have hu1 : V.cell? ⟨b, o + k * 7 + 1, none⟩ = some (.int .i64 s1) := hu 1 _ rfl
      have hv1 : V.cell? ⟨b', o' + k * 7 + 1, none⟩ = some (.int .i64 t1) := hv 1 _ rfl
      have hu2 : V.cell? ⟨b, o + k * 7 + 2, none⟩ = some (.int .i64 s2) := hu 2 _ rfl
      have hv2 : V.cell? ⟨b', o' + k * 7 + 2, none⟩ = some (.int .i64 t2) := hv 2 _ rfl
      have hu3 : V.cell? ⟨b, o + k * 7 + 3, none⟩ = some (.int .i64 s3) := hu 3 _ rfl
      have hv3 : V.cell? ⟨b', o' + k * 7 + 3, none⟩ = some (.int .i64 t3) := hv 3 _ rfl
      have hu4 : V.cell? ⟨b, o + k * 7 + 4, none⟩ = some (.int .i64 s4) := hu 4 _ rfl
      have hv4 : V.cell? ⟨b', o' + k * 7 + 4, none⟩ = some (.int .i64 t4) := hv 4 _ rfl
      have hu5 : V.cell? ⟨b, o + k * 7 + 5, none⟩ = some (.int .i64 s5) := hu 5 _ rfl
      have hv5 : V.cell? ⟨b', o' + k * 7 + 5, none⟩ = some (.int .i64 t5) := hv 5 _ rfl
      have hu6 : V.cell? ⟨b, o + k * 7 + 6, none⟩ = some (.int .i64 s6) := hu 6 _ rfl
      have hv6 : V.cell? ⟨b', o' + k * 7 + 6, none⟩ = some (.int .i64 t6) := hv 6 _ rfl
      clear hc hc' hu hv
      obtain ⟨u0, u1, u2, u3, u4, u5, u6, u7, u8, u9, u10, u11⟩ := DpWorld.bxc HX.out
      obtain ⟨v0, v1, v2, v3, v4, v5, v6, v7, v8, v9, v10, v11⟩ := DpWorld.bxc HY.out
      have i1 : (0 : Int) ≤ (k : Int) := by omega
      have i2 : (k : Int) < (n5 : Int) := by omega
      by_cases hxy : (s0, s1, s2, s3, s4, s5, s6) = (t0, t1, t2, t3, t4, t5, t6)
      · have HXY := Lib.hid hxy
        simp only [Prod.mk.injEq] at hxy
        obtain ⟨rfl, rfl, rfl, rfl, rfl, rfl, rfl⟩ := hxy
        go_wp2_with fail
        go_quiet (fail)
        go_wp2_with fail
        refine ⟨⟨k + 1, _, by omega, by go_num, rfl, fun j hj => ?_⟩, by simp [intOf]; omega⟩
        by_cases hjk : j = k
        · rw [hjk, HX1.out, HY1.out]
        · exact HE.out j (by omega)
      · have HN := Lib.hid (EqCert.first_ne HX1.out HY1.out hxy)
        have HF : Hid (eqWo ((l0, l1, l2, x3, x4), l5, l6, l7, l8, l9, x10, l11) ((m0, m1, m2, y3, y4), m5, m6, m7, m8, m9, x10, m11) = false) := Lib.hid (by have h0 : EqCert.eqL l5 m5 = false := EqCert.eqL_no HN.out; show eight _ _ _ _ _ _ _ _ = false; rw [h0]; exact eight1)
        have hd : (¬ s0 = t0) ∨ (s0 = t0 ∧ ¬ s1 = t1) ∨ (s0 = t0 ∧ s1 = t1 ∧ ¬ s2 = t2) ∨ (s0 = t0 ∧ s1 = t1 ∧ s2 = t2 ∧ ¬ s3 = t3) ∨ (s0 = t0 ∧ s1 = t1 ∧ s2 = t2 ∧ s3 = t3 ∧ ¬ s4 = t4) ∨ (s0 = t0 ∧ s1 = t1 ∧ s2 = t2 ∧ s3 = t3 ∧ s4 = t4 ∧ ¬ s5 = t5) ∨ (s0 = t0 ∧ s1 = t1 ∧ s2 = t2 ∧ s3 = t3 ∧ s4 = t4 ∧ s5 = t5 ∧ ¬ s6 = t6) := by
          by_cases e0 : s0 = t0
          rotate_left
          · exact Or.inl e0
          by_cases e1 : s1 = t1
          rotate_left
          · exact Or.inr (Or.inl ⟨e0, e1⟩)
          by_cases e2 : s2 = t2
          rotate_left
          · exact Or.inr (Or.inr (Or.inl ⟨e0, e1, e2⟩))
          by_cases e3 : s3 = t3
          rotate_left
          · exact Or.inr (Or.inr (Or.inr (Or.inl ⟨e0, e1, e2, e3⟩)))
          by_cases e4 : s4 = t4
          rotate_left
          · exact Or.inr (Or.inr (Or.inr (Or.inr (Or.inl ⟨e0, e1, e2, e3, e4⟩))))
          by_cases e5 : s5 = t5
          rotate_left
          · exact Or.inr (Or.inr (Or.inr (Or.inr (Or.inr (Or.inl ⟨e0, e1, e2, e3, e4, e5⟩)))))
          by_cases e6 : s6 = t6
          rotate_left
          · exact Or.inr (Or.inr (Or.inr (Or.inr (Or.inr (Or.inr (⟨e0, e1, e2, e3, e4, e5, e6⟩))))))
          exact absurd (by rw [e0, e1, e2, e3, e4, e5, e6]) hxy
        rcases hd with hne | ⟨rfl, hne⟩ | ⟨rfl, rfl, hne⟩ | ⟨rfl, rfl, rfl, hne⟩ | ⟨rfl, rfl, rfl, rfl, hne⟩ | ⟨rfl, rfl, rfl, rfl, rfl, hne⟩ | ⟨rfl, rfl, rfl, rfl, rfl, rfl, hne⟩
        all_goals
          clear hxy HX1 HY1
          go_wp2_with fail
          go_quiet (fail)
          go_wp2_with fail
          go_ret
          exact val_of (by rw [HF.out]; rfl) (below_drewN (below_drewN HBV.out _) _)
    · obtain rfl : k = n5 := by omega
      have HA5 : Hid (EqCert.eqL l5 m5 = true) := Lib.hid (EqCert.eqL_yes (EqCert.all_eq H5.out.len G5.out.len HE.out))
      obtain ⟨Q5, hq⟩ : ∃ q', q' = q := ⟨_, rfl⟩
      subst hq
      clear HE
      obtain ⟨u0, u1, u2, u3, u4, u5, u6, u7, u8, u9, u10, u11⟩ := DpWorld.bxc HX.out
      obtain ⟨v0, v1, v2, v3, v4, v5, v6, v7, v8, v9, v10, v11⟩ := DpWorld.bxc HY.out
      go_wp2_with fail
      clear u0 u1 u2 u3 u4 u5 u6 u7 u8 u9 u10 u11 v0 v1 v2 v3 v4 v5 v6 v7 v8 v9 v10 v11
      go_loopw [6] (fun i wr => ∃ k : Nat, k ≤ n7 ∧ i = .int .i64 k ∧ Hid (Upto eqArc l7 m7 k) ∧ Hid (Below V.heap.size V wr)) (fun i _ => n7 - (intOf i).toNat)
      case atStart => exact ⟨0, Nat.zero_le _, rfl, Lib.hid upto_zero, Lib.hid (below_drewN (Below.refl _ _) _)⟩
      case round =>
        obtain ⟨k, hk, rfl, HU, HB⟩ := hrel
        obtain ⟨r0, r1, r2, r3, r4, r5, r6, r7, r8, r9, r10, r11⟩ := DpWorld.bxc (HX.out.below HB.out)
        obtain ⟨s0, s1, s2, s3, s4, s5, s6, s7, s8, s9, s10, s11⟩ := DpWorld.bxc (HY.out.below HB.out)
        by_cases hlt : k < n7
        · skip
          obtain ⟨b, o, x_x, cs_x, rfl, _, hbwx, hxx, hcx, hrdx⟩ := H7.out.at_ hlt
          obtain ⟨xx0, lx1⟩ := x_x
          obtain ⟨px1, nx1, cx1, rfl, bx0, hx1⟩ := DpArchive.ex hrdx
          have hccx : ∀ jj v, [.int .i64 xx0, .slice px1 nx1 cx1][jj]? = some v → wr.cell? ⟨b, o + k * 2 + jj, none⟩ = some v := fun jj v hv => (HB.out.cell (p := ⟨b, o + k * 2 + jj, none⟩) hbwx).trans (hcx jj v hv)
          have HXx := Lib.hid hxx
          have HCx := Lib.hid hccx
          have Hx1 := Lib.hid (hx1.below HB.out)
          have hnx1 := hx1.le
          obtain ⟨u0, u1⟩ := DpArchive.at_cells hccx
          clear hccx hcx hxx hrdx bx0 hx1
          obtain ⟨b', o', x_y, cs_y, rfl, _, hbwy, hxy, hcy, hrdy⟩ := G7.out.at_ hlt
          obtain ⟨xy0, ly1⟩ := x_y
          obtain ⟨py1, ny1, cy1, rfl, by0, hy1⟩ := DpArchive.ex hrdy
          have hccy : ∀ jj v, [.int .i64 xy0, .slice py1 ny1 cy1][jj]? = some v → wr.cell? ⟨b', o' + k * 2 + jj, none⟩ = some v := fun jj v hv => (HB.out.cell (p := ⟨b', o' + k * 2 + jj, none⟩) hbwy).trans (hcy jj v hv)
          have HXy := Lib.hid hxy
          have HCy := Lib.hid hccy
          have Hy1 := Lib.hid (hy1.below HB.out)
          have hny1 := hy1.le
          obtain ⟨t0, t1⟩ := DpArchive.at_cells hccy
          clear hccy hcy hxy hrdy by0 hy1
          have HCC : Hid (∀ w' : World, Below V.heap.size V w' → w'.cell? ⟨w.heap.size, 7, none⟩ = some (.slice (some ⟨b, o, none⟩) n7 c7) ∧ w'.cell? ⟨w.heap.size + 1, 7, none⟩ = some (.slice (some ⟨b', o', none⟩) n7 d7) ∧ w'.cell? ⟨b, o + k * 2, none⟩ = some (.int .i64 xx0) ∧ w'.cell? ⟨b, o + k * 2 + 1, none⟩ = some (.slice px1 nx1 cx1) ∧ w'.cell? ⟨b', o' + k * 2, none⟩ = some (.int .i64 xy0) ∧ w'.cell? ⟨b', o' + k * 2 + 1, none⟩ = some (.slice py1 ny1 cy1)) := Lib.hid fun w' hb' => by
            obtain ⟨a0, a1, a2, a3, a4, a5, a6, a7, a8, a9, a10, a11⟩ := DpWorld.bxc (HX.out.below hb')
            obtain ⟨d0, d1, d2, d3, d4, d5, d6, d7, d8, d9, d10, d11⟩ := DpWorld.bxc (HY.out.below hb')
            have h2 := fun q v hv => (hb'.cell (p := ⟨b, o + k * 2 + q, none⟩) hbwx).trans ((HB.out.cell (p := ⟨b, o + k * 2 + q, none⟩) hbwx).symm.trans (HCx.out q v hv))
            have h3 := fun q v hv => (hb'.cell (p := ⟨b', o' + k * 2 + q, none⟩) hbwy).trans ((HB.out.cell (p := ⟨b', o' + k * 2 + q, none⟩) hbwy).symm.trans (HCy.out q v hv))
            exact ⟨a7, d7, h2 0 _ rfl, h2 1 _ rfl, h3 0 _ rfl, h3 1 _ rfl⟩
          obtain ⟨β, hβ⟩ : ∃ β, eqA xx0 xy0 lx1 ly1 = β := ⟨_, rfl⟩
          have HE0 := Lib.hid hβ
          have HE : Hid (eqArc (xx0, lx1) (xy0, ly1) = β) := Lib.hid hβ
          have HBd : Hid (Below V.heap.size V wr.drew) := Lib.hid (below_drewN HB.out 1)
          have i1 : (0 : Int) ≤ (k : Int) := by omega
          have i2 : (k : Int) < (n7 : Int) := by omega
          clear hβ
          go_wp2_with fail
          go_region_held3 (fun w' => w'.cell? ⟨w.heap.size, 7, none⟩ = some (.slice (some ⟨b, o, none⟩) n7 c7) ∧ w'.cell? ⟨w.heap.size + 1, 7, none⟩ = some (.slice (some ⟨b', o', none⟩) n7 d7) ∧ w'.cell? ⟨b, o + k * 2, none⟩ = some (.int .i64 xx0) ∧ w'.cell? ⟨b, o + k * 2 + 1, none⟩ = some (.slice px1 nx1 cx1) ∧ w'.cell? ⟨b', o' + k * 2, none⟩ = some (.int .i64 xy0) ∧ w'.cell? ⟨b', o' + k * 2 + 1, none⟩ = some (.slice py1 ny1 cy1)) (first | exact HCC.out _ HB4.out | exact HCC.out _ HBd.out | go_keep) (first | (go_at_call 13; (with_reducible refine (Ea2.spec_equal_any xx0 lx1 _ _ _ xy0 ly1 _ _ _ _ Hx1.out.drew1 Hy1.out.drew1).mono ?_); rintro e w1 ⟨he1, hb⟩; have HB4 : Hid (Below V.heap.size V w1) := Lib.hid (below_on HBd.out hb); have he2 : e = .returned (.bool β) := he1.trans (by rw [← HE0.out]; first | done | rfl); subst he2; clear he1 hb) | fail)
          cases β
          · have HF : Hid (eqWo ((l0, l1, l2, x3, x4), l5, l6, l7, l8, l9, x10, l11) ((m0, m1, m2, y3, y4), m5, m6, m7, m8, m9, x10, m11) = false) := Lib.hid (by show eight _ _ _ _ _ _ _ _ = false; rw [eqAll_at HXx.out HXy.out HE.out]; exact eight3)
            go_wp2_with fail
            go_ret
            exact val_of (by rw [HF.out]; rfl) (HBV.out.trans (HB4.out.mono HBV.out.size))
          · have HU2 := Lib.hid (upto_next HU.out HXx.out HXy.out HE.out)
            go_wp2_with fail
            go_roundw
            case rel => exact ⟨k + 1, by omega, by go_num, HU2, HB4⟩
            case measure => simp [intOf]; omega
        · obtain rfl : n7 = k := by omega
          have HA7 := Lib.hid (eqAll_yes H7.out.len G7.out.len HU.out)
          obtain ⟨β0, hβ0⟩ : ∃ b, (eqFr (l0, l1, l2, x3, x4) (m0, m1, m2, y3, y4)) = b := ⟨_, rfl⟩
          obtain ⟨β1, hβ1⟩ : ∃ b, (De.eqL l6 m6) = b := ⟨_, rfl⟩
          obtain ⟨β2, hβ2⟩ : ∃ b, (De.eqL l8 m8) = b := ⟨_, rfl⟩
          obtain ⟨β3, hβ3⟩ : ∃ b, (De.eqL l9 m9) = b := ⟨_, rfl⟩
          obtain ⟨β4, hβ4⟩ : ∃ b, (De.eqL l11 m11) = b := ⟨_, rfl⟩
          have HE : Hid (eqWo ((l0, l1, l2, x3, x4), l5, l6, l7, l8, l9, x10, l11) ((m0, m1, m2, y3, y4), m5, m6, m7, m8, m9, x10, m11) = (β0 && (β1 && (β2 && (β3 && β4))))) := Lib.hid (by show eight _ _ _ _ _ _ _ _ = _; rw [hβ0, hβ1, hβ2, hβ3, hβ4, HA5.out, HA7.out, show decide (x10 = x10) = true from decide_eq_true rfl]; exact eight_mid)
          have B0 := Lib.hid hβ0
          have B1 := Lib.hid hβ1
          have B2 := Lib.hid hβ2
          have B3 := Lib.hid hβ3
          have B4 := Lib.hid hβ4
          clear hβ0 hβ1 hβ2 hβ3 hβ4
          go_wp2_with fail
          refine (Ew2.frames_any l0 _ _ _ l1 _ _ _ l2 _ _ _ x3 x4 m0 _ _ _ m1 _ _ _ m2 _ _ _ y3 y4 _ (H0.out.below HB.out) (G0.out.below HB.out) (H1.out.below HB.out) (G1.out.below HB.out) (H2.out.below HB.out) (G2.out.below HB.out)).mono ?_
          rintro e w0 ⟨rfl, hb⟩
          rw [B0.out]
          have HB_ := Lib.hid (below_on HB.out hb)
          clear HB hb
          have HB := HB_
          clear HB_
          clear r0 s0 r1 s1 r2 s2 r3 s3 r4 s4 r5 s5 r6 s6 r7 s7 r8 s8 r9 s9 r10 s10 r11 s11
          cases β0
          · go_wp2_with fail
            go_ret
            exact val_of (by rw [HE.out]; rfl) (HBV.out.trans (HB.out.mono HBV.out.size))
          obtain ⟨r0, r1, r2, r3, r4, r5, r6, r7, r8, r9, r10, r11⟩ := DpWorld.bxc (HX.out.below HB.out)
          obtain ⟨s0, s1, s2, s3, s4, s5, s6, s7, s8, s9, s10, s11⟩ := DpWorld.bxc (HY.out.below HB.out)
          go_wp2_with fail
          refine (De.spec_eqInts_any _ _ _ _ _ _ _ _ _ (H6.out.below HB.out).ints (G6.out.below HB.out).ints).mono ?_
          rintro e w1 ⟨rfl, hb⟩
          rw [B1.out]
          have HB_ := Lib.hid (below_on HB.out hb)
          clear HB hb
          have HB := HB_
          clear HB_
          clear r0 s0 r1 s1 r2 s2 r3 s3 r4 s4 r5 s5 r6 s6 r7 s7 r8 s8 r9 s9 r10 s10 r11 s11
          cases β1
          · go_wp2_with fail
            go_ret
            exact val_of (by rw [HE.out]; rfl) (HBV.out.trans (HB.out.mono HBV.out.size))
          obtain ⟨r0, r1, r2, r3, r4, r5, r6, r7, r8, r9, r10, r11⟩ := DpWorld.bxc (HX.out.below HB.out)
          obtain ⟨s0, s1, s2, s3, s4, s5, s6, s7, s8, s9, s10, s11⟩ := DpWorld.bxc (HY.out.below HB.out)
          go_wp2_with fail
          refine (De.spec_eqInts_any _ _ _ _ _ _ _ _ _ (H8.out.below HB.out).ints (G8.out.below HB.out).ints).mono ?_
          rintro e w2 ⟨rfl, hb⟩
          rw [B2.out]
          have HB_ := Lib.hid (below_on HB.out hb)
          clear HB hb
          have HB := HB_
          clear HB_
          clear r0 s0 r1 s1 r2 s2 r3 s3 r4 s4 r5 s5 r6 s6 r7 s7 r8 s8 r9 s9 r10 s10 r11 s11
          cases β2
          · go_wp2_with fail
            go_ret
            exact val_of (by rw [HE.out]; rfl) (HBV.out.trans (HB.out.mono HBV.out.size))
          obtain ⟨r0, r1, r2, r3, r4, r5, r6, r7, r8, r9, r10, r11⟩ := DpWorld.bxc (HX.out.below HB.out)
          obtain ⟨s0, s1, s2, s3, s4, s5, s6, s7, s8, s9, s10, s11⟩ := DpWorld.bxc (HY.out.below HB.out)
          go_wp2_with fail
          refine (De.spec_eqInts_any _ _ _ _ _ _ _ _ _ (H9.out.below HB.out).ints (G9.out.below HB.out).ints).mono ?_
          rintro e w3 ⟨rfl, hb⟩
          rw [B3.out]
          have HB_ := Lib.hid (below_on HB.out hb)
          clear HB hb
          have HB := HB_
          clear HB_
          clear r0 s0 r1 s1 r2 s2 r3 s3 r4 s4 r5 s5 r6 s6 r7 s7 r8 s8 r9 s9 r10 s10 r11 s11
          cases β3
          · go_wp2_with fail
            go_ret
            exact val_of (by rw [HE.out]; rfl) (HBV.out.trans (HB.out.mono HBV.out.size))
          obtain ⟨r0, r1, r2, r3, r4, r5, r6, r7, r8, r9, r10, r11⟩ := DpWorld.bxc (HX.out.below HB.out)
          obtain ⟨s0, s1, s2, s3, s4, s5, s6, s7, s8, s9, s10, s11⟩ := DpWorld.bxc (HY.out.below HB.out)
          go_wp2_with fail
          refine (De.spec_eqInts_any _ _ _ _ _ _ _ _ _ (H11.out.below HB.out).ints (G11.out.below HB.out).ints).mono ?_
          rintro e w4 ⟨rfl, hb⟩
          rw [B4.out]
          have HB_ := Lib.hid (below_on HB.out hb)
          clear HB hb
          have HB := HB_
          clear HB_
          clear r0 s0 r1 s1 r2 s2 r3 s3 r4 s4 r5 s5 r6 s6 r7 s7 r8 s8 r9 s9 r10 s10 r11 s11
          go_wp2_with fail
          go_ret
          exact val_of (by rw [HE.out]; cases β4 <;> rfl) (HBV.out.trans (HB.out.mono HBV.out.size))
end Go.Proofs.YtkmgnicngcandaaGreat.Ew3
