/- Copies of World by the laws, in memory that isn't frozen. -/
import Derived.Test.YtpjckbdljbpliaaGreatDpWorld
import Derived.Test.YtpjckbdljbpliaaGreatEk
import Derived.Test.YtpjckbdljbpliaaGreatDfA
import Derived.Test.YtpjckbdljbpliaaGreatDgA
import Derived.OpenShut
import Derived.Deep.Fields
import Derived.Deep.RegionHeld3
import Derived.LoopTactic
import Derived.Outline
namespace Go.Proofs.YtpjckbdljbpliaaGreat.DfWorld
open Go.ChangeShapes Go.WideShapes Go.ChangeAt Go.RowKit Sl St Ed Dz Ek DpWorld
set_option maxRecDepth 100000 in
set_option maxHeartbeats 4000000 in
theorem toF_any (l0 : List (Int × Int × Int × Int × Int)) (p0 : Option Addr) (n0 c0 : Nat) (l1 : List (Int × Int × Int)) (p1 : Option Addr) (n1 c1 : Nat) (l2 : List (Int × Int × Int × Int)) (p2 : Option Addr) (n2 c2 : Nat) (x3 : Int) (x4 : Int) (l5 : List (Int × Int × Int × Int × Int × Int × Int)) (p5 : Option Addr) (n5 c5 : Nat) (l6 : List Int) (p6 : Option Addr) (n6 c6 : Nat) (l7 : List DpArchive.A) (p7 : Option Addr) (n7 c7 : Nat) (l8 : List Int) (p8 : Option Addr) (n8 c8 : Nat) (l9 : List Int) (p9 : Option Addr) (n9 c9 : Nat) (x10 : Int) (l11 : List Int) (p11 : Option Addr) (n11 c11 : Nat) {S0 S1 S2 S5 S6 S7 S8 S9 S11 : Nat → Prop} (w : World) (h0 : RdD (flat SlKey.E SlKey.InR) S0 w p0 n0 l0) (h1 : RdD (flat SlAuthority.E SlAuthority.InR) S1 w p1 n1 l1) (h2 : RdD (flat SlMethod.E SlMethod.InR) S2 w p2 n2 l2) (h5 : RdD (flat SlCert.E SlCert.InR) S5 w p5 n5 l5) (h6 : RdD int S6 w p6 n6 l6) (h7 : RdD DpArchive.E S7 w p7 n7 l7) (h8 : RdD int S8 w p8 n8 l8) (h9 : RdD int S9 w p9 n9 l9) (h11 : RdD int S11 w p11 n11 l11) (hm : E.wt ((l0, l1, l2, x3, x4), l5, l6, l7, l8, l9, x10, l11) ≤ 1048576) : Calls Tryz.prog 20 #[.agg #[.slice p0 n0 c0, .slice p1 n1 c1, .slice p2 n2 c2, .int .i64 x3, .int .i64 x4, .slice p5 n5 c5, .slice p6 n6 c6, .slice p7 n7 c7, .slice p8 n8 c8, .slice p9 n9 c9, .int .i64 x10, .slice p11 n11 c11]] w fun e w' => ∃ (p0' : Option Addr) (c0' : Nat) (p1' : Option Addr) (c1' : Nat) (p2' : Option Addr) (c2' : Nat) (p5' : Option Addr) (c5' : Nat) (p6' : Option Addr) (c6' : Nat) (p7' : Option Addr) (c7' : Nat) (p8' : Option Addr) (c8' : Nat) (p9' : Option Addr) (c9' : Nat) (p11' : Option Addr) (c11' : Nat), e = .returned (.agg #[.slice p0' n0 c0', .slice p1' n1 c1', .slice p2' n2 c2', .int .i64 x3, .int .i64 x4, .slice p5' n5 c5', .slice p6' n6 c6', .slice p7' n7 c7', .slice p8' n8 c8', .slice p9' n9 c9', .int .i64 x10, .slice p11' n11 c11']) ∧ FRd (flat SlKey.E SlKey.InR) w.heap.size w' p0' n0 l0 ∧ FRd (flat SlAuthority.E SlAuthority.InR) w.heap.size w' p1' n1 l1 ∧ FRd (flat SlMethod.E SlMethod.InR) w.heap.size w' p2' n2 l2 ∧ FRd (flat SlCert.E SlCert.InR) w.heap.size w' p5' n5 l5 ∧ FRd int w.heap.size w' p6' n6 l6 ∧ FRd DpArchive.E w.heap.size w' p7' n7 l7 ∧ FRd int w.heap.size w' p8' n8 l8 ∧ FRd int w.heap.size w' p9' n9 l9 ∧ FRd int w.heap.size w' p11' n11 l11 ∧ n0 ≤ c0' ∧ n1 ≤ c1' ∧ n2 ≤ c2' ∧ n5 ≤ c5' ∧ n6 ≤ c6' ∧ n7 ≤ c7' ∧ n8 ≤ c8' ∧ n9 ≤ c9' ∧ n11 ≤ c11' ∧ Below w.heap.size w w' := by
  rw [wt_eq] at hm
  have k0 := h0.len
  have k1 := h1.len
  have k2 := h2.len
  have k5 := h5.len
  have k6 := h6.len
  have k7 := h7.len
  have k8 := h8.len
  have k9 := h9.len
  have k11 := h11.len
  have m0 : DpFrame.E.wt (l0, l1, l2, x3, x4) ≤ 1048576 := by omega
  have m5 : n5 + wts (flat SlCert.E SlCert.InR) l5 ≤ 1048576 := by omega
  have m6 : n6 + wts int l6 ≤ 1048576 := by omega
  have m7 : n7 + wts DpArchive.E l7 ≤ 1048576 := by omega
  have m8 : n8 + wts int l8 ≤ 1048576 := by omega
  have m9 : n9 + wts int l9 ≤ 1048576 := by omega
  have m11 : n11 + wts int l11 ≤ 1048576 := by omega
  have HP0 := Lib.hid h0
  have HP1 := Lib.hid h1
  have HP2 := Lib.hid h2
  have HP5 := Lib.hid h5
  have HP6 := Lib.hid h6
  have HP7 := Lib.hid h7
  have HP8 := Lib.hid h8
  have HP9 := Lib.hid h9
  have HP11 := Lib.hid h11
  clear hm h0 k0 h1 k1 h2 k2 h5 k5 h6 k6 h7 k7 h8 k8 h9 k9 h11 k11
  have b0 := ((Bx.new w 54 #[.slice p0 n0 c0, .slice p1 n1 c1, .slice p2 n2 c2, .int .i64 x3, .int .i64 x4, .slice p5 n5 c5, .slice p6 n6 c6, .slice p7 n7 c7, .slice p8 n8 c8, .slice p9 n9 c9, .int .i64 x10, .slice p11 n11 c11]).alloc (.cells #[.slice none 0 0, .slice none 0 0, .slice none 0 0, .int .i64 0, .int .i64 0, .slice none 0 0, .slice none 0 0, .slice none 0 0, .slice none 0 0, .slice none 0 0, .int .i64 0, .slice none 0 0] 60)).alloc (.cells #[.slice none 0 0, .slice none 0 0, .slice none 0 0, .int .i64 0, .int .i64 0, .slice none 0 0, .slice none 0 0, .slice none 0 0, .slice none 0 0, .slice none 0 0, .int .i64 0, .slice none 0 0] 60)
  have b1 := (Bx.new (w.alloc (.cells #[.slice p0 n0 c0, .slice p1 n1 c1, .slice p2 n2 c2, .int .i64 x3, .int .i64 x4, .slice p5 n5 c5, .slice p6 n6 c6, .slice p7 n7 c7, .slice p8 n8 c8, .slice p9 n9 c9, .int .i64 x10, .slice p11 n11 c11] 54)) 60 #[.slice none 0 0, .slice none 0 0, .slice none 0 0, .int .i64 0, .int .i64 0, .slice none 0 0, .slice none 0 0, .slice none 0 0, .slice none 0 0, .slice none 0 0, .int .i64 0, .slice none 0 0]).alloc (.cells #[.slice none 0 0, .slice none 0 0, .slice none 0 0, .int .i64 0, .int .i64 0, .slice none 0 0, .slice none 0 0, .slice none 0 0, .slice none 0 0, .slice none 0 0, .int .i64 0, .slice none 0 0] 60)
  have b2 := Bx.new ((w.alloc (.cells #[.slice p0 n0 c0, .slice p1 n1 c1, .slice p2 n2 c2, .int .i64 x3, .int .i64 x4, .slice p5 n5 c5, .slice p6 n6 c6, .slice p7 n7 c7, .slice p8 n8 c8, .slice p9 n9 c9, .int .i64 x10, .slice p11 n11 c11] 54)).alloc (.cells #[.slice none 0 0, .slice none 0 0, .slice none 0 0, .int .i64 0, .int .i64 0, .slice none 0 0, .slice none 0 0, .slice none 0 0, .slice none 0 0, .slice none 0 0, .int .i64 0, .slice none 0 0] 60)) 60 #[.slice none 0 0, .slice none 0 0, .slice none 0 0, .int .i64 0, .int .i64 0, .slice none 0 0, .slice none 0 0, .slice none 0 0, .slice none 0 0, .slice none 0 0, .int .i64 0, .slice none 0 0]
  rw [World.size_alloc] at b1
  rw [World.size_alloc, World.size_alloc] at b2
  have HA := Lib.hid b0
  have HR := Lib.hid b1
  have HO := Lib.hid b2
  have HB : Hid (Below w.heap.size w (((w.alloc (.cells #[.slice p0 n0 c0, .slice p1 n1 c1, .slice p2 n2 c2, .int .i64 x3, .int .i64 x4, .slice p5 n5 c5, .slice p6 n6 c6, .slice p7 n7 c7, .slice p8 n8 c8, .slice p9 n9 c9, .int .i64 x10, .slice p11 n11 c11] 54)).alloc (.cells #[.slice none 0 0, .slice none 0 0, .slice none 0 0, .int .i64 0, .int .i64 0, .slice none 0 0, .slice none 0 0, .slice none 0 0, .slice none 0 0, .slice none 0 0, .int .i64 0, .slice none 0 0] 60)).alloc (.cells #[.slice none 0 0, .slice none 0 0, .slice none 0 0, .int .i64 0, .int .i64 0, .slice none 0 0, .slice none 0 0, .slice none 0 0, .slice none 0 0, .slice none 0 0, .int .i64 0, .slice none 0 0] 60))) := Lib.hid ((((Below.refl w.heap.size w).alloc (Nat.le_refl _) _).alloc (by simp) _).alloc (by simp; omega) _)
  have HSZ : Hid (w.heap.size + 3 ≤ (((w.alloc (.cells #[.slice p0 n0 c0, .slice p1 n1 c1, .slice p2 n2 c2, .int .i64 x3, .int .i64 x4, .slice p5 n5 c5, .slice p6 n6 c6, .slice p7 n7 c7, .slice p8 n8 c8, .slice p9 n9 c9, .int .i64 x10, .slice p11 n11 c11] 54)).alloc (.cells #[.slice none 0 0, .slice none 0 0, .slice none 0 0, .int .i64 0, .int .i64 0, .slice none 0 0, .slice none 0 0, .slice none 0 0, .slice none 0 0, .slice none 0 0, .int .i64 0, .slice none 0 0] 60)).alloc (.cells #[.slice none 0 0, .slice none 0 0, .slice none 0 0, .int .i64 0, .int .i64 0, .slice none 0 0, .slice none 0 0, .slice none 0 0, .slice none 0 0, .slice none 0 0, .int .i64 0, .slice none 0 0] 60)).heap.size) := Lib.hid (by simp)
  clear b0 b1 b2
  go_enter Tryz.func20, Tryz.ntmps20
  go_wp2_with fail
  generalize (((w.alloc (.cells #[.slice p0 n0 c0, .slice p1 n1 c1, .slice p2 n2 c2, .int .i64 x3, .int .i64 x4, .slice p5 n5 c5, .slice p6 n6 c6, .slice p7 n7 c7, .slice p8 n8 c8, .slice p9 n9 c9, .int .i64 x10, .slice p11 n11 c11] 54)).alloc (.cells #[.slice none 0 0, .slice none 0 0, .slice none 0 0, .int .i64 0, .int .i64 0, .slice none 0 0, .slice none 0 0, .slice none 0 0, .slice none 0 0, .slice none 0 0, .int .i64 0, .slice none 0 0] 60)).alloc (.cells #[.slice none 0 0, .slice none 0 0, .slice none 0 0, .int .i64 0, .int .i64 0, .slice none 0 0, .slice none 0 0, .slice none 0 0, .slice none 0 0, .slice none 0 0, .int .i64 0, .slice none 0 0] 60)) = V at HA HR HO HB HSZ ⊢
  obtain ⟨a0, a1, a2, a3, a4, a5, a6, a7, a8, a9, a10, a11⟩ := bxc HA.out
  refine (DfFrame.toF_any _ _ _ _ _ _ _ _ _ _ _ _ _ _ _ (HP0.out.below HB.out) (HP1.out.below HB.out) (HP2.out.below HB.out) m0).mono ?_
  rintro e w1 ⟨p0', c0', p1', c1', p2', c2', rfl, ho0, ho1, ho2, hk0, hk1, hk2, hb⟩
  have HK0 := Lib.hid hk0
  have HK1 := Lib.hid hk1
  have HK2 := Lib.hid hk2
  clear hk0 hk1 hk2
  have HQ0 : Hid (FRd (flat SlKey.E SlKey.InR) (w.heap.size + 3) w1 p0' n0 l0) := Lib.hid (ho0.up HSZ.out)
  have HQ1 : Hid (FRd (flat SlAuthority.E SlAuthority.InR) (w.heap.size + 3) w1 p1' n1 l1) := Lib.hid (ho1.up HSZ.out)
  have HQ2 : Hid (FRd (flat SlMethod.E SlMethod.InR) (w.heap.size + 3) w1 p2' n2 l2) := Lib.hid (ho2.up HSZ.out)
  clear ho0 ho1 ho2
  clear a0 a1 a2 a3 a4 a5 a6 a7 a8 a9 a10 a11
  replace HA := Lib.hid (HA.out.below hb)
  replace HR := Lib.hid (HR.out.below hb)
  replace HO := Lib.hid (HO.out.below hb)
  replace HB := Lib.hid (below_on HB.out hb)
  replace HSZ := Lib.hid (Nat.le_trans HSZ.out hb.size)
  clear hb
  obtain ⟨a0, a1, a2, a3, a4, a5, a6, a7, a8, a9, a10, a11⟩ := bxc HA.out
  obtain ⟨q0, q1, q2, q3, q4, q5, q6, q7, q8, q9, q10, q11⟩ := bxc HO.out
  have g0 := HO.out.free 0
  have g1 := HO.out.free 1
  have g2 := HO.out.free 2
  have g3 := HO.out.free 3
  have g4 := HO.out.free 4
  go_wp2_with fail
  have ho := (((((HO.out.set_ 0 (.slice p0' n0 c0')).set_ 1 (.slice p1' n1 c1')).set_ 2 (.slice p2' n2 c2')).set_ 3 (.int .i64 x3)).set_ 4 (.int .i64 x4))
  simp only [List.setIfInBounds_toArray, List.set_cons_zero, List.set_cons_succ] at ho
  replace HO := Lib.hid ho
  clear ho a0 a1 a2 a3 a4 a5 a6 a7 a8 a9 a10 a11 q0 q1 q2 q3 q4 q5 q6 q7 q8 q9 q10 q11 g0 g1 g2 g3 g4
  replace HA := Lib.hid (((((HA.out.far (q := ⟨w.heap.size + 1 + 1, 0, none⟩) (by show w.heap.size ≠ w.heap.size + 1 + 1; omega) (.slice p0' n0 c0')).far (q := ⟨w.heap.size + 1 + 1, 1, none⟩) (by show w.heap.size ≠ w.heap.size + 1 + 1; omega) (.slice p1' n1 c1')).far (q := ⟨w.heap.size + 1 + 1, 2, none⟩) (by show w.heap.size ≠ w.heap.size + 1 + 1; omega) (.slice p2' n2 c2')).far (q := ⟨w.heap.size + 1 + 1, 3, none⟩) (by show w.heap.size ≠ w.heap.size + 1 + 1; omega) (.int .i64 x3)).far (q := ⟨w.heap.size + 1 + 1, 4, none⟩) (by show w.heap.size ≠ w.heap.size + 1 + 1; omega) (.int .i64 x4))
  replace HR := Lib.hid (((((HR.out.far (q := ⟨w.heap.size + 1 + 1, 0, none⟩) (by show w.heap.size + 1 ≠ w.heap.size + 1 + 1; omega) (.slice p0' n0 c0')).far (q := ⟨w.heap.size + 1 + 1, 1, none⟩) (by show w.heap.size + 1 ≠ w.heap.size + 1 + 1; omega) (.slice p1' n1 c1')).far (q := ⟨w.heap.size + 1 + 1, 2, none⟩) (by show w.heap.size + 1 ≠ w.heap.size + 1 + 1; omega) (.slice p2' n2 c2')).far (q := ⟨w.heap.size + 1 + 1, 3, none⟩) (by show w.heap.size + 1 ≠ w.heap.size + 1 + 1; omega) (.int .i64 x3)).far (q := ⟨w.heap.size + 1 + 1, 4, none⟩) (by show w.heap.size + 1 ≠ w.heap.size + 1 + 1; omega) (.int .i64 x4))
  replace HQ0 := Lib.hid (((((HQ0.out.far (q := ⟨w.heap.size + 1 + 1, 0, none⟩) (by show ¬ (w.heap.size + 3 ≤ w.heap.size + 1 + 1); omega) (.slice p0' n0 c0')).far (q := ⟨w.heap.size + 1 + 1, 1, none⟩) (by show ¬ (w.heap.size + 3 ≤ w.heap.size + 1 + 1); omega) (.slice p1' n1 c1')).far (q := ⟨w.heap.size + 1 + 1, 2, none⟩) (by show ¬ (w.heap.size + 3 ≤ w.heap.size + 1 + 1); omega) (.slice p2' n2 c2')).far (q := ⟨w.heap.size + 1 + 1, 3, none⟩) (by show ¬ (w.heap.size + 3 ≤ w.heap.size + 1 + 1); omega) (.int .i64 x3)).far (q := ⟨w.heap.size + 1 + 1, 4, none⟩) (by show ¬ (w.heap.size + 3 ≤ w.heap.size + 1 + 1); omega) (.int .i64 x4))
  replace HQ1 := Lib.hid (((((HQ1.out.far (q := ⟨w.heap.size + 1 + 1, 0, none⟩) (by show ¬ (w.heap.size + 3 ≤ w.heap.size + 1 + 1); omega) (.slice p0' n0 c0')).far (q := ⟨w.heap.size + 1 + 1, 1, none⟩) (by show ¬ (w.heap.size + 3 ≤ w.heap.size + 1 + 1); omega) (.slice p1' n1 c1')).far (q := ⟨w.heap.size + 1 + 1, 2, none⟩) (by show ¬ (w.heap.size + 3 ≤ w.heap.size + 1 + 1); omega) (.slice p2' n2 c2')).far (q := ⟨w.heap.size + 1 + 1, 3, none⟩) (by show ¬ (w.heap.size + 3 ≤ w.heap.size + 1 + 1); omega) (.int .i64 x3)).far (q := ⟨w.heap.size + 1 + 1, 4, none⟩) (by show ¬ (w.heap.size + 3 ≤ w.heap.size + 1 + 1); omega) (.int .i64 x4))
  replace HQ2 := Lib.hid (((((HQ2.out.far (q := ⟨w.heap.size + 1 + 1, 0, none⟩) (by show ¬ (w.heap.size + 3 ≤ w.heap.size + 1 + 1); omega) (.slice p0' n0 c0')).far (q := ⟨w.heap.size + 1 + 1, 1, none⟩) (by show ¬ (w.heap.size + 3 ≤ w.heap.size + 1 + 1); omega) (.slice p1' n1 c1')).far (q := ⟨w.heap.size + 1 + 1, 2, none⟩) (by show ¬ (w.heap.size + 3 ≤ w.heap.size + 1 + 1); omega) (.slice p2' n2 c2')).far (q := ⟨w.heap.size + 1 + 1, 3, none⟩) (by show ¬ (w.heap.size + 3 ≤ w.heap.size + 1 + 1); omega) (.int .i64 x3)).far (q := ⟨w.heap.size + 1 + 1, 4, none⟩) (by show ¬ (w.heap.size + 3 ≤ w.heap.size + 1 + 1); omega) (.int .i64 x4))
  replace HB := Lib.hid (((((HB.out.setCell (p := ⟨w.heap.size + 1 + 1, 0, none⟩) (by show w.heap.size ≤ w.heap.size + 1 + 1; omega) (.slice p0' n0 c0')).setCell (p := ⟨w.heap.size + 1 + 1, 1, none⟩) (by show w.heap.size ≤ w.heap.size + 1 + 1; omega) (.slice p1' n1 c1')).setCell (p := ⟨w.heap.size + 1 + 1, 2, none⟩) (by show w.heap.size ≤ w.heap.size + 1 + 1; omega) (.slice p2' n2 c2')).setCell (p := ⟨w.heap.size + 1 + 1, 3, none⟩) (by show w.heap.size ≤ w.heap.size + 1 + 1; omega) (.int .i64 x3)).setCell (p := ⟨w.heap.size + 1 + 1, 4, none⟩) (by show w.heap.size ≤ w.heap.size + 1 + 1; omega) (.int .i64 x4))
  replace HSZ : Hid (w.heap.size + 3 ≤ (((((w1.setCell ⟨w.heap.size + 1 + 1, 0, none⟩ (.slice p0' n0 c0')).setCell ⟨w.heap.size + 1 + 1, 1, none⟩ (.slice p1' n1 c1')).setCell ⟨w.heap.size + 1 + 1, 2, none⟩ (.slice p2' n2 c2')).setCell ⟨w.heap.size + 1 + 1, 3, none⟩ (.int .i64 x3)).setCell ⟨w.heap.size + 1 + 1, 4, none⟩ (.int .i64 x4)).heap.size) := Lib.hid (by simpa [World.setCell] using HSZ.out)
  generalize (((((w1.setCell ⟨w.heap.size + 1 + 1, 0, none⟩ (.slice p0' n0 c0')).setCell ⟨w.heap.size + 1 + 1, 1, none⟩ (.slice p1' n1 c1')).setCell ⟨w.heap.size + 1 + 1, 2, none⟩ (.slice p2' n2 c2')).setCell ⟨w.heap.size + 1 + 1, 3, none⟩ (.int .i64 x3)).setCell ⟨w.heap.size + 1 + 1, 4, none⟩ (.int .i64 x4)) = V1 at HA HR HO HB HSZ HQ0 HQ1 HQ2 ⊢
  obtain ⟨a0, a1, a2, a3, a4, a5, a6, a7, a8, a9, a10, a11⟩ := bxc HA.out
  refine (SlCert.to_any _ _ _ _ _ (HP5.out.below HB.out).rdS (by omega)).mono ?_
  rintro e w2 ⟨p5', n5', c5', rfl, ho, hb⟩
  obtain rfl : n5 = n5' := HP5.out.len.symm.trans ho.len
  have HK5 := Lib.hid (Ed.cap_owS ho)
  have HQ5 : Hid (FRd (flat SlCert.E SlCert.InR) (w.heap.size + 3) w2 p5' n5 l5) := Lib.hid ((ofOwSF ho HP5.out.allP).up HSZ.out)
  clear ho
  clear a0 a1 a2 a3 a4 a5 a6 a7 a8 a9 a10 a11
  replace HA := Lib.hid (HA.out.below hb)
  replace HR := Lib.hid (HR.out.below hb)
  replace HO := Lib.hid (HO.out.below hb)
  replace HQ0 := Lib.hid (HQ0.out.below hb)
  replace HQ1 := Lib.hid (HQ1.out.below hb)
  replace HQ2 := Lib.hid (HQ2.out.below hb)
  replace HB := Lib.hid (below_on HB.out hb)
  replace HSZ := Lib.hid (Nat.le_trans HSZ.out hb.size)
  clear hb
  obtain ⟨a0, a1, a2, a3, a4, a5, a6, a7, a8, a9, a10, a11⟩ := bxc HA.out
  obtain ⟨q0, q1, q2, q3, q4, q5, q6, q7, q8, q9, q10, q11⟩ := bxc HO.out
  have g5 := HO.out.free 5
  go_wp2_with fail
  have ho := (HO.out.set_ 5 (.slice p5' n5 c5'))
  simp only [List.setIfInBounds_toArray, List.set_cons_zero, List.set_cons_succ] at ho
  replace HO := Lib.hid ho
  clear ho a0 a1 a2 a3 a4 a5 a6 a7 a8 a9 a10 a11 q0 q1 q2 q3 q4 q5 q6 q7 q8 q9 q10 q11 g5
  replace HA := Lib.hid (HA.out.far (q := ⟨w.heap.size + 1 + 1, 5, none⟩) (by show w.heap.size ≠ w.heap.size + 1 + 1; omega) (.slice p5' n5 c5'))
  replace HR := Lib.hid (HR.out.far (q := ⟨w.heap.size + 1 + 1, 5, none⟩) (by show w.heap.size + 1 ≠ w.heap.size + 1 + 1; omega) (.slice p5' n5 c5'))
  replace HQ0 := Lib.hid (HQ0.out.far (q := ⟨w.heap.size + 1 + 1, 5, none⟩) (by show ¬ (w.heap.size + 3 ≤ w.heap.size + 1 + 1); omega) (.slice p5' n5 c5'))
  replace HQ1 := Lib.hid (HQ1.out.far (q := ⟨w.heap.size + 1 + 1, 5, none⟩) (by show ¬ (w.heap.size + 3 ≤ w.heap.size + 1 + 1); omega) (.slice p5' n5 c5'))
  replace HQ2 := Lib.hid (HQ2.out.far (q := ⟨w.heap.size + 1 + 1, 5, none⟩) (by show ¬ (w.heap.size + 3 ≤ w.heap.size + 1 + 1); omega) (.slice p5' n5 c5'))
  replace HQ5 := Lib.hid (HQ5.out.far (q := ⟨w.heap.size + 1 + 1, 5, none⟩) (by show ¬ (w.heap.size + 3 ≤ w.heap.size + 1 + 1); omega) (.slice p5' n5 c5'))
  replace HB := Lib.hid (HB.out.setCell (p := ⟨w.heap.size + 1 + 1, 5, none⟩) (by show w.heap.size ≤ w.heap.size + 1 + 1; omega) (.slice p5' n5 c5'))
  replace HSZ : Hid (w.heap.size + 3 ≤ (w2.setCell ⟨w.heap.size + 1 + 1, 5, none⟩ (.slice p5' n5 c5')).heap.size) := Lib.hid (by simpa [World.setCell] using HSZ.out)
  generalize (w2.setCell ⟨w.heap.size + 1 + 1, 5, none⟩ (.slice p5' n5 c5')) = V2 at HA HR HO HB HSZ HQ0 HQ1 HQ2 HQ5 ⊢
  obtain ⟨a0, a1, a2, a3, a4, a5, a6, a7, a8, a9, a10, a11⟩ := bxc HA.out
  refine (SlI.to_any _ _ _ _ _ (HP6.out.below HB.out).ints (by omega)).mono ?_
  rintro e w3 ⟨p6', n6', c6', rfl, ho, hb⟩
  obtain rfl : n6 = n6' := HP6.out.len.symm.trans ho.len
  have HK6 := Lib.hid (Ed.cap_ow ho)
  have HQ6 : Hid (FRd int (w.heap.size + 3) w3 p6' n6 l6) := Lib.hid ((ofOwF ho).up HSZ.out)
  clear ho
  clear a0 a1 a2 a3 a4 a5 a6 a7 a8 a9 a10 a11
  replace HA := Lib.hid (HA.out.below hb)
  replace HR := Lib.hid (HR.out.below hb)
  replace HO := Lib.hid (HO.out.below hb)
  replace HQ0 := Lib.hid (HQ0.out.below hb)
  replace HQ1 := Lib.hid (HQ1.out.below hb)
  replace HQ2 := Lib.hid (HQ2.out.below hb)
  replace HQ5 := Lib.hid (HQ5.out.below hb)
  replace HB := Lib.hid (below_on HB.out hb)
  replace HSZ := Lib.hid (Nat.le_trans HSZ.out hb.size)
  clear hb
  obtain ⟨a0, a1, a2, a3, a4, a5, a6, a7, a8, a9, a10, a11⟩ := bxc HA.out
  obtain ⟨q0, q1, q2, q3, q4, q5, q6, q7, q8, q9, q10, q11⟩ := bxc HO.out
  have g6 := HO.out.free 6
  go_wp2_with fail
  have ho := (HO.out.set_ 6 (.slice p6' n6 c6'))
  simp only [List.setIfInBounds_toArray, List.set_cons_zero, List.set_cons_succ] at ho
  replace HO := Lib.hid ho
  clear ho a0 a1 a2 a3 a4 a5 a6 a7 a8 a9 a10 a11 q0 q1 q2 q3 q4 q5 q6 q7 q8 q9 q10 q11 g6
  replace HA := Lib.hid (HA.out.far (q := ⟨w.heap.size + 1 + 1, 6, none⟩) (by show w.heap.size ≠ w.heap.size + 1 + 1; omega) (.slice p6' n6 c6'))
  replace HR := Lib.hid (HR.out.far (q := ⟨w.heap.size + 1 + 1, 6, none⟩) (by show w.heap.size + 1 ≠ w.heap.size + 1 + 1; omega) (.slice p6' n6 c6'))
  replace HQ0 := Lib.hid (HQ0.out.far (q := ⟨w.heap.size + 1 + 1, 6, none⟩) (by show ¬ (w.heap.size + 3 ≤ w.heap.size + 1 + 1); omega) (.slice p6' n6 c6'))
  replace HQ1 := Lib.hid (HQ1.out.far (q := ⟨w.heap.size + 1 + 1, 6, none⟩) (by show ¬ (w.heap.size + 3 ≤ w.heap.size + 1 + 1); omega) (.slice p6' n6 c6'))
  replace HQ2 := Lib.hid (HQ2.out.far (q := ⟨w.heap.size + 1 + 1, 6, none⟩) (by show ¬ (w.heap.size + 3 ≤ w.heap.size + 1 + 1); omega) (.slice p6' n6 c6'))
  replace HQ5 := Lib.hid (HQ5.out.far (q := ⟨w.heap.size + 1 + 1, 6, none⟩) (by show ¬ (w.heap.size + 3 ≤ w.heap.size + 1 + 1); omega) (.slice p6' n6 c6'))
  replace HQ6 := Lib.hid (HQ6.out.far (q := ⟨w.heap.size + 1 + 1, 6, none⟩) (by show ¬ (w.heap.size + 3 ≤ w.heap.size + 1 + 1); omega) (.slice p6' n6 c6'))
  replace HB := Lib.hid (HB.out.setCell (p := ⟨w.heap.size + 1 + 1, 6, none⟩) (by show w.heap.size ≤ w.heap.size + 1 + 1; omega) (.slice p6' n6 c6'))
  replace HSZ : Hid (w.heap.size + 3 ≤ (w3.setCell ⟨w.heap.size + 1 + 1, 6, none⟩ (.slice p6' n6 c6')).heap.size) := Lib.hid (by simpa [World.setCell] using HSZ.out)
  generalize (w3.setCell ⟨w.heap.size + 1 + 1, 6, none⟩ (.slice p6' n6 c6')) = V3 at HA HR HO HB HSZ HQ0 HQ1 HQ2 HQ5 HQ6 ⊢
  obtain ⟨a0, a1, a2, a3, a4, a5, a6, a7, a8, a9, a10, a11⟩ := bxc HA.out
  refine (DfArchive.toSF_any _ _ _ _ _ (HP7.out.below HB.out) m7).mono ?_
  rintro e w4 ⟨p7', c7', rfl, ho, hk, hb⟩
  have HK7 := Lib.hid hk
  clear hk
  have HQ7 : Hid (FRd DpArchive.E (w.heap.size + 3) w4 p7' n7 l7) := Lib.hid (ho.up HSZ.out)
  clear ho
  clear a0 a1 a2 a3 a4 a5 a6 a7 a8 a9 a10 a11
  replace HA := Lib.hid (HA.out.below hb)
  replace HR := Lib.hid (HR.out.below hb)
  replace HO := Lib.hid (HO.out.below hb)
  replace HQ0 := Lib.hid (HQ0.out.below hb)
  replace HQ1 := Lib.hid (HQ1.out.below hb)
  replace HQ2 := Lib.hid (HQ2.out.below hb)
  replace HQ5 := Lib.hid (HQ5.out.below hb)
  replace HQ6 := Lib.hid (HQ6.out.below hb)
  replace HB := Lib.hid (below_on HB.out hb)
  replace HSZ := Lib.hid (Nat.le_trans HSZ.out hb.size)
  clear hb
  obtain ⟨a0, a1, a2, a3, a4, a5, a6, a7, a8, a9, a10, a11⟩ := bxc HA.out
  obtain ⟨q0, q1, q2, q3, q4, q5, q6, q7, q8, q9, q10, q11⟩ := bxc HO.out
  have g7 := HO.out.free 7
  go_wp2_with fail
  have ho := (HO.out.set_ 7 (.slice p7' n7 c7'))
  simp only [List.setIfInBounds_toArray, List.set_cons_zero, List.set_cons_succ] at ho
  replace HO := Lib.hid ho
  clear ho a0 a1 a2 a3 a4 a5 a6 a7 a8 a9 a10 a11 q0 q1 q2 q3 q4 q5 q6 q7 q8 q9 q10 q11 g7
  replace HA := Lib.hid (HA.out.far (q := ⟨w.heap.size + 1 + 1, 7, none⟩) (by show w.heap.size ≠ w.heap.size + 1 + 1; omega) (.slice p7' n7 c7'))
  replace HR := Lib.hid (HR.out.far (q := ⟨w.heap.size + 1 + 1, 7, none⟩) (by show w.heap.size + 1 ≠ w.heap.size + 1 + 1; omega) (.slice p7' n7 c7'))
  replace HQ0 := Lib.hid (HQ0.out.far (q := ⟨w.heap.size + 1 + 1, 7, none⟩) (by show ¬ (w.heap.size + 3 ≤ w.heap.size + 1 + 1); omega) (.slice p7' n7 c7'))
  replace HQ1 := Lib.hid (HQ1.out.far (q := ⟨w.heap.size + 1 + 1, 7, none⟩) (by show ¬ (w.heap.size + 3 ≤ w.heap.size + 1 + 1); omega) (.slice p7' n7 c7'))
  replace HQ2 := Lib.hid (HQ2.out.far (q := ⟨w.heap.size + 1 + 1, 7, none⟩) (by show ¬ (w.heap.size + 3 ≤ w.heap.size + 1 + 1); omega) (.slice p7' n7 c7'))
  replace HQ5 := Lib.hid (HQ5.out.far (q := ⟨w.heap.size + 1 + 1, 7, none⟩) (by show ¬ (w.heap.size + 3 ≤ w.heap.size + 1 + 1); omega) (.slice p7' n7 c7'))
  replace HQ6 := Lib.hid (HQ6.out.far (q := ⟨w.heap.size + 1 + 1, 7, none⟩) (by show ¬ (w.heap.size + 3 ≤ w.heap.size + 1 + 1); omega) (.slice p7' n7 c7'))
  replace HQ7 := Lib.hid (HQ7.out.far (q := ⟨w.heap.size + 1 + 1, 7, none⟩) (by show ¬ (w.heap.size + 3 ≤ w.heap.size + 1 + 1); omega) (.slice p7' n7 c7'))
  replace HB := Lib.hid (HB.out.setCell (p := ⟨w.heap.size + 1 + 1, 7, none⟩) (by show w.heap.size ≤ w.heap.size + 1 + 1; omega) (.slice p7' n7 c7'))
  replace HSZ : Hid (w.heap.size + 3 ≤ (w4.setCell ⟨w.heap.size + 1 + 1, 7, none⟩ (.slice p7' n7 c7')).heap.size) := Lib.hid (by simpa [World.setCell] using HSZ.out)
  generalize (w4.setCell ⟨w.heap.size + 1 + 1, 7, none⟩ (.slice p7' n7 c7')) = V4 at HA HR HO HB HSZ HQ0 HQ1 HQ2 HQ5 HQ6 HQ7 ⊢
  obtain ⟨a0, a1, a2, a3, a4, a5, a6, a7, a8, a9, a10, a11⟩ := bxc HA.out
  refine (SlI.to_any _ _ _ _ _ (HP8.out.below HB.out).ints (by omega)).mono ?_
  rintro e w5 ⟨p8', n8', c8', rfl, ho, hb⟩
  obtain rfl : n8 = n8' := HP8.out.len.symm.trans ho.len
  have HK8 := Lib.hid (Ed.cap_ow ho)
  have HQ8 : Hid (FRd int (w.heap.size + 3) w5 p8' n8 l8) := Lib.hid ((ofOwF ho).up HSZ.out)
  clear ho
  clear a0 a1 a2 a3 a4 a5 a6 a7 a8 a9 a10 a11
  replace HA := Lib.hid (HA.out.below hb)
  replace HR := Lib.hid (HR.out.below hb)
  replace HO := Lib.hid (HO.out.below hb)
  replace HQ0 := Lib.hid (HQ0.out.below hb)
  replace HQ1 := Lib.hid (HQ1.out.below hb)
  replace HQ2 := Lib.hid (HQ2.out.below hb)
  replace HQ5 := Lib.hid (HQ5.out.below hb)
  replace HQ6 := Lib.hid (HQ6.out.below hb)
  replace HQ7 := Lib.hid (HQ7.out.below hb)
  replace HB := Lib.hid (below_on HB.out hb)
  replace HSZ := Lib.hid (Nat.le_trans HSZ.out hb.size)
  clear hb
  obtain ⟨a0, a1, a2, a3, a4, a5, a6, a7, a8, a9, a10, a11⟩ := bxc HA.out
  obtain ⟨q0, q1, q2, q3, q4, q5, q6, q7, q8, q9, q10, q11⟩ := bxc HO.out
  have g8 := HO.out.free 8
  go_wp2_with fail
  have ho := (HO.out.set_ 8 (.slice p8' n8 c8'))
  simp only [List.setIfInBounds_toArray, List.set_cons_zero, List.set_cons_succ] at ho
  replace HO := Lib.hid ho
  clear ho a0 a1 a2 a3 a4 a5 a6 a7 a8 a9 a10 a11 q0 q1 q2 q3 q4 q5 q6 q7 q8 q9 q10 q11 g8
  replace HA := Lib.hid (HA.out.far (q := ⟨w.heap.size + 1 + 1, 8, none⟩) (by show w.heap.size ≠ w.heap.size + 1 + 1; omega) (.slice p8' n8 c8'))
  replace HR := Lib.hid (HR.out.far (q := ⟨w.heap.size + 1 + 1, 8, none⟩) (by show w.heap.size + 1 ≠ w.heap.size + 1 + 1; omega) (.slice p8' n8 c8'))
  replace HQ0 := Lib.hid (HQ0.out.far (q := ⟨w.heap.size + 1 + 1, 8, none⟩) (by show ¬ (w.heap.size + 3 ≤ w.heap.size + 1 + 1); omega) (.slice p8' n8 c8'))
  replace HQ1 := Lib.hid (HQ1.out.far (q := ⟨w.heap.size + 1 + 1, 8, none⟩) (by show ¬ (w.heap.size + 3 ≤ w.heap.size + 1 + 1); omega) (.slice p8' n8 c8'))
  replace HQ2 := Lib.hid (HQ2.out.far (q := ⟨w.heap.size + 1 + 1, 8, none⟩) (by show ¬ (w.heap.size + 3 ≤ w.heap.size + 1 + 1); omega) (.slice p8' n8 c8'))
  replace HQ5 := Lib.hid (HQ5.out.far (q := ⟨w.heap.size + 1 + 1, 8, none⟩) (by show ¬ (w.heap.size + 3 ≤ w.heap.size + 1 + 1); omega) (.slice p8' n8 c8'))
  replace HQ6 := Lib.hid (HQ6.out.far (q := ⟨w.heap.size + 1 + 1, 8, none⟩) (by show ¬ (w.heap.size + 3 ≤ w.heap.size + 1 + 1); omega) (.slice p8' n8 c8'))
  replace HQ7 := Lib.hid (HQ7.out.far (q := ⟨w.heap.size + 1 + 1, 8, none⟩) (by show ¬ (w.heap.size + 3 ≤ w.heap.size + 1 + 1); omega) (.slice p8' n8 c8'))
  replace HQ8 := Lib.hid (HQ8.out.far (q := ⟨w.heap.size + 1 + 1, 8, none⟩) (by show ¬ (w.heap.size + 3 ≤ w.heap.size + 1 + 1); omega) (.slice p8' n8 c8'))
  replace HB := Lib.hid (HB.out.setCell (p := ⟨w.heap.size + 1 + 1, 8, none⟩) (by show w.heap.size ≤ w.heap.size + 1 + 1; omega) (.slice p8' n8 c8'))
  replace HSZ : Hid (w.heap.size + 3 ≤ (w5.setCell ⟨w.heap.size + 1 + 1, 8, none⟩ (.slice p8' n8 c8')).heap.size) := Lib.hid (by simpa [World.setCell] using HSZ.out)
  generalize (w5.setCell ⟨w.heap.size + 1 + 1, 8, none⟩ (.slice p8' n8 c8')) = V5 at HA HR HO HB HSZ HQ0 HQ1 HQ2 HQ5 HQ6 HQ7 HQ8 ⊢
  obtain ⟨a0, a1, a2, a3, a4, a5, a6, a7, a8, a9, a10, a11⟩ := bxc HA.out
  refine (SlI.to_any _ _ _ _ _ (HP9.out.below HB.out).ints (by omega)).mono ?_
  rintro e w6 ⟨p9', n9', c9', rfl, ho, hb⟩
  obtain rfl : n9 = n9' := HP9.out.len.symm.trans ho.len
  have HK9 := Lib.hid (Ed.cap_ow ho)
  have HQ9 : Hid (FRd int (w.heap.size + 3) w6 p9' n9 l9) := Lib.hid ((ofOwF ho).up HSZ.out)
  clear ho
  clear a0 a1 a2 a3 a4 a5 a6 a7 a8 a9 a10 a11
  replace HA := Lib.hid (HA.out.below hb)
  replace HR := Lib.hid (HR.out.below hb)
  replace HO := Lib.hid (HO.out.below hb)
  replace HQ0 := Lib.hid (HQ0.out.below hb)
  replace HQ1 := Lib.hid (HQ1.out.below hb)
  replace HQ2 := Lib.hid (HQ2.out.below hb)
  replace HQ5 := Lib.hid (HQ5.out.below hb)
  replace HQ6 := Lib.hid (HQ6.out.below hb)
  replace HQ7 := Lib.hid (HQ7.out.below hb)
  replace HQ8 := Lib.hid (HQ8.out.below hb)
  replace HB := Lib.hid (below_on HB.out hb)
  replace HSZ := Lib.hid (Nat.le_trans HSZ.out hb.size)
  clear hb
  obtain ⟨a0, a1, a2, a3, a4, a5, a6, a7, a8, a9, a10, a11⟩ := bxc HA.out
  obtain ⟨q0, q1, q2, q3, q4, q5, q6, q7, q8, q9, q10, q11⟩ := bxc HO.out
  have g9 := HO.out.free 9
  have g10 := HO.out.free 10
  go_wp2_with fail
  have ho := ((HO.out.set_ 9 (.slice p9' n9 c9')).set_ 10 (.int .i64 x10))
  simp only [List.setIfInBounds_toArray, List.set_cons_zero, List.set_cons_succ] at ho
  replace HO := Lib.hid ho
  clear ho a0 a1 a2 a3 a4 a5 a6 a7 a8 a9 a10 a11 q0 q1 q2 q3 q4 q5 q6 q7 q8 q9 q10 q11 g9 g10
  replace HA := Lib.hid ((HA.out.far (q := ⟨w.heap.size + 1 + 1, 9, none⟩) (by show w.heap.size ≠ w.heap.size + 1 + 1; omega) (.slice p9' n9 c9')).far (q := ⟨w.heap.size + 1 + 1, 10, none⟩) (by show w.heap.size ≠ w.heap.size + 1 + 1; omega) (.int .i64 x10))
  replace HR := Lib.hid ((HR.out.far (q := ⟨w.heap.size + 1 + 1, 9, none⟩) (by show w.heap.size + 1 ≠ w.heap.size + 1 + 1; omega) (.slice p9' n9 c9')).far (q := ⟨w.heap.size + 1 + 1, 10, none⟩) (by show w.heap.size + 1 ≠ w.heap.size + 1 + 1; omega) (.int .i64 x10))
  replace HQ0 := Lib.hid ((HQ0.out.far (q := ⟨w.heap.size + 1 + 1, 9, none⟩) (by show ¬ (w.heap.size + 3 ≤ w.heap.size + 1 + 1); omega) (.slice p9' n9 c9')).far (q := ⟨w.heap.size + 1 + 1, 10, none⟩) (by show ¬ (w.heap.size + 3 ≤ w.heap.size + 1 + 1); omega) (.int .i64 x10))
  replace HQ1 := Lib.hid ((HQ1.out.far (q := ⟨w.heap.size + 1 + 1, 9, none⟩) (by show ¬ (w.heap.size + 3 ≤ w.heap.size + 1 + 1); omega) (.slice p9' n9 c9')).far (q := ⟨w.heap.size + 1 + 1, 10, none⟩) (by show ¬ (w.heap.size + 3 ≤ w.heap.size + 1 + 1); omega) (.int .i64 x10))
  replace HQ2 := Lib.hid ((HQ2.out.far (q := ⟨w.heap.size + 1 + 1, 9, none⟩) (by show ¬ (w.heap.size + 3 ≤ w.heap.size + 1 + 1); omega) (.slice p9' n9 c9')).far (q := ⟨w.heap.size + 1 + 1, 10, none⟩) (by show ¬ (w.heap.size + 3 ≤ w.heap.size + 1 + 1); omega) (.int .i64 x10))
  replace HQ5 := Lib.hid ((HQ5.out.far (q := ⟨w.heap.size + 1 + 1, 9, none⟩) (by show ¬ (w.heap.size + 3 ≤ w.heap.size + 1 + 1); omega) (.slice p9' n9 c9')).far (q := ⟨w.heap.size + 1 + 1, 10, none⟩) (by show ¬ (w.heap.size + 3 ≤ w.heap.size + 1 + 1); omega) (.int .i64 x10))
  replace HQ6 := Lib.hid ((HQ6.out.far (q := ⟨w.heap.size + 1 + 1, 9, none⟩) (by show ¬ (w.heap.size + 3 ≤ w.heap.size + 1 + 1); omega) (.slice p9' n9 c9')).far (q := ⟨w.heap.size + 1 + 1, 10, none⟩) (by show ¬ (w.heap.size + 3 ≤ w.heap.size + 1 + 1); omega) (.int .i64 x10))
  replace HQ7 := Lib.hid ((HQ7.out.far (q := ⟨w.heap.size + 1 + 1, 9, none⟩) (by show ¬ (w.heap.size + 3 ≤ w.heap.size + 1 + 1); omega) (.slice p9' n9 c9')).far (q := ⟨w.heap.size + 1 + 1, 10, none⟩) (by show ¬ (w.heap.size + 3 ≤ w.heap.size + 1 + 1); omega) (.int .i64 x10))
  replace HQ8 := Lib.hid ((HQ8.out.far (q := ⟨w.heap.size + 1 + 1, 9, none⟩) (by show ¬ (w.heap.size + 3 ≤ w.heap.size + 1 + 1); omega) (.slice p9' n9 c9')).far (q := ⟨w.heap.size + 1 + 1, 10, none⟩) (by show ¬ (w.heap.size + 3 ≤ w.heap.size + 1 + 1); omega) (.int .i64 x10))
  replace HQ9 := Lib.hid ((HQ9.out.far (q := ⟨w.heap.size + 1 + 1, 9, none⟩) (by show ¬ (w.heap.size + 3 ≤ w.heap.size + 1 + 1); omega) (.slice p9' n9 c9')).far (q := ⟨w.heap.size + 1 + 1, 10, none⟩) (by show ¬ (w.heap.size + 3 ≤ w.heap.size + 1 + 1); omega) (.int .i64 x10))
  replace HB := Lib.hid ((HB.out.setCell (p := ⟨w.heap.size + 1 + 1, 9, none⟩) (by show w.heap.size ≤ w.heap.size + 1 + 1; omega) (.slice p9' n9 c9')).setCell (p := ⟨w.heap.size + 1 + 1, 10, none⟩) (by show w.heap.size ≤ w.heap.size + 1 + 1; omega) (.int .i64 x10))
  replace HSZ : Hid (w.heap.size + 3 ≤ ((w6.setCell ⟨w.heap.size + 1 + 1, 9, none⟩ (.slice p9' n9 c9')).setCell ⟨w.heap.size + 1 + 1, 10, none⟩ (.int .i64 x10)).heap.size) := Lib.hid (by simpa [World.setCell] using HSZ.out)
  generalize ((w6.setCell ⟨w.heap.size + 1 + 1, 9, none⟩ (.slice p9' n9 c9')).setCell ⟨w.heap.size + 1 + 1, 10, none⟩ (.int .i64 x10)) = V6 at HA HR HO HB HSZ HQ0 HQ1 HQ2 HQ5 HQ6 HQ7 HQ8 HQ9 ⊢
  obtain ⟨a0, a1, a2, a3, a4, a5, a6, a7, a8, a9, a10, a11⟩ := bxc HA.out
  refine (SlI.to_any _ _ _ _ _ (HP11.out.below HB.out).ints (by omega)).mono ?_
  rintro e w7 ⟨p11', n11', c11', rfl, ho, hb⟩
  obtain rfl : n11 = n11' := HP11.out.len.symm.trans ho.len
  have HK11 := Lib.hid (Ed.cap_ow ho)
  have HQ11 : Hid (FRd int (w.heap.size + 3) w7 p11' n11 l11) := Lib.hid ((ofOwF ho).up HSZ.out)
  clear ho
  clear a0 a1 a2 a3 a4 a5 a6 a7 a8 a9 a10 a11
  replace HA := Lib.hid (HA.out.below hb)
  replace HR := Lib.hid (HR.out.below hb)
  replace HO := Lib.hid (HO.out.below hb)
  replace HQ0 := Lib.hid (HQ0.out.below hb)
  replace HQ1 := Lib.hid (HQ1.out.below hb)
  replace HQ2 := Lib.hid (HQ2.out.below hb)
  replace HQ5 := Lib.hid (HQ5.out.below hb)
  replace HQ6 := Lib.hid (HQ6.out.below hb)
  replace HQ7 := Lib.hid (HQ7.out.below hb)
  replace HQ8 := Lib.hid (HQ8.out.below hb)
  replace HQ9 := Lib.hid (HQ9.out.below hb)
  replace HB := Lib.hid (below_on HB.out hb)
  replace HSZ := Lib.hid (Nat.le_trans HSZ.out hb.size)
  clear hb
  obtain ⟨a0, a1, a2, a3, a4, a5, a6, a7, a8, a9, a10, a11⟩ := bxc HA.out
  obtain ⟨q0, q1, q2, q3, q4, q5, q6, q7, q8, q9, q10, q11⟩ := bxc HO.out
  have g11 := HO.out.free 11
  obtain ⟨r0, r1, r2, r3, r4, r5, r6, r7, r8, r9, r10, r11⟩ := bxc HR.out
  have s0 := HR.out.free 0
  have s1 := HR.out.free 1
  have s2 := HR.out.free 2
  have s3 := HR.out.free 3
  have s4 := HR.out.free 4
  have s5 := HR.out.free 5
  have s6 := HR.out.free 6
  have s7 := HR.out.free 7
  have s8 := HR.out.free 8
  have s9 := HR.out.free 9
  have s10 := HR.out.free 10
  have s11 := HR.out.free 11
  go_wp2_with fail
  exact bodyPost_ret (v := .agg #[.slice p0' n0 c0', .slice p1' n1 c1', .slice p2' n2 c2', .int .i64 x3, .int .i64 x4, .slice p5' n5 c5', .slice p6' n6 c6', .slice p7' n7 c7', .slice p8' n8 c8', .slice p9' n9 c9', .int .i64 x10, .slice p11' n11 c11']) (by simp [results, Tryz.results20, go_sem, r0, r1, r2, r3, r4, r5, r6, r7, r8, r9, r10, r11]) rfl ⟨p0', c0', p1', c1', p2', c2', p5', c5', p6', c6', p7', c7', p8', c8', p9', c9', p11', c11', rfl, (((((((((((((((HQ0.out.far (q := ⟨w.heap.size + 1 + 1, 11, none⟩) (by show ¬ (w.heap.size + 3 ≤ w.heap.size + 1 + 1); omega) (.slice p11' n11 c11')).far (q := ⟨w.heap.size + 1, 0, none⟩) (by show ¬ (w.heap.size + 3 ≤ w.heap.size + 1); omega) (.slice p0' n0 c0')).far (q := ⟨w.heap.size + 1, 1, none⟩) (by show ¬ (w.heap.size + 3 ≤ w.heap.size + 1); omega) (.slice p1' n1 c1')).far (q := ⟨w.heap.size + 1, 2, none⟩) (by show ¬ (w.heap.size + 3 ≤ w.heap.size + 1); omega) (.slice p2' n2 c2')).far (q := ⟨w.heap.size + 1, 3, none⟩) (by show ¬ (w.heap.size + 3 ≤ w.heap.size + 1); omega) (.int .i64 x3)).far (q := ⟨w.heap.size + 1, 4, none⟩) (by show ¬ (w.heap.size + 3 ≤ w.heap.size + 1); omega) (.int .i64 x4)).far (q := ⟨w.heap.size + 1, 5, none⟩) (by show ¬ (w.heap.size + 3 ≤ w.heap.size + 1); omega) (.slice p5' n5 c5')).far (q := ⟨w.heap.size + 1, 6, none⟩) (by show ¬ (w.heap.size + 3 ≤ w.heap.size + 1); omega) (.slice p6' n6 c6')).far (q := ⟨w.heap.size + 1, 7, none⟩) (by show ¬ (w.heap.size + 3 ≤ w.heap.size + 1); omega) (.slice p7' n7 c7')).far (q := ⟨w.heap.size + 1, 8, none⟩) (by show ¬ (w.heap.size + 3 ≤ w.heap.size + 1); omega) (.slice p8' n8 c8')).far (q := ⟨w.heap.size + 1, 9, none⟩) (by show ¬ (w.heap.size + 3 ≤ w.heap.size + 1); omega) (.slice p9' n9 c9')).far (q := ⟨w.heap.size + 1, 10, none⟩) (by show ¬ (w.heap.size + 3 ≤ w.heap.size + 1); omega) (.int .i64 x10)).far (q := ⟨w.heap.size + 1, 11, none⟩) (by show ¬ (w.heap.size + 3 ≤ w.heap.size + 1); omega) (.slice p11' n11 c11'))).up (by omega)), (((((((((((((((HQ1.out.far (q := ⟨w.heap.size + 1 + 1, 11, none⟩) (by show ¬ (w.heap.size + 3 ≤ w.heap.size + 1 + 1); omega) (.slice p11' n11 c11')).far (q := ⟨w.heap.size + 1, 0, none⟩) (by show ¬ (w.heap.size + 3 ≤ w.heap.size + 1); omega) (.slice p0' n0 c0')).far (q := ⟨w.heap.size + 1, 1, none⟩) (by show ¬ (w.heap.size + 3 ≤ w.heap.size + 1); omega) (.slice p1' n1 c1')).far (q := ⟨w.heap.size + 1, 2, none⟩) (by show ¬ (w.heap.size + 3 ≤ w.heap.size + 1); omega) (.slice p2' n2 c2')).far (q := ⟨w.heap.size + 1, 3, none⟩) (by show ¬ (w.heap.size + 3 ≤ w.heap.size + 1); omega) (.int .i64 x3)).far (q := ⟨w.heap.size + 1, 4, none⟩) (by show ¬ (w.heap.size + 3 ≤ w.heap.size + 1); omega) (.int .i64 x4)).far (q := ⟨w.heap.size + 1, 5, none⟩) (by show ¬ (w.heap.size + 3 ≤ w.heap.size + 1); omega) (.slice p5' n5 c5')).far (q := ⟨w.heap.size + 1, 6, none⟩) (by show ¬ (w.heap.size + 3 ≤ w.heap.size + 1); omega) (.slice p6' n6 c6')).far (q := ⟨w.heap.size + 1, 7, none⟩) (by show ¬ (w.heap.size + 3 ≤ w.heap.size + 1); omega) (.slice p7' n7 c7')).far (q := ⟨w.heap.size + 1, 8, none⟩) (by show ¬ (w.heap.size + 3 ≤ w.heap.size + 1); omega) (.slice p8' n8 c8')).far (q := ⟨w.heap.size + 1, 9, none⟩) (by show ¬ (w.heap.size + 3 ≤ w.heap.size + 1); omega) (.slice p9' n9 c9')).far (q := ⟨w.heap.size + 1, 10, none⟩) (by show ¬ (w.heap.size + 3 ≤ w.heap.size + 1); omega) (.int .i64 x10)).far (q := ⟨w.heap.size + 1, 11, none⟩) (by show ¬ (w.heap.size + 3 ≤ w.heap.size + 1); omega) (.slice p11' n11 c11'))).up (by omega)), (((((((((((((((HQ2.out.far (q := ⟨w.heap.size + 1 + 1, 11, none⟩) (by show ¬ (w.heap.size + 3 ≤ w.heap.size + 1 + 1); omega) (.slice p11' n11 c11')).far (q := ⟨w.heap.size + 1, 0, none⟩) (by show ¬ (w.heap.size + 3 ≤ w.heap.size + 1); omega) (.slice p0' n0 c0')).far (q := ⟨w.heap.size + 1, 1, none⟩) (by show ¬ (w.heap.size + 3 ≤ w.heap.size + 1); omega) (.slice p1' n1 c1')).far (q := ⟨w.heap.size + 1, 2, none⟩) (by show ¬ (w.heap.size + 3 ≤ w.heap.size + 1); omega) (.slice p2' n2 c2')).far (q := ⟨w.heap.size + 1, 3, none⟩) (by show ¬ (w.heap.size + 3 ≤ w.heap.size + 1); omega) (.int .i64 x3)).far (q := ⟨w.heap.size + 1, 4, none⟩) (by show ¬ (w.heap.size + 3 ≤ w.heap.size + 1); omega) (.int .i64 x4)).far (q := ⟨w.heap.size + 1, 5, none⟩) (by show ¬ (w.heap.size + 3 ≤ w.heap.size + 1); omega) (.slice p5' n5 c5')).far (q := ⟨w.heap.size + 1, 6, none⟩) (by show ¬ (w.heap.size + 3 ≤ w.heap.size + 1); omega) (.slice p6' n6 c6')).far (q := ⟨w.heap.size + 1, 7, none⟩) (by show ¬ (w.heap.size + 3 ≤ w.heap.size + 1); omega) (.slice p7' n7 c7')).far (q := ⟨w.heap.size + 1, 8, none⟩) (by show ¬ (w.heap.size + 3 ≤ w.heap.size + 1); omega) (.slice p8' n8 c8')).far (q := ⟨w.heap.size + 1, 9, none⟩) (by show ¬ (w.heap.size + 3 ≤ w.heap.size + 1); omega) (.slice p9' n9 c9')).far (q := ⟨w.heap.size + 1, 10, none⟩) (by show ¬ (w.heap.size + 3 ≤ w.heap.size + 1); omega) (.int .i64 x10)).far (q := ⟨w.heap.size + 1, 11, none⟩) (by show ¬ (w.heap.size + 3 ≤ w.heap.size + 1); omega) (.slice p11' n11 c11'))).up (by omega)), (((((((((((((((HQ5.out.far (q := ⟨w.heap.size + 1 + 1, 11, none⟩) (by show ¬ (w.heap.size + 3 ≤ w.heap.size + 1 + 1); omega) (.slice p11' n11 c11')).far (q := ⟨w.heap.size + 1, 0, none⟩) (by show ¬ (w.heap.size + 3 ≤ w.heap.size + 1); omega) (.slice p0' n0 c0')).far (q := ⟨w.heap.size + 1, 1, none⟩) (by show ¬ (w.heap.size + 3 ≤ w.heap.size + 1); omega) (.slice p1' n1 c1')).far (q := ⟨w.heap.size + 1, 2, none⟩) (by show ¬ (w.heap.size + 3 ≤ w.heap.size + 1); omega) (.slice p2' n2 c2')).far (q := ⟨w.heap.size + 1, 3, none⟩) (by show ¬ (w.heap.size + 3 ≤ w.heap.size + 1); omega) (.int .i64 x3)).far (q := ⟨w.heap.size + 1, 4, none⟩) (by show ¬ (w.heap.size + 3 ≤ w.heap.size + 1); omega) (.int .i64 x4)).far (q := ⟨w.heap.size + 1, 5, none⟩) (by show ¬ (w.heap.size + 3 ≤ w.heap.size + 1); omega) (.slice p5' n5 c5')).far (q := ⟨w.heap.size + 1, 6, none⟩) (by show ¬ (w.heap.size + 3 ≤ w.heap.size + 1); omega) (.slice p6' n6 c6')).far (q := ⟨w.heap.size + 1, 7, none⟩) (by show ¬ (w.heap.size + 3 ≤ w.heap.size + 1); omega) (.slice p7' n7 c7')).far (q := ⟨w.heap.size + 1, 8, none⟩) (by show ¬ (w.heap.size + 3 ≤ w.heap.size + 1); omega) (.slice p8' n8 c8')).far (q := ⟨w.heap.size + 1, 9, none⟩) (by show ¬ (w.heap.size + 3 ≤ w.heap.size + 1); omega) (.slice p9' n9 c9')).far (q := ⟨w.heap.size + 1, 10, none⟩) (by show ¬ (w.heap.size + 3 ≤ w.heap.size + 1); omega) (.int .i64 x10)).far (q := ⟨w.heap.size + 1, 11, none⟩) (by show ¬ (w.heap.size + 3 ≤ w.heap.size + 1); omega) (.slice p11' n11 c11'))).up (by omega)), (((((((((((((((HQ6.out.far (q := ⟨w.heap.size + 1 + 1, 11, none⟩) (by show ¬ (w.heap.size + 3 ≤ w.heap.size + 1 + 1); omega) (.slice p11' n11 c11')).far (q := ⟨w.heap.size + 1, 0, none⟩) (by show ¬ (w.heap.size + 3 ≤ w.heap.size + 1); omega) (.slice p0' n0 c0')).far (q := ⟨w.heap.size + 1, 1, none⟩) (by show ¬ (w.heap.size + 3 ≤ w.heap.size + 1); omega) (.slice p1' n1 c1')).far (q := ⟨w.heap.size + 1, 2, none⟩) (by show ¬ (w.heap.size + 3 ≤ w.heap.size + 1); omega) (.slice p2' n2 c2')).far (q := ⟨w.heap.size + 1, 3, none⟩) (by show ¬ (w.heap.size + 3 ≤ w.heap.size + 1); omega) (.int .i64 x3)).far (q := ⟨w.heap.size + 1, 4, none⟩) (by show ¬ (w.heap.size + 3 ≤ w.heap.size + 1); omega) (.int .i64 x4)).far (q := ⟨w.heap.size + 1, 5, none⟩) (by show ¬ (w.heap.size + 3 ≤ w.heap.size + 1); omega) (.slice p5' n5 c5')).far (q := ⟨w.heap.size + 1, 6, none⟩) (by show ¬ (w.heap.size + 3 ≤ w.heap.size + 1); omega) (.slice p6' n6 c6')).far (q := ⟨w.heap.size + 1, 7, none⟩) (by show ¬ (w.heap.size + 3 ≤ w.heap.size + 1); omega) (.slice p7' n7 c7')).far (q := ⟨w.heap.size + 1, 8, none⟩) (by show ¬ (w.heap.size + 3 ≤ w.heap.size + 1); omega) (.slice p8' n8 c8')).far (q := ⟨w.heap.size + 1, 9, none⟩) (by show ¬ (w.heap.size + 3 ≤ w.heap.size + 1); omega) (.slice p9' n9 c9')).far (q := ⟨w.heap.size + 1, 10, none⟩) (by show ¬ (w.heap.size + 3 ≤ w.heap.size + 1); omega) (.int .i64 x10)).far (q := ⟨w.heap.size + 1, 11, none⟩) (by show ¬ (w.heap.size + 3 ≤ w.heap.size + 1); omega) (.slice p11' n11 c11'))).up (by omega)), (((((((((((((((HQ7.out.far (q := ⟨w.heap.size + 1 + 1, 11, none⟩) (by show ¬ (w.heap.size + 3 ≤ w.heap.size + 1 + 1); omega) (.slice p11' n11 c11')).far (q := ⟨w.heap.size + 1, 0, none⟩) (by show ¬ (w.heap.size + 3 ≤ w.heap.size + 1); omega) (.slice p0' n0 c0')).far (q := ⟨w.heap.size + 1, 1, none⟩) (by show ¬ (w.heap.size + 3 ≤ w.heap.size + 1); omega) (.slice p1' n1 c1')).far (q := ⟨w.heap.size + 1, 2, none⟩) (by show ¬ (w.heap.size + 3 ≤ w.heap.size + 1); omega) (.slice p2' n2 c2')).far (q := ⟨w.heap.size + 1, 3, none⟩) (by show ¬ (w.heap.size + 3 ≤ w.heap.size + 1); omega) (.int .i64 x3)).far (q := ⟨w.heap.size + 1, 4, none⟩) (by show ¬ (w.heap.size + 3 ≤ w.heap.size + 1); omega) (.int .i64 x4)).far (q := ⟨w.heap.size + 1, 5, none⟩) (by show ¬ (w.heap.size + 3 ≤ w.heap.size + 1); omega) (.slice p5' n5 c5')).far (q := ⟨w.heap.size + 1, 6, none⟩) (by show ¬ (w.heap.size + 3 ≤ w.heap.size + 1); omega) (.slice p6' n6 c6')).far (q := ⟨w.heap.size + 1, 7, none⟩) (by show ¬ (w.heap.size + 3 ≤ w.heap.size + 1); omega) (.slice p7' n7 c7')).far (q := ⟨w.heap.size + 1, 8, none⟩) (by show ¬ (w.heap.size + 3 ≤ w.heap.size + 1); omega) (.slice p8' n8 c8')).far (q := ⟨w.heap.size + 1, 9, none⟩) (by show ¬ (w.heap.size + 3 ≤ w.heap.size + 1); omega) (.slice p9' n9 c9')).far (q := ⟨w.heap.size + 1, 10, none⟩) (by show ¬ (w.heap.size + 3 ≤ w.heap.size + 1); omega) (.int .i64 x10)).far (q := ⟨w.heap.size + 1, 11, none⟩) (by show ¬ (w.heap.size + 3 ≤ w.heap.size + 1); omega) (.slice p11' n11 c11'))).up (by omega)), (((((((((((((((HQ8.out.far (q := ⟨w.heap.size + 1 + 1, 11, none⟩) (by show ¬ (w.heap.size + 3 ≤ w.heap.size + 1 + 1); omega) (.slice p11' n11 c11')).far (q := ⟨w.heap.size + 1, 0, none⟩) (by show ¬ (w.heap.size + 3 ≤ w.heap.size + 1); omega) (.slice p0' n0 c0')).far (q := ⟨w.heap.size + 1, 1, none⟩) (by show ¬ (w.heap.size + 3 ≤ w.heap.size + 1); omega) (.slice p1' n1 c1')).far (q := ⟨w.heap.size + 1, 2, none⟩) (by show ¬ (w.heap.size + 3 ≤ w.heap.size + 1); omega) (.slice p2' n2 c2')).far (q := ⟨w.heap.size + 1, 3, none⟩) (by show ¬ (w.heap.size + 3 ≤ w.heap.size + 1); omega) (.int .i64 x3)).far (q := ⟨w.heap.size + 1, 4, none⟩) (by show ¬ (w.heap.size + 3 ≤ w.heap.size + 1); omega) (.int .i64 x4)).far (q := ⟨w.heap.size + 1, 5, none⟩) (by show ¬ (w.heap.size + 3 ≤ w.heap.size + 1); omega) (.slice p5' n5 c5')).far (q := ⟨w.heap.size + 1, 6, none⟩) (by show ¬ (w.heap.size + 3 ≤ w.heap.size + 1); omega) (.slice p6' n6 c6')).far (q := ⟨w.heap.size + 1, 7, none⟩) (by show ¬ (w.heap.size + 3 ≤ w.heap.size + 1); omega) (.slice p7' n7 c7')).far (q := ⟨w.heap.size + 1, 8, none⟩) (by show ¬ (w.heap.size + 3 ≤ w.heap.size + 1); omega) (.slice p8' n8 c8')).far (q := ⟨w.heap.size + 1, 9, none⟩) (by show ¬ (w.heap.size + 3 ≤ w.heap.size + 1); omega) (.slice p9' n9 c9')).far (q := ⟨w.heap.size + 1, 10, none⟩) (by show ¬ (w.heap.size + 3 ≤ w.heap.size + 1); omega) (.int .i64 x10)).far (q := ⟨w.heap.size + 1, 11, none⟩) (by show ¬ (w.heap.size + 3 ≤ w.heap.size + 1); omega) (.slice p11' n11 c11'))).up (by omega)), (((((((((((((((HQ9.out.far (q := ⟨w.heap.size + 1 + 1, 11, none⟩) (by show ¬ (w.heap.size + 3 ≤ w.heap.size + 1 + 1); omega) (.slice p11' n11 c11')).far (q := ⟨w.heap.size + 1, 0, none⟩) (by show ¬ (w.heap.size + 3 ≤ w.heap.size + 1); omega) (.slice p0' n0 c0')).far (q := ⟨w.heap.size + 1, 1, none⟩) (by show ¬ (w.heap.size + 3 ≤ w.heap.size + 1); omega) (.slice p1' n1 c1')).far (q := ⟨w.heap.size + 1, 2, none⟩) (by show ¬ (w.heap.size + 3 ≤ w.heap.size + 1); omega) (.slice p2' n2 c2')).far (q := ⟨w.heap.size + 1, 3, none⟩) (by show ¬ (w.heap.size + 3 ≤ w.heap.size + 1); omega) (.int .i64 x3)).far (q := ⟨w.heap.size + 1, 4, none⟩) (by show ¬ (w.heap.size + 3 ≤ w.heap.size + 1); omega) (.int .i64 x4)).far (q := ⟨w.heap.size + 1, 5, none⟩) (by show ¬ (w.heap.size + 3 ≤ w.heap.size + 1); omega) (.slice p5' n5 c5')).far (q := ⟨w.heap.size + 1, 6, none⟩) (by show ¬ (w.heap.size + 3 ≤ w.heap.size + 1); omega) (.slice p6' n6 c6')).far (q := ⟨w.heap.size + 1, 7, none⟩) (by show ¬ (w.heap.size + 3 ≤ w.heap.size + 1); omega) (.slice p7' n7 c7')).far (q := ⟨w.heap.size + 1, 8, none⟩) (by show ¬ (w.heap.size + 3 ≤ w.heap.size + 1); omega) (.slice p8' n8 c8')).far (q := ⟨w.heap.size + 1, 9, none⟩) (by show ¬ (w.heap.size + 3 ≤ w.heap.size + 1); omega) (.slice p9' n9 c9')).far (q := ⟨w.heap.size + 1, 10, none⟩) (by show ¬ (w.heap.size + 3 ≤ w.heap.size + 1); omega) (.int .i64 x10)).far (q := ⟨w.heap.size + 1, 11, none⟩) (by show ¬ (w.heap.size + 3 ≤ w.heap.size + 1); omega) (.slice p11' n11 c11'))).up (by omega)), (((((((((((((((HQ11.out.far (q := ⟨w.heap.size + 1 + 1, 11, none⟩) (by show ¬ (w.heap.size + 3 ≤ w.heap.size + 1 + 1); omega) (.slice p11' n11 c11')).far (q := ⟨w.heap.size + 1, 0, none⟩) (by show ¬ (w.heap.size + 3 ≤ w.heap.size + 1); omega) (.slice p0' n0 c0')).far (q := ⟨w.heap.size + 1, 1, none⟩) (by show ¬ (w.heap.size + 3 ≤ w.heap.size + 1); omega) (.slice p1' n1 c1')).far (q := ⟨w.heap.size + 1, 2, none⟩) (by show ¬ (w.heap.size + 3 ≤ w.heap.size + 1); omega) (.slice p2' n2 c2')).far (q := ⟨w.heap.size + 1, 3, none⟩) (by show ¬ (w.heap.size + 3 ≤ w.heap.size + 1); omega) (.int .i64 x3)).far (q := ⟨w.heap.size + 1, 4, none⟩) (by show ¬ (w.heap.size + 3 ≤ w.heap.size + 1); omega) (.int .i64 x4)).far (q := ⟨w.heap.size + 1, 5, none⟩) (by show ¬ (w.heap.size + 3 ≤ w.heap.size + 1); omega) (.slice p5' n5 c5')).far (q := ⟨w.heap.size + 1, 6, none⟩) (by show ¬ (w.heap.size + 3 ≤ w.heap.size + 1); omega) (.slice p6' n6 c6')).far (q := ⟨w.heap.size + 1, 7, none⟩) (by show ¬ (w.heap.size + 3 ≤ w.heap.size + 1); omega) (.slice p7' n7 c7')).far (q := ⟨w.heap.size + 1, 8, none⟩) (by show ¬ (w.heap.size + 3 ≤ w.heap.size + 1); omega) (.slice p8' n8 c8')).far (q := ⟨w.heap.size + 1, 9, none⟩) (by show ¬ (w.heap.size + 3 ≤ w.heap.size + 1); omega) (.slice p9' n9 c9')).far (q := ⟨w.heap.size + 1, 10, none⟩) (by show ¬ (w.heap.size + 3 ≤ w.heap.size + 1); omega) (.int .i64 x10)).far (q := ⟨w.heap.size + 1, 11, none⟩) (by show ¬ (w.heap.size + 3 ≤ w.heap.size + 1); omega) (.slice p11' n11 c11'))).up (by omega)), HK0.out, HK1.out, HK2.out, HK5.out, HK6.out, HK7.out, HK8.out, HK9.out, HK11.out, (((((((((((((HB.out.setCell (p := ⟨w.heap.size + 1 + 1, 11, none⟩) (by show w.heap.size ≤ w.heap.size + 1 + 1; omega) (.slice p11' n11 c11')).setCell (p := ⟨w.heap.size + 1, 0, none⟩) (by show w.heap.size ≤ w.heap.size + 1; omega) (.slice p0' n0 c0')).setCell (p := ⟨w.heap.size + 1, 1, none⟩) (by show w.heap.size ≤ w.heap.size + 1; omega) (.slice p1' n1 c1')).setCell (p := ⟨w.heap.size + 1, 2, none⟩) (by show w.heap.size ≤ w.heap.size + 1; omega) (.slice p2' n2 c2')).setCell (p := ⟨w.heap.size + 1, 3, none⟩) (by show w.heap.size ≤ w.heap.size + 1; omega) (.int .i64 x3)).setCell (p := ⟨w.heap.size + 1, 4, none⟩) (by show w.heap.size ≤ w.heap.size + 1; omega) (.int .i64 x4)).setCell (p := ⟨w.heap.size + 1, 5, none⟩) (by show w.heap.size ≤ w.heap.size + 1; omega) (.slice p5' n5 c5')).setCell (p := ⟨w.heap.size + 1, 6, none⟩) (by show w.heap.size ≤ w.heap.size + 1; omega) (.slice p6' n6 c6')).setCell (p := ⟨w.heap.size + 1, 7, none⟩) (by show w.heap.size ≤ w.heap.size + 1; omega) (.slice p7' n7 c7')).setCell (p := ⟨w.heap.size + 1, 8, none⟩) (by show w.heap.size ≤ w.heap.size + 1; omega) (.slice p8' n8 c8')).setCell (p := ⟨w.heap.size + 1, 9, none⟩) (by show w.heap.size ≤ w.heap.size + 1; omega) (.slice p9' n9 c9')).setCell (p := ⟨w.heap.size + 1, 10, none⟩) (by show w.heap.size ≤ w.heap.size + 1; omega) (.int .i64 x10)).setCell (p := ⟨w.heap.size + 1, 11, none⟩) (by show w.heap.size ≤ w.heap.size + 1; omega) (.slice p11' n11 c11'))⟩
end Go.Proofs.YtpjckbdljbpliaaGreat.DfWorld
