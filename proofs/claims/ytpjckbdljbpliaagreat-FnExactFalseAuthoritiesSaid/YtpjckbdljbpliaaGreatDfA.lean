/- Copies of Frame by the laws, in memory that isn't frozen. Marks over a slice of Key that may be written. Marks over a slice of Authority that may be written. Marks over a slice of Method that may be written. Marks over Frame, by value and in slices, in memory that may be written. -/
import Derived.Test.YtpjckbdljbpliaaGreatDpFrame
import Derived.Test.YtpjckbdljbpliaaGreatEk
import Derived.OpenShut
import Derived.Deep.Fields
import Derived.Deep.RegionHeld3
import Derived.LoopTactic
import Derived.Outline
import Derived.Test.YtpjckbdljbpliaaGreatEsA
import Derived.Test.YtpjckbdljbpliaaGreatSlMethod
namespace Go.Proofs.YtpjckbdljbpliaaGreat.DfFrame
open Go.ChangeShapes Go.WideShapes Go.ChangeAt Go.RowKit Sl St Ed Dz Ek DpFrame
set_option maxRecDepth 100000 in
set_option maxHeartbeats 4000000 in
theorem toF_any (l0 : List (Int × Int × Int × Int × Int)) (p0 : Option Addr) (n0 c0 : Nat) (l1 : List (Int × Int × Int)) (p1 : Option Addr) (n1 c1 : Nat) (l2 : List (Int × Int × Int × Int)) (p2 : Option Addr) (n2 c2 : Nat) (x3 : Int) (x4 : Int) {S0 S1 S2 : Nat → Prop} (w : World) (h0 : RdD (flat SlKey.E SlKey.InR) S0 w p0 n0 l0) (h1 : RdD (flat SlAuthority.E SlAuthority.InR) S1 w p1 n1 l1) (h2 : RdD (flat SlMethod.E SlMethod.InR) S2 w p2 n2 l2) (hm : E.wt (l0, l1, l2, x3, x4) ≤ 1048576) : Calls Tryz.prog 8 #[.agg #[.slice p0 n0 c0, .slice p1 n1 c1, .slice p2 n2 c2, .int .i64 x3, .int .i64 x4]] w fun e w' => ∃ (p0' : Option Addr) (c0' : Nat) (p1' : Option Addr) (c1' : Nat) (p2' : Option Addr) (c2' : Nat), e = .returned (.agg #[.slice p0' n0 c0', .slice p1' n1 c1', .slice p2' n2 c2', .int .i64 x3, .int .i64 x4]) ∧ FRd (flat SlKey.E SlKey.InR) w.heap.size w' p0' n0 l0 ∧ FRd (flat SlAuthority.E SlAuthority.InR) w.heap.size w' p1' n1 l1 ∧ FRd (flat SlMethod.E SlMethod.InR) w.heap.size w' p2' n2 l2 ∧ n0 ≤ c0' ∧ n1 ≤ c1' ∧ n2 ≤ c2' ∧ Below w.heap.size w w' := by
  rw [wt_eq] at hm
  have k0 := h0.len
  have k1 := h1.len
  have k2 := h2.len
  have m0 : n0 + wts (flat SlKey.E SlKey.InR) l0 ≤ 1048576 := by omega
  have m1 : n1 + wts (flat SlAuthority.E SlAuthority.InR) l1 ≤ 1048576 := by omega
  have m2 : n2 + wts (flat SlMethod.E SlMethod.InR) l2 ≤ 1048576 := by omega
  have HP0 := Lib.hid h0
  have HP1 := Lib.hid h1
  have HP2 := Lib.hid h2
  clear hm h0 k0 h1 k1 h2 k2
  have b0 := ((Bx.new w 26 #[.slice p0 n0 c0, .slice p1 n1 c1, .slice p2 n2 c2, .int .i64 x3, .int .i64 x4]).alloc (.cells #[.slice none 0 0, .slice none 0 0, .slice none 0 0, .int .i64 0, .int .i64 0] 38)).alloc (.cells #[.slice none 0 0, .slice none 0 0, .slice none 0 0, .int .i64 0, .int .i64 0] 38)
  have b1 := (Bx.new (w.alloc (.cells #[.slice p0 n0 c0, .slice p1 n1 c1, .slice p2 n2 c2, .int .i64 x3, .int .i64 x4] 26)) 38 #[.slice none 0 0, .slice none 0 0, .slice none 0 0, .int .i64 0, .int .i64 0]).alloc (.cells #[.slice none 0 0, .slice none 0 0, .slice none 0 0, .int .i64 0, .int .i64 0] 38)
  have b2 := Bx.new ((w.alloc (.cells #[.slice p0 n0 c0, .slice p1 n1 c1, .slice p2 n2 c2, .int .i64 x3, .int .i64 x4] 26)).alloc (.cells #[.slice none 0 0, .slice none 0 0, .slice none 0 0, .int .i64 0, .int .i64 0] 38)) 38 #[.slice none 0 0, .slice none 0 0, .slice none 0 0, .int .i64 0, .int .i64 0]
  rw [World.size_alloc] at b1
  rw [World.size_alloc, World.size_alloc] at b2
  have HA := Lib.hid b0
  have HR := Lib.hid b1
  have HO := Lib.hid b2
  have HB : Hid (Below w.heap.size w (((w.alloc (.cells #[.slice p0 n0 c0, .slice p1 n1 c1, .slice p2 n2 c2, .int .i64 x3, .int .i64 x4] 26)).alloc (.cells #[.slice none 0 0, .slice none 0 0, .slice none 0 0, .int .i64 0, .int .i64 0] 38)).alloc (.cells #[.slice none 0 0, .slice none 0 0, .slice none 0 0, .int .i64 0, .int .i64 0] 38))) := Lib.hid ((((Below.refl w.heap.size w).alloc (Nat.le_refl _) _).alloc (by simp) _).alloc (by simp; omega) _)
  have HSZ : Hid (w.heap.size + 3 ≤ (((w.alloc (.cells #[.slice p0 n0 c0, .slice p1 n1 c1, .slice p2 n2 c2, .int .i64 x3, .int .i64 x4] 26)).alloc (.cells #[.slice none 0 0, .slice none 0 0, .slice none 0 0, .int .i64 0, .int .i64 0] 38)).alloc (.cells #[.slice none 0 0, .slice none 0 0, .slice none 0 0, .int .i64 0, .int .i64 0] 38)).heap.size) := Lib.hid (by simp)
  clear b0 b1 b2
  go_enter Tryz.func8, Tryz.ntmps8
  go_wp2_with fail
  generalize (((w.alloc (.cells #[.slice p0 n0 c0, .slice p1 n1 c1, .slice p2 n2 c2, .int .i64 x3, .int .i64 x4] 26)).alloc (.cells #[.slice none 0 0, .slice none 0 0, .slice none 0 0, .int .i64 0, .int .i64 0] 38)).alloc (.cells #[.slice none 0 0, .slice none 0 0, .slice none 0 0, .int .i64 0, .int .i64 0] 38)) = V at HA HR HO HB HSZ ⊢
  obtain ⟨a0, a1, a2, a3, a4⟩ := bxc HA.out
  refine (SlKey.to_any _ _ _ _ _ (HP0.out.below HB.out).rdS (by omega)).mono ?_
  rintro e w1 ⟨p0', n0', c0', rfl, ho, hb⟩
  obtain rfl : n0 = n0' := HP0.out.len.symm.trans ho.len
  have HK0 := Lib.hid (Ed.cap_owS ho)
  have HQ0 : Hid (FRd (flat SlKey.E SlKey.InR) (w.heap.size + 3) w1 p0' n0 l0) := Lib.hid ((ofOwSF ho HP0.out.allP).up HSZ.out)
  clear ho
  clear a0 a1 a2 a3 a4
  replace HA := Lib.hid (HA.out.below hb)
  replace HR := Lib.hid (HR.out.below hb)
  replace HO := Lib.hid (HO.out.below hb)
  replace HB := Lib.hid (below_on HB.out hb)
  replace HSZ := Lib.hid (Nat.le_trans HSZ.out hb.size)
  clear hb
  obtain ⟨a0, a1, a2, a3, a4⟩ := bxc HA.out
  obtain ⟨q0, q1, q2, q3, q4⟩ := bxc HO.out
  have g0 := HO.out.free 0
  go_wp2_with fail
  have ho := (HO.out.set_ 0 (.slice p0' n0 c0'))
  simp only [List.setIfInBounds_toArray, List.set_cons_zero] at ho
  replace HO := Lib.hid ho
  clear ho a0 a1 a2 a3 a4 q0 q1 q2 q3 q4 g0
  replace HA := Lib.hid (HA.out.far (q := ⟨w.heap.size + 1 + 1, 0, none⟩) (by show w.heap.size ≠ w.heap.size + 1 + 1; omega) (.slice p0' n0 c0'))
  replace HR := Lib.hid (HR.out.far (q := ⟨w.heap.size + 1 + 1, 0, none⟩) (by show w.heap.size + 1 ≠ w.heap.size + 1 + 1; omega) (.slice p0' n0 c0'))
  replace HQ0 := Lib.hid (HQ0.out.far (q := ⟨w.heap.size + 1 + 1, 0, none⟩) (by show ¬ (w.heap.size + 3 ≤ w.heap.size + 1 + 1); omega) (.slice p0' n0 c0'))
  replace HB := Lib.hid (HB.out.setCell (p := ⟨w.heap.size + 1 + 1, 0, none⟩) (by show w.heap.size ≤ w.heap.size + 1 + 1; omega) (.slice p0' n0 c0'))
  replace HSZ : Hid (w.heap.size + 3 ≤ (w1.setCell ⟨w.heap.size + 1 + 1, 0, none⟩ (.slice p0' n0 c0')).heap.size) := Lib.hid (by simpa [World.setCell] using HSZ.out)
  generalize (w1.setCell ⟨w.heap.size + 1 + 1, 0, none⟩ (.slice p0' n0 c0')) = V1 at HA HR HO HB HSZ HQ0 ⊢
  obtain ⟨a0, a1, a2, a3, a4⟩ := bxc HA.out
  refine (SlAuthority.to_any _ _ _ _ _ (HP1.out.below HB.out).rdS (by omega)).mono ?_
  rintro e w2 ⟨p1', n1', c1', rfl, ho, hb⟩
  obtain rfl : n1 = n1' := HP1.out.len.symm.trans ho.len
  have HK1 := Lib.hid (Ed.cap_owS ho)
  have HQ1 : Hid (FRd (flat SlAuthority.E SlAuthority.InR) (w.heap.size + 3) w2 p1' n1 l1) := Lib.hid ((ofOwSF ho HP1.out.allP).up HSZ.out)
  clear ho
  clear a0 a1 a2 a3 a4
  replace HA := Lib.hid (HA.out.below hb)
  replace HR := Lib.hid (HR.out.below hb)
  replace HO := Lib.hid (HO.out.below hb)
  replace HQ0 := Lib.hid (HQ0.out.below hb)
  replace HB := Lib.hid (below_on HB.out hb)
  replace HSZ := Lib.hid (Nat.le_trans HSZ.out hb.size)
  clear hb
  obtain ⟨a0, a1, a2, a3, a4⟩ := bxc HA.out
  obtain ⟨q0, q1, q2, q3, q4⟩ := bxc HO.out
  have g1 := HO.out.free 1
  go_wp2_with fail
  have ho := (HO.out.set_ 1 (.slice p1' n1 c1'))
  simp only [List.setIfInBounds_toArray, List.set_cons_zero, List.set_cons_succ] at ho
  replace HO := Lib.hid ho
  clear ho a0 a1 a2 a3 a4 q0 q1 q2 q3 q4 g1
  replace HA := Lib.hid (HA.out.far (q := ⟨w.heap.size + 1 + 1, 1, none⟩) (by show w.heap.size ≠ w.heap.size + 1 + 1; omega) (.slice p1' n1 c1'))
  replace HR := Lib.hid (HR.out.far (q := ⟨w.heap.size + 1 + 1, 1, none⟩) (by show w.heap.size + 1 ≠ w.heap.size + 1 + 1; omega) (.slice p1' n1 c1'))
  replace HQ0 := Lib.hid (HQ0.out.far (q := ⟨w.heap.size + 1 + 1, 1, none⟩) (by show ¬ (w.heap.size + 3 ≤ w.heap.size + 1 + 1); omega) (.slice p1' n1 c1'))
  replace HQ1 := Lib.hid (HQ1.out.far (q := ⟨w.heap.size + 1 + 1, 1, none⟩) (by show ¬ (w.heap.size + 3 ≤ w.heap.size + 1 + 1); omega) (.slice p1' n1 c1'))
  replace HB := Lib.hid (HB.out.setCell (p := ⟨w.heap.size + 1 + 1, 1, none⟩) (by show w.heap.size ≤ w.heap.size + 1 + 1; omega) (.slice p1' n1 c1'))
  replace HSZ : Hid (w.heap.size + 3 ≤ (w2.setCell ⟨w.heap.size + 1 + 1, 1, none⟩ (.slice p1' n1 c1')).heap.size) := Lib.hid (by simpa [World.setCell] using HSZ.out)
  generalize (w2.setCell ⟨w.heap.size + 1 + 1, 1, none⟩ (.slice p1' n1 c1')) = V2 at HA HR HO HB HSZ HQ0 HQ1 ⊢
  obtain ⟨a0, a1, a2, a3, a4⟩ := bxc HA.out
  refine (SlMethod.to_any _ _ _ _ _ (HP2.out.below HB.out).rdS (by omega)).mono ?_
  rintro e w3 ⟨p2', n2', c2', rfl, ho, hb⟩
  obtain rfl : n2 = n2' := HP2.out.len.symm.trans ho.len
  have HK2 := Lib.hid (Ed.cap_owS ho)
  have HQ2 : Hid (FRd (flat SlMethod.E SlMethod.InR) (w.heap.size + 3) w3 p2' n2 l2) := Lib.hid ((ofOwSF ho HP2.out.allP).up HSZ.out)
  clear ho
  clear a0 a1 a2 a3 a4
  replace HA := Lib.hid (HA.out.below hb)
  replace HR := Lib.hid (HR.out.below hb)
  replace HO := Lib.hid (HO.out.below hb)
  replace HQ0 := Lib.hid (HQ0.out.below hb)
  replace HQ1 := Lib.hid (HQ1.out.below hb)
  replace HB := Lib.hid (below_on HB.out hb)
  replace HSZ := Lib.hid (Nat.le_trans HSZ.out hb.size)
  clear hb
  obtain ⟨a0, a1, a2, a3, a4⟩ := bxc HA.out
  obtain ⟨q0, q1, q2, q3, q4⟩ := bxc HO.out
  have g2 := HO.out.free 2
  have g3 := HO.out.free 3
  have g4 := HO.out.free 4
  obtain ⟨r0, r1, r2, r3, r4⟩ := bxc HR.out
  have s0 := HR.out.free 0
  have s1 := HR.out.free 1
  have s2 := HR.out.free 2
  have s3 := HR.out.free 3
  have s4 := HR.out.free 4
  go_wp2_with fail
  exact bodyPost_ret (v := .agg #[.slice p0' n0 c0', .slice p1' n1 c1', .slice p2' n2 c2', .int .i64 x3, .int .i64 x4]) (by simp [results, Tryz.results8, go_sem, r0, r1, r2, r3, r4]) rfl ⟨p0', c0', p1', c1', p2', c2', rfl, ((((((((((HQ0.out.far (q := ⟨w.heap.size + 1 + 1, 2, none⟩) (by show ¬ (w.heap.size + 3 ≤ w.heap.size + 1 + 1); omega) (.slice p2' n2 c2')).far (q := ⟨w.heap.size + 1 + 1, 3, none⟩) (by show ¬ (w.heap.size + 3 ≤ w.heap.size + 1 + 1); omega) (.int .i64 x3)).far (q := ⟨w.heap.size + 1 + 1, 4, none⟩) (by show ¬ (w.heap.size + 3 ≤ w.heap.size + 1 + 1); omega) (.int .i64 x4)).far (q := ⟨w.heap.size + 1, 0, none⟩) (by show ¬ (w.heap.size + 3 ≤ w.heap.size + 1); omega) (.slice p0' n0 c0')).far (q := ⟨w.heap.size + 1, 1, none⟩) (by show ¬ (w.heap.size + 3 ≤ w.heap.size + 1); omega) (.slice p1' n1 c1')).far (q := ⟨w.heap.size + 1, 2, none⟩) (by show ¬ (w.heap.size + 3 ≤ w.heap.size + 1); omega) (.slice p2' n2 c2')).far (q := ⟨w.heap.size + 1, 3, none⟩) (by show ¬ (w.heap.size + 3 ≤ w.heap.size + 1); omega) (.int .i64 x3)).far (q := ⟨w.heap.size + 1, 4, none⟩) (by show ¬ (w.heap.size + 3 ≤ w.heap.size + 1); omega) (.int .i64 x4))).up (by omega)), ((((((((((HQ1.out.far (q := ⟨w.heap.size + 1 + 1, 2, none⟩) (by show ¬ (w.heap.size + 3 ≤ w.heap.size + 1 + 1); omega) (.slice p2' n2 c2')).far (q := ⟨w.heap.size + 1 + 1, 3, none⟩) (by show ¬ (w.heap.size + 3 ≤ w.heap.size + 1 + 1); omega) (.int .i64 x3)).far (q := ⟨w.heap.size + 1 + 1, 4, none⟩) (by show ¬ (w.heap.size + 3 ≤ w.heap.size + 1 + 1); omega) (.int .i64 x4)).far (q := ⟨w.heap.size + 1, 0, none⟩) (by show ¬ (w.heap.size + 3 ≤ w.heap.size + 1); omega) (.slice p0' n0 c0')).far (q := ⟨w.heap.size + 1, 1, none⟩) (by show ¬ (w.heap.size + 3 ≤ w.heap.size + 1); omega) (.slice p1' n1 c1')).far (q := ⟨w.heap.size + 1, 2, none⟩) (by show ¬ (w.heap.size + 3 ≤ w.heap.size + 1); omega) (.slice p2' n2 c2')).far (q := ⟨w.heap.size + 1, 3, none⟩) (by show ¬ (w.heap.size + 3 ≤ w.heap.size + 1); omega) (.int .i64 x3)).far (q := ⟨w.heap.size + 1, 4, none⟩) (by show ¬ (w.heap.size + 3 ≤ w.heap.size + 1); omega) (.int .i64 x4))).up (by omega)), ((((((((((HQ2.out.far (q := ⟨w.heap.size + 1 + 1, 2, none⟩) (by show ¬ (w.heap.size + 3 ≤ w.heap.size + 1 + 1); omega) (.slice p2' n2 c2')).far (q := ⟨w.heap.size + 1 + 1, 3, none⟩) (by show ¬ (w.heap.size + 3 ≤ w.heap.size + 1 + 1); omega) (.int .i64 x3)).far (q := ⟨w.heap.size + 1 + 1, 4, none⟩) (by show ¬ (w.heap.size + 3 ≤ w.heap.size + 1 + 1); omega) (.int .i64 x4)).far (q := ⟨w.heap.size + 1, 0, none⟩) (by show ¬ (w.heap.size + 3 ≤ w.heap.size + 1); omega) (.slice p0' n0 c0')).far (q := ⟨w.heap.size + 1, 1, none⟩) (by show ¬ (w.heap.size + 3 ≤ w.heap.size + 1); omega) (.slice p1' n1 c1')).far (q := ⟨w.heap.size + 1, 2, none⟩) (by show ¬ (w.heap.size + 3 ≤ w.heap.size + 1); omega) (.slice p2' n2 c2')).far (q := ⟨w.heap.size + 1, 3, none⟩) (by show ¬ (w.heap.size + 3 ≤ w.heap.size + 1); omega) (.int .i64 x3)).far (q := ⟨w.heap.size + 1, 4, none⟩) (by show ¬ (w.heap.size + 3 ≤ w.heap.size + 1); omega) (.int .i64 x4))).up (by omega)), HK0.out, HK1.out, HK2.out, ((((((((HB.out.setCell (p := ⟨w.heap.size + 1 + 1, 2, none⟩) (by show w.heap.size ≤ w.heap.size + 1 + 1; omega) (.slice p2' n2 c2')).setCell (p := ⟨w.heap.size + 1 + 1, 3, none⟩) (by show w.heap.size ≤ w.heap.size + 1 + 1; omega) (.int .i64 x3)).setCell (p := ⟨w.heap.size + 1 + 1, 4, none⟩) (by show w.heap.size ≤ w.heap.size + 1 + 1; omega) (.int .i64 x4)).setCell (p := ⟨w.heap.size + 1, 0, none⟩) (by show w.heap.size ≤ w.heap.size + 1; omega) (.slice p0' n0 c0')).setCell (p := ⟨w.heap.size + 1, 1, none⟩) (by show w.heap.size ≤ w.heap.size + 1; omega) (.slice p1' n1 c1')).setCell (p := ⟨w.heap.size + 1, 2, none⟩) (by show w.heap.size ≤ w.heap.size + 1; omega) (.slice p2' n2 c2')).setCell (p := ⟨w.heap.size + 1, 3, none⟩) (by show w.heap.size ≤ w.heap.size + 1; omega) (.int .i64 x3)).setCell (p := ⟨w.heap.size + 1, 4, none⟩) (by show w.heap.size ≤ w.heap.size + 1; omega) (.int .i64 x4))⟩
end Go.Proofs.YtpjckbdljbpliaaGreat.DfFrame

namespace Go.Proofs.YtpjckbdljbpliaaGreat.MdKey
open Go.ChangeShapes Go.WideShapes Go.ChangeAt Go.RowKit Sl St Ed Ek
theorem pres (x : (Int × Int × Int × Int × Int)) (cs' : List Value) (hx : SlKey.InR x) (k : Ek.PwK (SlKey.E.of x) cs') : ∃ x', cs' = SlKey.E.of x' ∧ SlKey.InR x' := by
  obtain ⟨x0, x1, x2, x3, x4⟩ := x
  obtain ⟨b0, b1, b2, b3, b4⟩ := hx
  obtain ⟨hl, hk⟩ := k
  match cs', hl with
  | [v0, v1, v2, v3, v4], _ =>
    obtain ⟨y0, rfl, h0⟩ := (hk 0 (.int .i64 x0) v0 rfl rfl).int b0
    obtain ⟨y1, rfl, h1⟩ := (hk 1 (.int .i64 x1) v1 rfl rfl).int b1
    obtain ⟨y2, rfl, h2⟩ := (hk 2 (.int .i64 x2) v2 rfl rfl).int b2
    obtain ⟨y3, rfl, h3⟩ := (hk 3 (.int .i64 x3) v3 rfl rfl).int b3
    obtain ⟨y4, rfl, h4⟩ := (hk 4 (.int .i64 x4) v4 rfl rfl).int b4
    exact ⟨(y0, y1, y2, y3, y4), rfl, ⟨h0, h1, h2, h3, h4⟩⟩
def M : Ek.MkE (flat SlKey.E SlKey.InR) := Ek.mFlat pres
set_option maxRecDepth 100000 in
set_option maxHeartbeats 8000000 in
theorem markS_any (lo hi : Nat) (p : Option Addr) (n c : Nat) (xs : List (Int × Int × Int × Int × Int)) (k : Int) (w : World) (hr : RRd (flat SlKey.E SlKey.InR) lo hi w p n xs) (hk : 1 ≤ k) (hm : k + ((xs.map M.nw).sum : Nat) ≤ 1000000000) : Calls Tryz.prog 38 #[.slice p n c, .int .i64 k] w (MkD lo hi k (xs.map M.nw).sum w) := by
  have HR := Lib.hid hr
  have hle := hr.le
  have HM := Lib.hid hm
  have HLEN := Lib.hid hr.len
  clear hr hm
  go_enter Tryz.func38, Tryz.ntmps38
  go_wp2_with fail
  go_loopw [1, 5] (fun x i wr => ∃ (j : Nat) (y : Int), j ≤ n ∧ i = .int .i64 j ∧ x = .int .i64 y ∧ k ≤ y ∧ Hid (y ≤ k + (nwt M xs j : Nat)) ∧ Hid (Mk lo hi w wr)) (fun _ i _ => n - (intOf i).toNat)
  case atStart => exact ⟨0, k, Nat.zero_le _, rfl, rfl, Int.le_refl _, Lib.hid (by rw [nwt_zero]; omega), Lib.hid (Mk.refl _ _ _)⟩
  case round =>
    obtain ⟨j, y, hj, rfl, rfl, hky, HY, HK⟩ := hrel
    by_cases hlt : j < n
    · obtain ⟨xs', hr', he⟩ := RRd.mk M HR.out HK.out
      obtain ⟨b, o, x, cs, rfl, hS, hbw, hx, hc, hrd⟩ := RdD.at_ hr' hlt
      obtain ⟨x0, x1, x2, x3, x4⟩ := x
      obtain ⟨rfl, hin⟩ := hrd
      have hnw : M.nw (x0, x1, x2, x3, x4) = 5 := rfl
      have hnx := nwt_next (M := M) he hx
      rw [hnw] at hnx
      have hal := nwt_le (M := M) (xs := xs) (j + 1)
      have HNX : Hid (nwt M xs (j + 1) = nwt M xs j + 5) := Lib.hid hnx
      have HTOP : Hid (y + (5 : Nat) ≤ 1000000000) := Lib.hid (by have h1 := HY.out; have h2 := HM.out; omega)
      have HU0 : Hid (wr.cell? ⟨b, o + j * 5, none⟩ = some (.int .i64 x0)) := Lib.hid (hc 0 _ rfl)
      have HU1 : Hid (wr.cell? ⟨b, o + j * 5 + 1, none⟩ = some (.int .i64 x1)) := Lib.hid (hc 1 _ rfl)
      have HU2 : Hid (wr.cell? ⟨b, o + j * 5 + 2, none⟩ = some (.int .i64 x2)) := Lib.hid (hc 2 _ rfl)
      have HU3 : Hid (wr.cell? ⟨b, o + j * 5 + 3, none⟩ = some (.int .i64 x3)) := Lib.hid (hc 3 _ rfl)
      have HU4 : Hid (wr.cell? ⟨b, o + j * 5 + 4, none⟩ = some (.int .i64 x4)) := Lib.hid (hc 4 _ rfl)
      have HS := Lib.hid hS
      have HBW := Lib.hid hbw
      clear hnw hnx hal hc hx he hS hbw hin
      have i1 : (0 : Int) ≤ (j : Int) := by omega
      have i2 : (j : Int) < (n : Int) := by omega
      have u0 := HU0.out
      have f0 : wr.frozen? ⟨b, o + j * 5, none⟩ = false := HS.out.2.2 _
      have u1 := HU1.out
      have f1 : wr.frozen? ⟨b, o + j * 5 + 1, none⟩ = false := HS.out.2.2 _
      have u2 := HU2.out
      have f2 : wr.frozen? ⟨b, o + j * 5 + 2, none⟩ = false := HS.out.2.2 _
      have u3 := HU3.out
      have f3 : wr.frozen? ⟨b, o + j * 5 + 3, none⟩ = false := HS.out.2.2 _
      have u4 := HU4.out
      have f4 : wr.frozen? ⟨b, o + j * 5 + 4, none⟩ = false := HS.out.2.2 _
      have hq : 0 ≤ y := by omega
      have hq2 : y + 5 ≤ 9223372036854775000 := by have h0 := HTOP.out; omega
      go_wp2_with fail
      go_roundw
      case rel => exact ⟨j + 1, y + 1 + 1 + 1 + 1 + 1, by omega, by go_num, rfl, by omega, Lib.hid (by have h1 := HY.out; have h2 := HNX.out; omega), Lib.hid (((((HK.out.set HS.out.1 HS.out.2.1 HU0.out (Kd.ofInt (by unfold Ed.InI; have h := HTOP.out; omega))).set HS.out.1 HS.out.2.1 (cell_far HU1.out (by omega)) (Kd.ofInt (by unfold Ed.InI; have h := HTOP.out; omega))).set HS.out.1 HS.out.2.1 (cell_far (cell_far HU2.out (by omega)) (by omega)) (Kd.ofInt (by unfold Ed.InI; have h := HTOP.out; omega))).set HS.out.1 HS.out.2.1 (cell_far (cell_far (cell_far HU3.out (by omega)) (by omega)) (by omega)) (Kd.ofInt (by unfold Ed.InI; have h := HTOP.out; omega))).set HS.out.1 HS.out.2.1 (cell_far (cell_far (cell_far (cell_far HU4.out (by omega)) (by omega)) (by omega)) (by omega)) (Kd.ofInt (by unfold Ed.InI; have h := HTOP.out; omega)))⟩
      case measure => simp [intOf]; omega
    · obtain rfl : j = n := by omega
      have HE : Hid (y ≤ k + ((xs.map M.nw).sum : Nat)) := Lib.hid (by have h := HY.out; rw [nwt_all HLEN.out] at h; exact h)
      go_wp2_with fail
      go_ret
      exact ⟨y, rfl, hky, HE.out, HK.out⟩
end Go.Proofs.YtpjckbdljbpliaaGreat.MdKey

namespace Go.Proofs.YtpjckbdljbpliaaGreat.MdAuthority
open Go.ChangeShapes Go.WideShapes Go.ChangeAt Go.RowKit Sl St Ed Ek
theorem pres (x : (Int × Int × Int)) (cs' : List Value) (hx : SlAuthority.InR x) (k : Ek.PwK (SlAuthority.E.of x) cs') : ∃ x', cs' = SlAuthority.E.of x' ∧ SlAuthority.InR x' := by
  obtain ⟨x0, x1, x2⟩ := x
  obtain ⟨b0, b1, b2⟩ := hx
  obtain ⟨hl, hk⟩ := k
  match cs', hl with
  | [v0, v1, v2], _ =>
    obtain ⟨y0, rfl, h0⟩ := (hk 0 (.int .i64 x0) v0 rfl rfl).int b0
    obtain ⟨y1, rfl, h1⟩ := (hk 1 (.int .i64 x1) v1 rfl rfl).int b1
    obtain ⟨y2, rfl, h2⟩ := (hk 2 (.int .i64 x2) v2 rfl rfl).int b2
    exact ⟨(y0, y1, y2), rfl, ⟨h0, h1, h2⟩⟩
def M : Ek.MkE (flat SlAuthority.E SlAuthority.InR) := Ek.mFlat pres
set_option maxRecDepth 100000 in
set_option maxHeartbeats 8000000 in
theorem markS_any (lo hi : Nat) (p : Option Addr) (n c : Nat) (xs : List (Int × Int × Int)) (k : Int) (w : World) (hr : RRd (flat SlAuthority.E SlAuthority.InR) lo hi w p n xs) (hk : 1 ≤ k) (hm : k + ((xs.map M.nw).sum : Nat) ≤ 1000000000) : Calls Tryz.prog 39 #[.slice p n c, .int .i64 k] w (MkD lo hi k (xs.map M.nw).sum w) := by
  have HR := Lib.hid hr
  have hle := hr.le
  have HM := Lib.hid hm
  have HLEN := Lib.hid hr.len
  clear hr hm
  go_enter Tryz.func39, Tryz.ntmps39
  go_wp2_with fail
  go_loopw [1, 5] (fun x i wr => ∃ (j : Nat) (y : Int), j ≤ n ∧ i = .int .i64 j ∧ x = .int .i64 y ∧ k ≤ y ∧ Hid (y ≤ k + (nwt M xs j : Nat)) ∧ Hid (Mk lo hi w wr)) (fun _ i _ => n - (intOf i).toNat)
  case atStart => exact ⟨0, k, Nat.zero_le _, rfl, rfl, Int.le_refl _, Lib.hid (by rw [nwt_zero]; omega), Lib.hid (Mk.refl _ _ _)⟩
  case round =>
    obtain ⟨j, y, hj, rfl, rfl, hky, HY, HK⟩ := hrel
    by_cases hlt : j < n
    · obtain ⟨xs', hr', he⟩ := RRd.mk M HR.out HK.out
      obtain ⟨b, o, x, cs, rfl, hS, hbw, hx, hc, hrd⟩ := RdD.at_ hr' hlt
      obtain ⟨x0, x1, x2⟩ := x
      obtain ⟨rfl, hin⟩ := hrd
      have hnw : M.nw (x0, x1, x2) = 3 := rfl
      have hnx := nwt_next (M := M) he hx
      rw [hnw] at hnx
      have hal := nwt_le (M := M) (xs := xs) (j + 1)
      have HNX : Hid (nwt M xs (j + 1) = nwt M xs j + 3) := Lib.hid hnx
      have HTOP : Hid (y + (3 : Nat) ≤ 1000000000) := Lib.hid (by have h1 := HY.out; have h2 := HM.out; omega)
      have HU0 : Hid (wr.cell? ⟨b, o + j * 3, none⟩ = some (.int .i64 x0)) := Lib.hid (hc 0 _ rfl)
      have HU1 : Hid (wr.cell? ⟨b, o + j * 3 + 1, none⟩ = some (.int .i64 x1)) := Lib.hid (hc 1 _ rfl)
      have HU2 : Hid (wr.cell? ⟨b, o + j * 3 + 2, none⟩ = some (.int .i64 x2)) := Lib.hid (hc 2 _ rfl)
      have HS := Lib.hid hS
      have HBW := Lib.hid hbw
      clear hnw hnx hal hc hx he hS hbw hin
      have i1 : (0 : Int) ≤ (j : Int) := by omega
      have i2 : (j : Int) < (n : Int) := by omega
      have u0 := HU0.out
      have f0 : wr.frozen? ⟨b, o + j * 3, none⟩ = false := HS.out.2.2 _
      have u1 := HU1.out
      have f1 : wr.frozen? ⟨b, o + j * 3 + 1, none⟩ = false := HS.out.2.2 _
      have u2 := HU2.out
      have f2 : wr.frozen? ⟨b, o + j * 3 + 2, none⟩ = false := HS.out.2.2 _
      have hq : 0 ≤ y := by omega
      have hq2 : y + 3 ≤ 9223372036854775000 := by have h0 := HTOP.out; omega
      go_wp2_with fail
      go_roundw
      case rel => exact ⟨j + 1, y + 1 + 1 + 1, by omega, by go_num, rfl, by omega, Lib.hid (by have h1 := HY.out; have h2 := HNX.out; omega), Lib.hid (((HK.out.set HS.out.1 HS.out.2.1 HU0.out (Kd.ofInt (by unfold Ed.InI; have h := HTOP.out; omega))).set HS.out.1 HS.out.2.1 (cell_far HU1.out (by omega)) (Kd.ofInt (by unfold Ed.InI; have h := HTOP.out; omega))).set HS.out.1 HS.out.2.1 (cell_far (cell_far HU2.out (by omega)) (by omega)) (Kd.ofInt (by unfold Ed.InI; have h := HTOP.out; omega)))⟩
      case measure => simp [intOf]; omega
    · obtain rfl : j = n := by omega
      have HE : Hid (y ≤ k + ((xs.map M.nw).sum : Nat)) := Lib.hid (by have h := HY.out; rw [nwt_all HLEN.out] at h; exact h)
      go_wp2_with fail
      go_ret
      exact ⟨y, rfl, hky, HE.out, HK.out⟩
end Go.Proofs.YtpjckbdljbpliaaGreat.MdAuthority

namespace Go.Proofs.YtpjckbdljbpliaaGreat.MdMethod
open Go.ChangeShapes Go.WideShapes Go.ChangeAt Go.RowKit Sl St Ed Ek
theorem pres (x : (Int × Int × Int × Int)) (cs' : List Value) (hx : SlMethod.InR x) (k : Ek.PwK (SlMethod.E.of x) cs') : ∃ x', cs' = SlMethod.E.of x' ∧ SlMethod.InR x' := by
  obtain ⟨x0, x1, x2, x3⟩ := x
  obtain ⟨b0, b1, b2, b3⟩ := hx
  obtain ⟨hl, hk⟩ := k
  match cs', hl with
  | [v0, v1, v2, v3], _ =>
    obtain ⟨y0, rfl, h0⟩ := (hk 0 (.int .i64 x0) v0 rfl rfl).int b0
    obtain ⟨y1, rfl, h1⟩ := (hk 1 (.int .i64 x1) v1 rfl rfl).int b1
    obtain ⟨y2, rfl, h2⟩ := (hk 2 (.int .i64 x2) v2 rfl rfl).int b2
    obtain ⟨y3, rfl, h3⟩ := (hk 3 (.int .i64 x3) v3 rfl rfl).int b3
    exact ⟨(y0, y1, y2, y3), rfl, ⟨h0, h1, h2, h3⟩⟩
def M : Ek.MkE (flat SlMethod.E SlMethod.InR) := Ek.mFlat pres
set_option maxRecDepth 100000 in
set_option maxHeartbeats 8000000 in
theorem markS_any (lo hi : Nat) (p : Option Addr) (n c : Nat) (xs : List (Int × Int × Int × Int)) (k : Int) (w : World) (hr : RRd (flat SlMethod.E SlMethod.InR) lo hi w p n xs) (hk : 1 ≤ k) (hm : k + ((xs.map M.nw).sum : Nat) ≤ 1000000000) : Calls Tryz.prog 40 #[.slice p n c, .int .i64 k] w (MkD lo hi k (xs.map M.nw).sum w) := by
  have HR := Lib.hid hr
  have hle := hr.le
  have HM := Lib.hid hm
  have HLEN := Lib.hid hr.len
  clear hr hm
  go_enter Tryz.func40, Tryz.ntmps40
  go_wp2_with fail
  go_loopw [1, 5] (fun x i wr => ∃ (j : Nat) (y : Int), j ≤ n ∧ i = .int .i64 j ∧ x = .int .i64 y ∧ k ≤ y ∧ Hid (y ≤ k + (nwt M xs j : Nat)) ∧ Hid (Mk lo hi w wr)) (fun _ i _ => n - (intOf i).toNat)
  case atStart => exact ⟨0, k, Nat.zero_le _, rfl, rfl, Int.le_refl _, Lib.hid (by rw [nwt_zero]; omega), Lib.hid (Mk.refl _ _ _)⟩
  case round =>
    obtain ⟨j, y, hj, rfl, rfl, hky, HY, HK⟩ := hrel
    by_cases hlt : j < n
    · obtain ⟨xs', hr', he⟩ := RRd.mk M HR.out HK.out
      obtain ⟨b, o, x, cs, rfl, hS, hbw, hx, hc, hrd⟩ := RdD.at_ hr' hlt
      obtain ⟨x0, x1, x2, x3⟩ := x
      obtain ⟨rfl, hin⟩ := hrd
      have hnw : M.nw (x0, x1, x2, x3) = 4 := rfl
      have hnx := nwt_next (M := M) he hx
      rw [hnw] at hnx
      have hal := nwt_le (M := M) (xs := xs) (j + 1)
      have HNX : Hid (nwt M xs (j + 1) = nwt M xs j + 4) := Lib.hid hnx
      have HTOP : Hid (y + (4 : Nat) ≤ 1000000000) := Lib.hid (by have h1 := HY.out; have h2 := HM.out; omega)
      have HU0 : Hid (wr.cell? ⟨b, o + j * 4, none⟩ = some (.int .i64 x0)) := Lib.hid (hc 0 _ rfl)
      have HU1 : Hid (wr.cell? ⟨b, o + j * 4 + 1, none⟩ = some (.int .i64 x1)) := Lib.hid (hc 1 _ rfl)
      have HU2 : Hid (wr.cell? ⟨b, o + j * 4 + 2, none⟩ = some (.int .i64 x2)) := Lib.hid (hc 2 _ rfl)
      have HU3 : Hid (wr.cell? ⟨b, o + j * 4 + 3, none⟩ = some (.int .i64 x3)) := Lib.hid (hc 3 _ rfl)
      have HS := Lib.hid hS
      have HBW := Lib.hid hbw
      clear hnw hnx hal hc hx he hS hbw hin
      have i1 : (0 : Int) ≤ (j : Int) := by omega
      have i2 : (j : Int) < (n : Int) := by omega
      have u0 := HU0.out
      have f0 : wr.frozen? ⟨b, o + j * 4, none⟩ = false := HS.out.2.2 _
      have u1 := HU1.out
      have f1 : wr.frozen? ⟨b, o + j * 4 + 1, none⟩ = false := HS.out.2.2 _
      have u2 := HU2.out
      have f2 : wr.frozen? ⟨b, o + j * 4 + 2, none⟩ = false := HS.out.2.2 _
      have u3 := HU3.out
      have f3 : wr.frozen? ⟨b, o + j * 4 + 3, none⟩ = false := HS.out.2.2 _
      have hq : 0 ≤ y := by omega
      have hq2 : y + 4 ≤ 9223372036854775000 := by have h0 := HTOP.out; omega
      go_wp2_with fail
      go_roundw
      case rel => exact ⟨j + 1, y + 1 + 1 + 1 + 1, by omega, by go_num, rfl, by omega, Lib.hid (by have h1 := HY.out; have h2 := HNX.out; omega), Lib.hid ((((HK.out.set HS.out.1 HS.out.2.1 HU0.out (Kd.ofInt (by unfold Ed.InI; have h := HTOP.out; omega))).set HS.out.1 HS.out.2.1 (cell_far HU1.out (by omega)) (Kd.ofInt (by unfold Ed.InI; have h := HTOP.out; omega))).set HS.out.1 HS.out.2.1 (cell_far (cell_far HU2.out (by omega)) (by omega)) (Kd.ofInt (by unfold Ed.InI; have h := HTOP.out; omega))).set HS.out.1 HS.out.2.1 (cell_far (cell_far (cell_far HU3.out (by omega)) (by omega)) (by omega)) (Kd.ofInt (by unfold Ed.InI; have h := HTOP.out; omega)))⟩
      case measure => simp [intOf]; omega
    · obtain rfl : j = n := by omega
      have HE : Hid (y ≤ k + ((xs.map M.nw).sum : Nat)) := Lib.hid (by have h := HY.out; rw [nwt_all HLEN.out] at h; exact h)
      go_wp2_with fail
      go_ret
      exact ⟨y, rfl, hky, HE.out, HK.out⟩
end Go.Proofs.YtpjckbdljbpliaaGreat.MdMethod

namespace Go.Proofs.YtpjckbdljbpliaaGreat.MdFrame
open Go.ChangeShapes Go.WideShapes Go.ChangeAt Go.RowKit Sl St Ed Ek
def M : Ek.MkE DpFrame.E := (Ek.mPair (Ek.mSl MdKey.M (by show 5 ≤ 16; omega)) (Ek.mPair (Ek.mSl MdAuthority.M (by show 3 ≤ 16; omega)) (Ek.mPair (Ek.mSl MdMethod.M (by show 4 ≤ 16; omega)) (Ek.mPair Ek.mInt Ek.mInt))))
set_option maxRecDepth 100000 in
set_option maxHeartbeats 4000000 in
theorem mark_any (lo hi : Nat) (l0 : List (Int × Int × Int × Int × Int)) (p0 : Option Addr) (n0 c0 : Nat) (l1 : List (Int × Int × Int)) (p1 : Option Addr) (n1 c1 : Nat) (l2 : List (Int × Int × Int × Int)) (p2 : Option Addr) (n2 c2 : Nat) (x3 : Int) (x4 : Int) (k : Int) (w : World) (hhi : hi ≤ w.heap.size) (h0 : RRd (flat SlKey.E SlKey.InR) lo hi w p0 n0 l0) (h1 : RRd (flat SlAuthority.E SlAuthority.InR) lo hi w p1 n1 l1) (h2 : RRd (flat SlMethod.E SlMethod.InR) lo hi w p2 n2 l2) (hk : 1 ≤ k) (hm : k + ((l0.map MdKey.M.nw).sum + (l1.map MdAuthority.M.nw).sum + (l2.map MdMethod.M.nw).sum : Nat) ≤ 1000000000) : Calls Tryz.prog 14 #[.agg #[.slice p0 n0 c0, .slice p1 n1 c1, .slice p2 n2 c2, .int .i64 x3, .int .i64 x4], .int .i64 k] w (MkD lo hi k ((l0.map MdKey.M.nw).sum + (l1.map MdAuthority.M.nw).sum + (l2.map MdMethod.M.nw).sum) w) := by
  have HX := Lib.hid (Bx.new w 38 #[.slice p0 n0 c0, .slice p1 n1 c1, .slice p2 n2 c2, .int .i64 x3, .int .i64 x4])
  have HM : Hid (Mk lo hi w (w.alloc (.cells #[.slice p0 n0 c0, .slice p1 n1 c1, .slice p2 n2 c2, .int .i64 x3, .int .i64 x4] 38))) := Lib.hid (Mk.ofBelow (Dz.box1 w _))
  have HHI := Lib.hid hhi
  have HT := Lib.hid hm
  have H0 := Lib.hid (h0.below (Dz.box1 w (.cells #[.slice p0 n0 c0, .slice p1 n1 c1, .slice p2 n2 c2, .int .i64 x3, .int .i64 x4] 38)))
  have H1 := Lib.hid (h1.below (Dz.box1 w (.cells #[.slice p0 n0 c0, .slice p1 n1 c1, .slice p2 n2 c2, .int .i64 x3, .int .i64 x4] 38)))
  have H2 := Lib.hid (h2.below (Dz.box1 w (.cells #[.slice p0 n0 c0, .slice p1 n1 c1, .slice p2 n2 c2, .int .i64 x3, .int .i64 x4] 38)))
  clear hm hhi h0 h1 h2
  go_enter Tryz.func14, Tryz.ntmps14
  obtain ⟨u0, u1, u2, u3, u4⟩ := DpFrame.bxc HX.out
  go_wp2_with fail
  refine (MdKey.markS_any lo hi _ _ _ _ (k) _ H0.out (by omega) (by have h0 := HT.out; omega)).mono ?_
  rintro e w1 ⟨y1, rfl, hy1, hy2, hm⟩
  have HB1 : Hid (y1 ≤ k + ((l0.map MdKey.M.nw).sum : Nat)) := Lib.hid hy2
  replace HX := Lib.hid (hm.bx HX.out (Or.inl HHI.out))
  obtain ⟨l1_1, h_, he_⟩ := RRd.mk MdAuthority.M H1.out hm
  have HE1 : Hid (l1_1.map MdAuthority.M.nw = l1.map MdAuthority.M.nw) := Lib.hid (he_)
  replace H1 := Lib.hid h_
  clear h_ he_
  obtain ⟨l2_1, h_, he_⟩ := RRd.mk MdMethod.M H2.out hm
  have HE2 : Hid (l2_1.map MdMethod.M.nw = l2.map MdMethod.M.nw) := Lib.hid (he_)
  replace H2 := Lib.hid h_
  clear h_ he_
  replace HM := Lib.hid (HM.out.trans hm)
  clear hm hy2 u0 u1 u2 u3 u4
  obtain ⟨u0, u1, u2, u3, u4⟩ := DpFrame.bxc HX.out
  go_wp2_with fail
  refine (MdAuthority.markS_any lo hi _ _ _ _ (y1) _ H1.out (by omega) (by rw [HE1.out]; have h0 := HT.out; have g1 := HB1.out; omega)).mono ?_
  rintro e w2 ⟨y2, rfl, hy2, hy2, hm⟩
  rw [HE1.out] at hy2
  have HB2 : Hid (y2 ≤ y1 + ((l1.map MdAuthority.M.nw).sum : Nat)) := Lib.hid hy2
  replace HX := Lib.hid (hm.bx HX.out (Or.inl HHI.out))
  obtain ⟨l2_2, h_, he_⟩ := RRd.mk MdMethod.M H2.out hm
  replace HE2 : Hid (l2_2.map MdMethod.M.nw = l2.map MdMethod.M.nw) := Lib.hid (he_.trans HE2.out)
  replace H2 := Lib.hid h_
  clear h_ he_
  replace HM := Lib.hid (HM.out.trans hm)
  clear hm hy2 u0 u1 u2 u3 u4
  obtain ⟨u0, u1, u2, u3, u4⟩ := DpFrame.bxc HX.out
  go_wp2_with fail
  refine (MdMethod.markS_any lo hi _ _ _ _ (y2) _ H2.out (by omega) (by rw [HE2.out]; have h0 := HT.out; have g1 := HB1.out; have g2 := HB2.out; omega)).mono ?_
  rintro e w3 ⟨y3, rfl, hy3, hy2, hm⟩
  rw [HE2.out] at hy2
  have HB3 : Hid (y3 ≤ y2 + ((l2.map MdMethod.M.nw).sum : Nat)) := Lib.hid hy2
  replace HX := Lib.hid (hm.bx HX.out (Or.inl HHI.out))
  replace HM := Lib.hid (HM.out.trans hm)
  clear hm hy2 u0 u1 u2 u3 u4
  go_wp2_with fail
  go_ret
  exact ⟨y3, rfl, by omega, by have g1 := HB1.out; have g2 := HB2.out; have g3 := HB3.out; omega, HM.out⟩
end Go.Proofs.YtpjckbdljbpliaaGreat.MdFrame
