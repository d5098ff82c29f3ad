/- Copies of Document by the laws, in memory that isn't frozen. -/
import Derived.Test.YtjaholcmaafenaaDpDocument
import Derived.Test.YtjaholcmaafenaaEk
import Derived.OpenShut
import Derived.Deep.Fields
import Derived.Deep.RegionHeld3
import Derived.LoopTactic
import Derived.Outline
namespace Go.Proofs.Ytjaholcmaafenaa.DfDocument
open Go.ChangeShapes Go.WideShapes Go.ChangeAt Go.RowKit Sl St Ed Dz Ek DpDocument
set_option maxRecDepth 100000 in
set_option maxHeartbeats 4000000 in
theorem toF_any (x0 : Int) (l1 : List ByteArray) (p1 : Option Addr) (n1 c1 : Nat) (l2 : List Int) (p2 : Option Addr) (n2 c2 : Nat) {S1 S2 : Nat → Prop} (w : World) (h1 : RdD str S1 w p1 n1 l1) (h2 : RdD int S2 w p2 n2 l2) (hm : E.wt (x0, l1, l2) ≤ 1048576) : Calls Try.prog 14 #[.agg #[.int .i64 x0, .slice p1 n1 c1, .slice p2 n2 c2]] w fun e w' => ∃ (p1' : Option Addr) (c1' : Nat) (p2' : Option Addr) (c2' : Nat), e = .returned (.agg #[.int .i64 x0, .slice p1' n1 c1', .slice p2' n2 c2']) ∧ FRd str w.heap.size w' p1' n1 l1 ∧ FRd int w.heap.size w' p2' n2 l2 ∧ n1 ≤ c1' ∧ n2 ≤ c2' ∧ Below w.heap.size w w' := by
  rw [wt_eq] at hm
  have k1 := h1.len
  have k2 := h2.len
  have m1 : n1 + wts str l1 ≤ 1048576 := by omega
  have m2 : n2 + wts int l2 ≤ 1048576 := by omega
  have HP1 := Lib.hid h1
  have HP2 := Lib.hid h2
  clear hm h1 k1 h2 k2
  have b0 := ((Bx.new w 29 #[.int .i64 x0, .slice p1 n1 c1, .slice p2 n2 c2]).alloc (.cells #[.int .i64 0, .slice none 0 0, .slice none 0 0] 38)).alloc (.cells #[.int .i64 x0, .slice none 0 0, .slice none 0 0] 38)
  have b1 := (Bx.new (w.alloc (.cells #[.int .i64 x0, .slice p1 n1 c1, .slice p2 n2 c2] 29)) 38 #[.int .i64 0, .slice none 0 0, .slice none 0 0]).alloc (.cells #[.int .i64 x0, .slice none 0 0, .slice none 0 0] 38)
  have b2 := Bx.new ((w.alloc (.cells #[.int .i64 x0, .slice p1 n1 c1, .slice p2 n2 c2] 29)).alloc (.cells #[.int .i64 0, .slice none 0 0, .slice none 0 0] 38)) 38 #[.int .i64 x0, .slice none 0 0, .slice none 0 0]
  rw [World.size_alloc] at b1
  rw [World.size_alloc, World.size_alloc] at b2
  have HA := Lib.hid b0
  have HR := Lib.hid b1
  have HO := Lib.hid b2
  have HB : Hid (Below w.heap.size w (((w.alloc (.cells #[.int .i64 x0, .slice p1 n1 c1, .slice p2 n2 c2] 29)).alloc (.cells #[.int .i64 0, .slice none 0 0, .slice none 0 0] 38)).alloc (.cells #[.int .i64 x0, .slice none 0 0, .slice none 0 0] 38))) := Lib.hid ((((Below.refl w.heap.size w).alloc (Nat.le_refl _) _).alloc (by simp) _).alloc (by simp; omega) _)
  have HSZ : Hid (w.heap.size + 3 ≤ (((w.alloc (.cells #[.int .i64 x0, .slice p1 n1 c1, .slice p2 n2 c2] 29)).alloc (.cells #[.int .i64 0, .slice none 0 0, .slice none 0 0] 38)).alloc (.cells #[.int .i64 x0, .slice none 0 0, .slice none 0 0] 38)).heap.size) := Lib.hid (by simp)
  clear b0 b1 b2
  go_enter Try.func14, Try.ntmps14
  go_wp2_with fail
  generalize (((w.alloc (.cells #[.int .i64 x0, .slice p1 n1 c1, .slice p2 n2 c2] 29)).alloc (.cells #[.int .i64 0, .slice none 0 0, .slice none 0 0] 38)).alloc (.cells #[.int .i64 x0, .slice none 0 0, .slice none 0 0] 38)) = V at HA HR HO HB HSZ ⊢
  obtain ⟨a0, a1, a2⟩ := bxc HA.out
  refine (SlStr.to_any _ _ _ _ _ (RdD.strs SlStr.C_eq SlStr.of_eq (HP1.out.below HB.out)).1 (by omega)).mono ?_
  rintro e w1 ⟨p1', n1', c1', rfl, ho, hb⟩
  obtain rfl : n1 = n1' := HP1.out.len.symm.trans ho.len
  have HK1 := Lib.hid (Ed.cap_owS ho)
  have HQ1 : Hid (FRd str (w.heap.size + 3) w1 p1' n1 l1) := Lib.hid ((ofStrsF SlStr.C_eq SlStr.of_eq ho (RdD.strs SlStr.C_eq SlStr.of_eq HP1.out).2).up HSZ.out)
  clear ho
  clear a0 a1 a2
  replace HA := Lib.hid (HA.out.below hb)
  replace HR := Lib.hid (HR.out.below hb)
  replace HO := Lib.hid (HO.out.below hb)
  replace HB := Lib.hid (below_on HB.out hb)
  replace HSZ := Lib.hid (Nat.le_trans HSZ.out hb.size)
  clear hb
  obtain ⟨a0, a1, a2⟩ := bxc HA.out
  obtain ⟨q0, q1, q2⟩ := bxc HO.out
  have g1 := HO.out.free 1
  go_wp2_with fail
  have ho := (HO.out.set_ 1 (.slice p1' n1 c1'))
  simp only [List.setIfInBounds_toArray, List.set_cons_zero, List.set_cons_succ] at ho
  replace HO := Lib.hid ho
  clear ho a0 a1 a2 q0 q1 q2 g1
  replace HA := Lib.hid (HA.out.far (q := ⟨w.heap.size + 1 + 1, 1, none⟩) (by show w.heap.size ≠ w.heap.size + 1 + 1; omega) (.slice p1' n1 c1'))
  replace HR := Lib.hid (HR.out.far (q := ⟨w.heap.size + 1 + 1, 1, none⟩) (by show w.heap.size + 1 ≠ w.heap.size + 1 + 1; omega) (.slice p1' n1 c1'))
  replace HQ1 := Lib.hid (HQ1.out.far (q := ⟨w.heap.size + 1 + 1, 1, none⟩) (by show ¬ (w.heap.size + 3 ≤ w.heap.size + 1 + 1); omega) (.slice p1' n1 c1'))
  replace HB := Lib.hid (HB.out.setCell (p := ⟨w.heap.size + 1 + 1, 1, none⟩) (by show w.heap.size ≤ w.heap.size + 1 + 1; omega) (.slice p1' n1 c1'))
  replace HSZ : Hid (w.heap.size + 3 ≤ (w1.setCell ⟨w.heap.size + 1 + 1, 1, none⟩ (.slice p1' n1 c1')).heap.size) := Lib.hid (by simpa [World.setCell] using HSZ.out)
  generalize (w1.setCell ⟨w.heap.size + 1 + 1, 1, none⟩ (.slice p1' n1 c1')) = V1 at HA HR HO HB HSZ HQ1 ⊢
  obtain ⟨a0, a1, a2⟩ := bxc HA.out
  refine (SlI.to_any _ _ _ _ _ (HP2.out.below HB.out).ints (by omega)).mono ?_
  rintro e w2 ⟨p2', n2', c2', rfl, ho, hb⟩
  obtain rfl : n2 = n2' := HP2.out.len.symm.trans ho.len
  have HK2 := Lib.hid (Ed.cap_ow ho)
  have HQ2 : Hid (FRd int (w.heap.size + 3) w2 p2' n2 l2) := Lib.hid ((ofOwF ho).up HSZ.out)
  clear ho
  clear a0 a1 a2
  replace HA := Lib.hid (HA.out.below hb)
  replace HR := Lib.hid (HR.out.below hb)
  replace HO := Lib.hid (HO.out.below hb)
  replace HQ1 := Lib.hid (HQ1.out.below hb)
  replace HB := Lib.hid (below_on HB.out hb)
  replace HSZ := Lib.hid (Nat.le_trans HSZ.out hb.size)
  clear hb
  obtain ⟨a0, a1, a2⟩ := bxc HA.out
  obtain ⟨q0, q1, q2⟩ := bxc HO.out
  have g2 := HO.out.free 2
  obtain ⟨r0, r1, r2⟩ := bxc HR.out
  have s0 := HR.out.free 0
  have s1 := HR.out.free 1
  have s2 := HR.out.free 2
  go_wp2_with fail
  exact bodyPost_ret (v := .agg #[.int .i64 x0, .slice p1' n1 c1', .slice p2' n2 c2']) (by simp [results, Try.results14, go_sem, r0, r1, r2]) rfl ⟨p1', c1', p2', c2', rfl, ((((((HQ1.out.far (q := ⟨w.heap.size + 1 + 1, 2, none⟩) (by show ¬ (w.heap.size + 3 ≤ w.heap.size + 1 + 1); omega) (.slice p2' n2 c2')).far (q := ⟨w.heap.size + 1, 0, none⟩) (by show ¬ (w.heap.size + 3 ≤ w.heap.size + 1); omega) (.int .i64 x0)).far (q := ⟨w.heap.size + 1, 1, none⟩) (by show ¬ (w.heap.size + 3 ≤ w.heap.size + 1); omega) (.slice p1' n1 c1')).far (q := ⟨w.heap.size + 1, 2, none⟩) (by show ¬ (w.heap.size + 3 ≤ w.heap.size + 1); omega) (.slice p2' n2 c2'))).up (by omega)), ((((((HQ2.out.far (q := ⟨w.heap.size + 1 + 1, 2, none⟩) (by show ¬ (w.heap.size + 3 ≤ w.heap.size + 1 + 1); omega) (.slice p2' n2 c2')).far (q := ⟨w.heap.size + 1, 0, none⟩) (by show ¬ (w.heap.size + 3 ≤ w.heap.size + 1); omega) (.int .i64 x0)).far (q := ⟨w.heap.size + 1, 1, none⟩) (by show ¬ (w.heap.size + 3 ≤ w.heap.size + 1); omega) (.slice p1' n1 c1')).far (q := ⟨w.heap.size + 1, 2, none⟩) (by show ¬ (w.heap.size + 3 ≤ w.heap.size + 1); omega) (.slice p2' n2 c2'))).up (by omega)), HK1.out, HK2.out, ((((HB.out.setCell (p := ⟨w.heap.size + 1 + 1, 2, none⟩) (by show w.heap.size ≤ w.heap.size + 1 + 1; omega) (.slice p2' n2 c2')).setCell (p := ⟨w.heap.size + 1, 0, none⟩) (by show w.heap.size ≤ w.heap.size + 1; omega) (.int .i64 x0)).setCell (p := ⟨w.heap.size + 1, 1, none⟩) (by show w.heap.size ≤ w.heap.size + 1; omega) (.slice p1' n1 c1')).setCell (p := ⟨w.heap.size + 1, 2, none⟩) (by show w.heap.size ≤ w.heap.size + 1; omega) (.slice p2' n2 c2'))⟩
end Go.Proofs.Ytjaholcmaafenaa.DfDocument
