/- The laws' copies of a frame, with what is owned, and their marks over a frame. -/
import Derived.Test.YtlipcnaimpplpaaDpFrame
import Derived.Test.YtlipcnaimpplpaaKi
namespace Go.Proofs.Ytlipcnaimpplpaa.Fr
open Go.ChangeShapes Go.WideShapes Go.ChangeAt Go.RowKit Sl St Ed Dz
theorem grown_on {w w' : World} {o : Obj} {row : Option Nat} (h : (w.alloc o).grownBy w' row) : w.grownBy w' row := by
  have hb := Ki.box1 w o
  exact ⟨h.os.trans hb.os, h.tape.trans hb.tape, h.output.trans hb.output, Nat.le_trans hb.size h.size, fun i hi hne => (h.block i (Nat.lt_of_lt_of_le hi hb.size) hne).trans (hb.block i hi)⟩
theorem grown_setc (w : World) (g j : Nat) (v : Value) : w.grownBy (w.setCell ⟨g, j, none⟩ v) (some g) := ⟨rfl, rfl, rfl, by simp [World.setCell], fun i hi hne => Below.heap_setCell w ⟨g, j, none⟩ v i (by rintro rfl; exact hne rfl)⟩
theorem farO {α : Type} {E : En α} {T : TypeId} {w : World} {lo hi n c : Nat} {p : Option Addr} {xs : List α} (h : OwS E T w lo hi p n c xs) (g j : Nat) (v : Value) (hg : g < lo) : OwS E T (w.setCell ⟨g, j, none⟩ v) lo hi p n c xs := h.kept (grown_setc w g j v) (fun q e => by cases e; exact Or.inl hg)
theorem size_set (w : World) (g j : Nat) (v : Value) : (w.setCell ⟨g, j, none⟩ v).heap.size = w.heap.size := by simp [World.setCell]
set_option maxRecDepth 100000 in
set_option maxHeartbeats 4000000 in
theorem toO_any (l0 : List (Int × Int × Int × Int × Int)) (p0 : Option Addr) (n0 c0 : Nat) (l1 : List (Int × Int × Int)) (p1 : Option Addr) (n1 c1 : Nat) (l2 : List (Int × Int × Int × Int)) (p2 : Option Addr) (n2 c2 : Nat) (x3 x4 : Int) {S0 S1 S2 : Nat → Prop} (w : World) (h0 : RdD (flat SlKey.E SlKey.InR) S0 w p0 n0 l0) (h1 : RdD (flat SlAuthority.E SlAuthority.InR) S1 w p1 n1 l1) (h2 : RdD (flat SlMethod.E SlMethod.InR) S2 w p2 n2 l2) (m0 : n0 ≤ 1048576) (m1 : n1 ≤ 1048576) (m2 : n2 ≤ 1048576) : Calls Try.prog 8 #[.agg #[.slice p0 n0 c0, .slice p1 n1 c1, .slice p2 n2 c2, .int .i64 x3, .int .i64 x4]] w fun e w' => ∃ (p0_ : Option Addr) (d0_ : Nat) (p1_ : Option Addr) (d1_ : Nat) (p2_ : Option Addr) (d2_ : Nat) (s1 s2 : Nat), e = .returned (.agg #[.slice p0_ n0 d0_, .slice p1_ n1 d1_, .slice p2_ n2 d2_, .int .i64 x3, .int .i64 x4]) ∧ OwS SlKey.E 59 w' w.heap.size s1 p0_ n0 d0_ l0 ∧ OwS SlAuthority.E 57 w' s1 s2 p1_ n1 d1_ l1 ∧ OwS SlMethod.E 85 w' s2 w'.heap.size p2_ n2 d2_ l2 ∧ (w.heap.size ≤ s1 ∧ s1 ≤ s2 ∧ s2 ≤ w'.heap.size) ∧ Below w.heap.size w w' := by
  have HP0 := Lib.hid h0
  have HP1 := Lib.hid h1
  have HP2 := Lib.hid h2
  clear h0 h1 h2
  have b0 := ((Bx.new w 26 #[.slice p0 n0 c0, .slice p1 n1 c1, .slice p2 n2 c2, .int .i64 x3, .int .i64 x4]).alloc (.cells #[.slice none 0 0, .slice none 0 0, .slice none 0 0, .int .i64 0, .int .i64 0] 34)).alloc (.cells #[.slice none 0 0, .slice none 0 0, .slice none 0 0, .int .i64 0, .int .i64 0] 34)
  have b1 := (Bx.new (w.alloc (.cells #[.slice p0 n0 c0, .slice p1 n1 c1, .slice p2 n2 c2, .int .i64 x3, .int .i64 x4] 26)) 34 #[.slice none 0 0, .slice none 0 0, .slice none 0 0, .int .i64 0, .int .i64 0]).alloc (.cells #[.slice none 0 0, .slice none 0 0, .slice none 0 0, .int .i64 0, .int .i64 0] 34)
  have b2 := Bx.new ((w.alloc (.cells #[.slice p0 n0 c0, .slice p1 n1 c1, .slice p2 n2 c2, .int .i64 x3, .int .i64 x4] 26)).alloc (.cells #[.slice none 0 0, .slice none 0 0, .slice none 0 0, .int .i64 0, .int .i64 0] 34)) 34 #[.slice none 0 0, .slice none 0 0, .slice none 0 0, .int .i64 0, .int .i64 0]
  rw [World.size_alloc] at b1
  rw [World.size_alloc, World.size_alloc] at b2
  have HA := Lib.hid b0
  have HR := Lib.hid b1
  have HO := Lib.hid b2
  have HB : Hid (Below w.heap.size w (((w.alloc (.cells #[.slice p0 n0 c0, .slice p1 n1 c1, .slice p2 n2 c2, .int .i64 x3, .int .i64 x4] 26)).alloc (.cells #[.slice none 0 0, .slice none 0 0, .slice none 0 0, .int .i64 0, .int .i64 0] 34)).alloc (.cells #[.slice none 0 0, .slice none 0 0, .slice none 0 0, .int .i64 0, .int .i64 0] 34))) := Lib.hid ((((Below.refl w.heap.size w).alloc (Nat.le_refl _) _).alloc (by simp) _).alloc (by simp; omega) _)
  have HSZ : Hid (w.heap.size + 3 ≤ (((w.alloc (.cells #[.slice p0 n0 c0, .slice p1 n1 c1, .slice p2 n2 c2, .int .i64 x3, .int .i64 x4] 26)).alloc (.cells #[.slice none 0 0, .slice none 0 0, .slice none 0 0, .int .i64 0, .int .i64 0] 34)).alloc (.cells #[.slice none 0 0, .slice none 0 0, .slice none 0 0, .int .i64 0, .int .i64 0] 34)).heap.size) := Lib.hid (by simp)
  clear b0 b1 b2
  go_enter Try.func8, Try.ntmps8
  go_wp2_with fail
  generalize (((w.alloc (.cells #[.slice p0 n0 c0, .slice p1 n1 c1, .slice p2 n2 c2, .int .i64 x3, .int .i64 x4] 26)).alloc (.cells #[.slice none 0 0, .slice none 0 0, .slice none 0 0, .int .i64 0, .int .i64 0] 34)).alloc (.cells #[.slice none 0 0, .slice none 0 0, .slice none 0 0, .int .i64 0, .int .i64 0] 34)) = V at HA HR HO HB HSZ ⊢
  obtain ⟨a0_, a1_, a2_, a3_, a4_⟩ := DpFrame.bxc HA.out
  refine (SlKey.to_any _ _ _ _ _ (HP0.out.below HB.out).rdS (by omega)).mono ?_
  rintro e w1 ⟨p0_, n0_, d0_, rfl, ho, hb⟩
  obtain rfl : n0 = n0_ := HP0.out.len.symm.trans ho.len
  have HQ0 := Lib.hid (ho.wide (lo' := w.heap.size + 3) HSZ.out (Nat.le_refl _) (Nat.le_refl _))
  clear ho a0_ a1_ a2_ a3_ a4_
  replace HA := Lib.hid (HA.out.below hb)
  replace HR := Lib.hid (HR.out.below hb)
  replace HO := Lib.hid (HO.out.below hb)
  replace HB := Lib.hid (below_on HB.out hb)
  replace HSZ := Lib.hid (Nat.le_trans HSZ.out hb.size)
  have HZ1 : Hid (w.heap.size + 3 ≤ w1.heap.size) := HSZ
  skip
  clear hb
  obtain ⟨a0_, a1_, a2_, a3_, a4_⟩ := DpFrame.bxc HA.out
  obtain ⟨q0_, q1_, q2_, q3_, q4_⟩ := DpFrame.bxc HO.out
  have g_ := HO.out.free 0
  go_wp2_with fail
  have ho := (HO.out.set_ 0 (.slice p0_ n0 d0_))
  simp only [List.setIfInBounds_toArray, List.set_cons_zero] at ho
  replace HO := Lib.hid ho
  clear ho g_ a0_ a1_ a2_ a3_ a4_ q0_ q1_ q2_ q3_ q4_
  replace HA := Lib.hid (HA.out.far (q := ⟨w.heap.size + 1 + 1, 0, none⟩) (by show w.heap.size ≠ w.heap.size + 1 + 1; omega) (.slice p0_ n0 d0_))
  replace HR := Lib.hid (HR.out.far (q := ⟨w.heap.size + 1 + 1, 0, none⟩) (by show w.heap.size + 1 ≠ w.heap.size + 1 + 1; omega) (.slice p0_ n0 d0_))
  replace HQ0 := Lib.hid (farO HQ0.out (w.heap.size + 1 + 1) 0 (.slice p0_ n0 d0_) (by have := HZ1.out; omega))
  replace HB := Lib.hid (HB.out.setCell (p := ⟨w.heap.size + 1 + 1, 0, none⟩) (by show w.heap.size ≤ w.heap.size + 1 + 1; omega) (.slice p0_ n0 d0_))
  have hz := size_set w1 (w.heap.size + 1 + 1) 0 (.slice p0_ n0 d0_)
  replace HSZ : Hid (w.heap.size + 3 ≤ (w1.setCell ⟨w.heap.size + 1 + 1, 0, none⟩ (.slice p0_ n0 d0_)).heap.size) := Lib.hid (by rw [hz]; exact HSZ.out)
  have HS1 : Hid (w1.heap.size ≤ (w1.setCell ⟨w.heap.size + 1 + 1, 0, none⟩ (.slice p0_ n0 d0_)).heap.size) := Lib.hid (by rw [hz]; exact Nat.le_refl _)
  clear hz
  generalize (w1.setCell ⟨w.heap.size + 1 + 1, 0, none⟩ (.slice p0_ n0 d0_)) = V1 at HA HR HO HB HSZ HS1 HQ0 ⊢
  obtain ⟨a0_, a1_, a2_, a3_, a4_⟩ := DpFrame.bxc HA.out
  refine (SlAuthority.to_any _ _ _ _ _ (HP1.out.below HB.out).rdS (by omega)).mono ?_
  rintro e w2 ⟨p1_, n1_, d1_, rfl, ho, hb⟩
  obtain rfl : n1 = n1_ := HP1.out.len.symm.trans ho.len
  have HQ1 := Lib.hid (ho.wide (lo' := w1.heap.size) HS1.out (Nat.le_refl _) (Nat.le_refl _))
  clear ho a0_ a1_ a2_ a3_ a4_
  replace HA := Lib.hid (HA.out.below hb)
  replace HR := Lib.hid (HR.out.below hb)
  replace HO := Lib.hid (HO.out.below hb)
  replace HQ0 := Lib.hid (HQ0.out.below hb)
  replace HB := Lib.hid (below_on HB.out hb)
  replace HSZ := Lib.hid (Nat.le_trans HSZ.out hb.size)
  have HZ2 : Hid (w.heap.size + 3 ≤ w2.heap.size) := HSZ
  have HM1 : Hid (w1.heap.size ≤ w2.heap.size) := Lib.hid (Nat.le_trans HS1.out hb.size)
  clear hb
  obtain ⟨a0_, a1_, a2_, a3_, a4_⟩ := DpFrame.bxc HA.out
  obtain ⟨q0_, q1_, q2_, q3_, q4_⟩ := DpFrame.bxc HO.out
  have g_ := HO.out.free 1
  go_wp2_with fail
  have ho := (HO.out.set_ 1 (.slice p1_ n1 d1_))
  simp only [List.setIfInBounds_toArray, List.set_cons_zero, List.set_cons_succ] at ho
  replace HO := Lib.hid ho
  clear ho g_ a0_ a1_ a2_ a3_ a4_ q0_ q1_ q2_ q3_ q4_
  replace HA := Lib.hid (HA.out.far (q := ⟨w.heap.size + 1 + 1, 1, none⟩) (by show w.heap.size ≠ w.heap.size + 1 + 1; omega) (.slice p1_ n1 d1_))
  replace HR := Lib.hid (HR.out.far (q := ⟨w.heap.size + 1 + 1, 1, none⟩) (by show w.heap.size + 1 ≠ w.heap.size + 1 + 1; omega) (.slice p1_ n1 d1_))
  replace HQ0 := Lib.hid (farO HQ0.out (w.heap.size + 1 + 1) 1 (.slice p1_ n1 d1_) (by have := HZ1.out; omega))
  replace HQ1 := Lib.hid (farO HQ1.out (w.heap.size + 1 + 1) 1 (.slice p1_ n1 d1_) (by have := HZ1.out; omega))
  replace HB := Lib.hid (HB.out.setCell (p := ⟨w.heap.size + 1 + 1, 1, none⟩) (by show w.heap.size ≤ w.heap.size + 1 + 1; omega) (.slice p1_ n1 d1_))
  have hz := size_set w2 (w.heap.size + 1 + 1) 1 (.slice p1_ n1 d1_)
  replace HSZ : Hid (w.heap.size + 3 ≤ (w2.setCell ⟨w.heap.size + 1 + 1, 1, none⟩ (.slice p1_ n1 d1_)).heap.size) := Lib.hid (by rw [hz]; exact HSZ.out)
  have HS2 : Hid (w2.heap.size ≤ (w2.setCell ⟨w.heap.size + 1 + 1, 1, none⟩ (.slice p1_ n1 d1_)).heap.size) := Lib.hid (by rw [hz]; exact Nat.le_refl _)
  clear hz
  generalize (w2.setCell ⟨w.heap.size + 1 + 1, 1, none⟩ (.slice p1_ n1 d1_)) = V2 at HA HR HO HB HSZ HS2 HQ0 HQ1 ⊢
  obtain ⟨a0_, a1_, a2_, a3_, a4_⟩ := DpFrame.bxc HA.out
  refine (SlMethod.to_any _ _ _ _ _ (HP2.out.below HB.out).rdS (by omega)).mono ?_
  rintro e w3 ⟨p2_, n2_, d2_, rfl, ho, hb⟩
  obtain rfl : n2 = n2_ := HP2.out.len.symm.trans ho.len
  have HQ2 := Lib.hid (ho.wide (lo' := w2.heap.size) HS2.out (Nat.le_refl _) (Nat.le_refl _))
  clear ho a0_ a1_ a2_ a3_ a4_
  replace HA := Lib.hid (HA.out.below hb)
  replace HR := Lib.hid (HR.out.below hb)
  replace HO := Lib.hid (HO.out.below hb)
  replace HQ0 := Lib.hid (HQ0.out.below hb)
  replace HQ1 := Lib.hid (HQ1.out.below hb)
  replace HB := Lib.hid (below_on HB.out hb)
  replace HSZ := Lib.hid (Nat.le_trans HSZ.out hb.size)
  have HZ3 : Hid (w.heap.size + 3 ≤ w3.heap.size) := HSZ
  have HM2 : Hid (w2.heap.size ≤ w3.heap.size) := Lib.hid (Nat.le_trans HS2.out hb.size)
  clear hb
  obtain ⟨a0_, a1_, a2_, a3_, a4_⟩ := DpFrame.bxc HA.out
  obtain ⟨q0_, q1_, q2_, q3_, q4_⟩ := DpFrame.bxc HO.out
  have g2_ := HO.out.free 2
  have g3_ := HO.out.free 3
  have g4_ := HO.out.free 4
  obtain ⟨r0, r1, r2, r3, r4⟩ := DpFrame.bxc HR.out
  have s0_ := HR.out.free 0
  have s1_ := HR.out.free 1
  have s2_ := HR.out.free 2
  have s3_ := HR.out.free 3
  have s4_ := HR.out.free 4
  go_wp2_with fail
  have e1 := HZ1.out
  have e2 := HM1.out
  have e3 := HM2.out
  exact bodyPost_ret (v := .agg #[.slice p0_ n0 d0_, .slice p1_ n1 d1_, .slice p2_ n2 d2_, .int .i64 x3, .int .i64 x4]) (by simp [results, Try.results8, go_sem, r0, r1, r2, r3, r4]) rfl ⟨p0_, d0_, p1_, d1_, p2_, d2_, w1.heap.size, w2.heap.size, rfl, (farO (farO (farO (farO (farO (farO (farO (farO HQ0.out (w.heap.size + 1 + 1) 2 (.slice p2_ n2 d2_) (by have := HZ1.out; omega)) (w.heap.size + 1 + 1) 3 (.int .i64 x3) (by have := HZ1.out; omega)) (w.heap.size + 1 + 1) 4 (.int .i64 x4) (by have := HZ1.out; omega)) (w.heap.size + 1) 0 (.slice p0_ n0 d0_) (by have := HZ1.out; omega)) (w.heap.size + 1) 1 (.slice p1_ n1 d1_) (by have := HZ1.out; omega)) (w.heap.size + 1) 2 (.slice p2_ n2 d2_) (by have := HZ1.out; omega)) (w.heap.size + 1) 3 (.int .i64 x3) (by have := HZ1.out; omega)) (w.heap.size + 1) 4 (.int .i64 x4) (by have := HZ1.out; omega)).wide (by omega) (Nat.le_refl _) (by simp only [size_set]; omega), (farO (farO (farO (farO (farO (farO (farO (farO HQ1.out (w.heap.size + 1 + 1) 2 (.slice p2_ n2 d2_) (by have := HZ1.out; omega)) (w.heap.size + 1 + 1) 3 (.int .i64 x3) (by have := HZ1.out; omega)) (w.heap.size + 1 + 1) 4 (.int .i64 x4) (by have := HZ1.out; omega)) (w.heap.size + 1) 0 (.slice p0_ n0 d0_) (by have := HZ1.out; omega)) (w.heap.size + 1) 1 (.slice p1_ n1 d1_) (by have := HZ1.out; omega)) (w.heap.size + 1) 2 (.slice p2_ n2 d2_) (by have := HZ1.out; omega)) (w.heap.size + 1) 3 (.int .i64 x3) (by have := HZ1.out; omega)) (w.heap.size + 1) 4 (.int .i64 x4) (by have := HZ1.out; omega)), (farO (farO (farO (farO (farO (farO (farO (farO HQ2.out (w.heap.size + 1 + 1) 2 (.slice p2_ n2 d2_) (by have := HZ2.out; omega)) (w.heap.size + 1 + 1) 3 (.int .i64 x3) (by have := HZ2.out; omega)) (w.heap.size + 1 + 1) 4 (.int .i64 x4) (by have := HZ2.out; omega)) (w.heap.size + 1) 0 (.slice p0_ n0 d0_) (by have := HZ2.out; omega)) (w.heap.size + 1) 1 (.slice p1_ n1 d1_) (by have := HZ2.out; omega)) (w.heap.size + 1) 2 (.slice p2_ n2 d2_) (by have := HZ2.out; omega)) (w.heap.size + 1) 3 (.int .i64 x3) (by have := HZ2.out; omega)) (w.heap.size + 1) 4 (.int .i64 x4) (by have := HZ2.out; omega)).wide (Nat.le_refl _) (by simp only [size_set]; omega) (Nat.le_refl _), ⟨by omega, by omega, by simp only [size_set]; omega⟩, ((((((((((((((((HB.out).setCell (p := ⟨w.heap.size + 1 + 1, 2, none⟩) (by show w.heap.size ≤ w.heap.size + 1 + 1; omega) (.slice p2_ n2 d2_))).setCell (p := ⟨w.heap.size + 1 + 1, 3, none⟩) (by show w.heap.size ≤ w.heap.size + 1 + 1; omega) (.int .i64 x3))).setCell (p := ⟨w.heap.size + 1 + 1, 4, none⟩) (by show w.heap.size ≤ w.heap.size + 1 + 1; omega) (.int .i64 x4))).setCell (p := ⟨w.heap.size + 1, 0, none⟩) (by show w.heap.size ≤ w.heap.size + 1; omega) (.slice p0_ n0 d0_))).setCell (p := ⟨w.heap.size + 1, 1, none⟩) (by show w.heap.size ≤ w.heap.size + 1; omega) (.slice p1_ n1 d1_))).setCell (p := ⟨w.heap.size + 1, 2, none⟩) (by show w.heap.size ≤ w.heap.size + 1; omega) (.slice p2_ n2 d2_))).setCell (p := ⟨w.heap.size + 1, 3, none⟩) (by show w.heap.size ≤ w.heap.size + 1; omega) (.int .i64 x3))).setCell (p := ⟨w.heap.size + 1, 4, none⟩) (by show w.heap.size ≤ w.heap.size + 1; omega) (.int .i64 x4))⟩
set_option maxRecDepth 100000 in
set_option maxHeartbeats 4000000 in
theorem markF_any (lo1 hi1 lo2 hi2 lo3 hi3 : Nat) (l0 : List (Int × Int × Int × Int × Int)) (p0 : Option Addr) (n0 c0 : Nat) (l1 : List (Int × Int × Int)) (p1 : Option Addr) (n1 c1 : Nat) (l2 : List (Int × Int × Int × Int)) (p2 : Option Addr) (n2 c2 : Nat) (x3 x4 k : Int) (w : World) (o1 : OwS SlKey.E 59 w lo1 hi1 p0 n0 c0 l0) (o2 : OwS SlAuthority.E 57 w lo2 hi2 p1 n1 c1 l1) (o3 : OwS SlMethod.E 85 w lo3 hi3 p2 n2 c2 l2) (d12 : hi1 ≤ lo2) (d23 : hi2 ≤ lo3) (d13 : hi1 ≤ lo3) (hk : 0 ≤ k) (hb : k + (n0 * 5 : Nat) + (n1 * 3 : Nat) + (n2 * 4 : Nat) ≤ 9223372036854775000) : Calls Try.prog 12 #[.agg #[.slice p0 n0 c0, .slice p1 n1 c1, .slice p2 n2 c2, .int .i64 x3, .int .i64 x4], .int .i64 k] w fun e w' => e = .returned (.int .i64 (k + (n0 * 5 : Nat) + (n1 * 3 : Nat) + (n2 * 4 : Nat))) ∧ ∃ wa wb, w.grownBy wa (Value.slice p0 n0 c0).ownBlock ∧ wa.grownBy wb (Value.slice p1 n1 c1).ownBlock ∧ wb.grownBy w' (Value.slice p2 n2 c2).ownBlock := by
  have HX := Lib.hid (Bx.new w 34 #[.slice p0 n0 c0, .slice p1 n1 c1, .slice p2 n2 c2, .int .i64 x3, .int .i64 x4])
  have s1 := o1.2.2.1
  have s2 := o2.2.2.1
  have s3 := o3.2.2.1
  have O1 := Lib.hid (o1.alloc (.cells #[.slice p0 n0 c0, .slice p1 n1 c1, .slice p2 n2 c2, .int .i64 x3, .int .i64 x4] 34))
  have O2 := Lib.hid (o2.alloc (.cells #[.slice p0 n0 c0, .slice p1 n1 c1, .slice p2 n2 c2, .int .i64 x3, .int .i64 x4] 34))
  have O3 := Lib.hid (o3.alloc (.cells #[.slice p0 n0 c0, .slice p1 n1 c1, .slice p2 n2 c2, .int .i64 x3, .int .i64 x4] 34))
  clear o1 o2 o3
  obtain ⟨q0_, q1_, q2_, q3_, q4_⟩ := DpFrame.bxc HX.out
  go_enter Try.func12, Try.ntmps12
  go_wp2_with fail
  refine (SlKey.mark_any lo1 hi1 p0 n0 c0 l0 k _ O1.out hk (by omega)).mono ?_
  rintro e w1 ⟨rfl, _, hg⟩
  have P2 := Lib.hid (O2.out.apart O1.out hg (Or.inr d12))
  have P3 := Lib.hid (O3.out.apart O1.out hg (Or.inr d13))
  have HX1 := Lib.hid (HX.out.grown hg (fun e => by have := O1.out.far _ e.symm; omega))
  have G1 := Lib.hid (grown_on hg)
  clear hg q0_ q1_ q2_ q3_ q4_
  obtain ⟨q0_, q1_, q2_, q3_, q4_⟩ := DpFrame.bxc HX1.out
  go_wp2_with fail
  refine (SlAuthority.mark_any lo2 hi2 p1 n1 c1 l1 _ _ P2.out (by omega) (by omega)).mono ?_
  rintro e w2 ⟨rfl, _, hg⟩
  have Q3 := Lib.hid (P3.out.apart P2.out hg (Or.inr d23))
  have HX2 := Lib.hid (HX1.out.grown hg (fun e => by have := P2.out.far _ e.symm; omega))
  have G2 := Lib.hid hg
  clear hg q0_ q1_ q2_ q3_ q4_
  obtain ⟨q0_, q1_, q2_, q3_, q4_⟩ := DpFrame.bxc HX2.out
  go_wp2_with fail
  refine (SlMethod.mark_any lo3 hi3 p2 n2 c2 l2 _ _ Q3.out (by omega) (by omega)).mono ?_
  rintro e w3 ⟨rfl, _, hg⟩
  have G3 := Lib.hid hg
  clear hg q0_ q1_ q2_ q3_ q4_
  go_wp2_with fail
  go_ret
  exact ⟨rfl, _, _, G1.out, G2.out, G3.out⟩
end Go.Proofs.Ytlipcnaimpplpaa.Fr
