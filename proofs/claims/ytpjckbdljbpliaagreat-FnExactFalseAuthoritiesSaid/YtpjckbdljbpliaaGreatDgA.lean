/- Copies of Document by the laws, in memory that isn't frozen. Copies of Piece by the laws, in memory that isn't frozen. Copies of Renewal by the laws, in memory that isn't frozen. Copies of Strand by the laws, in memory that isn't frozen. Copies of Item by the laws, in memory that isn't frozen. Copies of Archive by the laws, in memory that isn't frozen. -/
import Derived.Test.YtpjckbdljbpliaaGreatDoA
import Derived.Test.YtpjckbdljbpliaaGreatEk
import Derived.OpenShut
import Derived.Deep.Fields
import Derived.Deep.RegionHeld3
import Derived.LoopTactic
import Derived.Outline
import Derived.Test.YtpjckbdljbpliaaGreatDpPiece
import Derived.Test.YtpjckbdljbpliaaGreatDpRenewal
import Derived.Test.YtpjckbdljbpliaaGreatDpStrand
import Derived.Test.YtpjckbdljbpliaaGreatDpItem
import Derived.Test.YtpjckbdljbpliaaGreatDpArchive
namespace Go.Proofs.YtpjckbdljbpliaaGreat.DfDocument
open Go.ChangeShapes Go.WideShapes Go.ChangeAt Go.RowKit Sl St Ed Dz Ek DpDocument
set_option maxRecDepth 100000 in
set_option maxHeartbeats 4000000 in
theorem toF_any (x0 : Int) (l1 : List ByteArray) (p1 : Option Addr) (n1 c1 : Nat) (l2 : List Int) (p2 : Option Addr) (n2 c2 : Nat) {S1 S2 : Nat → Prop} (w : World) (h1 : RdD str S1 w p1 n1 l1) (h2 : RdD int S2 w p2 n2 l2) (hm : E.wt (x0, l1, l2) ≤ 1048576) : Calls Tryz.prog 79 #[.agg #[.int .i64 x0, .slice p1 n1 c1, .slice p2 n2 c2]] w fun e w' => ∃ (p1' : Option Addr) (c1' : Nat) (p2' : Option Addr) (c2' : Nat), e = .returned (.agg #[.int .i64 x0, .slice p1' n1 c1', .slice p2' n2 c2']) ∧ FRd str w.heap.size w' p1' n1 l1 ∧ FRd int w.heap.size w' p2' n2 l2 ∧ n1 ≤ c1' ∧ n2 ≤ c2' ∧ Below w.heap.size w w' := by
  rw [wt_eq] at hm
  have k1 := h1.len
  have k2 := h2.len
  have m1 : n1 + wts str l1 ≤ 1048576 := by omega
  have m2 : n2 + wts int l2 ≤ 1048576 := by omega
  have HP1 := Lib.hid h1
  have HP2 := Lib.hid h2
  clear hm h1 k1 h2 k2
  have b0 := ((Bx.new w 108 #[.int .i64 x0, .slice p1 n1 c1, .slice p2 n2 c2]).alloc (.cells #[.int .i64 0, .slice none 0 0, .slice none 0 0] 72)).alloc (.cells #[.int .i64 x0, .slice none 0 0, .slice none 0 0] 72)
  have b1 := (Bx.new (w.alloc (.cells #[.int .i64 x0, .slice p1 n1 c1, .slice p2 n2 c2] 108)) 72 #[.int .i64 0, .slice none 0 0, .slice none 0 0]).alloc (.cells #[.int .i64 x0, .slice none 0 0, .slice none 0 0] 72)
  have b2 := Bx.new ((w.alloc (.cells #[.int .i64 x0, .slice p1 n1 c1, .slice p2 n2 c2] 108)).alloc (.cells #[.int .i64 0, .slice none 0 0, .slice none 0 0] 72)) 72 #[.int .i64 x0, .slice none 0 0, .slice none 0 0]
  rw [World.size_alloc] at b1
  rw [World.size_alloc, World.size_alloc] at b2
  have HA := Lib.hid b0
  have HR := Lib.hid b1
  have HO := Lib.hid b2
  have HB : Hid (Below w.heap.size w (((w.alloc (.cells #[.int .i64 x0, .slice p1 n1 c1, .slice p2 n2 c2] 108)).alloc (.cells #[.int .i64 0, .slice none 0 0, .slice none 0 0] 72)).alloc (.cells #[.int .i64 x0, .slice none 0 0, .slice none 0 0] 72))) := Lib.hid ((((Below.refl w.heap.size w).alloc (Nat.le_refl _) _).alloc (by simp) _).alloc (by simp; omega) _)
  have HSZ : Hid (w.heap.size + 3 ≤ (((w.alloc (.cells #[.int .i64 x0, .slice p1 n1 c1, .slice p2 n2 c2] 108)).alloc (.cells #[.int .i64 0, .slice none 0 0, .slice none 0 0] 72)).alloc (.cells #[.int .i64 x0, .slice none 0 0, .slice none 0 0] 72)).heap.size) := Lib.hid (by simp)
  clear b0 b1 b2
  go_enter Tryz.func79, Tryz.ntmps79
  go_wp2_with fail
  generalize (((w.alloc (.cells #[.int .i64 x0, .slice p1 n1 c1, .slice p2 n2 c2] 108)).alloc (.cells #[.int .i64 0, .slice none 0 0, .slice none 0 0] 72)).alloc (.cells #[.int .i64 x0, .slice none 0 0, .slice none 0 0] 72)) = V at HA HR HO HB HSZ ⊢
  obtain ⟨a0, a1, a2⟩ := bxc HA.out
  refine (SlStr.to_any _ _ _ _ _ (RdD.strs SlStr.C_eq SlStr.of_eq (HP1.out.below HB.out)).1 (by omega)).mono ?_
  rintro e w1 ⟨p1', n1', c1', rfl, ho, hb⟩
  obtain rfl : n1 = n1' := HP1.out.len.symm.trans ho.len
  have HK1 := Lib.hid (Ed.cap_owS ho)
  have HQ1 : Hid (FRd str (w.heap.size + 3) w1 p1' n1 l1) := Lib.hid ((ofStrsF SlStr.C_eq SlStr.of_eq ho (RdD.strs SlStr.C_eq SlStr.of_eq HP1.out).2).up HSZ.out)
  clear ho
  clear a0 a1 a2
  replace HA := Lib.hid (HA.out.below hb)
  replace HR := Lib.hid (HR.out.below hb)
  replace HO := Lib.hid (HO.out.below hb)
  replace HB := Lib.hid (below_on HB.out hb)
  replace HSZ := Lib.hid (Nat.le_trans HSZ.out hb.size)
  clear hb
  obtain ⟨a0, a1, a2⟩ := bxc HA.out
  obtain ⟨q0, q1, q2⟩ := bxc HO.out
  have g1 := HO.out.free 1
  go_wp2_with fail
  have ho := (HO.out.set_ 1 (.slice p1' n1 c1'))
  simp only [List.setIfInBounds_toArray, List.set_cons_zero, List.set_cons_succ] at ho
  replace HO := Lib.hid ho
  clear ho a0 a1 a2 q0 q1 q2 g1
  replace HA := Lib.hid (HA.out.far (q := ⟨w.heap.size + 1 + 1, 1, none⟩) (by show w.heap.size ≠ w.heap.size + 1 + 1; omega) (.slice p1' n1 c1'))
  replace HR := Lib.hid (HR.out.far (q := ⟨w.heap.size + 1 + 1, 1, none⟩) (by show w.heap.size + 1 ≠ w.heap.size + 1 + 1; omega) (.slice p1' n1 c1'))
  replace HQ1 := Lib.hid (HQ1.out.far (q := ⟨w.heap.size + 1 + 1, 1, none⟩) (by show ¬ (w.heap.size + 3 ≤ w.heap.size + 1 + 1); omega) (.slice p1' n1 c1'))
  replace HB := Lib.hid (HB.out.setCell (p := ⟨w.heap.size + 1 + 1, 1, none⟩) (by show w.heap.size ≤ w.heap.size + 1 + 1; omega) (.slice p1' n1 c1'))
  replace HSZ : Hid (w.heap.size + 3 ≤ (w1.setCell ⟨w.heap.size + 1 + 1, 1, none⟩ (.slice p1' n1 c1')).heap.size) := Lib.hid (by simpa [World.setCell] using HSZ.out)
  generalize (w1.setCell ⟨w.heap.size + 1 + 1, 1, none⟩ (.slice p1' n1 c1')) = V1 at HA HR HO HB HSZ HQ1 ⊢
  obtain ⟨a0, a1, a2⟩ := bxc HA.out
  refine (SlI.to_any _ _ _ _ _ (HP2.out.below HB.out).ints (by omega)).mono ?_
  rintro e w2 ⟨p2', n2', c2', rfl, ho, hb⟩
  obtain rfl : n2 = n2' := HP2.out.len.symm.trans ho.len
  have HK2 := Lib.hid (Ed.cap_ow ho)
  have HQ2 : Hid (FRd int (w.heap.size + 3) w2 p2' n2 l2) := Lib.hid ((ofOwF ho).up HSZ.out)
  clear ho
  clear a0 a1 a2
  replace HA := Lib.hid (HA.out.below hb)
  replace HR := Lib.hid (HR.out.below hb)
  replace HO := Lib.hid (HO.out.below hb)
  replace HQ1 := Lib.hid (HQ1.out.below hb)
  replace HB := Lib.hid (below_on HB.out hb)
  replace HSZ := Lib.hid (Nat.le_trans HSZ.out hb.size)
  clear hb
  obtain ⟨a0, a1, a2⟩ := bxc HA.out
  obtain ⟨q0, q1, q2⟩ := bxc HO.out
  have g2 := HO.out.free 2
  obtain ⟨r0, r1, r2⟩ := bxc HR.out
  have s0 := HR.out.free 0
  have s1 := HR.out.free 1
  have s2 := HR.out.free 2
  go_wp2_with fail
  exact bodyPost_ret (v := .agg #[.int .i64 x0, .slice p1' n1 c1', .slice p2' n2 c2']) (by simp [results, Tryz.results79, go_sem, r0, r1, r2]) rfl ⟨p1', c1', p2', c2', rfl, ((((((HQ1.out.far (q := ⟨w.heap.size + 1 + 1, 2, none⟩) (by show ¬ (w.heap.size + 3 ≤ w.heap.size + 1 + 1); omega) (.slice p2' n2 c2')).far (q := ⟨w.heap.size + 1, 0, none⟩) (by show ¬ (w.heap.size + 3 ≤ w.heap.size + 1); omega) (.int .i64 x0)).far (q := ⟨w.heap.size + 1, 1, none⟩) (by show ¬ (w.heap.size + 3 ≤ w.heap.size + 1); omega) (.slice p1' n1 c1')).far (q := ⟨w.heap.size + 1, 2, none⟩) (by show ¬ (w.heap.size + 3 ≤ w.heap.size + 1); omega) (.slice p2' n2 c2'))).up (by omega)), ((((((HQ2.out.far (q := ⟨w.heap.size + 1 + 1, 2, none⟩) (by show ¬ (w.heap.size + 3 ≤ w.heap.size + 1 + 1); omega) (.slice p2' n2 c2')).far (q := ⟨w.heap.size + 1, 0, none⟩) (by show ¬ (w.heap.size + 3 ≤ w.heap.size + 1); omega) (.int .i64 x0)).far (q := ⟨w.heap.size + 1, 1, none⟩) (by show ¬ (w.heap.size + 3 ≤ w.heap.size + 1); omega) (.slice p1' n1 c1')).far (q := ⟨w.heap.size + 1, 2, none⟩) (by show ¬ (w.heap.size + 3 ≤ w.heap.size + 1); omega) (.slice p2' n2 c2'))).up (by omega)), HK1.out, HK2.out, ((((HB.out.setCell (p := ⟨w.heap.size + 1 + 1, 2, none⟩) (by show w.heap.size ≤ w.heap.size + 1 + 1; omega) (.slice p2' n2 c2')).setCell (p := ⟨w.heap.size + 1, 0, none⟩) (by show w.heap.size ≤ w.heap.size + 1; omega) (.int .i64 x0)).setCell (p := ⟨w.heap.size + 1, 1, none⟩) (by show w.heap.size ≤ w.heap.size + 1; omega) (.slice p1' n1 c1')).setCell (p := ⟨w.heap.size + 1, 2, none⟩) (by show w.heap.size ≤ w.heap.size + 1; omega) (.slice p2' n2 c2'))⟩
end Go.Proofs.YtpjckbdljbpliaaGreat.DfDocument

namespace Go.Proofs.YtpjckbdljbpliaaGreat.DfPiece
open Go.ChangeShapes Go.WideShapes Go.ChangeAt Go.RowKit Sl St Ed Dz Ek DpPiece
set_option maxRecDepth 100000 in
set_option maxHeartbeats 4000000 in
theorem toF_any (x0 : Int) (l1 : List Int) (p1 : Option Addr) (n1 c1 : Nat) (x2 : Int) {S1 : Nat → Prop} (w : World) (h1 : RdD int S1 w p1 n1 l1) (hm : E.wt (x0, l1, x2) ≤ 1048576) : Calls Tryz.prog 117 #[.agg #[.int .i64 x0, .slice p1 n1 c1, .int .i64 x2]] w fun e w' => ∃ (p1' : Option Addr) (c1' : Nat), e = .returned (.agg #[.int .i64 x0, .slice p1' n1 c1', .int .i64 x2]) ∧ FRd int w.heap.size w' p1' n1 l1 ∧ n1 ≤ c1' ∧ Below w.heap.size w w' := by
  rw [wt_eq] at hm
  have k1 := h1.len
  have m1 : n1 + wts int l1 ≤ 1048576 := by omega
  have HP1 := Lib.hid h1
  clear hm h1 k1
  have b0 := ((Bx.new w 184 #[.int .i64 x0, .slice p1 n1 c1, .int .i64 x2]).alloc (.cells #[.int .i64 0, .slice none 0 0, .int .i64 0] 160)).alloc (.cells #[.int .i64 x0, .slice none 0 0, .int .i64 0] 160)
  have b1 := (Bx.new (w.alloc (.cells #[.int .i64 x0, .slice p1 n1 c1, .int .i64 x2] 184)) 160 #[.int .i64 0, .slice none 0 0, .int .i64 0]).alloc (.cells #[.int .i64 x0, .slice none 0 0, .int .i64 0] 160)
  have b2 := Bx.new ((w.alloc (.cells #[.int .i64 x0, .slice p1 n1 c1, .int .i64 x2] 184)).alloc (.cells #[.int .i64 0, .slice none 0 0, .int .i64 0] 160)) 160 #[.int .i64 x0, .slice none 0 0, .int .i64 0]
  rw [World.size_alloc] at b1
  rw [World.size_alloc, World.size_alloc] at b2
  have HA := Lib.hid b0
  have HR := Lib.hid b1
  have HO := Lib.hid b2
  have HB : Hid (Below w.heap.size w (((w.alloc (.cells #[.int .i64 x0, .slice p1 n1 c1, .int .i64 x2] 184)).alloc (.cells #[.int .i64 0, .slice none 0 0, .int .i64 0] 160)).alloc (.cells #[.int .i64 x0, .slice none 0 0, .int .i64 0] 160))) := Lib.hid ((((Below.refl w.heap.size w).alloc (Nat.le_refl _) _).alloc (by simp) _).alloc (by simp; omega) _)
  have HSZ : Hid (w.heap.size + 3 ≤ (((w.alloc (.cells #[.int .i64 x0, .slice p1 n1 c1, .int .i64 x2] 184)).alloc (.cells #[.int .i64 0, .slice none 0 0, .int .i64 0] 160)).alloc (.cells #[.int .i64 x0, .slice none 0 0, .int .i64 0] 160)).heap.size) := Lib.hid (by simp)
  clear b0 b1 b2
  go_enter Tryz.func117, Tryz.ntmps117
  go_wp2_with fail
  generalize (((w.alloc (.cells #[.int .i64 x0, .slice p1 n1 c1, .int .i64 x2] 184)).alloc (.cells #[.int .i64 0, .slice none 0 0, .int .i64 0] 160)).alloc (.cells #[.int .i64 x0, .slice none 0 0, .int .i64 0] 160)) = V at HA HR HO HB HSZ ⊢
  obtain ⟨a0, a1, a2⟩ := bxc HA.out
  refine (SlI.to_any _ _ _ _ _ (HP1.out.below HB.out).ints (by omega)).mono ?_
  rintro e w1 ⟨p1', n1', c1', rfl, ho, hb⟩
  obtain rfl : n1 = n1' := HP1.out.len.symm.trans ho.len
  have HK1 := Lib.hid (Ed.cap_ow ho)
  have HQ1 : Hid (FRd int (w.heap.size + 3) w1 p1' n1 l1) := Lib.hid ((ofOwF ho).up HSZ.out)
  clear ho
  clear a0 a1 a2
  replace HA := Lib.hid (HA.out.below hb)
  replace HR := Lib.hid (HR.out.below hb)
  replace HO := Lib.hid (HO.out.below hb)
  replace HB := Lib.hid (below_on HB.out hb)
  replace HSZ := Lib.hid (Nat.le_trans HSZ.out hb.size)
  clear hb
  obtain ⟨a0, a1, a2⟩ := bxc HA.out
  obtain ⟨q0, q1, q2⟩ := bxc HO.out
  have g1 := HO.out.free 1
  have g2 := HO.out.free 2
  obtain ⟨r0, r1, r2⟩ := bxc HR.out
  have s0 := HR.out.free 0
  have s1 := HR.out.free 1
  have s2 := HR.out.free 2
  go_wp2_with fail
  exact bodyPost_ret (v := .agg #[.int .i64 x0, .slice p1' n1 c1', .int .i64 x2]) (by simp [results, Tryz.results117, go_sem, r0, r1, r2]) rfl ⟨p1', c1', rfl, (((((((HQ1.out.far (q := ⟨w.heap.size + 1 + 1, 1, none⟩) (by show ¬ (w.heap.size + 3 ≤ w.heap.size + 1 + 1); omega) (.slice p1' n1 c1')).far (q := ⟨w.heap.size + 1 + 1, 2, none⟩) (by show ¬ (w.heap.size + 3 ≤ w.heap.size + 1 + 1); omega) (.int .i64 x2)).far (q := ⟨w.heap.size + 1, 0, none⟩) (by show ¬ (w.heap.size + 3 ≤ w.heap.size + 1); omega) (.int .i64 x0)).far (q := ⟨w.heap.size + 1, 1, none⟩) (by show ¬ (w.heap.size + 3 ≤ w.heap.size + 1); omega) (.slice p1' n1 c1')).far (q := ⟨w.heap.size + 1, 2, none⟩) (by show ¬ (w.heap.size + 3 ≤ w.heap.size + 1); omega) (.int .i64 x2))).up (by omega)), HK1.out, (((((HB.out.setCell (p := ⟨w.heap.size + 1 + 1, 1, none⟩) (by show w.heap.size ≤ w.heap.size + 1 + 1; omega) (.slice p1' n1 c1')).setCell (p := ⟨w.heap.size + 1 + 1, 2, none⟩) (by show w.heap.size ≤ w.heap.size + 1 + 1; omega) (.int .i64 x2)).setCell (p := ⟨w.heap.size + 1, 0, none⟩) (by show w.heap.size ≤ w.heap.size + 1; omega) (.int .i64 x0)).setCell (p := ⟨w.heap.size + 1, 1, none⟩) (by show w.heap.size ≤ w.heap.size + 1; omega) (.slice p1' n1 c1')).setCell (p := ⟨w.heap.size + 1, 2, none⟩) (by show w.heap.size ≤ w.heap.size + 1; omega) (.int .i64 x2))⟩
set_option maxRecDepth 100000 in
set_option maxHeartbeats 4000000 in
theorem toSF_any (p : Option Addr) (n c : Nat) (xs : List A) {S : Nat → Prop} (w : World) (hr : RdD E S w p n xs) (hm : n + wts E xs ≤ 1048576) : Calls Tryz.prog 101 #[.slice p n c] w fun e w' => ∃ (q : Option Addr) (d : Nat), e = .returned (.slice q n d) ∧ FRd E w.heap.size w' q n xs ∧ n ≤ d ∧ Below w.heap.size w w' := by
  obtain ⟨i0, hi, hz0, hz1, hz2⟩ := info_parts info
  have HR := Lib.hid hr
  have hn : n ≤ 1048576 := by omega
  have HM0 := Lib.hid hm
  clear hr hm
  go_enter Tryz.func101, Tryz.ntmps101
  go_wp2_with (refine wpList_make_full _ rfl _ _ 75 rfl w.heap.size 160 i0 _ 3 Tryz.underlying75 hi hz0 hz1 .i64 .i64 _ _ n rfl rfl rfl rfl (by rw [hz2]; omega) (by unfold maxLen; omega) (Nat.le_refl _) ?_; intro w1 hown1 hg1)
  have HM := Lib.hid (MidF.start (E := E) (z := [.int .i64 0, .slice none 0 0, .int .i64 0]) (xs := xs) (.agg #[.int .i64 0, .slice none 0 0, .int .i64 0]) rfl rfl (by intro u hu; simp only [List.mem_cons, List.not_mem_nil, or_false] at hu; rcases hu with rfl | rfl | rfl <;> rfl) hown1 hg1)
  clear hown1 hg1
  go_loopw [4] (fun i wr => ∃ k : Nat, k ≤ n ∧ i = .int .i64 k ∧ Hid (MidF E 160 [.int .i64 0, .slice none 0 0, .int .i64 0] xs n k w wr)) (fun i _ => n - (intOf i).toNat)
  case atStart => exact ⟨0, Nat.zero_le _, rfl, HM⟩
  case round =>
    obtain ⟨k, hk, rfl, HK⟩ := hrel
    by_cases hlt : k < n
    · obtain ⟨b, o, x, cs, rfl, _, hbw, hx, hc, hrd⟩ := HR.out.at_ hlt
      obtain ⟨x0, l1, x2⟩ := x
      obtain ⟨p1, n1, c1, rfl, b0, h1, b2⟩ := ex hrd
      have hB := HK.out.below
      have hwt : E.wt (x0, l1, x2) ≤ 1048576 := by have h1 := wts_at (E := E) hx; have h2 := HM0.out; omega
      have hcc : ∀ j v, [.int .i64 x0, .slice p1 n1 c1, .int .i64 x2][j]? = some v → wr.cell? ⟨b, o + k * 3 + j, none⟩ = some v := fun j v hv => (hB.cell (p := ⟨b, o + k * 3 + j, none⟩) hbw).trans (hc j v hv)
      have HX := Lib.hid hx
      have HW := Lib.hid hwt
      have Hb0 := Lib.hid b0
      have Hh1 := Lib.hid h1
      have Hb2 := Lib.hid b2
      have HBB := Lib.hid hB
      obtain ⟨u0, u1, u2⟩ := at_cells hcc
      clear hc hcc hrd hx hwt hB b0 h1 b2
      go_wp2_with fail
      refine (toF_any _ _ _ _ _ _ _ (Hh1.out.below HBB.out) HW.out).mono ?_
      rintro e w2 ⟨p1', c1', rfl, ho1, hk1, hb2⟩
      obtain ⟨hz, hf⟩ := HK.out.cells hlt
      have d0 : w2.cell? ⟨w.heap.size, k * 3, none⟩ = some (.int .i64 0) := (hb2.cell (p := ⟨w.heap.size, k * 3 + 0, none⟩) HK.out.lt).trans (hz 0 _ rfl)
      have d1 : w2.cell? ⟨w.heap.size, k * 3 + 1, none⟩ = some (.slice none 0 0) := (hb2.cell (p := ⟨w.heap.size, k * 3 + 1, none⟩) HK.out.lt).trans (hz 1 _ rfl)
      have d2 : w2.cell? ⟨w.heap.size, k * 3 + 2, none⟩ = some (.int .i64 0) := (hb2.cell (p := ⟨w.heap.size, k * 3 + 2, none⟩) HK.out.lt).trans (hz 2 _ rfl)
      have f0 : w2.frozen? ⟨w.heap.size, k * 3, none⟩ = false := (hb2.frozen (p := ⟨w.heap.size, k * 3 + 0, none⟩) HK.out.lt).trans (hf _)
      have f1 : w2.frozen? ⟨w.heap.size, k * 3 + 1, none⟩ = false := (hb2.frozen (p := ⟨w.heap.size, k * 3 + 1, none⟩) HK.out.lt).trans (hf _)
      have f2 : w2.frozen? ⟨w.heap.size, k * 3 + 2, none⟩ = false := (hb2.frozen (p := ⟨w.heap.size, k * 3 + 2, none⟩) HK.out.lt).trans (hf _)
      have HM2 := Lib.hid (HK.out.next hb2 hlt HX.out (mk (c1 := c1') Hb0.out ho1 Hb2.out hk1))
      clear hz hf hb2 ho1 hk1 u0 u1 u2
      go_wp2_with fail
      go_roundw
      case rel => exact ⟨k + 1, by omega, by go_num, HM2⟩
      case measure => simp [intOf]; omega
    · obtain rfl : k = n := by omega
      have HD := Lib.hid (HK.out.done HR.out.len (by unfold maxLen; omega))
      go_wp2_with fail
      go_ret
      exact ⟨_, _, rfl, HD.out.1, Nat.le_refl _, HD.out.2⟩
end Go.Proofs.YtpjckbdljbpliaaGreat.DfPiece

namespace Go.Proofs.YtpjckbdljbpliaaGreat.DfRenewal
open Go.ChangeShapes Go.WideShapes Go.ChangeAt Go.RowKit Sl St Ed Dz Ek DpRenewal
set_option maxRecDepth 100000 in
set_option maxHeartbeats 4000000 in
theorem toF_any (x0 : Int) (x1 : Int) (x2 : Int) (l3 : List (Int × Bool)) (p3 : Option Addr) (n3 c3 : Nat) (l4 : List (Int × Int × Int × Int × Int)) (p4 : Option Addr) (n4 c4 : Nat) {S3 S4 : Nat → Prop} (w : World) (h3 : RdD (flat SlStep.E SlStep.InR) S3 w p3 n3 l3) (h4 : RdD (flat SlStamp.E SlStamp.InR) S4 w p4 n4 l4) (hm : E.wt (x0, x1, x2, l3, l4) ≤ 1048576) : Calls Tryz.prog 118 #[.agg #[.int .i64 x0, .int .i64 x1, .int .i64 x2, .slice p3 n3 c3, .slice p4 n4 c4]] w fun e w' => ∃ (p3' : Option Addr) (c3' : Nat) (p4' : Option Addr) (c4' : Nat), e = .returned (.agg #[.int .i64 x0, .int .i64 x1, .int .i64 x2, .slice p3' n3 c3', .slice p4' n4 c4']) ∧ FRd (flat SlStep.E SlStep.InR) w.heap.size w' p3' n3 l3 ∧ FRd (flat SlStamp.E SlStamp.InR) w.heap.size w' p4' n4 l4 ∧ n3 ≤ c3' ∧ n4 ≤ c4' ∧ Below w.heap.size w w' := by
  rw [wt_eq] at hm
  have k3 := h3.len
  have k4 := h4.len
  have m3 : n3 + wts (flat SlStep.E SlStep.InR) l3 ≤ 1048576 := by omega
  have m4 : n4 + wts (flat SlStamp.E SlStamp.InR) l4 ≤ 1048576 := by omega
  have HP3 := Lib.hid h3
  have HP4 := Lib.hid h4
  clear hm h3 k3 h4 k4
  have b0 := ((Bx.new w 189 #[.int .i64 x0, .int .i64 x1, .int .i64 x2, .slice p3 n3 c3, .slice p4 n4 c4]).alloc (.cells #[.int .i64 0, .int .i64 0, .int .i64 0, .slice none 0 0, .slice none 0 0] 131)).alloc (.cells #[.int .i64 x0, .int .i64 x1, .int .i64 x2, .slice none 0 0, .slice none 0 0] 131)
  have b1 := (Bx.new (w.alloc (.cells #[.int .i64 x0, .int .i64 x1, .int .i64 x2, .slice p3 n3 c3, .slice p4 n4 c4] 189)) 131 #[.int .i64 0, .int .i64 0, .int .i64 0, .slice none 0 0, .slice none 0 0]).alloc (.cells #[.int .i64 x0, .int .i64 x1, .int .i64 x2, .slice none 0 0, .slice none 0 0] 131)
  have b2 := Bx.new ((w.alloc (.cells #[.int .i64 x0, .int .i64 x1, .int .i64 x2, .slice p3 n3 c3, .slice p4 n4 c4] 189)).alloc (.cells #[.int .i64 0, .int .i64 0, .int .i64 0, .slice none 0 0, .slice none 0 0] 131)) 131 #[.int .i64 x0, .int .i64 x1, .int .i64 x2, .slice none 0 0, .slice none 0 0]
  rw [World.size_alloc] at b1
  rw [World.size_alloc, World.size_alloc] at b2
  have HA := Lib.hid b0
  have HR := Lib.hid b1
  have HO := Lib.hid b2
  have HB : Hid (Below w.heap.size w (((w.alloc (.cells #[.int .i64 x0, .int .i64 x1, .int .i64 x2, .slice p3 n3 c3, .slice p4 n4 c4] 189)).alloc (.cells #[.int .i64 0, .int .i64 0, .int .i64 0, .slice none 0 0, .slice none 0 0] 131)).alloc (.cells #[.int .i64 x0, .int .i64 x1, .int .i64 x2, .slice none 0 0, .slice none 0 0] 131))) := Lib.hid ((((Below.refl w.heap.size w).alloc (Nat.le_refl _) _).alloc (by simp) _).alloc (by simp; omega) _)
  have HSZ : Hid (w.heap.size + 3 ≤ (((w.alloc (.cells #[.int .i64 x0, .int .i64 x1, .int .i64 x2, .slice p3 n3 c3, .slice p4 n4 c4] 189)).alloc (.cells #[.int .i64 0, .int .i64 0, .int .i64 0, .slice none 0 0, .slice none 0 0] 131)).alloc (.cells #[.int .i64 x0, .int .i64 x1, .int .i64 x2, .slice none 0 0, .slice none 0 0] 131)).heap.size) := Lib.hid (by simp)
  clear b0 b1 b2
  go_enter Tryz.func118, Tryz.ntmps118
  go_wp2_with fail
  generalize (((w.alloc (.cells #[.int .i64 x0, .int .i64 x1, .int .i64 x2, .slice p3 n3 c3, .slice p4 n4 c4] 189)).alloc (.cells #[.int .i64 0, .int .i64 0, .int .i64 0, .slice none 0 0, .slice none 0 0] 131)).alloc (.cells #[.int .i64 x0, .int .i64 x1, .int .i64 x2, .slice none 0 0, .slice none 0 0] 131)) = V at HA HR HO HB HSZ ⊢
  obtain ⟨a0, a1, a2, a3, a4⟩ := bxc HA.out
  refine (SlStep.to_any _ _ _ _ _ (HP3.out.below HB.out).rdS (by omega)).mono ?_
  rintro e w1 ⟨p3', n3', c3', rfl, ho, hb⟩
  obtain rfl : n3 = n3' := HP3.out.len.symm.trans ho.len
  have HK3 := Lib.hid (Ed.cap_owS ho)
  have HQ3 : Hid (FRd (flat SlStep.E SlStep.InR) (w.heap.size + 3) w1 p3' n3 l3) := Lib.hid ((ofOwSF ho HP3.out.allP).up HSZ.out)
  clear ho
  clear a0 a1 a2 a3 a4
  replace HA := Lib.hid (HA.out.below hb)
  replace HR := Lib.hid (HR.out.below hb)
  replace HO := Lib.hid (HO.out.below hb)
  replace HB := Lib.hid (below_on HB.out hb)
  replace HSZ := Lib.hid (Nat.le_trans HSZ.out hb.size)
  clear hb
  obtain ⟨a0, a1, a2, a3, a4⟩ := bxc HA.out
  obtain ⟨q0, q1, q2, q3, q4⟩ := bxc HO.out
  have g3 := HO.out.free 3
  go_wp2_with fail
  have ho := (HO.out.set_ 3 (.slice p3' n3 c3'))
  simp only [List.setIfInBounds_toArray, List.set_cons_zero, List.set_cons_succ] at ho
  replace HO := Lib.hid ho
  clear ho a0 a1 a2 a3 a4 q0 q1 q2 q3 q4 g3
  replace HA := Lib.hid (HA.out.far (q := ⟨w.heap.size + 1 + 1, 3, none⟩) (by show w.heap.size ≠ w.heap.size + 1 + 1; omega) (.slice p3' n3 c3'))
  replace HR := Lib.hid (HR.out.far (q := ⟨w.heap.size + 1 + 1, 3, none⟩) (by show w.heap.size + 1 ≠ w.heap.size + 1 + 1; omega) (.slice p3' n3 c3'))
  replace HQ3 := Lib.hid (HQ3.out.far (q := ⟨w.heap.size + 1 + 1, 3, none⟩) (by show ¬ (w.heap.size + 3 ≤ w.heap.size + 1 + 1); omega) (.slice p3' n3 c3'))
  replace HB := Lib.hid (HB.out.setCell (p := ⟨w.heap.size + 1 + 1, 3, none⟩) (by show w.heap.size ≤ w.heap.size + 1 + 1; omega) (.slice p3' n3 c3'))
  replace HSZ : Hid (w.heap.size + 3 ≤ (w1.setCell ⟨w.heap.size + 1 + 1, 3, none⟩ (.slice p3' n3 c3')).heap.size) := Lib.hid (by simpa [World.setCell] using HSZ.out)
  generalize (w1.setCell ⟨w.heap.size + 1 + 1, 3, none⟩ (.slice p3' n3 c3')) = V1 at HA HR HO HB HSZ HQ3 ⊢
  obtain ⟨a0, a1, a2, a3, a4⟩ := bxc HA.out
  refine (SlStamp.to_any _ _ _ _ _ (HP4.out.below HB.out).rdS (by omega)).mono ?_
  rintro e w2 ⟨p4', n4', c4', rfl, ho, hb⟩
  obtain rfl : n4 = n4' := HP4.out.len.symm.trans ho.len
  have HK4 := Lib.hid (Ed.cap_owS ho)
  have HQ4 : Hid (FRd (flat SlStamp.E SlStamp.InR) (w.heap.size + 3) w2 p4' n4 l4) := Lib.hid ((ofOwSF ho HP4.out.allP).up HSZ.out)
  clear ho
  clear a0 a1 a2 a3 a4
  replace HA := Lib.hid (HA.out.below hb)
  replace HR := Lib.hid (HR.out.below hb)
  replace HO := Lib.hid (HO.out.below hb)
  replace HQ3 := Lib.hid (HQ3.out.below hb)
  replace HB := Lib.hid (below_on HB.out hb)
  replace HSZ := Lib.hid (Nat.le_trans HSZ.out hb.size)
  clear hb
  obtain ⟨a0, a1, a2, a3, a4⟩ := bxc HA.out
  obtain ⟨q0, q1, q2, q3, q4⟩ := bxc HO.out
  have g4 := HO.out.free 4
  obtain ⟨r0, r1, r2, r3, r4⟩ := bxc HR.out
  have s0 := HR.out.free 0
  have s1 := HR.out.free 1
  have s2 := HR.out.free 2
  have s3 := HR.out.free 3
  have s4 := HR.out.free 4
  go_wp2_with fail
  exact bodyPost_ret (v := .agg #[.int .i64 x0, .int .i64 x1, .int .i64 x2, .slice p3' n3 c3', .slice p4' n4 c4']) (by simp [results, Tryz.results118, go_sem, r0, r1, r2, r3, r4]) rfl ⟨p3', c3', p4', c4', rfl, ((((((((HQ3.out.far (q := ⟨w.heap.size + 1 + 1, 4, none⟩) (by show ¬ (w.heap.size + 3 ≤ w.heap.size + 1 + 1); omega) (.slice p4' n4 c4')).far (q := ⟨w.heap.size + 1, 0, none⟩) (by show ¬ (w.heap.size + 3 ≤ w.heap.size + 1); omega) (.int .i64 x0)).far (q := ⟨w.heap.size + 1, 1, none⟩) (by show ¬ (w.heap.size + 3 ≤ w.heap.size + 1); omega) (.int .i64 x1)).far (q := ⟨w.heap.size + 1, 2, none⟩) (by show ¬ (w.heap.size + 3 ≤ w.heap.size + 1); omega) (.int .i64 x2)).far (q := ⟨w.heap.size + 1, 3, none⟩) (by show ¬ (w.heap.size + 3 ≤ w.heap.size + 1); omega) (.slice p3' n3 c3')).far (q := ⟨w.heap.size + 1, 4, none⟩) (by show ¬ (w.heap.size + 3 ≤ w.heap.size + 1); omega) (.slice p4' n4 c4'))).up (by omega)), ((((((((HQ4.out.far (q := ⟨w.heap.size + 1 + 1, 4, none⟩) (by show ¬ (w.heap.size + 3 ≤ w.heap.size + 1 + 1); omega) (.slice p4' n4 c4')).far (q := ⟨w.heap.size + 1, 0, none⟩) (by show ¬ (w.heap.size + 3 ≤ w.heap.size + 1); omega) (.int .i64 x0)).far (q := ⟨w.heap.size + 1, 1, none⟩) (by show ¬ (w.heap.size + 3 ≤ w.heap.size + 1); omega) (.int .i64 x1)).far (q := ⟨w.heap.size + 1, 2, none⟩) (by show ¬ (w.heap.size + 3 ≤ w.heap.size + 1); omega) (.int .i64 x2)).far (q := ⟨w.heap.size + 1, 3, none⟩) (by show ¬ (w.heap.size + 3 ≤ w.heap.size + 1); omega) (.slice p3' n3 c3')).far (q := ⟨w.heap.size + 1, 4, none⟩) (by show ¬ (w.heap.size + 3 ≤ w.heap.size + 1); omega) (.slice p4' n4 c4'))).up (by omega)), HK3.out, HK4.out, ((((((HB.out.setCell (p := ⟨w.heap.size + 1 + 1, 4, none⟩) (by show w.heap.size ≤ w.heap.size + 1 + 1; omega) (.slice p4' n4 c4')).setCell (p := ⟨w.heap.size + 1, 0, none⟩) (by show w.heap.size ≤ w.heap.size + 1; omega) (.int .i64 x0)).setCell (p := ⟨w.heap.size + 1, 1, none⟩) (by show w.heap.size ≤ w.heap.size + 1; omega) (.int .i64 x1)).setCell (p := ⟨w.heap.size + 1, 2, none⟩) (by show w.heap.size ≤ w.heap.size + 1; omega) (.int .i64 x2)).setCell (p := ⟨w.heap.size + 1, 3, none⟩) (by show w.heap.size ≤ w.heap.size + 1; omega) (.slice p3' n3 c3')).setCell (p := ⟨w.heap.size + 1, 4, none⟩) (by show w.heap.size ≤ w.heap.size + 1; omega) (.slice p4' n4 c4'))⟩
set_option maxRecDepth 100000 in
set_option maxHeartbeats 4000000 in
theorem toSF_any (p : Option Addr) (n c : Nat) (xs : List A) {S : Nat → Prop} (w : World) (hr : RdD E S w p n xs) (hm : n + wts E xs ≤ 1048576) : Calls Tryz.prog 102 #[.slice p n c] w fun e w' => ∃ (q : Option Addr) (d : Nat), e = .returned (.slice q n d) ∧ FRd E w.heap.size w' q n xs ∧ n ≤ d ∧ Below w.heap.size w w' := by
  obtain ⟨i0, hi, hz0, hz1, hz2⟩ := info_parts info
  have HR := Lib.hid hr
  have hn : n ≤ 1048576 := by omega
  have HM0 := Lib.hid hm
  clear hr hm
  go_enter Tryz.func102, Tryz.ntmps102
  go_wp2_with (refine wpList_make_full _ rfl _ _ 76 rfl w.heap.size 131 i0 _ 5 Tryz.underlying76 hi hz0 hz1 .i64 .i64 _ _ n rfl rfl rfl rfl (by rw [hz2]; omega) (by unfold maxLen; omega) (Nat.le_refl _) ?_; intro w1 hown1 hg1)
  have HM := Lib.hid (MidF.start (E := E) (z := [.int .i64 0, .int .i64 0, .int .i64 0, .slice none 0 0, .slice none 0 0]) (xs := xs) (.agg #[.int .i64 0, .int .i64 0, .int .i64 0, .slice none 0 0, .slice none 0 0]) rfl rfl (by intro u hu; simp only [List.mem_cons, List.not_mem_nil, or_false] at hu; rcases hu with rfl | rfl | rfl | rfl | rfl <;> rfl) hown1 hg1)
  clear hown1 hg1
  go_loopw [4] (fun i wr => ∃ k : Nat, k ≤ n ∧ i = .int .i64 k ∧ Hid (MidF E 131 [.int .i64 0, .int .i64 0, .int .i64 0, .slice none 0 0, .slice none 0 0] xs n k w wr)) (fun i _ => n - (intOf i).toNat)
  case atStart => exact ⟨0, Nat.zero_le _, rfl, HM⟩
  case round =>
    obtain ⟨k, hk, rfl, HK⟩ := hrel
    by_cases hlt : k < n
    · obtain ⟨b, o, x, cs, rfl, _, hbw, hx, hc, hrd⟩ := HR.out.at_ hlt
      obtain ⟨x0, x1, x2, l3, l4⟩ := x
      obtain ⟨p3, n3, c3, p4, n4, c4, rfl, b0, b1, b2, h3, h4⟩ := ex hrd
      have hB := HK.out.below
      have hwt : E.wt (x0, x1, x2, l3, l4) ≤ 1048576 := by have h1 := wts_at (E := E) hx; have h2 := HM0.out; omega
      have hcc : ∀ j v, [.int .i64 x0, .int .i64 x1, .int .i64 x2, .slice p3 n3 c3, .slice p4 n4 c4][j]? = some v → wr.cell? ⟨b, o + k * 5 + j, none⟩ = some v := fun j v hv => (hB.cell (p := ⟨b, o + k * 5 + j, none⟩) hbw).trans (hc j v hv)
      have HX := Lib.hid hx
      have HW := Lib.hid hwt
      have Hb0 := Lib.hid b0
      have Hb1 := Lib.hid b1
      have Hb2 := Lib.hid b2
      have Hh3 := Lib.hid h3
      have Hh4 := Lib.hid h4
      have HBB := Lib.hid hB
      obtain ⟨u0, u1, u2, u3, u4⟩ := at_cells hcc
      clear hc hcc hrd hx hwt hB b0 b1 b2 h3 h4
      go_wp2_with fail
      refine (toF_any _ _ _ _ _ _ _ _ _ _ _ _ (Hh3.out.below HBB.out) (Hh4.out.below HBB.out) HW.out).mono ?_
      rintro e w2 ⟨p3', c3', p4', c4', rfl, ho3, ho4, hk3, hk4, hb2⟩
      obtain ⟨hz, hf⟩ := HK.out.cells hlt
      have d0 : w2.cell? ⟨w.heap.size, k * 5, none⟩ = some (.int .i64 0) := (hb2.cell (p := ⟨w.heap.size, k * 5 + 0, none⟩) HK.out.lt).trans (hz 0 _ rfl)
      have d1 : w2.cell? ⟨w.heap.size, k * 5 + 1, none⟩ = some (.int .i64 0) := (hb2.cell (p := ⟨w.heap.size, k * 5 + 1, none⟩) HK.out.lt).trans (hz 1 _ rfl)
      have d2 : w2.cell? ⟨w.heap.size, k * 5 + 2, none⟩ = some (.int .i64 0) := (hb2.cell (p := ⟨w.heap.size, k * 5 + 2, none⟩) HK.out.lt).trans (hz 2 _ rfl)
      have d3 : w2.cell? ⟨w.heap.size, k * 5 + 3, none⟩ = some (.slice none 0 0) := (hb2.cell (p := ⟨w.heap.size, k * 5 + 3, none⟩) HK.out.lt).trans (hz 3 _ rfl)
      have d4 : w2.cell? ⟨w.heap.size, k * 5 + 4, none⟩ = some (.slice none 0 0) := (hb2.cell (p := ⟨w.heap.size, k * 5 + 4, none⟩) HK.out.lt).trans (hz 4 _ rfl)
      have f0 : w2.frozen? ⟨w.heap.size, k * 5, none⟩ = false := (hb2.frozen (p := ⟨w.heap.size, k * 5 + 0, none⟩) HK.out.lt).trans (hf _)
      have f1 : w2.frozen? ⟨w.heap.size, k * 5 + 1, none⟩ = false := (hb2.frozen (p := ⟨w.heap.size, k * 5 + 1, none⟩) HK.out.lt).trans (hf _)
      have f2 : w2.frozen? ⟨w.heap.size, k * 5 + 2, none⟩ = false := (hb2.frozen (p := ⟨w.heap.size, k * 5 + 2, none⟩) HK.out.lt).trans (hf _)
      have f3 : w2.frozen? ⟨w.heap.size, k * 5 + 3, none⟩ = false := (hb2.frozen (p := ⟨w.heap.size, k * 5 + 3, none⟩) HK.out.lt).trans (hf _)
      have f4 : w2.frozen? ⟨w.heap.size, k * 5 + 4, none⟩ = false := (hb2.frozen (p := ⟨w.heap.size, k * 5 + 4, none⟩) HK.out.lt).trans (hf _)
      have HM2 := Lib.hid (HK.out.next hb2 hlt HX.out (mk (c3 := c3') (c4 := c4') Hb0.out Hb1.out Hb2.out ho3 ho4 hk3 hk4))
      clear hz hf hb2 ho3 hk3 ho4 hk4 u0 u1 u2 u3 u4
      go_wp2_with fail
      go_roundw
      case rel => exact ⟨k + 1, by omega, by go_num, HM2⟩
      case measure => simp [intOf]; omega
    · obtain rfl : k = n := by omega
      have HD := Lib.hid (HK.out.done HR.out.len (by unfold maxLen; omega))
      go_wp2_with fail
      go_ret
      exact ⟨_, _, rfl, HD.out.1, Nat.le_refl _, HD.out.2⟩
end Go.Proofs.YtpjckbdljbpliaaGreat.DfRenewal

namespace Go.Proofs.YtpjckbdljbpliaaGreat.DfStrand
open Go.ChangeShapes Go.WideShapes Go.ChangeAt Go.RowKit Sl St Ed Dz Ek DpStrand
set_option maxRecDepth 100000 in
set_option maxHeartbeats 4000000 in
theorem toF_any (l0 : List DpPiece.A) (p0 : Option Addr) (n0 c0 : Nat) (l1 : List DpRenewal.A) (p1 : Option Addr) (n1 c1 : Nat) {S0 S1 : Nat → Prop} (w : World) (h0 : RdD DpPiece.E S0 w p0 n0 l0) (h1 : RdD DpRenewal.E S1 w p1 n1 l1) (hm : E.wt (l0, l1) ≤ 1048576) : Calls Tryz.prog 81 #[.agg #[.slice p0 n0 c0, .slice p1 n1 c1]] w fun e w' => ∃ (p0' : Option Addr) (c0' : Nat) (p1' : Option Addr) (c1' : Nat), e = .returned (.agg #[.slice p0' n0 c0', .slice p1' n1 c1']) ∧ FRd DpPiece.E w.heap.size w' p0' n0 l0 ∧ FRd DpRenewal.E w.heap.size w' p1' n1 l1 ∧ n0 ≤ c0' ∧ n1 ≤ c1' ∧ Below w.heap.size w w' := by
  rw [wt_eq] at hm
  have k0 := h0.len
  have k1 := h1.len
  have m0 : n0 + wts DpPiece.E l0 ≤ 1048576 := by omega
  have m1 : n1 + wts DpRenewal.E l1 ≤ 1048576 := by omega
  have HP0 := Lib.hid h0
  have HP1 := Lib.hid h1
  clear hm h0 k0 h1 k1
  have b0 := ((Bx.new w 113 #[.slice p0 n0 c0, .slice p1 n1 c1]).alloc (.cells #[.slice none 0 0, .slice none 0 0] 78)).alloc (.cells #[.slice none 0 0, .slice none 0 0] 78)
  have b1 := (Bx.new (w.alloc (.cells #[.slice p0 n0 c0, .slice p1 n1 c1] 113)) 78 #[.slice none 0 0, .slice none 0 0]).alloc (.cells #[.slice none 0 0, .slice none 0 0] 78)
  have b2 := Bx.new ((w.alloc (.cells #[.slice p0 n0 c0, .slice p1 n1 c1] 113)).alloc (.cells #[.slice none 0 0, .slice none 0 0] 78)) 78 #[.slice none 0 0, .slice none 0 0]
  rw [World.size_alloc] at b1
  rw [World.size_alloc, World.size_alloc] at b2
  have HA := Lib.hid b0
  have HR := Lib.hid b1
  have HO := Lib.hid b2
  have HB : Hid (Below w.heap.size w (((w.alloc (.cells #[.slice p0 n0 c0, .slice p1 n1 c1] 113)).alloc (.cells #[.slice none 0 0, .slice none 0 0] 78)).alloc (.cells #[.slice none 0 0, .slice none 0 0] 78))) := Lib.hid ((((Below.refl w.heap.size w).alloc (Nat.le_refl _) _).alloc (by simp) _).alloc (by simp; omega) _)
  have HSZ : Hid (w.heap.size + 3 ≤ (((w.alloc (.cells #[.slice p0 n0 c0, .slice p1 n1 c1] 113)).alloc (.cells #[.slice none 0 0, .slice none 0 0] 78)).alloc (.cells #[.slice none 0 0, .slice none 0 0] 78)).heap.size) := Lib.hid (by simp)
  clear b0 b1 b2
  go_enter Tryz.func81, Tryz.ntmps81
  go_wp2_with fail
  generalize (((w.alloc (.cells #[.slice p0 n0 c0, .slice p1 n1 c1] 113)).alloc (.cells #[.slice none 0 0, .slice none 0 0] 78)).alloc (.cells #[.slice none 0 0, .slice none 0 0] 78)) = V at HA HR HO HB HSZ ⊢
  obtain ⟨a0, a1⟩ := bxc HA.out
  refine (DfPiece.toSF_any _ _ _ _ _ (HP0.out.below HB.out) m0).mono ?_
  rintro e w1 ⟨p0', c0', rfl, ho, hk, hb⟩
  have HK0 := Lib.hid hk
  clear hk
  have HQ0 : Hid (FRd DpPiece.E (w.heap.size + 3) w1 p0' n0 l0) := Lib.hid (ho.up HSZ.out)
  clear ho
  clear a0 a1
  replace HA := Lib.hid (HA.out.below hb)
  replace HR := Lib.hid (HR.out.below hb)
  replace HO := Lib.hid (HO.out.below hb)
  replace HB := Lib.hid (below_on HB.out hb)
  replace HSZ := Lib.hid (Nat.le_trans HSZ.out hb.size)
  clear hb
  obtain ⟨a0, a1⟩ := bxc HA.out
  obtain ⟨q0, q1⟩ := bxc HO.out
  have g0 := HO.out.free 0
  go_wp2_with fail
  have ho := (HO.out.set_ 0 (.slice p0' n0 c0'))
  simp only [List.setIfInBounds_toArray, List.set_cons_zero] at ho
  replace HO := Lib.hid ho
  clear ho a0 a1 q0 q1 g0
  replace HA := Lib.hid (HA.out.far (q := ⟨w.heap.size + 1 + 1, 0, none⟩) (by show w.heap.size ≠ w.heap.size + 1 + 1; omega) (.slice p0' n0 c0'))
  replace HR := Lib.hid (HR.out.far (q := ⟨w.heap.size + 1 + 1, 0, none⟩) (by show w.heap.size + 1 ≠ w.heap.size + 1 + 1; omega) (.slice p0' n0 c0'))
  replace HQ0 := Lib.hid (HQ0.out.far (q := ⟨w.heap.size + 1 + 1, 0, none⟩) (by show ¬ (w.heap.size + 3 ≤ w.heap.size + 1 + 1); omega) (.slice p0' n0 c0'))
  replace HB := Lib.hid (HB.out.setCell (p := ⟨w.heap.size + 1 + 1, 0, none⟩) (by show w.heap.size ≤ w.heap.size + 1 + 1; omega) (.slice p0' n0 c0'))
  replace HSZ : Hid (w.heap.size + 3 ≤ (w1.setCell ⟨w.heap.size + 1 + 1, 0, none⟩ (.slice p0' n0 c0')).heap.size) := Lib.hid (by simpa [World.setCell] using HSZ.out)
  generalize (w1.setCell ⟨w.heap.size + 1 + 1, 0, none⟩ (.slice p0' n0 c0')) = V1 at HA HR HO HB HSZ HQ0 ⊢
  obtain ⟨a0, a1⟩ := bxc HA.out
  refine (DfRenewal.toSF_any _ _ _ _ _ (HP1.out.below HB.out) m1).mono ?_
  rintro e w2 ⟨p1', c1', rfl, ho, hk, hb⟩
  have HK1 := Lib.hid hk
  clear hk
  have HQ1 : Hid (FRd DpRenewal.E (w.heap.size + 3) w2 p1' n1 l1) := Lib.hid (ho.up HSZ.out)
  clear ho
  clear a0 a1
  replace HA := Lib.hid (HA.out.below hb)
  replace HR := Lib.hid (HR.out.below hb)
  replace HO := Lib.hid (HO.out.below hb)
  replace HQ0 := Lib.hid (HQ0.out.below hb)
  replace HB := Lib.hid (below_on HB.out hb)
  replace HSZ := Lib.hid (Nat.le_trans HSZ.out hb.size)
  clear hb
  obtain ⟨a0, a1⟩ := bxc HA.out
  obtain ⟨q0, q1⟩ := bxc HO.out
  have g1 := HO.out.free 1
  obtain ⟨r0, r1⟩ := bxc HR.out
  have s0 := HR.out.free 0
  have s1 := HR.out.free 1
  go_wp2_with fail
  exact bodyPost_ret (v := .agg #[.slice p0' n0 c0', .slice p1' n1 c1']) (by simp [results, Tryz.results81, go_sem, r0, r1]) rfl ⟨p0', c0', p1', c1', rfl, (((((HQ0.out.far (q := ⟨w.heap.size + 1 + 1, 1, none⟩) (by show ¬ (w.heap.size + 3 ≤ w.heap.size + 1 + 1); omega) (.slice p1' n1 c1')).far (q := ⟨w.heap.size + 1, 0, none⟩) (by show ¬ (w.heap.size + 3 ≤ w.heap.size + 1); omega) (.slice p0' n0 c0')).far (q := ⟨w.heap.size + 1, 1, none⟩) (by show ¬ (w.heap.size + 3 ≤ w.heap.size + 1); omega) (.slice p1' n1 c1'))).up (by omega)), (((((HQ1.out.far (q := ⟨w.heap.size + 1 + 1, 1, none⟩) (by show ¬ (w.heap.size + 3 ≤ w.heap.size + 1 + 1); omega) (.slice p1' n1 c1')).far (q := ⟨w.heap.size + 1, 0, none⟩) (by show ¬ (w.heap.size + 3 ≤ w.heap.size + 1); omega) (.slice p0' n0 c0')).far (q := ⟨w.heap.size + 1, 1, none⟩) (by show ¬ (w.heap.size + 3 ≤ w.heap.size + 1); omega) (.slice p1' n1 c1'))).up (by omega)), HK0.out, HK1.out, (((HB.out.setCell (p := ⟨w.heap.size + 1 + 1, 1, none⟩) (by show w.heap.size ≤ w.heap.size + 1 + 1; omega) (.slice p1' n1 c1')).setCell (p := ⟨w.heap.size + 1, 0, none⟩) (by show w.heap.size ≤ w.heap.size + 1; omega) (.slice p0' n0 c0')).setCell (p := ⟨w.heap.size + 1, 1, none⟩) (by show w.heap.size ≤ w.heap.size + 1; omega) (.slice p1' n1 c1'))⟩
end Go.Proofs.YtpjckbdljbpliaaGreat.DfStrand

namespace Go.Proofs.YtpjckbdljbpliaaGreat.DfItem
open Go.ChangeShapes Go.WideShapes Go.ChangeAt Go.RowKit Sl St Ed Dz Ek DpItem
set_option maxRecDepth 100000 in
set_option maxHeartbeats 4000000 in
theorem toF_any (x0 : Int) (x1 : Int) (x2 : Int) (l3 : List ByteArray) (p3 : Option Addr) (n3 c3 : Nat) (l4 : List Int) (p4 : Option Addr) (n4 c4 : Nat) (x5 : Int) (x6 : Int) (x7 : Int) (x8 : Int) (x9 : Int) (x10 : Int) (x11 : Int) (x12 : Int) (x13 : Int) (l14 : List DpPiece.A) (p14 : Option Addr) (n14 c14 : Nat) (l15 : List DpRenewal.A) (p15 : Option Addr) (n15 c15 : Nat) {S3 S4 S14 S15 : Nat → Prop} (w : World) (h3 : RdD str S3 w p3 n3 l3) (h4 : RdD int S4 w p4 n4 l4) (h14 : RdD DpPiece.E S14 w p14 n14 l14) (h15 : RdD DpRenewal.E S15 w p15 n15 l15) (hm : E.wt (x0, x1, (x2, l3, l4), (x5, x6, x7, x8, x9, x10, x11, x12, x13), (l14, l15)) ≤ 1048576) : Calls Tryz.prog 60 #[.agg #[.int .i64 x0, .int .i64 x1, .int .i64 x2, .slice p3 n3 c3, .slice p4 n4 c4, .int .i64 x5, .int .i64 x6, .int .i64 x7, .int .i64 x8, .int .i64 x9, .int .i64 x10, .int .i64 x11, .int .i64 x12, .int .i64 x13, .slice p14 n14 c14, .slice p15 n15 c15]] w fun e w' => ∃ (p3' : Option Addr) (c3' : Nat) (p4' : Option Addr) (c4' : Nat) (p14' : Option Addr) (c14' : Nat) (p15' : Option Addr) (c15' : Nat), e = .returned (.agg #[.int .i64 x0, .int .i64 x1, .int .i64 x2, .slice p3' n3 c3', .slice p4' n4 c4', .int .i64 x5, .int .i64 x6, .int .i64 x7, .int .i64 x8, .int .i64 x9, .int .i64 x10, .int .i64 x11, .int .i64 x12, .int .i64 x13, .slice p14' n14 c14', .slice p15' n15 c15']) ∧ FRd str w.heap.size w' p3' n3 l3 ∧ FRd int w.heap.size w' p4' n4 l4 ∧ FRd DpPiece.E w.heap.size w' p14' n14 l14 ∧ FRd DpRenewal.E w.heap.size w' p15' n15 l15 ∧ n3 ≤ c3' ∧ n4 ≤ c4' ∧ n14 ≤ c14' ∧ n15 ≤ c15' ∧ Below w.heap.size w w' := by
  rw [wt_eq] at hm
  have k3 := h3.len
  have k4 := h4.len
  have k14 := h14.len
  have k15 := h15.len
  have m2 : DpDocument.E.wt (x2, l3, l4) ≤ 1048576 := by omega
  have m14 : DpStrand.E.wt (l14, l15) ≤ 1048576 := by omega
  have HP3 := Lib.hid h3
  have HP4 := Lib.hid h4
  have HP14 := Lib.hid h14
  have HP15 := Lib.hid h15
  clear hm h3 k3 h4 k4 h14 k14 h15 k15
  have b0 := ((Bx.new w 115 #[.int .i64 x0, .int .i64 x1, .int .i64 x2, .slice p3 n3 c3, .slice p4 n4 c4, .int .i64 x5, .int .i64 x6, .int .i64 x7, .int .i64 x8, .int .i64 x9, .int .i64 x10, .int .i64 x11, .int .i64 x12, .int .i64 x13, .slice p14 n14 c14, .slice p15 n15 c15]).alloc (.cells #[.int .i64 0, .int .i64 0, .int .i64 0, .slice none 0 0, .slice none 0 0, .int .i64 0, .int .i64 0, .int .i64 0, .int .i64 0, .int .i64 0, .int .i64 0, .int .i64 0, .int .i64 0, .int .i64 0, .slice none 0 0, .slice none 0 0] 80)).alloc (.cells #[.int .i64 x0, .int .i64 x1, .int .i64 0, .slice none 0 0, .slice none 0 0, .int .i64 0, .int .i64 0, .int .i64 0, .int .i64 0, .int .i64 0, .int .i64 0, .int .i64 0, .int .i64 0, .int .i64 0, .slice none 0 0, .slice none 0 0] 80)
  have b1 := (Bx.new (w.alloc (.cells #[.int .i64 x0, .int .i64 x1, .int .i64 x2, .slice p3 n3 c3, .slice p4 n4 c4, .int .i64 x5, .int .i64 x6, .int .i64 x7, .int .i64 x8, .int .i64 x9, .int .i64 x10, .int .i64 x11, .int .i64 x12, .int .i64 x13, .slice p14 n14 c14, .slice p15 n15 c15] 115)) 80 #[.int .i64 0, .int .i64 0, .int .i64 0, .slice none 0 0, .slice none 0 0, .int .i64 0, .int .i64 0, .int .i64 0, .int .i64 0, .int .i64 0, .int .i64 0, .int .i64 0, .int .i64 0, .int .i64 0, .slice none 0 0, .slice none 0 0]).alloc (.cells #[.int .i64 x0, .int .i64 x1, .int .i64 0, .slice none 0 0, .slice none 0 0, .int .i64 0, .int .i64 0, .int .i64 0, .int .i64 0, .int .i64 0, .int .i64 0, .int .i64 0, .int .i64 0, .int .i64 0, .slice none 0 0, .slice none 0 0] 80)
  have b2 := Bx.new ((w.alloc (.cells #[.int .i64 x0, .int .i64 x1, .int .i64 x2, .slice p3 n3 c3, .slice p4 n4 c4, .int .i64 x5, .int .i64 x6, .int .i64 x7, .int .i64 x8, .int .i64 x9, .int .i64 x10, .int .i64 x11, .int .i64 x12, .int .i64 x13, .slice p14 n14 c14, .slice p15 n15 c15] 115)).alloc (.cells #[.int .i64 0, .int .i64 0, .int .i64 0, .slice none 0 0, .slice none 0 0, .int .i64 0, .int .i64 0, .int .i64 0, .int .i64 0, .int .i64 0, .int .i64 0, .int .i64 0, .int .i64 0, .int .i64 0, .slice none 0 0, .slice none 0 0] 80)) 80 #[.int .i64 x0, .int .i64 x1, .int .i64 0, .slice none 0 0, .slice none 0 0, .int .i64 0, .int .i64 0, .int .i64 0, .int .i64 0, .int .i64 0, .int .i64 0, .int .i64 0, .int .i64 0, .int .i64 0, .slice none 0 0, .slice none 0 0]
  rw [World.size_alloc] at b1
  rw [World.size_alloc, World.size_alloc] at b2
  have HA := Lib.hid b0
  have HR := Lib.hid b1
  have HO := Lib.hid b2
  have HB : Hid (Below w.heap.size w (((w.alloc (.cells #[.int .i64 x0, .int .i64 x1, .int .i64 x2, .slice p3 n3 c3, .slice p4 n4 c4, .int .i64 x5, .int .i64 x6, .int .i64 x7, .int .i64 x8, .int .i64 x9, .int .i64 x10, .int .i64 x11, .int .i64 x12, .int .i64 x13, .slice p14 n14 c14, .slice p15 n15 c15] 115)).alloc (.cells #[.int .i64 0, .int .i64 0, .int .i64 0, .slice none 0 0, .slice none 0 0, .int .i64 0, .int .i64 0, .int .i64 0, .int .i64 0, .int .i64 0, .int .i64 0, .int .i64 0, .int .i64 0, .int .i64 0, .slice none 0 0, .slice none 0 0] 80)).alloc (.cells #[.int .i64 x0, .int .i64 x1, .int .i64 0, .slice none 0 0, .slice none 0 0, .int .i64 0, .int .i64 0, .int .i64 0, .int .i64 0, .int .i64 0, .int .i64 0, .int .i64 0, .int .i64 0, .int .i64 0, .slice none 0 0, .slice none 0 0] 80))) := Lib.hid ((((Below.refl w.heap.size w).alloc (Nat.le_refl _) _).alloc (by simp) _).alloc (by simp; omega) _)
  have HSZ : Hid (w.heap.size + 3 ≤ (((w.alloc (.cells #[.int .i64 x0, .int .i64 x1, .int .i64 x2, .slice p3 n3 c3, .slice p4 n4 c4, .int .i64 x5, .int .i64 x6, .int .i64 x7, .int .i64 x8, .int .i64 x9, .int .i64 x10, .int .i64 x11, .int .i64 x12, .int .i64 x13, .slice p14 n14 c14, .slice p15 n15 c15] 115)).alloc (.cells #[.int .i64 0, .int .i64 0, .int .i64 0, .slice none 0 0, .slice none 0 0, .int .i64 0, .int .i64 0, .int .i64 0, .int .i64 0, .int .i64 0, .int .i64 0, .int .i64 0, .int .i64 0, .int .i64 0, .slice none 0 0, .slice none 0 0] 80)).alloc (.cells #[.int .i64 x0, .int .i64 x1, .int .i64 0, .slice none 0 0, .slice none 0 0, .int .i64 0, .int .i64 0, .int .i64 0, .int .i64 0, .int .i64 0, .int .i64 0, .int .i64 0, .int .i64 0, .int .i64 0, .slice none 0 0, .slice none 0 0] 80)).heap.size) := Lib.hid (by simp)
  clear b0 b1 b2
  go_enter Tryz.func60, Tryz.ntmps60
  go_wp2_with fail
  generalize (((w.alloc (.cells #[.int .i64 x0, .int .i64 x1, .int .i64 x2, .slice p3 n3 c3, .slice p4 n4 c4, .int .i64 x5, .int .i64 x6, .int .i64 x7, .int .i64 x8, .int .i64 x9, .int .i64 x10, .int .i64 x11, .int .i64 x12, .int .i64 x13, .slice p14 n14 c14, .slice p15 n15 c15] 115)).alloc (.cells #[.int .i64 0, .int .i64 0, .int .i64 0, .slice none 0 0, .slice none 0 0, .int .i64 0, .int .i64 0, .int .i64 0, .int .i64 0, .int .i64 0, .int .i64 0, .int .i64 0, .int .i64 0, .int .i64 0, .slice none 0 0, .slice none 0 0] 80)).alloc (.cells #[.int .i64 x0, .int .i64 x1, .int .i64 0, .slice none 0 0, .slice none 0 0, .int .i64 0, .int .i64 0, .int .i64 0, .int .i64 0, .int .i64 0, .int .i64 0, .int .i64 0, .int .i64 0, .int .i64 0, .slice none 0 0, .slice none 0 0] 80)) = V at HA HR HO HB HSZ ⊢
  obtain ⟨a0, a1, a2, a3, a4, a5, a6, a7, a8, a9, a10, a11, a12, a13, a14, a15⟩ := bxc HA.out
  refine (DfDocument.toF_any _ _ _ _ _ _ _ _ _ _ (HP3.out.below HB.out) (HP4.out.below HB.out) m2).mono ?_
  rintro e w1 ⟨p3', c3', p4', c4', rfl, ho3, ho4, hk3, hk4, hb⟩
  have HK3 := Lib.hid hk3
  have HK4 := Lib.hid hk4
  clear hk3 hk4
  have HQ3 : Hid (FRd str (w.heap.size + 3) w1 p3' n3 l3) := Lib.hid (ho3.up HSZ.out)
  have HQ4 : Hid (FRd int (w.heap.size + 3) w1 p4' n4 l4) := Lib.hid (ho4.up HSZ.out)
  clear ho3 ho4
  clear a0 a1 a2 a3 a4 a5 a6 a7 a8 a9 a10 a11 a12 a13 a14 a15
  replace HA := Lib.hid (HA.out.below hb)
  replace HR := Lib.hid (HR.out.below hb)
  replace HO := Lib.hid (HO.out.below hb)
  replace HB := Lib.hid (below_on HB.out hb)
  replace HSZ := Lib.hid (Nat.le_trans HSZ.out hb.size)
  clear hb
  obtain ⟨a0, a1, a2, a3, a4, a5, a6, a7, a8, a9, a10, a11, a12, a13, a14, a15⟩ := bxc HA.out
  obtain ⟨q0, q1, q2, q3, q4, q5, q6, q7, q8, q9, q10, q11, q12, q13, q14, q15⟩ := bxc HO.out
  have g2 := HO.out.free 2
  have g3 := HO.out.free 3
  have g4 := HO.out.free 4
  go_wp2_with fail
  have ho := (((HO.out.set_ 2 (.int .i64 x2)).set_ 3 (.slice p3' n3 c3')).set_ 4 (.slice p4' n4 c4'))
  simp only [List.setIfInBounds_toArray, List.set_cons_zero, List.set_cons_succ] at ho
  replace HO := Lib.hid ho
  clear ho a0 a1 a2 a3 a4 a5 a6 a7 a8 a9 a10 a11 a12 a13 a14 a15 q0 q1 q2 q3 q4 q5 q6 q7 q8 q9 q10 q11 q12 q13 q14 q15 g2 g3 g4
  replace HA := Lib.hid (((HA.out.far (q := ⟨w.heap.size + 1 + 1, 2, none⟩) (by show w.heap.size ≠ w.heap.size + 1 + 1; omega) (.int .i64 x2)).far (q := ⟨w.heap.size + 1 + 1, 3, none⟩) (by show w.heap.size ≠ w.heap.size + 1 + 1; omega) (.slice p3' n3 c3')).far (q := ⟨w.heap.size + 1 + 1, 4, none⟩) (by show w.heap.size ≠ w.heap.size + 1 + 1; omega) (.slice p4' n4 c4'))
  replace HR := Lib.hid (((HR.out.far (q := ⟨w.heap.size + 1 + 1, 2, none⟩) (by show w.heap.size + 1 ≠ w.heap.size + 1 + 1; omega) (.int .i64 x2)).far (q := ⟨w.heap.size + 1 + 1, 3, none⟩) (by show w.heap.size + 1 ≠ w.heap.size + 1 + 1; omega) (.slice p3' n3 c3')).far (q := ⟨w.heap.size + 1 + 1, 4, none⟩) (by show w.heap.size + 1 ≠ w.heap.size + 1 + 1; omega) (.slice p4' n4 c4'))
  replace HQ3 := Lib.hid (((HQ3.out.far (q := ⟨w.heap.size + 1 + 1, 2, none⟩) (by show ¬ (w.heap.size + 3 ≤ w.heap.size + 1 + 1); omega) (.int .i64 x2)).far (q := ⟨w.heap.size + 1 + 1, 3, none⟩) (by show ¬ (w.heap.size + 3 ≤ w.heap.size + 1 + 1); omega) (.slice p3' n3 c3')).far (q := ⟨w.heap.size + 1 + 1, 4, none⟩) (by show ¬ (w.heap.size + 3 ≤ w.heap.size + 1 + 1); omega) (.slice p4' n4 c4'))
  replace HQ4 := Lib.hid (((HQ4.out.far (q := ⟨w.heap.size + 1 + 1, 2, none⟩) (by show ¬ (w.heap.size + 3 ≤ w.heap.size + 1 + 1); omega) (.int .i64 x2)).far (q := ⟨w.heap.size + 1 + 1, 3, none⟩) (by show ¬ (w.heap.size + 3 ≤ w.heap.size + 1 + 1); omega) (.slice p3' n3 c3')).far (q := ⟨w.heap.size + 1 + 1, 4, none⟩) (by show ¬ (w.heap.size + 3 ≤ w.heap.size + 1 + 1); omega) (.slice p4' n4 c4'))
  replace HB := Lib.hid (((HB.out.setCell (p := ⟨w.heap.size + 1 + 1, 2, none⟩) (by show w.heap.size ≤ w.heap.size + 1 + 1; omega) (.int .i64 x2)).setCell (p := ⟨w.heap.size + 1 + 1, 3, none⟩) (by show w.heap.size ≤ w.heap.size + 1 + 1; omega) (.slice p3' n3 c3')).setCell (p := ⟨w.heap.size + 1 + 1, 4, none⟩) (by show w.heap.size ≤ w.heap.size + 1 + 1; omega) (.slice p4' n4 c4'))
  replace HSZ : Hid (w.heap.size + 3 ≤ (((w1.setCell ⟨w.heap.size + 1 + 1, 2, none⟩ (.int .i64 x2)).setCell ⟨w.heap.size + 1 + 1, 3, none⟩ (.slice p3' n3 c3')).setCell ⟨w.heap.size + 1 + 1, 4, none⟩ (.slice p4' n4 c4')).heap.size) := Lib.hid (by simpa [World.setCell] using HSZ.out)
  generalize (((w1.setCell ⟨w.heap.size + 1 + 1, 2, none⟩ (.int .i64 x2)).setCell ⟨w.heap.size + 1 + 1, 3, none⟩ (.slice p3' n3 c3')).setCell ⟨w.heap.size + 1 + 1, 4, none⟩ (.slice p4' n4 c4')) = V1 at HA HR HO HB HSZ HQ3 HQ4 ⊢
  obtain ⟨a0, a1, a2, a3, a4, a5, a6, a7, a8, a9, a10, a11, a12, a13, a14, a15⟩ := bxc HA.out
  refine (SlSignature.val_any _ _ _ _ _ _ _ _ _ _).mono ?_
  rintro e w2 ⟨rfl, hb⟩
  clear a0 a1 a2 a3 a4 a5 a6 a7 a8 a9 a10 a11 a12 a13 a14 a15
  replace HA := Lib.hid (HA.out.below hb)
  replace HR := Lib.hid (HR.out.below hb)
  replace HO := Lib.hid (HO.out.below hb)
  replace HQ3 := Lib.hid (HQ3.out.below hb)
  replace HQ4 := Lib.hid (HQ4.out.below hb)
  replace HB := Lib.hid (below_on HB.out hb)
  replace HSZ := Lib.hid (Nat.le_trans HSZ.out hb.size)
  clear hb
  obtain ⟨a0, a1, a2, a3, a4, a5, a6, a7, a8, a9, a10, a11, a12, a13, a14, a15⟩ := bxc HA.out
  obtain ⟨q0, q1, q2, q3, q4, q5, q6, q7, q8, q9, q10, q11, q12, q13, q14, q15⟩ := bxc HO.out
  have g5 := HO.out.free 5
  have g6 := HO.out.free 6
  have g7 := HO.out.free 7
  have g8 := HO.out.free 8
  have g9 := HO.out.free 9
  have g10 := HO.out.free 10
  have g11 := HO.out.free 11
  have g12 := HO.out.free 12
  have g13 := HO.out.free 13
  go_wp2_with fail
  have ho := (((((((((HO.out.set_ 5 (.int .i64 x5)).set_ 6 (.int .i64 x6)).set_ 7 (.int .i64 x7)).set_ 8 (.int .i64 x8)).set_ 9 (.int .i64 x9)).set_ 10 (.int .i64 x10)).set_ 11 (.int .i64 x11)).set_ 12 (.int .i64 x12)).set_ 13 (.int .i64 x13))
  simp only [List.setIfInBounds_toArray, List.set_cons_zero, List.set_cons_succ] at ho
  replace HO := Lib.hid ho
  clear ho a0 a1 a2 a3 a4 a5 a6 a7 a8 a9 a10 a11 a12 a13 a14 a15 q0 q1 q2 q3 q4 q5 q6 q7 q8 q9 q10 q11 q12 q13 q14 q15 g5 g6 g7 g8 g9 g10 g11 g12 g13
  replace HA := Lib.hid (((((((((HA.out.far (q := ⟨w.heap.size + 1 + 1, 5, none⟩) (by show w.heap.size ≠ w.heap.size + 1 + 1; omega) (.int .i64 x5)).far (q := ⟨w.heap.size + 1 + 1, 6, none⟩) (by show w.heap.size ≠ w.heap.size + 1 + 1; omega) (.int .i64 x6)).far (q := ⟨w.heap.size + 1 + 1, 7, none⟩) (by show w.heap.size ≠ w.heap.size + 1 + 1; omega) (.int .i64 x7)).far (q := ⟨w.heap.size + 1 + 1, 8, none⟩) (by show w.heap.size ≠ w.heap.size + 1 + 1; omega) (.int .i64 x8)).far (q := ⟨w.heap.size + 1 + 1, 9, none⟩) (by show w.heap.size ≠ w.heap.size + 1 + 1; omega) (.int .i64 x9)).far (q := ⟨w.heap.size + 1 + 1, 10, none⟩) (by show w.heap.size ≠ w.heap.size + 1 + 1; omega) (.int .i64 x10)).far (q := ⟨w.heap.size + 1 + 1, 11, none⟩) (by show w.heap.size ≠ w.heap.size + 1 + 1; omega) (.int .i64 x11)).far (q := ⟨w.heap.size + 1 + 1, 12, none⟩) (by show w.heap.size ≠ w.heap.size + 1 + 1; omega) (.int .i64 x12)).far (q := ⟨w.heap.size + 1 + 1, 13, none⟩) (by show w.heap.size ≠ w.heap.size + 1 + 1; omega) (.int .i64 x13))
  replace HR := Lib.hid (((((((((HR.out.far (q := ⟨w.heap.size + 1 + 1, 5, none⟩) (by show w.heap.size + 1 ≠ w.heap.size + 1 + 1; omega) (.int .i64 x5)).far (q := ⟨w.heap.size + 1 + 1, 6, none⟩) (by show w.heap.size + 1 ≠ w.heap.size + 1 + 1; omega) (.int .i64 x6)).far (q := ⟨w.heap.size + 1 + 1, 7, none⟩) (by show w.heap.size + 1 ≠ w.heap.size + 1 + 1; omega) (.int .i64 x7)).far (q := ⟨w.heap.size + 1 + 1, 8, none⟩) (by show w.heap.size + 1 ≠ w.heap.size + 1 + 1; omega) (.int .i64 x8)).far (q := ⟨w.heap.size + 1 + 1, 9, none⟩) (by show w.heap.size + 1 ≠ w.heap.size + 1 + 1; omega) (.int .i64 x9)).far (q := ⟨w.heap.size + 1 + 1, 10, none⟩) (by show w.heap.size + 1 ≠ w.heap.size + 1 + 1; omega) (.int .i64 x10)).far (q := ⟨w.heap.size + 1 + 1, 11, none⟩) (by show w.heap.size + 1 ≠ w.heap.size + 1 + 1; omega) (.int .i64 x11)).far (q := ⟨w.heap.size + 1 + 1, 12, none⟩) (by show w.heap.size + 1 ≠ w.heap.size + 1 + 1; omega) (.int .i64 x12)).far (q := ⟨w.heap.size + 1 + 1, 13, none⟩) (by show w.heap.size + 1 ≠ w.heap.size + 1 + 1; omega) (.int .i64 x13))
  replace HQ3 := Lib.hid (((((((((HQ3.out.far (q := ⟨w.heap.size + 1 + 1, 5, none⟩) (by show ¬ (w.heap.size + 3 ≤ w.heap.size + 1 + 1); omega) (.int .i64 x5)).far (q := ⟨w.heap.size + 1 + 1, 6, none⟩) (by show ¬ (w.heap.size + 3 ≤ w.heap.size + 1 + 1); omega) (.int .i64 x6)).far (q := ⟨w.heap.size + 1 + 1, 7, none⟩) (by show ¬ (w.heap.size + 3 ≤ w.heap.size + 1 + 1); omega) (.int .i64 x7)).far (q := ⟨w.heap.size + 1 + 1, 8, none⟩) (by show ¬ (w.heap.size + 3 ≤ w.heap.size + 1 + 1); omega) (.int .i64 x8)).far (q := ⟨w.heap.size + 1 + 1, 9, none⟩) (by show ¬ (w.heap.size + 3 ≤ w.heap.size + 1 + 1); omega) (.int .i64 x9)).far (q := ⟨w.heap.size + 1 + 1, 10, none⟩) (by show ¬ (w.heap.size + 3 ≤ w.heap.size + 1 + 1); omega) (.int .i64 x10)).far (q := ⟨w.heap.size + 1 + 1, 11, none⟩) (by show ¬ (w.heap.size + 3 ≤ w.heap.size + 1 + 1); omega) (.int .i64 x11)).far (q := ⟨w.heap.size + 1 + 1, 12, none⟩) (by show ¬ (w.heap.size + 3 ≤ w.heap.size + 1 + 1); omega) (.int .i64 x12)).far (q := ⟨w.heap.size + 1 + 1, 13, none⟩) (by show ¬ (w.heap.size + 3 ≤ w.heap.size + 1 + 1); omega) (.int .i64 x13))
  replace HQ4 := Lib.hid (((((((((HQ4.out.far (q := ⟨w.heap.size + 1 + 1, 5, none⟩) (by show ¬ (w.heap.size + 3 ≤ w.heap.size + 1 + 1); omega) (.int .i64 x5)).far (q := ⟨w.heap.size + 1 + 1, 6, none⟩) (by show ¬ (w.heap.size + 3 ≤ w.heap.size + 1 + 1); omega) (.int .i64 x6)).far (q := ⟨w.heap.size + 1 + 1, 7, none⟩) (by show ¬ (w.heap.size + 3 ≤ w.heap.size + 1 + 1); omega) (.int .i64 x7)).far (q := ⟨w.heap.size + 1 + 1, 8, none⟩) (by show ¬ (w.heap.size + 3 ≤ w.heap.size + 1 + 1); omega) (.int .i64 x8)).far (q := ⟨w.heap.size + 1 + 1, 9, none⟩) (by show ¬ (w.heap.size + 3 ≤ w.heap.size + 1 + 1); omega) (.int .i64 x9)).far (q := ⟨w.heap.size + 1 + 1, 10, none⟩) (by show ¬ (w.heap.size + 3 ≤ w.heap.size + 1 + 1); omega) (.int .i64 x10)).far (q := ⟨w.heap.size + 1 + 1, 11, none⟩) (by show ¬ (w.heap.size + 3 ≤ w.heap.size + 1 + 1); omega) (.int .i64 x11)).far (q := ⟨w.heap.size + 1 + 1, 12, none⟩) (by show ¬ (w.heap.size + 3 ≤ w.heap.size + 1 + 1); omega) (.int .i64 x12)).far (q := ⟨w.heap.size + 1 + 1, 13, none⟩) (by show ¬ (w.heap.size + 3 ≤ w.heap.size + 1 + 1); omega) (.int .i64 x13))
  replace HB := Lib.hid (((((((((HB.out.setCell (p := ⟨w.heap.size + 1 + 1, 5, none⟩) (by show w.heap.size ≤ w.heap.size + 1 + 1; omega) (.int .i64 x5)).setCell (p := ⟨w.heap.size + 1 + 1, 6, none⟩) (by show w.heap.size ≤ w.heap.size + 1 + 1; omega) (.int .i64 x6)).setCell (p := ⟨w.heap.size + 1 + 1, 7, none⟩) (by show w.heap.size ≤ w.heap.size + 1 + 1; omega) (.int .i64 x7)).setCell (p := ⟨w.heap.size + 1 + 1, 8, none⟩) (by show w.heap.size ≤ w.heap.size + 1 + 1; omega) (.int .i64 x8)).setCell (p := ⟨w.heap.size + 1 + 1, 9, none⟩) (by show w.heap.size ≤ w.heap.size + 1 + 1; omega) (.int .i64 x9)).setCell (p := ⟨w.heap.size + 1 + 1, 10, none⟩) (by show w.heap.size ≤ w.heap.size + 1 + 1; omega) (.int .i64 x10)).setCell (p := ⟨w.heap.size + 1 + 1, 11, none⟩) (by show w.heap.size ≤ w.heap.size + 1 + 1; omega) (.int .i64 x11)).setCell (p := ⟨w.heap.size + 1 + 1, 12, none⟩) (by show w.heap.size ≤ w.heap.size + 1 + 1; omega) (.int .i64 x12)).setCell (p := ⟨w.heap.size + 1 + 1, 13, none⟩) (by show w.heap.size ≤ w.heap.size + 1 + 1; omega) (.int .i64 x13))
  replace HSZ : Hid (w.heap.size + 3 ≤ (((((((((w2.setCell ⟨w.heap.size + 1 + 1, 5, none⟩ (.int .i64 x5)).setCell ⟨w.heap.size + 1 + 1, 6, none⟩ (.int .i64 x6)).setCell ⟨w.heap.size + 1 + 1, 7, none⟩ (.int .i64 x7)).setCell ⟨w.heap.size + 1 + 1, 8, none⟩ (.int .i64 x8)).setCell ⟨w.heap.size + 1 + 1, 9, none⟩ (.int .i64 x9)).setCell ⟨w.heap.size + 1 + 1, 10, none⟩ (.int .i64 x10)).setCell ⟨w.heap.size + 1 + 1, 11, none⟩ (.int .i64 x11)).setCell ⟨w.heap.size + 1 + 1, 12, none⟩ (.int .i64 x12)).setCell ⟨w.heap.size + 1 + 1, 13, none⟩ (.int .i64 x13)).heap.size) := Lib.hid (by simpa [World.setCell] using HSZ.out)
  generalize (((((((((w2.setCell ⟨w.heap.size + 1 + 1, 5, none⟩ (.int .i64 x5)).setCell ⟨w.heap.size + 1 + 1, 6, none⟩ (.int .i64 x6)).setCell ⟨w.heap.size + 1 + 1, 7, none⟩ (.int .i64 x7)).setCell ⟨w.heap.size + 1 + 1, 8, none⟩ (.int .i64 x8)).setCell ⟨w.heap.size + 1 + 1, 9, none⟩ (.int .i64 x9)).setCell ⟨w.heap.size + 1 + 1, 10, none⟩ (.int .i64 x10)).setCell ⟨w.heap.size + 1 + 1, 11, none⟩ (.int .i64 x11)).setCell ⟨w.heap.size + 1 + 1, 12, none⟩ (.int .i64 x12)).setCell ⟨w.heap.size + 1 + 1, 13, none⟩ (.int .i64 x13)) = V2 at HA HR HO HB HSZ HQ3 HQ4 ⊢
  obtain ⟨a0, a1, a2, a3, a4, a5, a6, a7, a8, a9, a10, a11, a12, a13, a14, a15⟩ := bxc HA.out
  refine (DfStrand.toF_any _ _ _ _ _ _ _ _ _ (HP14.out.below HB.out) (HP15.out.below HB.out) m14).mono ?_
  rintro e w3 ⟨p14', c14', p15', c15', rfl, ho14, ho15, hk14, hk15, hb⟩
  have HK14 := Lib.hid hk14
  have HK15 := Lib.hid hk15
  clear hk14 hk15
  have HQ14 : Hid (FRd DpPiece.E (w.heap.size + 3) w3 p14' n14 l14) := Lib.hid (ho14.up HSZ.out)
  have HQ15 : Hid (FRd DpRenewal.E (w.heap.size + 3) w3 p15' n15 l15) := Lib.hid (ho15.up HSZ.out)
  clear ho14 ho15
  clear a0 a1 a2 a3 a4 a5 a6 a7 a8 a9 a10 a11 a12 a13 a14 a15
  replace HA := Lib.hid (HA.out.below hb)
  replace HR := Lib.hid (HR.out.below hb)
  replace HO := Lib.hid (HO.out.below hb)
  replace HQ3 := Lib.hid (HQ3.out.below hb)
  replace HQ4 := Lib.hid (HQ4.out.below hb)
  replace HB := Lib.hid (below_on HB.out hb)
  replace HSZ := Lib.hid (Nat.le_trans HSZ.out hb.size)
  clear hb
  obtain ⟨a0, a1, a2, a3, a4, a5, a6, a7, a8, a9, a10, a11, a12, a13, a14, a15⟩ := bxc HA.out
  obtain ⟨q0, q1, q2, q3, q4, q5, q6, q7, q8, q9, q10, q11, q12, q13, q14, q15⟩ := bxc HO.out
  have g14 := HO.out.free 14
  have g15 := HO.out.free 15
  obtain ⟨r0, r1, r2, r3, r4, r5, r6, r7, r8, r9, r10, r11, r12, r13, r14, r15⟩ := bxc HR.out
  have s0 := HR.out.free 0
  have s1 := HR.out.free 1
  have s2 := HR.out.free 2
  have s3 := HR.out.free 3
  have s4 := HR.out.free 4
  have s5 := HR.out.free 5
  have s6 := HR.out.free 6
  have s7 := HR.out.free 7
  have s8 := HR.out.free 8
  have s9 := HR.out.free 9
  have s10 := HR.out.free 10
  have s11 := HR.out.free 11
  have s12 := HR.out.free 12
  have s13 := HR.out.free 13
  have s14 := HR.out.free 14
  have s15 := HR.out.free 15
  go_wp2_with fail
  exact bodyPost_ret (v := .agg #[.int .i64 x0, .int .i64 x1, .int .i64 x2, .slice p3' n3 c3', .slice p4' n4 c4', .int .i64 x5, .int .i64 x6, .int .i64 x7, .int .i64 x8, .int .i64 x9, .int .i64 x10, .int .i64 x11, .int .i64 x12, .int .i64 x13, .slice p14' n14 c14', .slice p15' n15 c15']) (by simp [results, Tryz.results60, go_sem, r0, r1, r2, r3, r4, r5, r6, r7, r8, r9, r10, r11, r12, r13, r14, r15]) rfl ⟨p3', c3', p4', c4', p14', c14', p15', c15', rfl, ((((((((((((((((((((HQ3.out.far (q := ⟨w.heap.size + 1 + 1, 14, none⟩) (by show ¬ (w.heap.size + 3 ≤ w.heap.size + 1 + 1); omega) (.slice p14' n14 c14')).far (q := ⟨w.heap.size + 1 + 1, 15, none⟩) (by show ¬ (w.heap.size + 3 ≤ w.heap.size + 1 + 1); omega) (.slice p15' n15 c15')).far (q := ⟨w.heap.size + 1, 0, none⟩) (by show ¬ (w.heap.size + 3 ≤ w.heap.size + 1); omega) (.int .i64 x0)).far (q := ⟨w.heap.size + 1, 1, none⟩) (by show ¬ (w.heap.size + 3 ≤ w.heap.size + 1); omega) (.int .i64 x1)).far (q := ⟨w.heap.size + 1, 2, none⟩) (by show ¬ (w.heap.size + 3 ≤ w.heap.size + 1); omega) (.int .i64 x2)).far (q := ⟨w.heap.size + 1, 3, none⟩) (by show ¬ (w.heap.size + 3 ≤ w.heap.size + 1); omega) (.slice p3' n3 c3')).far (q := ⟨w.heap.size + 1, 4, none⟩) (by show ¬ (w.heap.size + 3 ≤ w.heap.size + 1); omega) (.slice p4' n4 c4')).far (q := ⟨w.heap.size + 1, 5, none⟩) (by show ¬ (w.heap.size + 3 ≤ w.heap.size + 1); omega) (.int .i64 x5)).far (q := ⟨w.heap.size + 1, 6, none⟩) (by show ¬ (w.heap.size + 3 ≤ w.heap.size + 1); omega) (.int .i64 x6)).far (q := ⟨w.heap.size + 1, 7, none⟩) (by show ¬ (w.heap.size + 3 ≤ w.heap.size + 1); omega) (.int .i64 x7)).far (q := ⟨w.heap.size + 1, 8, none⟩) (by show ¬ (w.heap.size + 3 ≤ w.heap.size + 1); omega) (.int .i64 x8)).far (q := ⟨w.heap.size + 1, 9, none⟩) (by show ¬ (w.heap.size + 3 ≤ w.heap.size + 1); omega) (.int .i64 x9)).far (q := ⟨w.heap.size + 1, 10, none⟩) (by show ¬ (w.heap.size + 3 ≤ w.heap.size + 1); omega) (.int .i64 x10)).far (q := ⟨w.heap.size + 1, 11, none⟩) (by show ¬ (w.heap.size + 3 ≤ w.heap.size + 1); omega) (.int .i64 x11)).far (q := ⟨w.heap.size + 1, 12, none⟩) (by show ¬ (w.heap.size + 3 ≤ w.heap.size + 1); omega) (.int .i64 x12)).far (q := ⟨w.heap.size + 1, 13, none⟩) (by show ¬ (w.heap.size + 3 ≤ w.heap.size + 1); omega) (.int .i64 x13)).far (q := ⟨w.heap.size + 1, 14, none⟩) (by show ¬ (w.heap.size + 3 ≤ w.heap.size + 1); omega) (.slice p14' n14 c14')).far (q := ⟨w.heap.size + 1, 15, none⟩) (by show ¬ (w.heap.size + 3 ≤ w.heap.size + 1); omega) (.slice p15' n15 c15'))).up (by omega)), ((((((((((((((((((((HQ4.out.far (q := ⟨w.heap.size + 1 + 1, 14, none⟩) (by show ¬ (w.heap.size + 3 ≤ w.heap.size + 1 + 1); omega) (.slice p14' n14 c14')).far (q := ⟨w.heap.size + 1 + 1, 15, none⟩) (by show ¬ (w.heap.size + 3 ≤ w.heap.size + 1 + 1); omega) (.slice p15' n15 c15')).far (q := ⟨w.heap.size + 1, 0, none⟩) (by show ¬ (w.heap.size + 3 ≤ w.heap.size + 1); omega) (.int .i64 x0)).far (q := ⟨w.heap.size + 1, 1, none⟩) (by show ¬ (w.heap.size + 3 ≤ w.heap.size + 1); omega) (.int .i64 x1)).far (q := ⟨w.heap.size + 1, 2, none⟩) (by show ¬ (w.heap.size + 3 ≤ w.heap.size + 1); omega) (.int .i64 x2)).far (q := ⟨w.heap.size + 1, 3, none⟩) (by show ¬ (w.heap.size + 3 ≤ w.heap.size + 1); omega) (.slice p3' n3 c3')).far (q := ⟨w.heap.size + 1, 4, none⟩) (by show ¬ (w.heap.size + 3 ≤ w.heap.size + 1); omega) (.slice p4' n4 c4')).far (q := ⟨w.heap.size + 1, 5, none⟩) (by show ¬ (w.heap.size + 3 ≤ w.heap.size + 1); omega) (.int .i64 x5)).far (q := ⟨w.heap.size + 1, 6, none⟩) (by show ¬ (w.heap.size + 3 ≤ w.heap.size + 1); omega) (.int .i64 x6)).far (q := ⟨w.heap.size + 1, 7, none⟩) (by show ¬ (w.heap.size + 3 ≤ w.heap.size + 1); omega) (.int .i64 x7)).far (q := ⟨w.heap.size + 1, 8, none⟩) (by show ¬ (w.heap.size + 3 ≤ w.heap.size + 1); omega) (.int .i64 x8)).far (q := ⟨w.heap.size + 1, 9, none⟩) (by show ¬ (w.heap.size + 3 ≤ w.heap.size + 1); omega) (.int .i64 x9)).far (q := ⟨w.heap.size + 1, 10, none⟩) (by show ¬ (w.heap.size + 3 ≤ w.heap.size + 1); omega) (.int .i64 x10)).far (q := ⟨w.heap.size + 1, 11, none⟩) (by show ¬ (w.heap.size + 3 ≤ w.heap.size + 1); omega) (.int .i64 x11)).far (q := ⟨w.heap.size + 1, 12, none⟩) (by show ¬ (w.heap.size + 3 ≤ w.heap.size + 1); omega) (.int .i64 x12)).far (q := ⟨w.heap.size + 1, 13, none⟩) (by show ¬ (w.heap.size + 3 ≤ w.heap.size + 1); omega) (.int .i64 x13)).far (q := ⟨w.heap.size + 1, 14, none⟩) (by show ¬ (w.heap.size + 3 ≤ w.heap.size + 1); omega) (.slice p14' n14 c14')).far (q := ⟨w.heap.size + 1, 15, none⟩) (by show ¬ (w.heap.size + 3 ≤ w.heap.size + 1); omega) (.slice p15' n15 c15'))).up (by omega)), ((((((((((((((((((((HQ14.out.far (q := ⟨w.heap.size + 1 + 1, 14, none⟩) (by show ¬ (w.heap.size + 3 ≤ w.heap.size + 1 + 1); omega) (.slice p14' n14 c14')).far (q := ⟨w.heap.size + 1 + 1, 15, none⟩) (by show ¬ (w.heap.size + 3 ≤ w.heap.size + 1 + 1); omega) (.slice p15' n15 c15')).far (q := ⟨w.heap.size + 1, 0, none⟩) (by show ¬ (w.heap.size + 3 ≤ w.heap.size + 1); omega) (.int .i64 x0)).far (q := ⟨w.heap.size + 1, 1, none⟩) (by show ¬ (w.heap.size + 3 ≤ w.heap.size + 1); omega) (.int .i64 x1)).far (q := ⟨w.heap.size + 1, 2, none⟩) (by show ¬ (w.heap.size + 3 ≤ w.heap.size + 1); omega) (.int .i64 x2)).far (q := ⟨w.heap.size + 1, 3, none⟩) (by show ¬ (w.heap.size + 3 ≤ w.heap.size + 1); omega) (.slice p3' n3 c3')).far (q := ⟨w.heap.size + 1, 4, none⟩) (by show ¬ (w.heap.size + 3 ≤ w.heap.size + 1); omega) (.slice p4' n4 c4')).far (q := ⟨w.heap.size + 1, 5, none⟩) (by show ¬ (w.heap.size + 3 ≤ w.heap.size + 1); omega) (.int .i64 x5)).far (q := ⟨w.heap.size + 1, 6, none⟩) (by show ¬ (w.heap.size + 3 ≤ w.heap.size + 1); omega) (.int .i64 x6)).far (q := ⟨w.heap.size + 1, 7, none⟩) (by show ¬ (w.heap.size + 3 ≤ w.heap.size + 1); omega) (.int .i64 x7)).far (q := ⟨w.heap.size + 1, 8, none⟩) (by show ¬ (w.heap.size + 3 ≤ w.heap.size + 1); omega) (.int .i64 x8)).far (q := ⟨w.heap.size + 1, 9, none⟩) (by show ¬ (w.heap.size + 3 ≤ w.heap.size + 1); omega) (.int .i64 x9)).far (q := ⟨w.heap.size + 1, 10, none⟩) (by show ¬ (w.heap.size + 3 ≤ w.heap.size + 1); omega) (.int .i64 x10)).far (q := ⟨w.heap.size + 1, 11, none⟩) (by show ¬ (w.heap.size + 3 ≤ w.heap.size + 1); omega) (.int .i64 x11)).far (q := ⟨w.heap.size + 1, 12, none⟩) (by show ¬ (w.heap.size + 3 ≤ w.heap.size + 1); omega) (.int .i64 x12)).far (q := ⟨w.heap.size + 1, 13, none⟩) (by show ¬ (w.heap.size + 3 ≤ w.heap.size + 1); omega) (.int .i64 x13)).far (q := ⟨w.heap.size + 1, 14, none⟩) (by show ¬ (w.heap.size + 3 ≤ w.heap.size + 1); omega) (.slice p14' n14 c14')).far (q := ⟨w.heap.size + 1, 15, none⟩) (by show ¬ (w.heap.size + 3 ≤ w.heap.size + 1); omega) (.slice p15' n15 c15'))).up (by omega)), ((((((((((((((((((((HQ15.out.far (q := ⟨w.heap.size + 1 + 1, 14, none⟩) (by show ¬ (w.heap.size + 3 ≤ w.heap.size + 1 + 1); omega) (.slice p14' n14 c14')).far (q := ⟨w.heap.size + 1 + 1, 15, none⟩) (by show ¬ (w.heap.size + 3 ≤ w.heap.size + 1 + 1); omega) (.slice p15' n15 c15')).far (q := ⟨w.heap.size + 1, 0, none⟩) (by show ¬ (w.heap.size + 3 ≤ w.heap.size + 1); omega) (.int .i64 x0)).far (q := ⟨w.heap.size + 1, 1, none⟩) (by show ¬ (w.heap.size + 3 ≤ w.heap.size + 1); omega) (.int .i64 x1)).far (q := ⟨w.heap.size + 1, 2, none⟩) (by show ¬ (w.heap.size + 3 ≤ w.heap.size + 1); omega) (.int .i64 x2)).far (q := ⟨w.heap.size + 1, 3, none⟩) (by show ¬ (w.heap.size + 3 ≤ w.heap.size + 1); omega) (.slice p3' n3 c3')).far (q := ⟨w.heap.size + 1, 4, none⟩) (by show ¬ (w.heap.size + 3 ≤ w.heap.size + 1); omega) (.slice p4' n4 c4')).far (q := ⟨w.heap.size + 1, 5, none⟩) (by show ¬ (w.heap.size + 3 ≤ w.heap.size + 1); omega) (.int .i64 x5)).far (q := ⟨w.heap.size + 1, 6, none⟩) (by show ¬ (w.heap.size + 3 ≤ w.heap.size + 1); omega) (.int .i64 x6)).far (q := ⟨w.heap.size + 1, 7, none⟩) (by show ¬ (w.heap.size + 3 ≤ w.heap.size + 1); omega) (.int .i64 x7)).far (q := ⟨w.heap.size + 1, 8, none⟩) (by show ¬ (w.heap.size + 3 ≤ w.heap.size + 1); omega) (.int .i64 x8)).far (q := ⟨w.heap.size + 1, 9, none⟩) (by show ¬ (w.heap.size + 3 ≤ w.heap.size + 1); omega) (.int .i64 x9)).far (q := ⟨w.heap.size + 1, 10, none⟩) (by show ¬ (w.heap.size + 3 ≤ w.heap.size + 1); omega) (.int .i64 x10)).far (q := ⟨w.heap.size + 1, 11, none⟩) (by show ¬ (w.heap.size + 3 ≤ w.heap.size + 1); omega) (.int .i64 x11)).far (q := ⟨w.heap.size + 1, 12, none⟩) (by show ¬ (w.heap.size + 3 ≤ w.heap.size + 1); omega) (.int .i64 x12)).far (q := ⟨w.heap.size + 1, 13, none⟩) (by show ¬ (w.heap.size + 3 ≤ w.heap.size + 1); omega) (.int .i64 x13)).far (q := ⟨w.heap.size + 1, 14, none⟩) (by show ¬ (w.heap.size + 3 ≤ w.heap.size + 1); omega) (.slice p14' n14 c14')).far (q := ⟨w.heap.size + 1, 15, none⟩) (by show ¬ (w.heap.size + 3 ≤ w.heap.size + 1); omega) (.slice p15' n15 c15'))).up (by omega)), HK3.out, HK4.out, HK14.out, HK15.out, ((((((((((((((((((HB.out.setCell (p := ⟨w.heap.size + 1 + 1, 14, none⟩) (by show w.heap.size ≤ w.heap.size + 1 + 1; omega) (.slice p14' n14 c14')).setCell (p := ⟨w.heap.size + 1 + 1, 15, none⟩) (by show w.heap.size ≤ w.heap.size + 1 + 1; omega) (.slice p15' n15 c15')).setCell (p := ⟨w.heap.size + 1, 0, none⟩) (by show w.heap.size ≤ w.heap.size + 1; omega) (.int .i64 x0)).setCell (p := ⟨w.heap.size + 1, 1, none⟩) (by show w.heap.size ≤ w.heap.size + 1; omega) (.int .i64 x1)).setCell (p := ⟨w.heap.size + 1, 2, none⟩) (by show w.heap.size ≤ w.heap.size + 1; omega) (.int .i64 x2)).setCell (p := ⟨w.heap.size + 1, 3, none⟩) (by show w.heap.size ≤ w.heap.size + 1; omega) (.slice p3' n3 c3')).setCell (p := ⟨w.heap.size + 1, 4, none⟩) (by show w.heap.size ≤ w.heap.size + 1; omega) (.slice p4' n4 c4')).setCell (p := ⟨w.heap.size + 1, 5, none⟩) (by show w.heap.size ≤ w.heap.size + 1; omega) (.int .i64 x5)).setCell (p := ⟨w.heap.size + 1, 6, none⟩) (by show w.heap.size ≤ w.heap.size + 1; omega) (.int .i64 x6)).setCell (p := ⟨w.heap.size + 1, 7, none⟩) (by show w.heap.size ≤ w.heap.size + 1; omega) (.int .i64 x7)).setCell (p := ⟨w.heap.size + 1, 8, none⟩) (by show w.heap.size ≤ w.heap.size + 1; omega) (.int .i64 x8)).setCell (p := ⟨w.heap.size + 1, 9, none⟩) (by show w.heap.size ≤ w.heap.size + 1; omega) (.int .i64 x9)).setCell (p := ⟨w.heap.size + 1, 10, none⟩) (by show w.heap.size ≤ w.heap.size + 1; omega) (.int .i64 x10)).setCell (p := ⟨w.heap.size + 1, 11, none⟩) (by show w.heap.size ≤ w.heap.size + 1; omega) (.int .i64 x11)).setCell (p := ⟨w.heap.size + 1, 12, none⟩) (by show w.heap.size ≤ w.heap.size + 1; omega) (.int .i64 x12)).setCell (p := ⟨w.heap.size + 1, 13, none⟩) (by show w.heap.size ≤ w.heap.size + 1; omega) (.int .i64 x13)).setCell (p := ⟨w.heap.size + 1, 14, none⟩) (by show w.heap.size ≤ w.heap.size + 1; omega) (.slice p14' n14 c14')).setCell (p := ⟨w.heap.size + 1, 15, none⟩) (by show w.heap.size ≤ w.heap.size + 1; omega) (.slice p15' n15 c15'))⟩
set_option maxRecDepth 100000 in
set_option maxHeartbeats 4000000 in
theorem toSF_any (p : Option Addr) (n c : Nat) (xs : List A) {S : Nat → Prop} (w : World) (hr : RdD E S w p n xs) (hm : n + wts E xs ≤ 1048576) : Calls Tryz.prog 32 #[.slice p n c] w fun e w' => ∃ (q : Option Addr) (d : Nat), e = .returned (.slice q n d) ∧ FRd E w.heap.size w' q n xs ∧ n ≤ d ∧ Below w.heap.size w w' := by
  obtain ⟨i0, hi, hz0, hz1, hz2⟩ := info_parts info
  have HR := Lib.hid hr
  have hn : n ≤ 1048576 := by omega
  have HM0 := Lib.hid hm
  clear hr hm
  go_enter Tryz.func32, Tryz.ntmps32
  go_wp2_with (refine wpList_make_full _ rfl _ _ 40 rfl w.heap.size 80 i0 _ 16 Tryz.underlying40 hi hz0 hz1 .i64 .i64 _ _ n rfl rfl rfl rfl (by rw [hz2]; omega) (by unfold maxLen; omega) (Nat.le_refl _) ?_; intro w1 hown1 hg1)
  have HM := Lib.hid (MidF.start (E := E) (z := [.int .i64 0, .int .i64 0, .int .i64 0, .slice none 0 0, .slice none 0 0, .int .i64 0, .int .i64 0, .int .i64 0, .int .i64 0, .int .i64 0, .int .i64 0, .int .i64 0, .int .i64 0, .int .i64 0, .slice none 0 0, .slice none 0 0]) (xs := xs) (.agg #[.int .i64 0, .int .i64 0, .int .i64 0, .slice none 0 0, .slice none 0 0, .int .i64 0, .int .i64 0, .int .i64 0, .int .i64 0, .int .i64 0, .int .i64 0, .int .i64 0, .int .i64 0, .int .i64 0, .slice none 0 0, .slice none 0 0]) rfl rfl (by intro u hu; simp only [List.mem_cons, List.not_mem_nil, or_false] at hu; rcases hu with rfl | rfl | rfl | rfl | rfl | rfl | rfl | rfl | rfl | rfl | rfl | rfl | rfl | rfl | rfl | rfl <;> rfl) hown1 hg1)
  clear hown1 hg1
  go_loopw [4] (fun i wr => ∃ k : Nat, k ≤ n ∧ i = .int .i64 k ∧ Hid (MidF E 80 [.int .i64 0, .int .i64 0, .int .i64 0, .slice none 0 0, .slice none 0 0, .int .i64 0, .int .i64 0, .int .i64 0, .int .i64 0, .int .i64 0, .int .i64 0, .int .i64 0, .int .i64 0, .int .i64 0, .slice none 0 0, .slice none 0 0] xs n k w wr)) (fun i _ => n - (intOf i).toNat)
  case atStart => exact ⟨0, Nat.zero_le _, rfl, HM⟩
  case round =>
    obtain ⟨k, hk, rfl, HK⟩ := hrel
    by_cases hlt : k < n
    · obtain ⟨b, o, x, cs, rfl, _, hbw, hx, hc, hrd⟩ := HR.out.at_ hlt
      obtain ⟨x0, x1, ⟨x2, l3, l4⟩, ⟨x5, x6, x7, x8, x9, x10, x11, x12, x13⟩, ⟨l14, l15⟩⟩ := x
      obtain ⟨p3, n3, c3, p4, n4, c4, p14, n14, c14, p15, n15, c15, rfl, b0, b1, b2, h3, h4, b5, h14, h15⟩ := ex hrd
      have hB := HK.out.below
      have hwt : E.wt (x0, x1, (x2, l3, l4), (x5, x6, x7, x8, x9, x10, x11, x12, x13), (l14, l15)) ≤ 1048576 := by have h1 := wts_at (E := E) hx; have h2 := HM0.out; omega
      have hcc : ∀ j v, [.int .i64 x0, .int .i64 x1, .int .i64 x2, .slice p3 n3 c3, .slice p4 n4 c4, .int .i64 x5, .int .i64 x6, .int .i64 x7, .int .i64 x8, .int .i64 x9, .int .i64 x10, .int .i64 x11, .int .i64 x12, .int .i64 x13, .slice p14 n14 c14, .slice p15 n15 c15][j]? = some v → wr.cell? ⟨b, o + k * 16 + j, none⟩ = some v := fun j v hv => (hB.cell (p := ⟨b, o + k * 16 + j, none⟩) hbw).trans (hc j v hv)
      have HX := Lib.hid hx
      have HW := Lib.hid hwt
      have Hb0 := Lib.hid b0
      have Hb1 := Lib.hid b1
      have Hb2 := Lib.hid b2
      have Hh3 := Lib.hid h3
      have Hh4 := Lib.hid h4
      have Hb5 := Lib.hid b5
      have Hh14 := Lib.hid h14
      have Hh15 := Lib.hid h15
      have HBB := Lib.hid hB
      obtain ⟨u0, u1, u2, u3, u4, u5, u6, u7, u8, u9, u10, u11, u12, u13, u14, u15⟩ := at_cells hcc
      clear hc hcc hrd hx hwt hB b0 b1 b2 h3 h4 b5 h14 h15
      go_wp2_with fail
      refine (toF_any _ _ _ _ _ _ _ _ _ _ _ _ _ _ _ _ _ _ _ _ _ _ _ _ _ _ _ _ _ (Hh3.out.below HBB.out) (Hh4.out.below HBB.out) (Hh14.out.below HBB.out) (Hh15.out.below HBB.out) HW.out).mono ?_
      rintro e w2 ⟨p3', c3', p4', c4', p14', c14', p15', c15', rfl, ho3, ho4, ho14, ho15, hk3, hk4, hk14, hk15, hb2⟩
      obtain ⟨hz, hf⟩ := HK.out.cells hlt
      have d0 : w2.cell? ⟨w.heap.size, k * 16, none⟩ = some (.int .i64 0) := (hb2.cell (p := ⟨w.heap.size, k * 16 + 0, none⟩) HK.out.lt).trans (hz 0 _ rfl)
      have d1 : w2.cell? ⟨w.heap.size, k * 16 + 1, none⟩ = some (.int .i64 0) := (hb2.cell (p := ⟨w.heap.size, k * 16 + 1, none⟩) HK.out.lt).trans (hz 1 _ rfl)
      have d2 : w2.cell? ⟨w.heap.size, k * 16 + 2, none⟩ = some (.int .i64 0) := (hb2.cell (p := ⟨w.heap.size, k * 16 + 2, none⟩) HK.out.lt).trans (hz 2 _ rfl)
      have d3 : w2.cell? ⟨w.heap.size, k * 16 + 3, none⟩ = some (.slice none 0 0) := (hb2.cell (p := ⟨w.heap.size, k * 16 + 3, none⟩) HK.out.lt).trans (hz 3 _ rfl)
      have d4 : w2.cell? ⟨w.heap.size, k * 16 + 4, none⟩ = some (.slice none 0 0) := (hb2.cell (p := ⟨w.heap.size, k * 16 + 4, none⟩) HK.out.lt).trans (hz 4 _ rfl)
      have d5 : w2.cell? ⟨w.heap.size, k * 16 + 5, none⟩ = some (.int .i64 0) := (hb2.cell (p := ⟨w.heap.size, k * 16 + 5, none⟩) HK.out.lt).trans (hz 5 _ rfl)
      have d6 : w2.cell? ⟨w.heap.size, k * 16 + 6, none⟩ = some (.int .i64 0) := (hb2.cell (p := ⟨w.heap.size, k * 16 + 6, none⟩) HK.out.lt).trans (hz 6 _ rfl)
      have d7 : w2.cell? ⟨w.heap.size, k * 16 + 7, none⟩ = some (.int .i64 0) := (hb2.cell (p := ⟨w.heap.size, k * 16 + 7, none⟩) HK.out.lt).trans (hz 7 _ rfl)
      have d8 : w2.cell? ⟨w.heap.size, k * 16 + 8, none⟩ = some (.int .i64 0) := (hb2.cell (p := ⟨w.heap.size, k * 16 + 8, none⟩) HK.out.lt).trans (hz 8 _ rfl)
      have d9 : w2.cell? ⟨w.heap.size, k * 16 + 9, none⟩ = some (.int .i64 0) := (hb2.cell (p := ⟨w.heap.size, k * 16 + 9, none⟩) HK.out.lt).trans (hz 9 _ rfl)
      have d10 : w2.cell? ⟨w.heap.size, k * 16 + 10, none⟩ = some (.int .i64 0) := (hb2.cell (p := ⟨w.heap.size, k * 16 + 10, none⟩) HK.out.lt).trans (hz 10 _ rfl)
      have d11 : w2.cell? ⟨w.heap.size, k * 16 + 11, none⟩ = some (.int .i64 0) := (hb2.cell (p := ⟨w.heap.size, k * 16 + 11, none⟩) HK.out.lt).trans (hz 11 _ rfl)
      have d12 : w2.cell? ⟨w.heap.size, k * 16 + 12, none⟩ = some (.int .i64 0) := (hb2.cell (p := ⟨w.heap.size, k * 16 + 12, none⟩) HK.out.lt).trans (hz 12 _ rfl)
      have d13 : w2.cell? ⟨w.heap.size, k * 16 + 13, none⟩ = some (.int .i64 0) := (hb2.cell (p := ⟨w.heap.size, k * 16 + 13, none⟩) HK.out.lt).trans (hz 13 _ rfl)
      have d14 : w2.cell? ⟨w.heap.size, k * 16 + 14, none⟩ = some (.slice none 0 0) := (hb2.cell (p := ⟨w.heap.size, k * 16 + 14, none⟩) HK.out.lt).trans (hz 14 _ rfl)
      have d15 : w2.cell? ⟨w.heap.size, k * 16 + 15, none⟩ = some (.slice none 0 0) := (hb2.cell (p := ⟨w.heap.size, k * 16 + 15, none⟩) HK.out.lt).trans (hz 15 _ rfl)
      have f0 : w2.frozen? ⟨w.heap.size, k * 16, none⟩ = false := (hb2.frozen (p := ⟨w.heap.size, k * 16 + 0, none⟩) HK.out.lt).trans (hf _)
      have f1 : w2.frozen? ⟨w.heap.size, k * 16 + 1, none⟩ = false := (hb2.frozen (p := ⟨w.heap.size, k * 16 + 1, none⟩) HK.out.lt).trans (hf _)
      have f2 : w2.frozen? ⟨w.heap.size, k * 16 + 2, none⟩ = false := (hb2.frozen (p := ⟨w.heap.size, k * 16 + 2, none⟩) HK.out.lt).trans (hf _)
      have f3 : w2.frozen? ⟨w.heap.size, k * 16 + 3, none⟩ = false := (hb2.frozen (p := ⟨w.heap.size, k * 16 + 3, none⟩) HK.out.lt).trans (hf _)
      have f4 : w2.frozen? ⟨w.heap.size, k * 16 + 4, none⟩ = false := (hb2.frozen (p := ⟨w.heap.size, k * 16 + 4, none⟩) HK.out.lt).trans (hf _)
      have f5 : w2.frozen? ⟨w.heap.size, k * 16 + 5, none⟩ = false := (hb2.frozen (p := ⟨w.heap.size, k * 16 + 5, none⟩) HK.out.lt).trans (hf _)
      have f6 : w2.frozen? ⟨w.heap.size, k * 16 + 6, none⟩ = false := (hb2.frozen (p := ⟨w.heap.size, k * 16 + 6, none⟩) HK.out.lt).trans (hf _)
      have f7 : w2.frozen? ⟨w.heap.size, k * 16 + 7, none⟩ = false := (hb2.frozen (p := ⟨w.heap.size, k * 16 + 7, none⟩) HK.out.lt).trans (hf _)
      have f8 : w2.frozen? ⟨w.heap.size, k * 16 + 8, none⟩ = false := (hb2.frozen (p := ⟨w.heap.size, k * 16 + 8, none⟩) HK.out.lt).trans (hf _)
      have f9 : w2.frozen? ⟨w.heap.size, k * 16 + 9, none⟩ = false := (hb2.frozen (p := ⟨w.heap.size, k * 16 + 9, none⟩) HK.out.lt).trans (hf _)
      have f10 : w2.frozen? ⟨w.heap.size, k * 16 + 10, none⟩ = false := (hb2.frozen (p := ⟨w.heap.size, k * 16 + 10, none⟩) HK.out.lt).trans (hf _)
      have f11 : w2.frozen? ⟨w.heap.size, k * 16 + 11, none⟩ = false := (hb2.frozen (p := ⟨w.heap.size, k * 16 + 11, none⟩) HK.out.lt).trans (hf _)
      have f12 : w2.frozen? ⟨w.heap.size, k * 16 + 12, none⟩ = false := (hb2.frozen (p := ⟨w.heap.size, k * 16 + 12, none⟩) HK.out.lt).trans (hf _)
      have f13 : w2.frozen? ⟨w.heap.size, k * 16 + 13, none⟩ = false := (hb2.frozen (p := ⟨w.heap.size, k * 16 + 13, none⟩) HK.out.lt).trans (hf _)
      have f14 : w2.frozen? ⟨w.heap.size, k * 16 + 14, none⟩ = false := (hb2.frozen (p := ⟨w.heap.size, k * 16 + 14, none⟩) HK.out.lt).trans (hf _)
      have f15 : w2.frozen? ⟨w.heap.size, k * 16 + 15, none⟩ = false := (hb2.frozen (p := ⟨w.heap.size, k * 16 + 15, none⟩) HK.out.lt).trans (hf _)
      have HM2 := Lib.hid (HK.out.next hb2 hlt HX.out (mk (c3 := c3') (c4 := c4') (c14 := c14') (c15 := c15') Hb0.out Hb1.out Hb2.out ho3 ho4 Hb5.out ho14 ho15 hk3 hk4 hk14 hk15))
      clear hz hf hb2 ho3 hk3 ho4 hk4 ho14 hk14 ho15 hk15 u0 u1 u2 u3 u4 u5 u6 u7 u8 u9 u10 u11 u12 u13 u14 u15
      go_wp2_with fail
      go_roundw
      case rel => exact ⟨k + 1, by omega, by go_num, HM2⟩
      case measure => simp [intOf]; omega
    · obtain rfl : k = n := by omega
      have HD := Lib.hid (HK.out.done HR.out.len (by unfold maxLen; omega))
      go_wp2_with fail
      go_ret
      exact ⟨_, _, rfl, HD.out.1, Nat.le_refl _, HD.out.2⟩
end Go.Proofs.YtpjckbdljbpliaaGreat.DfItem

namespace Go.Proofs.YtpjckbdljbpliaaGreat.DfArchive
open Go.ChangeShapes Go.WideShapes Go.ChangeAt Go.RowKit Sl St Ed Dz Ek DpArchive
set_option maxRecDepth 100000 in
set_option maxHeartbeats 4000000 in
theorem toF_any (x0 : Int) (l1 : List DpItem.A) (p1 : Option Addr) (n1 c1 : Nat) {S1 : Nat → Prop} (w : World) (h1 : RdD DpItem.E S1 w p1 n1 l1) (hm : E.wt (x0, l1) ≤ 1048576) : Calls Tryz.prog 9 #[.agg #[.int .i64 x0, .slice p1 n1 c1]] w fun e w' => ∃ (p1' : Option Addr) (c1' : Nat), e = .returned (.agg #[.int .i64 x0, .slice p1' n1 c1']) ∧ FRd DpItem.E w.heap.size w' p1' n1 l1 ∧ n1 ≤ c1' ∧ Below w.heap.size w w' := by
  rw [wt_eq] at hm
  have k1 := h1.len
  have m1 : n1 + wts DpItem.E l1 ≤ 1048576 := by omega
  have HP1 := Lib.hid h1
  clear hm h1 k1
  have b0 := ((Bx.new w 29 #[.int .i64 x0, .slice p1 n1 c1]).alloc (.cells #[.int .i64 0, .slice none 0 0] 42)).alloc (.cells #[.int .i64 x0, .slice none 0 0] 42)
  have b1 := (Bx.new (w.alloc (.cells #[.int .i64 x0, .slice p1 n1 c1] 29)) 42 #[.int .i64 0, .slice none 0 0]).alloc (.cells #[.int .i64 x0, .slice none 0 0] 42)
  have b2 := Bx.new ((w.alloc (.cells #[.int .i64 x0, .slice p1 n1 c1] 29)).alloc (.cells #[.int .i64 0, .slice none 0 0] 42)) 42 #[.int .i64 x0, .slice none 0 0]
  rw [World.size_alloc] at b1
  rw [World.size_alloc, World.size_alloc] at b2
  have HA := Lib.hid b0
  have HR := Lib.hid b1
  have HO := Lib.hid b2
  have HB : Hid (Below w.heap.size w (((w.alloc (.cells #[.int .i64 x0, .slice p1 n1 c1] 29)).alloc (.cells #[.int .i64 0, .slice none 0 0] 42)).alloc (.cells #[.int .i64 x0, .slice none 0 0] 42))) := Lib.hid ((((Below.refl w.heap.size w).alloc (Nat.le_refl _) _).alloc (by simp) _).alloc (by simp; omega) _)
  have HSZ : Hid (w.heap.size + 3 ≤ (((w.alloc (.cells #[.int .i64 x0, .slice p1 n1 c1] 29)).alloc (.cells #[.int .i64 0, .slice none 0 0] 42)).alloc (.cells #[.int .i64 x0, .slice none 0 0] 42)).heap.size) := Lib.hid (by simp)
  clear b0 b1 b2
  go_enter Tryz.func9, Tryz.ntmps9
  go_wp2_with fail
  generalize (((w.alloc (.cells #[.int .i64 x0, .slice p1 n1 c1] 29)).alloc (.cells #[.int .i64 0, .slice none 0 0] 42)).alloc (.cells #[.int .i64 x0, .slice none 0 0] 42)) = V at HA HR HO HB HSZ ⊢
  obtain ⟨a0, a1⟩ := bxc HA.out
  refine (DfItem.toSF_any _ _ _ _ _ (HP1.out.below HB.out) m1).mono ?_
  rintro e w1 ⟨p1', c1', rfl, ho, hk, hb⟩
  have HK1 := Lib.hid hk
  clear hk
  have HQ1 : Hid (FRd DpItem.E (w.heap.size + 3) w1 p1' n1 l1) := Lib.hid (ho.up HSZ.out)
  clear ho
  clear a0 a1
  replace HA := Lib.hid (HA.out.below hb)
  replace HR := Lib.hid (HR.out.below hb)
  replace HO := Lib.hid (HO.out.below hb)
  replace HB := Lib.hid (below_on HB.out hb)
  replace HSZ := Lib.hid (Nat.le_trans HSZ.out hb.size)
  clear hb
  obtain ⟨a0, a1⟩ := bxc HA.out
  obtain ⟨q0, q1⟩ := bxc HO.out
  have g1 := HO.out.free 1
  obtain ⟨r0, r1⟩ := bxc HR.out
  have s0 := HR.out.free 0
  have s1 := HR.out.free 1
  go_wp2_with fail
  exact bodyPost_ret (v := .agg #[.int .i64 x0, .slice p1' n1 c1']) (by simp [results, Tryz.results9, go_sem, r0, r1]) rfl ⟨p1', c1', rfl, (((((HQ1.out.far (q := ⟨w.heap.size + 1 + 1, 1, none⟩) (by show ¬ (w.heap.size + 3 ≤ w.heap.size + 1 + 1); omega) (.slice p1' n1 c1')).far (q := ⟨w.heap.size + 1, 0, none⟩) (by show ¬ (w.heap.size + 3 ≤ w.heap.size + 1); omega) (.int .i64 x0)).far (q := ⟨w.heap.size + 1, 1, none⟩) (by show ¬ (w.heap.size + 3 ≤ w.heap.size + 1); omega) (.slice p1' n1 c1'))).up (by omega)), HK1.out, (((HB.out.setCell (p := ⟨w.heap.size + 1 + 1, 1, none⟩) (by show w.heap.size ≤ w.heap.size + 1 + 1; omega) (.slice p1' n1 c1')).setCell (p := ⟨w.heap.size + 1, 0, none⟩) (by show w.heap.size ≤ w.heap.size + 1; omega) (.int .i64 x0)).setCell (p := ⟨w.heap.size + 1, 1, none⟩) (by show w.heap.size ≤ w.heap.size + 1; omega) (.slice p1' n1 c1'))⟩
set_option maxRecDepth 100000 in
set_option maxHeartbeats 4000000 in
theorem toSF_any (p : Option Addr) (n c : Nat) (xs : List A) {S : Nat → Prop} (w : World) (hr : RdD E S w p n xs) (hm : n + wts E xs ≤ 1048576) : Calls Tryz.prog 49 #[.slice p n c] w fun e w' => ∃ (q : Option Addr) (d : Nat), e = .returned (.slice q n d) ∧ FRd E w.heap.size w' q n xs ∧ n ≤ d ∧ Below w.heap.size w w' := by
  obtain ⟨i0, hi, hz0, hz1, hz2⟩ := info_parts info
  have HR := Lib.hid hr
  have hn : n ≤ 1048576 := by omega
  have HM0 := Lib.hid hm
  clear hr hm
  go_enter Tryz.func49, Tryz.ntmps49
  go_wp2_with (refine wpList_make_full _ rfl _ _ 58 rfl w.heap.size 42 i0 _ 2 Tryz.underlying58 hi hz0 hz1 .i64 .i64 _ _ n rfl rfl rfl rfl (by rw [hz2]; omega) (by unfold maxLen; omega) (Nat.le_refl _) ?_; intro w1 hown1 hg1)
  have HM := Lib.hid (MidF.start (E := E) (z := [.int .i64 0, .slice none 0 0]) (xs := xs) (.agg #[.int .i64 0, .slice none 0 0]) rfl rfl (by intro u hu; simp only [List.mem_cons, List.not_mem_nil, or_false] at hu; rcases hu with rfl | rfl <;> rfl) hown1 hg1)
  clear hown1 hg1
  go_loopw [4] (fun i wr => ∃ k : Nat, k ≤ n ∧ i = .int .i64 k ∧ Hid (MidF E 42 [.int .i64 0, .slice none 0 0] xs n k w wr)) (fun i _ => n - (intOf i).toNat)
  case atStart => exact ⟨0, Nat.zero_le _, rfl, HM⟩
  case round =>
    obtain ⟨k, hk, rfl, HK⟩ := hrel
    by_cases hlt : k < n
    · obtain ⟨b, o, x, cs, rfl, _, hbw, hx, hc, hrd⟩ := HR.out.at_ hlt
      obtain ⟨x0, l1⟩ := x
      obtain ⟨p1, n1, c1, rfl, b0, h1⟩ := ex hrd
      have hB := HK.out.below
      have hwt : E.wt (x0, l1) ≤ 1048576 := by have h1 := wts_at (E := E) hx; have h2 := HM0.out; omega
      have hcc : ∀ j v, [.int .i64 x0, .slice p1 n1 c1][j]? = some v → wr.cell? ⟨b, o + k * 2 + j, none⟩ = some v := fun j v hv => (hB.cell (p := ⟨b, o + k * 2 + j, none⟩) hbw).trans (hc j v hv)
      have HX := Lib.hid hx
      have HW := Lib.hid hwt
      have Hb0 := Lib.hid b0
      have Hh1 := Lib.hid h1
      have HBB := Lib.hid hB
      obtain ⟨u0, u1⟩ := at_cells hcc
      clear hc hcc hrd hx hwt hB b0 h1
      go_wp2_with fail
      refine (toF_any _ _ _ _ _ _ (Hh1.out.below HBB.out) HW.out).mono ?_
      rintro e w2 ⟨p1', c1', rfl, ho1, hk1, hb2⟩
      obtain ⟨hz, hf⟩ := HK.out.cells hlt
      have d0 : w2.cell? ⟨w.heap.size, k * 2, none⟩ = some (.int .i64 0) := (hb2.cell (p := ⟨w.heap.size, k * 2 + 0, none⟩) HK.out.lt).trans (hz 0 _ rfl)
      have d1 : w2.cell? ⟨w.heap.size, k * 2 + 1, none⟩ = some (.slice none 0 0) := (hb2.cell (p := ⟨w.heap.size, k * 2 + 1, none⟩) HK.out.lt).trans (hz 1 _ rfl)
      have f0 : w2.frozen? ⟨w.heap.size, k * 2, none⟩ = false := (hb2.frozen (p := ⟨w.heap.size, k * 2 + 0, none⟩) HK.out.lt).trans (hf _)
      have f1 : w2.frozen? ⟨w.heap.size, k * 2 + 1, none⟩ = false := (hb2.frozen (p := ⟨w.heap.size, k * 2 + 1, none⟩) HK.out.lt).trans (hf _)
      have HM2 := Lib.hid (HK.out.next hb2 hlt HX.out (mk (c1 := c1') Hb0.out ho1 hk1))
      clear hz hf hb2 ho1 hk1 u0 u1
      go_wp2_with fail
      go_roundw
      case rel => exact ⟨k + 1, by omega, by go_num, HM2⟩
      case measure => simp [intOf]; omega
    · obtain rfl : k = n := by omega
      have HD := Lib.hid (HK.out.done HR.out.len (by unfold maxLen; omega))
      go_wp2_with fail
      go_ret
      exact ⟨_, _, rfl, HD.out.1, Nat.le_refl _, HD.out.2⟩
end Go.Proofs.YtpjckbdljbpliaaGreat.DfArchive
