/- Copies of Renewal by the laws, in memory that isn't frozen. -/
import Derived.Test.YtjaholcmaafenaaDpRenewal
import Derived.Test.YtjaholcmaafenaaEk
import Derived.OpenShut
import Derived.Deep.Fields
import Derived.Deep.RegionHeld3
import Derived.LoopTactic
import Derived.Outline
namespace Go.Proofs.Ytjaholcmaafenaa.DfRenewal
open Go.ChangeShapes Go.WideShapes Go.ChangeAt Go.RowKit Sl St Ed Dz Ek DpRenewal
set_option maxRecDepth 100000 in
set_option maxHeartbeats 4000000 in
theorem toF_any (x0 : Int) (x1 : Int) (x2 : Int) (l3 : List (Int × Bool)) (p3 : Option Addr) (n3 c3 : Nat) (l4 : List (Int × Int × Int × Int × Int)) (p4 : Option Addr) (n4 c4 : Nat) {S3 S4 : Nat → Prop} (w : World) (h3 : RdD (flat SlStep.E SlStep.InR) S3 w p3 n3 l3) (h4 : RdD (flat SlStamp.E SlStamp.InR) S4 w p4 n4 l4) (hm : E.wt (x0, x1, x2, l3, l4) ≤ 1048576) : Calls Try.prog 59 #[.agg #[.int .i64 x0, .int .i64 x1, .int .i64 x2, .slice p3 n3 c3, .slice p4 n4 c4]] w fun e w' => ∃ (p3' : Option Addr) (c3' : Nat) (p4' : Option Addr) (c4' : Nat), e = .returned (.agg #[.int .i64 x0, .int .i64 x1, .int .i64 x2, .slice p3' n3 c3', .slice p4' n4 c4']) ∧ FRd (flat SlStep.E SlStep.InR) w.heap.size w' p3' n3 l3 ∧ FRd (flat SlStamp.E SlStamp.InR) w.heap.size w' p4' n4 l4 ∧ n3 ≤ c3' ∧ n4 ≤ c4' ∧ Below w.heap.size w w' := by
  rw [wt_eq] at hm
  have k3 := h3.len
  have k4 := h4.len
  have m3 : n3 + wts (flat SlStep.E SlStep.InR) l3 ≤ 1048576 := by omega
  have m4 : n4 + wts (flat SlStamp.E SlStamp.InR) l4 ≤ 1048576 := by omega
  have HP3 := Lib.hid h3
  have HP4 := Lib.hid h4
  clear hm h3 k3 h4 k4
  have b0 := ((Bx.new w 105 #[.int .i64 x0, .int .i64 x1, .int .i64 x2, .slice p3 n3 c3, .slice p4 n4 c4]).alloc (.cells #[.int .i64 0, .int .i64 0, .int .i64 0, .slice none 0 0, .slice none 0 0] 110)).alloc (.cells #[.int .i64 x0, .int .i64 x1, .int .i64 x2, .slice none 0 0, .slice none 0 0] 110)
  have b1 := (Bx.new (w.alloc (.cells #[.int .i64 x0, .int .i64 x1, .int .i64 x2, .slice p3 n3 c3, .slice p4 n4 c4] 105)) 110 #[.int .i64 0, .int .i64 0, .int .i64 0, .slice none 0 0, .slice none 0 0]).alloc (.cells #[.int .i64 x0, .int .i64 x1, .int .i64 x2, .slice none 0 0, .slice none 0 0] 110)
  have b2 := Bx.new ((w.alloc (.cells #[.int .i64 x0, .int .i64 x1, .int .i64 x2, .slice p3 n3 c3, .slice p4 n4 c4] 105)).alloc (.cells #[.int .i64 0, .int .i64 0, .int .i64 0, .slice none 0 0, .slice none 0 0] 110)) 110 #[.int .i64 x0, .int .i64 x1, .int .i64 x2, .slice none 0 0, .slice none 0 0]
  rw [World.size_alloc] at b1
  rw [World.size_alloc, World.size_alloc] at b2
  have HA := Lib.hid b0
  have HR := Lib.hid b1
  have HO := Lib.hid b2
  have HB : Hid (Below w.heap.size w (((w.alloc (.cells #[.int .i64 x0, .int .i64 x1, .int .i64 x2, .slice p3 n3 c3, .slice p4 n4 c4] 105)).alloc (.cells #[.int .i64 0, .int .i64 0, .int .i64 0, .slice none 0 0, .slice none 0 0] 110)).alloc (.cells #[.int .i64 x0, .int .i64 x1, .int .i64 x2, .slice none 0 0, .slice none 0 0] 110))) := Lib.hid ((((Below.refl w.heap.size w).alloc (Nat.le_refl _) _).alloc (by simp) _).alloc (by simp; omega) _)
  have HSZ : Hid (w.heap.size + 3 ≤ (((w.alloc (.cells #[.int .i64 x0, .int .i64 x1, .int .i64 x2, .slice p3 n3 c3, .slice p4 n4 c4] 105)).alloc (.cells #[.int .i64 0, .int .i64 0, .int .i64 0, .slice none 0 0, .slice none 0 0] 110)).alloc (.cells #[.int .i64 x0, .int .i64 x1, .int .i64 x2, .slice none 0 0, .slice none 0 0] 110)).heap.size) := Lib.hid (by simp)
  clear b0 b1 b2
  go_enter Try.func59, Try.ntmps59
  go_wp2_with fail
  generalize (((w.alloc (.cells #[.int .i64 x0, .int .i64 x1, .int .i64 x2, .slice p3 n3 c3, .slice p4 n4 c4] 105)).alloc (.cells #[.int .i64 0, .int .i64 0, .int .i64 0, .slice none 0 0, .slice none 0 0] 110)).alloc (.cells #[.int .i64 x0, .int .i64 x1, .int .i64 x2, .slice none 0 0, .slice none 0 0] 110)) = V at HA HR HO HB HSZ ⊢
  obtain ⟨a0, a1, a2, a3, a4⟩ := bxc HA.out
  refine (SlStep.to_any _ _ _ _ _ (HP3.out.below HB.out).rdS (by omega)).mono ?_
  rintro e w1 ⟨p3', n3', c3', rfl, ho, hb⟩
  obtain rfl : n3 = n3' := HP3.out.len.symm.trans ho.len
  have HK3 := Lib.hid (Ed.cap_owS ho)
  have HQ3 : Hid (FRd (flat SlStep.E SlStep.InR) (w.heap.size + 3) w1 p3' n3 l3) := Lib.hid ((ofOwSF ho HP3.out.allP).up HSZ.out)
  clear ho
  clear a0 a1 a2 a3 a4
  replace HA := Lib.hid (HA.out.below hb)
  replace HR := Lib.hid (HR.out.below hb)
  replace HO := Lib.hid (HO.out.below hb)
  replace HB := Lib.hid (below_on HB.out hb)
  replace HSZ := Lib.hid (Nat.le_trans HSZ.out hb.size)
  clear hb
  obtain ⟨a0, a1, a2, a3, a4⟩ := bxc HA.out
  obtain ⟨q0, q1, q2, q3, q4⟩ := bxc HO.out
  have g3 := HO.out.free 3
  go_wp2_with fail
  have ho := (HO.out.set_ 3 (.slice p3' n3 c3'))
  simp only [List.setIfInBounds_toArray, List.set_cons_zero, List.set_cons_succ] at ho
  replace HO := Lib.hid ho
  clear ho a0 a1 a2 a3 a4 q0 q1 q2 q3 q4 g3
  replace HA := Lib.hid (HA.out.far (q := ⟨w.heap.size + 1 + 1, 3, none⟩) (by show w.heap.size ≠ w.heap.size + 1 + 1; omega) (.slice p3' n3 c3'))
  replace HR := Lib.hid (HR.out.far (q := ⟨w.heap.size + 1 + 1, 3, none⟩) (by show w.heap.size + 1 ≠ w.heap.size + 1 + 1; omega) (.slice p3' n3 c3'))
  replace HQ3 := Lib.hid (HQ3.out.far (q := ⟨w.heap.size + 1 + 1, 3, none⟩) (by show ¬ (w.heap.size + 3 ≤ w.heap.size + 1 + 1); omega) (.slice p3' n3 c3'))
  replace HB := Lib.hid (HB.out.setCell (p := ⟨w.heap.size + 1 + 1, 3, none⟩) (by show w.heap.size ≤ w.heap.size + 1 + 1; omega) (.slice p3' n3 c3'))
  replace HSZ : Hid (w.heap.size + 3 ≤ (w1.setCell ⟨w.heap.size + 1 + 1, 3, none⟩ (.slice p3' n3 c3')).heap.size) := Lib.hid (by simpa [World.setCell] using HSZ.out)
  generalize (w1.setCell ⟨w.heap.size + 1 + 1, 3, none⟩ (.slice p3' n3 c3')) = V1 at HA HR HO HB HSZ HQ3 ⊢
  obtain ⟨a0, a1, a2, a3, a4⟩ := bxc HA.out
  refine (SlStamp.to_any _ _ _ _ _ (HP4.out.below HB.out).rdS (by omega)).mono ?_
  rintro e w2 ⟨p4', n4', c4', rfl, ho, hb⟩
  obtain rfl : n4 = n4' := HP4.out.len.symm.trans ho.len
  have HK4 := Lib.hid (Ed.cap_owS ho)
  have HQ4 : Hid (FRd (flat SlStamp.E SlStamp.InR) (w.heap.size + 3) w2 p4' n4 l4) := Lib.hid ((ofOwSF ho HP4.out.allP).up HSZ.out)
  clear ho
  clear a0 a1 a2 a3 a4
  replace HA := Lib.hid (HA.out.below hb)
  replace HR := Lib.hid (HR.out.below hb)
  replace HO := Lib.hid (HO.out.below hb)
  replace HQ3 := Lib.hid (HQ3.out.below hb)
  replace HB := Lib.hid (below_on HB.out hb)
  replace HSZ := Lib.hid (Nat.le_trans HSZ.out hb.size)
  clear hb
  obtain ⟨a0, a1, a2, a3, a4⟩ := bxc HA.out
  obtain ⟨q0, q1, q2, q3, q4⟩ := bxc HO.out
  have g4 := HO.out.free 4
  obtain ⟨r0, r1, r2, r3, r4⟩ := bxc HR.out
  have s0 := HR.out.free 0
  have s1 := HR.out.free 1
  have s2 := HR.out.free 2
  have s3 := HR.out.free 3
  have s4 := HR.out.free 4
  go_wp2_with fail
  exact bodyPost_ret (v := .agg #[.int .i64 x0, .int .i64 x1, .int .i64 x2, .slice p3' n3 c3', .slice p4' n4 c4']) (by simp [results, Try.results59, go_sem, r0, r1, r2, r3, r4]) rfl ⟨p3', c3', p4', c4', rfl, ((((((((HQ3.out.far (q := ⟨w.heap.size + 1 + 1, 4, none⟩) (by show ¬ (w.heap.size + 3 ≤ w.heap.size + 1 + 1); omega) (.slice p4' n4 c4')).far (q := ⟨w.heap.size + 1, 0, none⟩) (by show ¬ (w.heap.size + 3 ≤ w.heap.size + 1); omega) (.int .i64 x0)).far (q := ⟨w.heap.size + 1, 1, none⟩) (by show ¬ (w.heap.size + 3 ≤ w.heap.size + 1); omega) (.int .i64 x1)).far (q := ⟨w.heap.size + 1, 2, none⟩) (by show ¬ (w.heap.size + 3 ≤ w.heap.size + 1); omega) (.int .i64 x2)).far (q := ⟨w.heap.size + 1, 3, none⟩) (by show ¬ (w.heap.size + 3 ≤ w.heap.size + 1); omega) (.slice p3' n3 c3')).far (q := ⟨w.heap.size + 1, 4, none⟩) (by show ¬ (w.heap.size + 3 ≤ w.heap.size + 1); omega) (.slice p4' n4 c4'))).up (by omega)), ((((((((HQ4.out.far (q := ⟨w.heap.size + 1 + 1, 4, none⟩) (by show ¬ (w.heap.size + 3 ≤ w.heap.size + 1 + 1); omega) (.slice p4' n4 c4')).far (q := ⟨w.heap.size + 1, 0, none⟩) (by show ¬ (w.heap.size + 3 ≤ w.heap.size + 1); omega) (.int .i64 x0)).far (q := ⟨w.heap.size + 1, 1, none⟩) (by show ¬ (w.heap.size + 3 ≤ w.heap.size + 1); omega) (.int .i64 x1)).far (q := ⟨w.heap.size + 1, 2, none⟩) (by show ¬ (w.heap.size + 3 ≤ w.heap.size + 1); omega) (.int .i64 x2)).far (q := ⟨w.heap.size + 1, 3, none⟩) (by show ¬ (w.heap.size + 3 ≤ w.heap.size + 1); omega) (.slice p3' n3 c3')).far (q := ⟨w.heap.size + 1, 4, none⟩) (by show ¬ (w.heap.size + 3 ≤ w.heap.size + 1); omega) (.slice p4' n4 c4'))).up (by omega)), HK3.out, HK4.out, ((((((HB.out.setCell (p := ⟨w.heap.size + 1 + 1, 4, none⟩) (by show w.heap.size ≤ w.heap.size + 1 + 1; omega) (.slice p4' n4 c4')).setCell (p := ⟨w.heap.size + 1, 0, none⟩) (by show w.heap.size ≤ w.heap.size + 1; omega) (.int .i64 x0)).setCell (p := ⟨w.heap.size + 1, 1, none⟩) (by show w.heap.size ≤ w.heap.size + 1; omega) (.int .i64 x1)).setCell (p := ⟨w.heap.size + 1, 2, none⟩) (by show w.heap.size ≤ w.heap.size + 1; omega) (.int .i64 x2)).setCell (p := ⟨w.heap.size + 1, 3, none⟩) (by show w.heap.size ≤ w.heap.size + 1; omega) (.slice p3' n3 c3')).setCell (p := ⟨w.heap.size + 1, 4, none⟩) (by show w.heap.size ≤ w.heap.size + 1; omega) (.slice p4' n4 c4'))⟩
set_option maxRecDepth 100000 in
set_option maxHeartbeats 4000000 in
theorem toSF_any (p : Option Addr) (n c : Nat) (xs : List A) {S : Nat → Prop} (w : World) (hr : RdD E S w p n xs) (hm : n + wts E xs ≤ 1048576) : Calls Try.prog 69 #[.slice p n c] w fun e w' => ∃ (q : Option Addr) (d : Nat), e = .returned (.slice q n d) ∧ FRd E w.heap.size w' q n xs ∧ n ≤ d ∧ Below w.heap.size w w' := by
  obtain ⟨i0, hi, hz0, hz1, hz2⟩ := info_parts info
  have HR := Lib.hid hr
  have hn : n ≤ 1048576 := by omega
  have HM0 := Lib.hid hm
  clear hr hm
  go_enter Try.func69, Try.ntmps69
  go_wp2_with (refine wpList_make_full _ rfl _ _ 34 rfl w.heap.size 110 i0 _ 5 Try.underlying34 hi hz0 hz1 .i64 .i64 _ _ n rfl rfl rfl rfl (by rw [hz2]; omega) (by unfold maxLen; omega) (Nat.le_refl _) ?_; intro w1 hown1 hg1)
  have HM := Lib.hid (MidF.start (E := E) (z := [.int .i64 0, .int .i64 0, .int .i64 0, .slice none 0 0, .slice none 0 0]) (xs := xs) (.agg #[.int .i64 0, .int .i64 0, .int .i64 0, .slice none 0 0, .slice none 0 0]) rfl rfl (by intro u hu; simp only [List.mem_cons, List.not_mem_nil, or_false] at hu; rcases hu with rfl | rfl | rfl | rfl | rfl <;> rfl) hown1 hg1)
  clear hown1 hg1
  go_loopw [4] (fun i wr => ∃ k : Nat, k ≤ n ∧ i = .int .i64 k ∧ Hid (MidF E 110 [.int .i64 0, .int .i64 0, .int .i64 0, .slice none 0 0, .slice none 0 0] xs n k w wr)) (fun i _ => n - (intOf i).toNat)
  case atStart => exact ⟨0, Nat.zero_le _, rfl, HM⟩
  case round =>
    obtain ⟨k, hk, rfl, HK⟩ := hrel
    by_cases hlt : k < n
    · obtain ⟨b, o, x, cs, rfl, _, hbw, hx, hc, hrd⟩ := HR.out.at_ hlt
      obtain ⟨x0, x1, x2, l3, l4⟩ := x
      obtain ⟨p3, n3, c3, p4, n4, c4, rfl, b0, b1, b2, h3, h4⟩ := ex hrd
      have hB := HK.out.below
      have hwt : E.wt (x0, x1, x2, l3, l4) ≤ 1048576 := by have h1 := wts_at (E := E) hx; have h2 := HM0.out; omega
      have hcc : ∀ j v, [.int .i64 x0, .int .i64 x1, .int .i64 x2, .slice p3 n3 c3, .slice p4 n4 c4][j]? = some v → wr.cell? ⟨b, o + k * 5 + j, none⟩ = some v := fun j v hv => (hB.cell (p := ⟨b, o + k * 5 + j, none⟩) hbw).trans (hc j v hv)
      have HX := Lib.hid hx
      have HW := Lib.hid hwt
      have Hb0 := Lib.hid b0
      have Hb1 := Lib.hid b1
      have Hb2 := Lib.hid b2
      have Hh3 := Lib.hid h3
      have Hh4 := Lib.hid h4
      have HBB := Lib.hid hB
      obtain ⟨u0, u1, u2, u3, u4⟩ := at_cells hcc
      clear hc hcc hrd hx hwt hB b0 b1 b2 h3 h4
      go_wp2_with fail
      refine (toF_any _ _ _ _ _ _ _ _ _ _ _ _ (Hh3.out.below HBB.out) (Hh4.out.below HBB.out) HW.out).mono ?_
      rintro e w2 ⟨p3', c3', p4', c4', rfl, ho3, ho4, hk3, hk4, hb2⟩
      obtain ⟨hz, hf⟩ := HK.out.cells hlt
      have d0 : w2.cell? ⟨w.heap.size, k * 5, none⟩ = some (.int .i64 0) := (hb2.cell (p := ⟨w.heap.size, k * 5 + 0, none⟩) HK.out.lt).trans (hz 0 _ rfl)
      have d1 : w2.cell? ⟨w.heap.size, k * 5 + 1, none⟩ = some (.int .i64 0) := (hb2.cell (p := ⟨w.heap.size, k * 5 + 1, none⟩) HK.out.lt).trans (hz 1 _ rfl)
      have d2 : w2.cell? ⟨w.heap.size, k * 5 + 2, none⟩ = some (.int .i64 0) := (hb2.cell (p := ⟨w.heap.size, k * 5 + 2, none⟩) HK.out.lt).trans (hz 2 _ rfl)
      have d3 : w2.cell? ⟨w.heap.size, k * 5 + 3, none⟩ = some (.slice none 0 0) := (hb2.cell (p := ⟨w.heap.size, k * 5 + 3, none⟩) HK.out.lt).trans (hz 3 _ rfl)
      have d4 : w2.cell? ⟨w.heap.size, k * 5 + 4, none⟩ = some (.slice none 0 0) := (hb2.cell (p := ⟨w.heap.size, k * 5 + 4, none⟩) HK.out.lt).trans (hz 4 _ rfl)
      have f0 : w2.frozen? ⟨w.heap.size, k * 5, none⟩ = false := (hb2.frozen (p := ⟨w.heap.size, k * 5 + 0, none⟩) HK.out.lt).trans (hf _)
      have f1 : w2.frozen? ⟨w.heap.size, k * 5 + 1, none⟩ = false := (hb2.frozen (p := ⟨w.heap.size, k * 5 + 1, none⟩) HK.out.lt).trans (hf _)
      have f2 : w2.frozen? ⟨w.heap.size, k * 5 + 2, none⟩ = false := (hb2.frozen (p := ⟨w.heap.size, k * 5 + 2, none⟩) HK.out.lt).trans (hf _)
      have f3 : w2.frozen? ⟨w.heap.size, k * 5 + 3, none⟩ = false := (hb2.frozen (p := ⟨w.heap.size, k * 5 + 3, none⟩) HK.out.lt).trans (hf _)
      have f4 : w2.frozen? ⟨w.heap.size, k * 5 + 4, none⟩ = false := (hb2.frozen (p := ⟨w.heap.size, k * 5 + 4, none⟩) HK.out.lt).trans (hf _)
      have HM2 := Lib.hid (HK.out.next hb2 hlt HX.out (mk (c3 := c3') (c4 := c4') Hb0.out Hb1.out Hb2.out ho3 ho4 hk3 hk4))
      clear hz hf hb2 ho3 hk3 ho4 hk4 u0 u1 u2 u3 u4
      go_wp2_with fail
      go_roundw
      case rel => exact ⟨k + 1, by omega, by go_num, HM2⟩
      case measure => simp [intOf]; omega
    · obtain rfl : k = n := by omega
      have HD := Lib.hid (HK.out.done HR.out.len (by unfold maxLen; omega))
      go_wp2_with fail
      go_ret
      exact ⟨_, _, rfl, HD.out.1, Nat.le_refl _, HD.out.2⟩
end Go.Proofs.Ytjaholcmaafenaa.DfRenewal
