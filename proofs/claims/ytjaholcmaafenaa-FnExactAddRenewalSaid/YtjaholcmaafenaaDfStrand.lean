/- Copies of Strand by the laws, in memory that isn't frozen. -/
import Derived.Test.YtjaholcmaafenaaDpStrand
import Derived.Test.YtjaholcmaafenaaEk
import Derived.Test.YtjaholcmaafenaaDfPiece
import Derived.Test.YtjaholcmaafenaaDfRenewal
import Derived.OpenShut
import Derived.Deep.Fields
import Derived.Deep.RegionHeld3
import Derived.LoopTactic
import Derived.Outline
namespace Go.Proofs.Ytjaholcmaafenaa.DfStrand
open Go.ChangeShapes Go.WideShapes Go.ChangeAt Go.RowKit Sl St Ed Dz Ek DpStrand
set_option maxRecDepth 100000 in
set_option maxHeartbeats 4000000 in
theorem toF_any (l0 : List DpPiece.A) (p0 : Option Addr) (n0 c0 : Nat) (l1 : List DpRenewal.A) (p1 : Option Addr) (n1 c1 : Nat) {S0 S1 : Nat → Prop} (w : World) (h0 : RdD DpPiece.E S0 w p0 n0 l0) (h1 : RdD DpRenewal.E S1 w p1 n1 l1) (hm : E.wt (l0, l1) ≤ 1048576) : Calls Try.prog 13 #[.agg #[.slice p0 n0 c0, .slice p1 n1 c1]] w fun e w' => ∃ (p0' : Option Addr) (c0' : Nat) (p1' : Option Addr) (c1' : Nat), e = .returned (.agg #[.slice p0' n0 c0', .slice p1' n1 c1']) ∧ FRd DpPiece.E w.heap.size w' p0' n0 l0 ∧ FRd DpRenewal.E w.heap.size w' p1' n1 l1 ∧ n0 ≤ c0' ∧ n1 ≤ c1' ∧ Below w.heap.size w w' := by
  rw [wt_eq] at hm
  have k0 := h0.len
  have k1 := h1.len
  have m0 : n0 + wts DpPiece.E l0 ≤ 1048576 := by omega
  have m1 : n1 + wts DpRenewal.E l1 ≤ 1048576 := by omega
  have HP0 := Lib.hid h0
  have HP1 := Lib.hid h1
  clear hm h0 k0 h1 k1
  have b0 := ((Bx.new w 25 #[.slice p0 n0 c0, .slice p1 n1 c1]).alloc (.cells #[.slice none 0 0, .slice none 0 0] 36)).alloc (.cells #[.slice none 0 0, .slice none 0 0] 36)
  have b1 := (Bx.new (w.alloc (.cells #[.slice p0 n0 c0, .slice p1 n1 c1] 25)) 36 #[.slice none 0 0, .slice none 0 0]).alloc (.cells #[.slice none 0 0, .slice none 0 0] 36)
  have b2 := Bx.new ((w.alloc (.cells #[.slice p0 n0 c0, .slice p1 n1 c1] 25)).alloc (.cells #[.slice none 0 0, .slice none 0 0] 36)) 36 #[.slice none 0 0, .slice none 0 0]
  rw [World.size_alloc] at b1
  rw [World.size_alloc, World.size_alloc] at b2
  have HA := Lib.hid b0
  have HR := Lib.hid b1
  have HO := Lib.hid b2
  have HB : Hid (Below w.heap.size w (((w.alloc (.cells #[.slice p0 n0 c0, .slice p1 n1 c1] 25)).alloc (.cells #[.slice none 0 0, .slice none 0 0] 36)).alloc (.cells #[.slice none 0 0, .slice none 0 0] 36))) := Lib.hid ((((Below.refl w.heap.size w).alloc (Nat.le_refl _) _).alloc (by simp) _).alloc (by simp; omega) _)
  have HSZ : Hid (w.heap.size + 3 ≤ (((w.alloc (.cells #[.slice p0 n0 c0, .slice p1 n1 c1] 25)).alloc (.cells #[.slice none 0 0, .slice none 0 0] 36)).alloc (.cells #[.slice none 0 0, .slice none 0 0] 36)).heap.size) := Lib.hid (by simp)
  clear b0 b1 b2
  go_enter Try.func13, Try.ntmps13
  go_wp2_with fail
  generalize (((w.alloc (.cells #[.slice p0 n0 c0, .slice p1 n1 c1] 25)).alloc (.cells #[.slice none 0 0, .slice none 0 0] 36)).alloc (.cells #[.slice none 0 0, .slice none 0 0] 36)) = V at HA HR HO HB HSZ ⊢
  obtain ⟨a0, a1⟩ := bxc HA.out
  refine (DfPiece.toSF_any _ _ _ _ _ (HP0.out.below HB.out) m0).mono ?_
  rintro e w1 ⟨p0', c0', rfl, ho, hk, hb⟩
  have HK0 := Lib.hid hk
  clear hk
  have HQ0 : Hid (FRd DpPiece.E (w.heap.size + 3) w1 p0' n0 l0) := Lib.hid (ho.up HSZ.out)
  clear ho
  clear a0 a1
  replace HA := Lib.hid (HA.out.below hb)
  replace HR := Lib.hid (HR.out.below hb)
  replace HO := Lib.hid (HO.out.below hb)
  replace HB := Lib.hid (below_on HB.out hb)
  replace HSZ := Lib.hid (Nat.le_trans HSZ.out hb.size)
  clear hb
  obtain ⟨a0, a1⟩ := bxc HA.out
  obtain ⟨q0, q1⟩ := bxc HO.out
  have g0 := HO.out.free 0
  go_wp2_with fail
  have ho := (HO.out.set_ 0 (.slice p0' n0 c0'))
  simp only [List.setIfInBounds_toArray, List.set_cons_zero] at ho
  replace HO := Lib.hid ho
  clear ho a0 a1 q0 q1 g0
  replace HA := Lib.hid (HA.out.far (q := ⟨w.heap.size + 1 + 1, 0, none⟩) (by show w.heap.size ≠ w.heap.size + 1 + 1; omega) (.slice p0' n0 c0'))
  replace HR := Lib.hid (HR.out.far (q := ⟨w.heap.size + 1 + 1, 0, none⟩) (by show w.heap.size + 1 ≠ w.heap.size + 1 + 1; omega) (.slice p0' n0 c0'))
  replace HQ0 := Lib.hid (HQ0.out.far (q := ⟨w.heap.size + 1 + 1, 0, none⟩) (by show ¬ (w.heap.size + 3 ≤ w.heap.size + 1 + 1); omega) (.slice p0' n0 c0'))
  replace HB := Lib.hid (HB.out.setCell (p := ⟨w.heap.size + 1 + 1, 0, none⟩) (by show w.heap.size ≤ w.heap.size + 1 + 1; omega) (.slice p0' n0 c0'))
  replace HSZ : Hid (w.heap.size + 3 ≤ (w1.setCell ⟨w.heap.size + 1 + 1, 0, none⟩ (.slice p0' n0 c0')).heap.size) := Lib.hid (by simpa [World.setCell] using HSZ.out)
  generalize (w1.setCell ⟨w.heap.size + 1 + 1, 0, none⟩ (.slice p0' n0 c0')) = V1 at HA HR HO HB HSZ HQ0 ⊢
  obtain ⟨a0, a1⟩ := bxc HA.out
  refine (DfRenewal.toSF_any _ _ _ _ _ (HP1.out.below HB.out) m1).mono ?_
  rintro e w2 ⟨p1', c1', rfl, ho, hk, hb⟩
  have HK1 := Lib.hid hk
  clear hk
  have HQ1 : Hid (FRd DpRenewal.E (w.heap.size + 3) w2 p1' n1 l1) := Lib.hid (ho.up HSZ.out)
  clear ho
  clear a0 a1
  replace HA := Lib.hid (HA.out.below hb)
  replace HR := Lib.hid (HR.out.below hb)
  replace HO := Lib.hid (HO.out.below hb)
  replace HQ0 := Lib.hid (HQ0.out.below hb)
  replace HB := Lib.hid (below_on HB.out hb)
  replace HSZ := Lib.hid (Nat.le_trans HSZ.out hb.size)
  clear hb
  obtain ⟨a0, a1⟩ := bxc HA.out
  obtain ⟨q0, q1⟩ := bxc HO.out
  have g1 := HO.out.free 1
  obtain ⟨r0, r1⟩ := bxc HR.out
  have s0 := HR.out.free 0
  have s1 := HR.out.free 1
  go_wp2_with fail
  exact bodyPost_ret (v := .agg #[.slice p0' n0 c0', .slice p1' n1 c1']) (by simp [results, Try.results13, go_sem, r0, r1]) rfl ⟨p0', c0', p1', c1', rfl, (((((HQ0.out.far (q := ⟨w.heap.size + 1 + 1, 1, none⟩) (by show ¬ (w.heap.size + 3 ≤ w.heap.size + 1 + 1); omega) (.slice p1' n1 c1')).far (q := ⟨w.heap.size + 1, 0, none⟩) (by show ¬ (w.heap.size + 3 ≤ w.heap.size + 1); omega) (.slice p0' n0 c0')).far (q := ⟨w.heap.size + 1, 1, none⟩) (by show ¬ (w.heap.size + 3 ≤ w.heap.size + 1); omega) (.slice p1' n1 c1'))).up (by omega)), (((((HQ1.out.far (q := ⟨w.heap.size + 1 + 1, 1, none⟩) (by show ¬ (w.heap.size + 3 ≤ w.heap.size + 1 + 1); omega) (.slice p1' n1 c1')).far (q := ⟨w.heap.size + 1, 0, none⟩) (by show ¬ (w.heap.size + 3 ≤ w.heap.size + 1); omega) (.slice p0' n0 c0')).far (q := ⟨w.heap.size + 1, 1, none⟩) (by show ¬ (w.heap.size + 3 ≤ w.heap.size + 1); omega) (.slice p1' n1 c1'))).up (by omega)), HK0.out, HK1.out, (((HB.out.setCell (p := ⟨w.heap.size + 1 + 1, 1, none⟩) (by show w.heap.size ≤ w.heap.size + 1 + 1; omega) (.slice p1' n1 c1')).setCell (p := ⟨w.heap.size + 1, 0, none⟩) (by show w.heap.size ≤ w.heap.size + 1; omega) (.slice p0' n0 c0')).setCell (p := ⟨w.heap.size + 1, 1, none⟩) (by show w.heap.size ≤ w.heap.size + 1; omega) (.slice p1' n1 c1'))⟩
set_option maxRecDepth 100000 in
set_option maxHeartbeats 4000000 in
theorem toSF_any (p : Option Addr) (n c : Nat) (xs : List A) {S : Nat → Prop} (w : World) (hr : RdD E S w p n xs) (hm : n + wts E xs ≤ 1048576) : Calls Try.prog 88 #[.slice p n c] w fun e w' => ∃ (q : Option Addr) (d : Nat), e = .returned (.slice q n d) ∧ FRd E w.heap.size w' q n xs ∧ n ≤ d ∧ Below w.heap.size w w' := by
  obtain ⟨i0, hi, hz0, hz1, hz2⟩ := info_parts info
  have HR := Lib.hid hr
  have hn : n ≤ 1048576 := by omega
  have HM0 := Lib.hid hm
  clear hr hm
  go_enter Try.func88, Try.ntmps88
  go_wp2_with (refine wpList_make_full _ rfl _ _ 64 rfl w.heap.size 36 i0 _ 2 Try.underlying64 hi hz0 hz1 .i64 .i64 _ _ n rfl rfl rfl rfl (by rw [hz2]; omega) (by unfold maxLen; omega) (Nat.le_refl _) ?_; intro w1 hown1 hg1)
  have HM := Lib.hid (MidF.start (E := E) (z := [.slice none 0 0, .slice none 0 0]) (xs := xs) (.agg #[.slice none 0 0, .slice none 0 0]) rfl rfl (by intro u hu; simp only [List.mem_cons, List.not_mem_nil, or_false] at hu; rcases hu with rfl | rfl <;> rfl) hown1 hg1)
  clear hown1 hg1
  go_loopw [4] (fun i wr => ∃ k : Nat, k ≤ n ∧ i = .int .i64 k ∧ Hid (MidF E 36 [.slice none 0 0, .slice none 0 0] xs n k w wr)) (fun i _ => n - (intOf i).toNat)
  case atStart => exact ⟨0, Nat.zero_le _, rfl, HM⟩
  case round =>
    obtain ⟨k, hk, rfl, HK⟩ := hrel
    by_cases hlt : k < n
    · obtain ⟨b, o, x, cs, rfl, _, hbw, hx, hc, hrd⟩ := HR.out.at_ hlt
      obtain ⟨l0, l1⟩ := x
      obtain ⟨p0, n0, c0, p1, n1, c1, rfl, h0, h1⟩ := ex hrd
      have hB := HK.out.below
      have hwt : E.wt (l0, l1) ≤ 1048576 := by have h1 := wts_at (E := E) hx; have h2 := HM0.out; omega
      have hcc : ∀ j v, [.slice p0 n0 c0, .slice p1 n1 c1][j]? = some v → wr.cell? ⟨b, o + k * 2 + j, none⟩ = some v := fun j v hv => (hB.cell (p := ⟨b, o + k * 2 + j, none⟩) hbw).trans (hc j v hv)
      have HX := Lib.hid hx
      have HW := Lib.hid hwt
      have Hh0 := Lib.hid h0
      have Hh1 := Lib.hid h1
      have HBB := Lib.hid hB
      obtain ⟨u0, u1⟩ := at_cells hcc
      clear hc hcc hrd hx hwt hB h0 h1
      go_wp2_with fail
      refine (toF_any _ _ _ _ _ _ _ _ _ (Hh0.out.below HBB.out) (Hh1.out.below HBB.out) HW.out).mono ?_
      rintro e w2 ⟨p0', c0', p1', c1', rfl, ho0, ho1, hk0, hk1, hb2⟩
      obtain ⟨hz, hf⟩ := HK.out.cells hlt
      have d0 : w2.cell? ⟨w.heap.size, k * 2, none⟩ = some (.slice none 0 0) := (hb2.cell (p := ⟨w.heap.size, k * 2 + 0, none⟩) HK.out.lt).trans (hz 0 _ rfl)
      have d1 : w2.cell? ⟨w.heap.size, k * 2 + 1, none⟩ = some (.slice none 0 0) := (hb2.cell (p := ⟨w.heap.size, k * 2 + 1, none⟩) HK.out.lt).trans (hz 1 _ rfl)
      have f0 : w2.frozen? ⟨w.heap.size, k * 2, none⟩ = false := (hb2.frozen (p := ⟨w.heap.size, k * 2 + 0, none⟩) HK.out.lt).trans (hf _)
      have f1 : w2.frozen? ⟨w.heap.size, k * 2 + 1, none⟩ = false := (hb2.frozen (p := ⟨w.heap.size, k * 2 + 1, none⟩) HK.out.lt).trans (hf _)
      have HM2 := Lib.hid (HK.out.next hb2 hlt HX.out (mk (c0 := c0') (c1 := c1') ho0 ho1 hk0 hk1))
      clear hz hf hb2 ho0 hk0 ho1 hk1 u0 u1
      go_wp2_with fail
      go_roundw
      case rel => exact ⟨k + 1, by omega, by go_num, HM2⟩
      case measure => simp [intOf]; omega
    · obtain rfl : k = n := by omega
      have HD := Lib.hid (HK.out.done HR.out.len (by unfold maxLen; omega))
      go_wp2_with fail
      go_ret
      exact ⟨_, _, rfl, HD.out.1, Nat.le_refl _, HD.out.2⟩
end Go.Proofs.Ytjaholcmaafenaa.DfStrand
