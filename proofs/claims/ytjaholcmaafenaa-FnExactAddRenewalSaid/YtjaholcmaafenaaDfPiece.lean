/- Copies of Piece by the laws, in memory that isn't frozen. -/
import Derived.Test.YtjaholcmaafenaaDpPiece
import Derived.Test.YtjaholcmaafenaaEk
import Derived.OpenShut
import Derived.Deep.Fields
import Derived.Deep.RegionHeld3
import Derived.LoopTactic
import Derived.Outline
namespace Go.Proofs.Ytjaholcmaafenaa.DfPiece
open Go.ChangeShapes Go.WideShapes Go.ChangeAt Go.RowKit Sl St Ed Dz Ek DpPiece
set_option maxRecDepth 100000 in
set_option maxHeartbeats 4000000 in
theorem toF_any (x0 : Int) (l1 : List Int) (p1 : Option Addr) (n1 c1 : Nat) (x2 : Int) {S1 : Nat → Prop} (w : World) (h1 : RdD int S1 w p1 n1 l1) (hm : E.wt (x0, l1, x2) ≤ 1048576) : Calls Try.prog 52 #[.agg #[.int .i64 x0, .slice p1 n1 c1, .int .i64 x2]] w fun e w' => ∃ (p1' : Option Addr) (c1' : Nat), e = .returned (.agg #[.int .i64 x0, .slice p1' n1 c1', .int .i64 x2]) ∧ FRd int w.heap.size w' p1' n1 l1 ∧ n1 ≤ c1' ∧ Below w.heap.size w w' := by
  rw [wt_eq] at hm
  have k1 := h1.len
  have m1 : n1 + wts int l1 ≤ 1048576 := by omega
  have HP1 := Lib.hid h1
  clear hm h1 k1
  have b0 := ((Bx.new w 93 #[.int .i64 x0, .slice p1 n1 c1, .int .i64 x2]).alloc (.cells #[.int .i64 0, .slice none 0 0, .int .i64 0] 97)).alloc (.cells #[.int .i64 x0, .slice none 0 0, .int .i64 0] 97)
  have b1 := (Bx.new (w.alloc (.cells #[.int .i64 x0, .slice p1 n1 c1, .int .i64 x2] 93)) 97 #[.int .i64 0, .slice none 0 0, .int .i64 0]).alloc (.cells #[.int .i64 x0, .slice none 0 0, .int .i64 0] 97)
  have b2 := Bx.new ((w.alloc (.cells #[.int .i64 x0, .slice p1 n1 c1, .int .i64 x2] 93)).alloc (.cells #[.int .i64 0, .slice none 0 0, .int .i64 0] 97)) 97 #[.int .i64 x0, .slice none 0 0, .int .i64 0]
  rw [World.size_alloc] at b1
  rw [World.size_alloc, World.size_alloc] at b2
  have HA := Lib.hid b0
  have HR := Lib.hid b1
  have HO := Lib.hid b2
  have HB : Hid (Below w.heap.size w (((w.alloc (.cells #[.int .i64 x0, .slice p1 n1 c1, .int .i64 x2] 93)).alloc (.cells #[.int .i64 0, .slice none 0 0, .int .i64 0] 97)).alloc (.cells #[.int .i64 x0, .slice none 0 0, .int .i64 0] 97))) := Lib.hid ((((Below.refl w.heap.size w).alloc (Nat.le_refl _) _).alloc (by simp) _).alloc (by simp; omega) _)
  have HSZ : Hid (w.heap.size + 3 ≤ (((w.alloc (.cells #[.int .i64 x0, .slice p1 n1 c1, .int .i64 x2] 93)).alloc (.cells #[.int .i64 0, .slice none 0 0, .int .i64 0] 97)).alloc (.cells #[.int .i64 x0, .slice none 0 0, .int .i64 0] 97)).heap.size) := Lib.hid (by simp)
  clear b0 b1 b2
  go_enter Try.func52, Try.ntmps52
  go_wp2_with fail
  generalize (((w.alloc (.cells #[.int .i64 x0, .slice p1 n1 c1, .int .i64 x2] 93)).alloc (.cells #[.int .i64 0, .slice none 0 0, .int .i64 0] 97)).alloc (.cells #[.int .i64 x0, .slice none 0 0, .int .i64 0] 97)) = V at HA HR HO HB HSZ ⊢
  obtain ⟨a0, a1, a2⟩ := bxc HA.out
  refine (SlI.to_any _ _ _ _ _ (HP1.out.below HB.out).ints (by omega)).mono ?_
  rintro e w1 ⟨p1', n1', c1', rfl, ho, hb⟩
  obtain rfl : n1 = n1' := HP1.out.len.symm.trans ho.len
  have HK1 := Lib.hid (Ed.cap_ow ho)
  have HQ1 : Hid (FRd int (w.heap.size + 3) w1 p1' n1 l1) := Lib.hid ((ofOwF ho).up HSZ.out)
  clear ho
  clear a0 a1 a2
  replace HA := Lib.hid (HA.out.below hb)
  replace HR := Lib.hid (HR.out.below hb)
  replace HO := Lib.hid (HO.out.below hb)
  replace HB := Lib.hid (below_on HB.out hb)
  replace HSZ := Lib.hid (Nat.le_trans HSZ.out hb.size)
  clear hb
  obtain ⟨a0, a1, a2⟩ := bxc HA.out
  obtain ⟨q0, q1, q2⟩ := bxc HO.out
  have g1 := HO.out.free 1
  have g2 := HO.out.free 2
  obtain ⟨r0, r1, r2⟩ := bxc HR.out
  have s0 := HR.out.free 0
  have s1 := HR.out.free 1
  have s2 := HR.out.free 2
  go_wp2_with fail
  exact bodyPost_ret (v := .agg #[.int .i64 x0, .slice p1' n1 c1', .int .i64 x2]) (by simp [results, Try.results52, go_sem, r0, r1, r2]) rfl ⟨p1', c1', rfl, (((((((HQ1.out.far (q := ⟨w.heap.size + 1 + 1, 1, none⟩) (by show ¬ (w.heap.size + 3 ≤ w.heap.size + 1 + 1); omega) (.slice p1' n1 c1')).far (q := ⟨w.heap.size + 1 + 1, 2, none⟩) (by show ¬ (w.heap.size + 3 ≤ w.heap.size + 1 + 1); omega) (.int .i64 x2)).far (q := ⟨w.heap.size + 1, 0, none⟩) (by show ¬ (w.heap.size + 3 ≤ w.heap.size + 1); omega) (.int .i64 x0)).far (q := ⟨w.heap.size + 1, 1, none⟩) (by show ¬ (w.heap.size + 3 ≤ w.heap.size + 1); omega) (.slice p1' n1 c1')).far (q := ⟨w.heap.size + 1, 2, none⟩) (by show ¬ (w.heap.size + 3 ≤ w.heap.size + 1); omega) (.int .i64 x2))).up (by omega)), HK1.out, (((((HB.out.setCell (p := ⟨w.heap.size + 1 + 1, 1, none⟩) (by show w.heap.size ≤ w.heap.size + 1 + 1; omega) (.slice p1' n1 c1')).setCell (p := ⟨w.heap.size + 1 + 1, 2, none⟩) (by show w.heap.size ≤ w.heap.size + 1 + 1; omega) (.int .i64 x2)).setCell (p := ⟨w.heap.size + 1, 0, none⟩) (by show w.heap.size ≤ w.heap.size + 1; omega) (.int .i64 x0)).setCell (p := ⟨w.heap.size + 1, 1, none⟩) (by show w.heap.size ≤ w.heap.size + 1; omega) (.slice p1' n1 c1')).setCell (p := ⟨w.heap.size + 1, 2, none⟩) (by show w.heap.size ≤ w.heap.size + 1; omega) (.int .i64 x2))⟩
set_option maxRecDepth 100000 in
set_option maxHeartbeats 4000000 in
theorem toSF_any (p : Option Addr) (n c : Nat) (xs : List A) {S : Nat → Prop} (w : World) (hr : RdD E S w p n xs) (hm : n + wts E xs ≤ 1048576) : Calls Try.prog 68 #[.slice p n c] w fun e w' => ∃ (q : Option Addr) (d : Nat), e = .returned (.slice q n d) ∧ FRd E w.heap.size w' q n xs ∧ n ≤ d ∧ Below w.heap.size w w' := by
  obtain ⟨i0, hi, hz0, hz1, hz2⟩ := info_parts info
  have HR := Lib.hid hr
  have hn : n ≤ 1048576 := by omega
  have HM0 := Lib.hid hm
  clear hr hm
  go_enter Try.func68, Try.ntmps68
  go_wp2_with (refine wpList_make_full _ rfl _ _ 33 rfl w.heap.size 97 i0 _ 3 Try.underlying33 hi hz0 hz1 .i64 .i64 _ _ n rfl rfl rfl rfl (by rw [hz2]; omega) (by unfold maxLen; omega) (Nat.le_refl _) ?_; intro w1 hown1 hg1)
  have HM := Lib.hid (MidF.start (E := E) (z := [.int .i64 0, .slice none 0 0, .int .i64 0]) (xs := xs) (.agg #[.int .i64 0, .slice none 0 0, .int .i64 0]) rfl rfl (by intro u hu; simp only [List.mem_cons, List.not_mem_nil, or_false] at hu; rcases hu with rfl | rfl | rfl <;> rfl) hown1 hg1)
  clear hown1 hg1
  go_loopw [4] (fun i wr => ∃ k : Nat, k ≤ n ∧ i = .int .i64 k ∧ Hid (MidF E 97 [.int .i64 0, .slice none 0 0, .int .i64 0] xs n k w wr)) (fun i _ => n - (intOf i).toNat)
  case atStart => exact ⟨0, Nat.zero_le _, rfl, HM⟩
  case round =>
    obtain ⟨k, hk, rfl, HK⟩ := hrel
    by_cases hlt : k < n
    · obtain ⟨b, o, x, cs, rfl, _, hbw, hx, hc, hrd⟩ := HR.out.at_ hlt
      obtain ⟨x0, l1, x2⟩ := x
      obtain ⟨p1, n1, c1, rfl, b0, h1, b2⟩ := ex hrd
      have hB := HK.out.below
      have hwt : E.wt (x0, l1, x2) ≤ 1048576 := by have h1 := wts_at (E := E) hx; have h2 := HM0.out; omega
      have hcc : ∀ j v, [.int .i64 x0, .slice p1 n1 c1, .int .i64 x2][j]? = some v → wr.cell? ⟨b, o + k * 3 + j, none⟩ = some v := fun j v hv => (hB.cell (p := ⟨b, o + k * 3 + j, none⟩) hbw).trans (hc j v hv)
      have HX := Lib.hid hx
      have HW := Lib.hid hwt
      have Hb0 := Lib.hid b0
      have Hh1 := Lib.hid h1
      have Hb2 := Lib.hid b2
      have HBB := Lib.hid hB
      obtain ⟨u0, u1, u2⟩ := at_cells hcc
      clear hc hcc hrd hx hwt hB b0 h1 b2
      go_wp2_with fail
      refine (toF_any _ _ _ _ _ _ _ (Hh1.out.below HBB.out) HW.out).mono ?_
      rintro e w2 ⟨p1', c1', rfl, ho1, hk1, hb2⟩
      obtain ⟨hz, hf⟩ := HK.out.cells hlt
      have d0 : w2.cell? ⟨w.heap.size, k * 3, none⟩ = some (.int .i64 0) := (hb2.cell (p := ⟨w.heap.size, k * 3 + 0, none⟩) HK.out.lt).trans (hz 0 _ rfl)
      have d1 : w2.cell? ⟨w.heap.size, k * 3 + 1, none⟩ = some (.slice none 0 0) := (hb2.cell (p := ⟨w.heap.size, k * 3 + 1, none⟩) HK.out.lt).trans (hz 1 _ rfl)
      have d2 : w2.cell? ⟨w.heap.size, k * 3 + 2, none⟩ = some (.int .i64 0) := (hb2.cell (p := ⟨w.heap.size, k * 3 + 2, none⟩) HK.out.lt).trans (hz 2 _ rfl)
      have f0 : w2.frozen? ⟨w.heap.size, k * 3, none⟩ = false := (hb2.frozen (p := ⟨w.heap.size, k * 3 + 0, none⟩) HK.out.lt).trans (hf _)
      have f1 : w2.frozen? ⟨w.heap.size, k * 3 + 1, none⟩ = false := (hb2.frozen (p := ⟨w.heap.size, k * 3 + 1, none⟩) HK.out.lt).trans (hf _)
      have f2 : w2.frozen? ⟨w.heap.size, k * 3 + 2, none⟩ = false := (hb2.frozen (p := ⟨w.heap.size, k * 3 + 2, none⟩) HK.out.lt).trans (hf _)
      have HM2 := Lib.hid (HK.out.next hb2 hlt HX.out (mk (c1 := c1') Hb0.out ho1 Hb2.out hk1))
      clear hz hf hb2 ho1 hk1 u0 u1 u2
      go_wp2_with fail
      go_roundw
      case rel => exact ⟨k + 1, by omega, by go_num, HM2⟩
      case measure => simp [intOf]; omega
    · obtain rfl : k = n := by omega
      have HD := Lib.hid (HK.out.done HR.out.len (by unfold maxLen; omega))
      go_wp2_with fail
      go_ret
      exact ⟨_, _, rfl, HD.out.1, Nat.le_refl _, HD.out.2⟩
end Go.Proofs.Ytjaholcmaafenaa.DfPiece
