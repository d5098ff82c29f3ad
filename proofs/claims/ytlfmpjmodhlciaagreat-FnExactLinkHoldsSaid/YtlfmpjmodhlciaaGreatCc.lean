/- Contracts of slices.Grow and slices.Concat over two slices of ints. -/
import Derived.Test.YtlfmpjmodhlciaaGreatSlI
import Derived.Test.YtlfmpjmodhlciaaGreatSr
import Derived.Test.YtlfmpjmodhlciaaGreatBx
import Derived.Lib.AppendZeros
import Derived.LoopTactic
import Derived.Outline
namespace Go.Proofs.YtlfmpjmodhlciaaGreat.Cc
open Go.ChangeShapes Go.WideShapes Go.ChangeAt Go.RowKit Sl SlI

/-- what is new: a slice without elements, and room behind it -/
def Room (w : World) (e : Ending) (w' : World) : Prop := ∃ p c, e = .returned (.slice p 0 c) ∧ Ow .i64 3 w' w.heap.size w'.heap.size p 0 c [] ∧ Below w.heap.size w w'
theorem zeros_size (z : Value) (n : Nat) (h : z.cells.size = 1) : (Builtin.zeroCells z.cells n).size = n := by
  simp [Builtin.zeroCells, h]
set_option maxRecDepth 100000 in
set_option maxHeartbeats 1000000 in
theorem grow_any (m : Nat) (w : World) (hm : m ≤ 100000000) : Calls Tryz.prog 197 #[.slice none 0 0, .int .i64 m] w (Room w) := by
  obtain ⟨i0, hi, hz0, hz1, hz2⟩ := info_parts SlI.info
  rcases Nat.eq_zero_or_pos m with rfl | hpos
  · go_enter Tryz.func197, Tryz.ntmps197
    go_wp2_with fail
    go_ret
    exact ⟨_, _, rfl, (Ow.nil_ .i64 _ w _ (Nat.le_refl _)), Below.refl _ _⟩
  · have hneg : ¬ (m : Int) < 0 := by omega
    have hp : (0 : Int) < (m : Int) := by omega
    have hG : m ≤ grownCap w m 0 3 := grownCap_ge w _ _ _
    have hG2 : grownCap w m 0 3 ≤ maxLen := grownCap_le_maxLen w m 0 3 (by unfold maxLen; omega)
    have hrz : ∀ ty, (Builtin.append_ #[48, 3] ty #[.slice none 0 0, .int .i64 m]).run Tryz.prog w = .ok (.slice (some ⟨w.heap.size, 0, none⟩) m (grownCap w m 0 3)) (w.drew.alloc (.cells (Builtin.zeroCells (Value.int .i64 0).cells m ++ Builtin.zeroCells (Value.int .i64 0).cells (grownCap w m 0 3 - m)) 3)) :=
      fun ty => Lib.run_append_nil_zeros w 48 3 ty 3 i0 _ .i64 .i64 Tryz.underlying48 Tryz.underlying3 hi hz0 m hpos (by rw [hz1]; decide) (by omega) (by rw [hz2]; omega)
    have hF := World.ownsRow_made (base := w.heap.size) (e := 3) (size := 1) w.drew (Builtin.zeroCells (Value.int .i64 0).cells m ++ Builtin.zeroCells (Value.int .i64 0).cells (grownCap w m 0 3 - m)) (grownCap w m 0 3) (Nat.le_refl _) hG2 (by rw [Array.size_append, zeros_size _ _ rfl, zeros_size _ _ rfl]; omega)
    have HF := Lib.hid hF
    clear hF
    generalize grownCap w m 0 3 = G at hG hG2 hrz HF
    unfold maxLen at hG2
    generalize (Builtin.zeroCells (Value.int .i64 0).cells m ++ Builtin.zeroCells (Value.int .i64 0).cells (G - m)) = cs at hrz HF
    have HB : Hid (Below w.heap.size w (w.drew.alloc (.cells cs 3))) := Lib.hid ((below_drewN (Below.refl _ _) 1).alloc (Nat.le_refl _) _)
    go_enter Tryz.func197, Tryz.ntmps197
    go_wp2_with (at_builtin; refine Lib.wpList_append_run _ rfl _ _ _ _ rfl _ _ rfl rfl _ _ (hrz _) ?_)
    all_goals
      go_ret
      exact ⟨_, _, rfl, Ow.of_row (zs := []) HF.out (allK_nil _), HB.out⟩
/-- the sum of what has been counted -/
def sumN (n1 n2 k : Nat) : Nat := if k = 0 then 0 else if k = 1 then n1 else n1 + n2
def catL (zs1 zs2 : List Int) (k : Nat) : List Int := if k = 0 then [] else if k = 1 then zs1 else zs1 ++ zs2
set_option maxRecDepth 100000 in
set_option maxHeartbeats 4000000 in
theorem concat_any (B : Nat) (T : TypeId) (p1 : Option Addr) (n1 c1 : Nat) (zs1 : List Int) (p2 : Option Addr) (n2 c2 : Nat) (zs2 : List Int) (w : World) (hB : Bx w B T #[.slice p1 n1 c1, .slice p2 n2 c2])
    (hr1 : Rd .i64 w p1 n1 zs1) (hr2 : Rd .i64 w p2 n2 zs2) (h1 : n1 ≤ 10000000) (h2 : n2 ≤ 10000000) : Calls Tryz.prog 191 #[.slice (some ⟨B, 0, none⟩) 2 2] w (SlI.Makes (zs1 ++ zs2) w) := by
  obtain ⟨i0, hi, hz0, hz1, hz2⟩ := info_parts SlI.info
  have HR1 := Lib.hid hr1
  have HR2 := Lib.hid hr2
  have HX := Lib.hid hB
  have q0 := hB.cell (j := 0) rfl
  have q1 := hB.cell (j := 1) rfl
  have s1 : ¬ (n1 : Int) < 0 := by omega
  have s2 : ¬ ((n1 : Int) + (n2 : Int)) < 0 := by omega
  clear hr1 hr2 hB
  go_enter Tryz.func191, Tryz.ntmps191
  go_wp2_with fail
  go_loop [3, 11] (fun s i => ∃ k : Nat, k ≤ 2 ∧ i = .int .i64 k ∧ s = .int .i64 (sumN n1 n2 k : Nat)) (fun _ i => 2 - (intOf i).toNat)
  case atStart => exact ⟨0, by omega, rfl, rfl⟩
  case round =>
    obtain ⟨k, hk, rfl, rfl⟩ := hrel
    obtain rfl | rfl | rfl : k = 0 ∨ k = 1 ∨ k = 2 := by omega
    · simp only [sumN, if_true]
      go_wp2_with fail
      go_round
      case rel => exact ⟨1, by omega, by go_num, by simp⟩
      case measure => simp [intOf]
    · simp only [sumN, if_true, show ¬ (1 = 0) by decide, if_false]
      go_wp2_with fail
      go_round
      case rel => exact ⟨2, by omega, by go_num, by simp⟩
      case measure => simp [intOf]
    · simp only [sumN, show ¬ (2 = 0) by decide, show ¬ (2 = 1) by decide, if_false]
      go_wp2_with fail
      refine (grow_any (n1 + n2) _ (by omega)).mono ?_
      rintro e w1 ⟨p, c, rfl, ho, hb⟩
      have HO := Lib.hid ho
      have HB := Lib.hid hb
      have hs := hb.size
      have r0 := (HX.out.below hb).cell (j := 0) rfl
      have r1 := (HX.out.below hb).cell (j := 1) rfl
      clear ho hb q0 q1
      go_wp2_with fail
      go_loopw [6, 27] (fun v i wr => ∃ (k m c' : Nat) (p' : Option Addr), k ≤ 2 ∧ i = .int .i64 k ∧ v = .slice p' m c' ∧ Hid (Ow .i64 3 wr w.heap.size wr.heap.size p' m c' (catL zs1 zs2 k) ∧ Below w.heap.size w wr)) (fun _ i _ => 2 - (intOf i).toNat)
      case atStart => exact ⟨0, 0, _, _, by omega, rfl, rfl, Lib.hid ⟨HO.out, HB.out⟩⟩
      case round =>
        clear r0 r1
        obtain ⟨k, m, c', p', hk, rfl, rfl, HK⟩ := hrel
        have hsz := HK.out.2.size
        have hl := HK.out.1.len
        have hl1 := HR1.out.len
        have q0 := (HX.out.below HK.out.2).cell (j := 0) rfl
        have q1 := (HX.out.below HK.out.2).cell (j := 1) rfl
        obtain rfl | rfl | rfl : k = 0 ∨ k = 1 ∨ k = 2 := by omega
        · obtain rfl : m = 0 := by simpa [catL] using hl.symm
          have HC : Hid (catL zs1 zs2 0 ++ zs1 = catL zs1 zs2 1) := Lib.hid (by simp [catL])
          clear hl hl1
          go_wp2_with (at_builtin; refine wpList_appR rfl (.tmp 31) (.tmp 32) 48 rfl i0 _ 8 Tryz.underlying48 hi hz0 hz1 hz2 rfl rfl HK.out.1 p1 n1 c1 zs1 rfl (HR1.out.below HK.out.2) hsz (by omega) (by omega) ?_; intro p3 c3 w3 how3 hg3; rw [HC.out, Nat.zero_add] at how3; have HO3 := Lib.hid how3; have HB3 := Lib.hid (below_row HK.out.2 HK.out.1 hg3 (Nat.le_refl _)); clear how3 hg3)
          go_roundw
          case rel => exact ⟨1, _, _, _, by omega, by go_num, rfl, Lib.hid ⟨HO3.out, HB3.out⟩⟩
          case measure => simp [intOf]
        · obtain rfl : m = n1 := by rw [← hl, ← hl1]; simp [catL]
          have HC : Hid (catL zs1 zs2 1 ++ zs2 = catL zs1 zs2 2) := Lib.hid (by simp [catL])
          clear hl hl1
          go_wp2_with (at_builtin; refine wpList_appR rfl (.tmp 31) (.tmp 32) 48 rfl i0 _ 8 Tryz.underlying48 hi hz0 hz1 hz2 rfl rfl HK.out.1 p2 n2 c2 zs2 rfl (HR2.out.below HK.out.2) hsz (by omega) (by omega) ?_; intro p3 c3 w3 how3 hg3; rw [HC.out] at how3; have HO3 := Lib.hid how3; have HB3 := Lib.hid (below_row HK.out.2 HK.out.1 hg3 (Nat.le_refl _)); clear how3 hg3)
          go_roundw
          case rel => exact ⟨2, _, _, _, by omega, by go_num, rfl, Lib.hid ⟨HO3.out, HB3.out⟩⟩
          case measure => simp [intOf]
        · have HC : Hid (catL zs1 zs2 2 = zs1 ++ zs2) := Lib.hid (by simp [catL])
          clear hl hl1
          go_wp2_with fail
          go_ret
          exact ⟨_, _, _, rfl, by rw [← HC.out]; exact HK.out.1, HK.out.2⟩
end Go.Proofs.YtlfmpjmodhlciaaGreat.Cc
