/- Pieces digested by the reference; leaves of both. -/
import Derived.Test.YtjickcnjnebpcaaWp
import Derived.Deep.RegionHeld3
namespace Go.Proofs.Ytjickcnjnebpcaa.Wq
open Go.ChangeShapes Go.WideShapes Go.ChangeAt Go.RowKit Sl St Ed Dz Wr Wp Es
set_option maxRecDepth 100000 in
set_option maxHeartbeats 8000000 in
theorem spec_digest_any (id : Int) (hid : InI id) (xs : List DpPiece.A) (p : Option Addr) (n c : Nat) {S : Nat → Prop} (w : World) (hr0 : RdD DpPiece.E S w p n xs) (hm : n + wts DpPiece.E xs ≤ 1048576) : Calls Try.prog 58 #[.int .i64 id, .slice p n c] w (Val (.int .i64 (pd id xs)) w) := by
  obtain ⟨i0, hi0, hz0, hz1, hz2⟩ := info_parts SlI.info
  have hr := fresh hr0
  clear hr0
  have HR := Lib.hid hr
  have HM := Lib.hid hm
  have HID : Hid (inK .i64 id) := Lib.hid hid
  have hn : n ≤ 1048576 := by omega
  clear hr hm hid
  have HO0 : Hid (Ow .i64 3 (w.alloc (.cells #[.int .i64 2] 3)) w.heap.size (w.alloc (.cells #[.int .i64 2] 3)).heap.size (some ⟨w.heap.size, 0, none⟩) 1 1 (pdl id (xs.take 0))) := Lib.hid (litN_own 3 w w.heap.size [2] (allK_cons ⟨by omega, by omega⟩ (allK_nil _)) (Nat.le_refl _) (by simp))
  have HB0 := Lib.hid (box1 w (.cells #[.int .i64 2] 3))
  go_enter Try.func58, Try.ntmps58
  go_wp2_with fail
  go_loopw [5, 6] (fun v i wr => ∃ (k c' : Nat) (p' : Option Addr), k ≤ n ∧ i = .int .i64 k ∧ v = .slice p' (k + 1) c' ∧ Hid (Ow .i64 3 wr w.heap.size wr.heap.size p' (k + 1) c' (pdl id (xs.take k))) ∧ Hid (Below w.heap.size w wr)) (fun _ i _ => n - (intOf i).toNat)
  case atStart => exact ⟨0, _, _, Nat.zero_le _, rfl, rfl, HO0, HB0⟩
  case round =>
    obtain ⟨k, c', p', hk, rfl, rfl, HO, HB⟩ := hrel
    by_cases hlt : k < n
    · skip
      obtain ⟨b, o, x_, cs_, rfl, _, hbw, hx, hc, hrd⟩ := HR.out.at_ hlt
      obtain ⟨x0, l1, x2⟩ := x_
      obtain ⟨p1, n1, c1, rfl, b0, h1, b2⟩ := DpPiece.ex hrd
      have hcc : ∀ j v, [.int .i64 x0, .slice p1 n1 c1, .int .i64 x2][j]? = some v → wr.cell? ⟨b, o + k * 3 + j, none⟩ = some v := fun j v hv => (HB.out.cell (p := ⟨b, o + k * 3 + j, none⟩) hbw).trans (hc j v hv)
      have HX := Lib.hid hx
      have HC := Lib.hid hcc
      have H1 := Lib.hid (h1.below HB.out)
      have hn1 := h1.le
      have Gb0 := Lib.hid b0
      have Gb2 := Lib.hid b2
      obtain ⟨u0, u1, u2⟩ := DpPiece.at_cells hcc
      clear hcc hc hx hrd b0 h1 b2
      have hwt := wts_at (E := DpPiece.E) HX.out
      have hl1 := H1.out.len
      have hm1 : n1 ≤ 1048576 := by have h := HM.out; rw [DpPiece.wt_eq] at hwt; omega
      have HNX := Lib.hid (pdl_take (m := id) HX.out)
      clear hwt hl1
      have sW := HB.out.size
      have hbb : b < wr.heap.size := Nat.lt_of_lt_of_le hbw sW
      have HCC : Hid (∀ w' : World, w'.heap[b]? = wr.heap[b]? → w'.cell? ⟨b, o + k * 3, none⟩ = some (.int .i64 x0) ∧ w'.cell? ⟨b, o + k * 3 + 1, none⟩ = some (.slice p1 n1 c1) ∧ w'.cell? ⟨b, o + k * 3 + 2, none⟩ = some (.int .i64 x2)) := Lib.hid fun w' e => DpPiece.at_cells (q := o + k * 3) fun j v hv => (World.cell?_of_block (w := wr) (a := ⟨b, o + k * 3 + j, none⟩) e).trans (HC.out j v hv)
      have hb1 : Below wr.heap.size wr (wr.alloc (.cells #[.int .i64 x0, .int .i64 x2] 3)).drew := below_drewN (box1 wr _) 1
      have HB1 := Lib.hid hb1
      have hL : Ow .i64 3 (wr.alloc (.cells #[.int .i64 x0, .int .i64 x2] 3)).drew wr.heap.size (wr.alloc (.cells #[.int .i64 x0, .int .i64 x2] 3)).drew.heap.size (some ⟨wr.heap.size, 0, none⟩) 2 2 [x0, x2] := (litN_own 3 wr wr.heap.size [x0, x2] (allK_cons Gb0.out (allK_cons Gb2.out (allK_nil _))) (Nat.le_refl _) (by simp)).drew1
      have HL := Lib.hid hL
      have HR1 := Lib.hid (H1.out.ints.below hb1)
      have HO1 := Lib.hid (HO.out.below hb1)
      have i1 : (0 : Int) ≤ (k : Int) := by omega
      have i2 : (k : Int) < (n : Int) := by omega
      clear hb1 hL
      go_wp2_with fail
      go_region_held3 (fun w' => w'.cell? ⟨b, o + k * 3, none⟩ = some (.int .i64 x0) ∧ w'.cell? ⟨b, o + k * 3 + 1, none⟩ = some (.slice p1 n1 c1) ∧ w'.cell? ⟨b, o + k * 3 + 2, none⟩ = some (.int .i64 x2)) (first
        | (revert HG4; intro hh; replace hh := hh.out; exact HCC.out _ hh) | (revert HB3; intro hh; replace hh := hh.out; exact HCC.out _ ((hh.block _ hbb).trans (HB1.out.block _ hbb))) | (revert HB2; intro hh; replace hh := hh.out; exact HCC.out _ ((hh.block _ hbb).trans (HB1.out.block _ hbb))) | exact HCC.out _ (HB1.out.block _ hbb) | exact HCC.out _ rfl | go_keep) (first
        | (refine step_appR (by rfl) (.tmp 26) (.tmp 31) 23 (by rfl) i0 _ 8 Try.underlying23 hi0 hz0 hz1 hz2 (by rfl) (by rfl) HL.out _ _ _ _ (by rfl) HR1.out (by simp) (by omega) (by omega) ?_; intro p2 c2 w2 how2 hg2; have HA2 := Lib.hid how2; have HB2 := Lib.hid (HL.out.below_row hg2 (by simp)); have HO2 := Lib.hid (HO1.out.apart HL.out hg2 (Or.inl (Nat.le_refl _))); clear how2 hg2)
        | (go_at_call 60; (with_reducible refine (Dg.spec_dig_any id _ _ _ _ _ HA2.out.rd HID.out (by omega)).mono ?_); rintro e w3 ⟨rfl, hb3⟩; have HO3 := Lib.hid (HO2.out.below hb3); have HB3 := Lib.hid (below_more HB2.out (by simp) hb3); clear hb3)
        | (refine step_appR (by rfl) (.tmp 14) (.tmp 34) 23 (by rfl) i0 _ 8 Try.underlying23 hi0 hz0 hz1 hz2 (by rfl) (by rfl) (HO3.out.alloc _) _ _ _ _ (by rfl) (lit_rd w3 [Dg.dig id ([x0, x2] ++ l1)] (allK_cons (dig_inK _ _) (allK_nil _)) (by simp)) (by have := HB3.out.size; have := HB1.out.size; simp only [World.size_alloc]; omega) (by simp only [List.length_singleton]; omega) (by simp only [List.length_singleton]; omega) ?_; intro p4 c4 w4 how4 hg4; have HO4 : Hid (Ow .i64 3 w4 w.heap.size w4.heap.size p4 (k + 1 + 1) c4 (pdl id (xs.take (k + 1)))) := Lib.hid (by rw [HNX.out]; exact how4); have HG4 : Hid (w4.heap[b]? = wr.heap[b]?) := Lib.hid (((hg4.block b (by have := HB3.out.size; have := HB1.out.size; simp only [World.size_alloc]; omega) (fun e => by have := HO3.out.far _ e.symm; omega)).trans (Below.heap_alloc w3 _ b (by have := HB3.out.size; have := HB1.out.size; omega))).trans ((HB3.out.block _ hbb).trans (HB1.out.block _ hbb))); have HB4 : Hid (Below w.heap.size w w4) := Lib.hid (below_row (((HB.out.trans (HB1.out.mono sW)).trans (HB3.out.mono sW)).alloc (by have := HB3.out.size; have := HB1.out.size; omega) _) (HO3.out.alloc _) hg4 (Nat.le_refl _)); clear how4 hg4) | fail)
      go_wp2_with fail
      go_roundw
      case rel => exact ⟨k + 1, _, _, by omega, by go_num, rfl, HO4, HB4⟩
      case measure => simp [intOf]; omega
    · obtain rfl : k = n := by omega
      have HT : Hid (pdl id (xs.take k) = pdl id xs) := Lib.hid (by rw [← HR.out.len, List.take_length])
      have HO' : Hid (Ow .i64 3 wr w.heap.size wr.heap.size p' (k + 1) c' (pdl id xs)) := Lib.hid (by rw [← HT.out]; exact HO.out)
      go_wp2_with fail
      refine (Dg.spec_dig_any id _ _ _ _ _ HO'.out.rd HID.out (by omega)).mono ?_
      rintro e w3 ⟨rfl, hb3⟩
      have HB3 := Lib.hid (below_on HB.out hb3)
      clear hb3
      go_wp2_with fail
      go_ret
      exact val_of rfl HB3.out
end Go.Proofs.Ytjickcnjnebpcaa.Wq
