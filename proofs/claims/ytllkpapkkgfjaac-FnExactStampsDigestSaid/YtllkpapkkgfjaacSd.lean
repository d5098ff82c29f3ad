/- Contracts of the digest of stamps; in the program (the encoder) and in the reference. -/
import Derived.Test.YtllkpapkkgfjaacGe
import Derived.Test.YtllkpapkkgfjaacDg
import Derived.Test.YtllkpapkkgfjaacMin
import Derived.LoopTactic
import Derived.Outline
namespace Go.Proofs.Ytllkpapkkgfjaac.Sd
open Go.ChangeShapes Go.WideShapes Go.ChangeAt Go.RowKit Sl St Fnd SlStamp Ki Ge Ints
def mks (xs : List I5) : List Int := xs.map fun x => x.2.2.2.2
def stD (m : Int) (xs : List I5) : Int := if xs.length = 0 then 0 else maxI 1 (Dg.dig m (mks xs))
theorem stD_nil {m : Int} {xs : List I5} (h : xs.length = 0) : stD m xs = 0 := if_pos h
theorem stD_some {m : Int} {xs : List I5} (h : xs.length ≠ 0) : stD m xs = maxI 1 (Dg.dig m (mks xs)) := if_neg h
theorem mks_succ {xs : List I5} {k : Nat} {y : I5} (hk : k < xs.length) (hy : xs.getD k SlStamp.zero = y) : mks (xs.take (k + 1)) = mks (xs.take k) ++ [y.2.2.2.2] := by
  rw [take_succ SlStamp.zero hk, hy]; simp [mks]
def Way (xs : List I5) (k : Nat) (p : Option Addr) (c : Nat) (w wr : World) : Prop := Ow .i64 3 wr w.heap.size wr.heap.size p k c (mks (xs.take k)) ∧ Below w.heap.size w wr
theorem lit0_own (w : World) : Ow .i64 3 (w.alloc (.cells #[] 3)) w.heap.size (w.alloc (.cells #[] 3)).heap.size (some ⟨w.heap.size, 0, none⟩) 0 0 [] := litN_own 3 w w.heap.size [] (allK_nil _) (Nat.le_refl _) (by simp)
set_option maxRecDepth 100000 in
set_option maxHeartbeats 4000000 in
theorem spec_stamps_any (id : Int) (hid : inK .i64 id) (p : Option Addr) (n c : Nat) (xs : List I5) (hR : ∀ x ∈ xs, InR x) (w : World) (hr : RdS E w p n xs) (hn : n ≤ 10000000) : Calls Try.prog 44 #[.int .i64 id, .slice p n c] w (Val (.int .i64 (stD id xs)) w) := by
  obtain ⟨i0, hi, hz0, hz1, hz2⟩ := info_parts SlI.info
  have HR := Lib.hid hr
  have HL := Lib.hid hr.len
  have HID := Lib.hid hid
  clear hr hid
  by_cases h0 : n = 0
  · have HS := Lib.hid (stD_nil (m := id) (HL.out.trans h0))
    have he : ((n : Int) == 0) = true := by simp; omega
    clear h0
    go_enter Try.func44, Try.ntmps44
    go_wp2_with fail
    go_ret
    exact ⟨by rw [HS.out]; rfl, Below.refl _ _⟩
  · have he : ((n : Int) == 0) = false := by simp; omega
    have HS := Lib.hid (stD_some (m := id) (xs := xs) (by rw [HL.out]; exact h0))
    have HM : Hid (Way xs 0 (some ⟨w.heap.size, 0, none⟩) 0 w (w.alloc (.cells #[] 3))) := Lib.hid ⟨lit0_own w, (Below.refl _ _).alloc (Nat.le_refl _) _⟩
    go_enter Try.func44, Try.ntmps44
    go_wp2_with fail
    go_loopw [5, 6] (fun v i wr => ∃ (k c' : Nat) (p' : Option Addr), k ≤ n ∧ i = .int .i64 k ∧ v = .slice p' k c' ∧ Hid (Way xs k p' c' w wr)) (fun _ i _ => n - (intOf i).toNat)
    case atStart => exact ⟨0, _, _, Nat.zero_le _, rfl, rfl, HM⟩
    case round =>
      obtain ⟨k, c', p', hk, rfl, rfl, HK⟩ := hrel
      have hsz := HK.out.2.size
      by_cases hlt : k < n
      · obtain ⟨b, o, rfl, hb, hat⟩ := rd_at (HR.out.below HK.out.2) hlt
        have hkx : k < xs.length := by rw [HL.out]; exact hlt
        have hY := hR _ (getD_mem SlStamp.zero hkx)
        generalize hy : xs.getD k SlStamp.zero = y at hat hY
        obtain ⟨y0, y1, y2, y3, y4⟩ := y
        obtain ⟨g0, g1, g2, g3, g4⟩ := hY
        have HY := Lib.hid g4
        obtain ⟨c0, c1, c2, c3, c4⟩ := hat
        have HI := Lib.hid (mks_succ hkx hy)
        clear hy hkx g0 g1 g2 g3 g4
        go_wp2_with (at_builtin; refine wpList_app1 rfl (.tmp 17) (.tmp 23) 26 rfl i0 _ 8 Try.underlying26 hi hz0 hz1 hz2 rfl rfl (HK.out.1.alloc _) wr.heap.size 1 y4 rfl (by go_simp) HY.out (by simp; omega) (by omega) (by omega) ?_; intro p2 c2 w2 how2 hg2; rw [← HI.out] at how2; have HK2 : Hid (Way xs (k + 1) p2 c2 w w2) := Lib.hid ⟨how2, (HK.out.2.alloc HK.out.2.size _).trans ((HK.out.1.alloc _).below_row hg2 (Nat.le_trans HK.out.2.size (by simp)))⟩; clear how2 hg2)
        go_roundw
        case rel => exact ⟨k + 1, _, _, by omega, by go_num, rfl, HK2⟩
        case measure => simp [intOf]; omega
      · obtain rfl : k = n := by omega
        have HT : Hid (xs.take k = xs) := Lib.hid (List.take_of_length_le (by rw [HL.out]; exact Nat.le_refl _))
        have hO := HK.out.1
        rw [HT.out] at hO
        have HO := Lib.hid hO
        clear hO
        go_wp2_with fail
        refine (Dg.spec_dig_any id _ _ _ _ _ HO.out.rd HID.out (by omega)).mono ?_
        rintro e w3 ⟨rfl, hb⟩
        have HB := Lib.hid (below_on HK.out.2 hb)
        clear hb
        go_wp2_with fail
        refine (spec_max_any _ _ _).mono ?_
        rintro e w4 ⟨rfl, rfl⟩
        go_wp2_with fail
        go_ret
        exact ⟨by rw [HS.out]; rfl, HB.out⟩
def WayE (xs : List I5) (k : Nat) (w wr : World) : Prop := ∃ p' c', Bx wr w.heap.size 121 #[.slice p' k c'] ∧ Ow .i64 3 wr w.heap.size wr.heap.size p' k c' (mks (xs.take k)) ∧ Below w.heap.size w wr
set_option maxRecDepth 100000 in
set_option maxHeartbeats 4000000 in
theorem stamps_any (id : Int) (p : Option Addr) (n c : Nat) (xs : List I5) (hR : ∀ x ∈ xs, InR x) (w : World) (hr : RdS E w p n xs) (hn : n ≤ 9000000) : Calls Try.prog 26 #[.int .i64 id, .slice p n c] w (Val (.int .i64 (stD id xs)) w) := by
  have HR := Lib.hid hr
  have HL := Lib.hid hr.len
  clear hr
  by_cases h0 : n = 0
  · have HS := Lib.hid (stD_nil (m := id) (HL.out.trans h0))
    have he : ((n : Int) == 0) = true := by simp; omega
    clear h0
    go_enter Try.func26, Try.ntmps26
    go_wp2_with fail
    go_ret
    exact ⟨by rw [HS.out]; rfl, Below.refl _ _⟩
  · have he : ((n : Int) == 0) = false := by simp; omega
    have HS := Lib.hid (stD_some (m := id) (xs := xs) (by rw [HL.out]; exact h0))
    have HM : Hid (WayE xs 0 w (w.alloc (.cells #[.slice none 0 0] 121))) := Lib.hid ⟨_, _, Bx.new _ _ _, (Ow.nil_ _ _ _ _ (by simp)).wide (Nat.le_refl _) (by simp) (Nat.le_refl _), (Below.refl _ _).alloc (Nat.le_refl _) _⟩
    go_enter Try.func26, Try.ntmps26
    go_wp2_with fail
    go_loopw [13] (fun i wr => ∃ k : Nat, k ≤ n ∧ i = .int .i64 k ∧ Hid (WayE xs k w wr)) (fun i _ => n - (intOf i).toNat)
    case atStart => exact ⟨0, Nat.zero_le _, rfl, HM⟩
    case round =>
      obtain ⟨k, hk, rfl, HW⟩ := hrel
      obtain ⟨p', c', hx, ho, hb0⟩ := HW.out
      have hsz := hb0.size
      have HX := Lib.hid hx
      have HO := Lib.hid ho
      have HB0 := Lib.hid hb0
      clear hx ho hb0 HW
      by_cases hlt : k < n
      · obtain ⟨b, o, rfl, hb, hat⟩ := rd_at (HR.out.below HB0.out) hlt
        have hkx : k < xs.length := by rw [HL.out]; exact hlt
        have hY := hR _ (getD_mem SlStamp.zero hkx)
        generalize hy : xs.getD k SlStamp.zero = y at hat hY
        obtain ⟨y0, y1, y2, y3, y4⟩ := y
        obtain ⟨g0, g1, g2, g3, g4⟩ := hY
        have HLit : Hid (Rd .i64 ((wr.alloc (.cells #[.int .i64 y0, .int .i64 y1, .int .i64 y2, .int .i64 y3, .int .i64 y4] 127)).alloc (.cells #[.int .i64 y4] 3)) (some ⟨wr.heap.size + 1, 0, none⟩) 1 [y4]) := Lib.hid (by
          have h := litN_at 3 (wr.alloc (.cells #[.int .i64 y0, .int .i64 y1, .int .i64 y2, .int .i64 y3, .int .i64 y4] 127)) (wr.alloc (.cells #[.int .i64 y0, .int .i64 y1, .int .i64 y2, .int .i64 y3, .int .i64 y4] 127)).heap.size _ [y4] (allK_cons g4 (allK_nil _)) (Nat.le_refl _) rfl (by simp)
          rw [World.size_alloc] at h
          exact h.rd)
        obtain ⟨c0, c1, c2, c3, c4⟩ := hat
        have HI := Lib.hid (mks_succ hkx hy)
        have HBA := Lib.hid ((HB0.out.alloc hsz (.cells #[.int .i64 y0, .int .i64 y1, .int .i64 y2, .int .i64 y3, .int .i64 y4] 127)).alloc (Nat.le_trans hsz (by simp)) (.cells #[.int .i64 y4] 3))
        clear hy hkx g0 g1 g2 g3 g4
        go_wp2_with fail
        refine (write_any w.heap.size 121 (by decide) p' k c' _ _ _ _ [y4] w.heap.size wr.heap.size ((wr.alloc (.cells #[.int .i64 y0, .int .i64 y1, .int .i64 y2, .int .i64 y3, .int .i64 y4] 127)).alloc (.cells #[.int .i64 y4] 3)) ((HX.out.alloc _).alloc _) ((HO.out.alloc _).alloc _) HLit.out (Nat.le_trans hsz (by simp; omega)) (by omega)).mono ?_
        rintro e w2 ⟨rfl, p2, c2', hx2, ho2, ht2⟩
        rw [← HI.out] at ho2
        have HW2 : Hid (WayE xs (k + 1) w w2) := Lib.hid ⟨p2, c2', hx2, ho2, HBA.out.trans (ht2.below (B := w.heap.size) (fun i h => h.elim (fun e => by omega) (fun e => (HO.out.far i e).1)) HBA.out.size)⟩
        clear hx2 ho2 ht2
        go_wp2_with fail
        go_roundw
        case rel => exact ⟨k + 1, by omega, by go_num, HW2⟩
        case measure => simp [intOf]; omega
      · obtain rfl : k = n := by omega
        have HT : Hid (xs.take k = xs) := Lib.hid (List.take_of_length_le (by rw [HL.out]; exact Nat.le_refl _))
        have hO := HO.out
        rw [HT.out] at hO
        have HO' := Lib.hid hO
        have k0 := HX.out.cell (j := 0) rfl
        clear hO
        go_wp2_with fail
        refine (Dg.dig_any id _ _ _ _ _ HO'.out.rd).mono ?_
        rintro e w3 ⟨rfl, rfl⟩
        go_wp2_with fail
        refine (max_any _ _ _).mono ?_
        rintro e w4 ⟨rfl, rfl⟩
        go_wp2_with fail
        go_ret
        exact ⟨by rw [HS.out]; rfl, HB0.out.alloc hsz _⟩
end Go.Proofs.Ytllkpapkkgfjaac.Sd
