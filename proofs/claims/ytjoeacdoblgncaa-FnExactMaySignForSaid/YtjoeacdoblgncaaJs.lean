/- Contracts of the reference's join and meet of lists of spans, of what they cover and touch. -/
import Derived.Test.YtjoeacdoblgncaaJo
namespace Go.Proofs.Ytjoeacdoblgncaa.Jo
open Go.ChangeShapes Go.WideShapes Go.ChangeAt Go.RowKit Sl St Jn Sps SlSpan

theorem getD_at {xs : List Sp} {k : Nat} {x : Sp} (hk : k < xs.length) (hx : xs.getD k zero = x) : xs[k] = x := by
  rw [← hx, List.getD_eq_getElem?_getD, List.getElem?_eq_getElem hk]
  rfl
set_option maxRecDepth 100000 in
set_option maxHeartbeats 4000000 in
theorem spec_join_any (p : Option Addr) (n c : Nat) (xs : List Sp) (w : World) (hr : RdS E w p n xs) (hn : n ≤ 1099511627776) : Calls Try.prog 61 #[.slice p n c] w (Makes (join xs) w) := by
  have HR := Lib.hid hr
  have HL := Lib.hid hr.len
  have HM : Hid (OwS E 64 (w.alloc (.cells #[] 64)) w.heap.size (w.alloc (.cells #[] 64)).heap.size (some ⟨w.heap.size, 0, none⟩) 0 0 (join (xs.take 0))) := Lib.hid (empty_own _ w _ (Nat.le_refl _))
  have HB : Hid (Below w.heap.size w (w.alloc (.cells #[] 64))) := Lib.hid ((Below.refl w.heap.size w).alloc (Nat.le_refl _) _)
  have hle := hr.le
  clear hr
  go_enter Try.func61, Try.ntmps61
  go_wp2_with fail
  go_loopw [3, 4] (fun v i wr => ∃ (k m c' : Nat) (p' : Option Addr), k ≤ n ∧ i = .int .i64 k ∧ v = .slice p' m c' ∧ Hid (OwS E 64 wr w.heap.size wr.heap.size p' m c' (join (xs.take k))) ∧ Hid (Below w.heap.size w wr)) (fun _ i _ => n - (intOf i).toNat)
  case atStart => exact ⟨0, _, _, _, Nat.zero_le _, rfl, rfl, HM, HB⟩
  case round =>
    obtain ⟨k, m, c', p', hk, rfl, rfl, HK, HBr⟩ := hrel
    by_cases hlt : k < n
    · obtain ⟨b, o, rfl, hb, hat⟩ := rd_at (HR.out.below HBr.out) hlt
      have hkL : Hid (k < xs.length) := Lib.hid (by rw [HL.out]; exact hlt)
      have hm : m ≤ n := by
        have h1 := HK.out.len
        have h2 := join_len (xs.take k)
        have h3 : (xs.take k).length ≤ k := by rw [List.length_take]; omega
        omega
      have HA := Lib.hid hat
      generalize hx : xs.getD k zero = x at hat HA
      have HX := Lib.hid (getD_at hkL.out hx)
      obtain ⟨xa, xb⟩ := x
      obtain ⟨hc0, hc1⟩ := hat
      simp only at hc0 hc1
      clear hx
      rcases hok : okB (xa, xb) with _ | _
      · have HOk := Lib.hid hok
        clear hok
        go_wp2_with fail
        refine (spec_isSpan_any _ _ _).mono ?_
        rintro e w1 ⟨rfl, hb1⟩
        rw [HOk.out]
        have HK1 : Hid (OwS E 64 w1 w.heap.size w1.heap.size p' m c' (join (xs.take (k + 1)))) := Lib.hid (by
          rw [← join_skip hkL.out (by rw [HX.out]; exact HOk.out)]
          exact (HK.out.below hb1).wide (Nat.le_refl _) hb1.size (Nat.le_refl _))
        have HB1 := Lib.hid (below_on HBr.out hb1)
        clear hb1
        go_wp2_with fail
        go_roundw
        case rel => exact ⟨k + 1, _, _, _, by omega, by go_num, rfl, HK1, HB1⟩
        case measure => simp [intOf]; omega
      · have HOk := Lib.hid hok
        clear hok
        go_wp2_with fail
        refine (spec_isSpan_any _ _ _).mono ?_
        rintro e w1 ⟨rfl, hb1⟩
        rw [HOk.out]
        have HK1 := Lib.hid ((HK.out.below hb1).wide (Nat.le_refl _) hb1.size (Nat.le_refl _))
        have HB1 := Lib.hid (below_on HBr.out hb1)
        obtain ⟨d0, d1⟩ := HA.out.below hb1 hb
        simp only at d0 d1
        clear hb1
        go_wp2_with fail
        refine (put_any _ _ _ _ _ _ _ HK1.out.rd (join_can _) HOk.out (by omega)).mono ?_
        rintro e w2 ⟨p2, n2, c2, rfl, ho2, hb2⟩
        have HK2 : Hid (OwS E 64 w2 w.heap.size w2.heap.size p2 n2 c2 (join (xs.take (k + 1)))) := Lib.hid (by
          rw [← join_step hkL.out (by rw [HX.out]; exact HOk.out), HX.out]
          exact ho2.wide HB1.out.size (Nat.le_refl _) (Nat.le_refl _))
        have HB2 := Lib.hid (below_on HB1.out hb2)
        clear ho2 hb2
        go_wp2_with fail
        go_roundw
        case rel => exact ⟨k + 1, _, _, _, by omega, by go_num, rfl, HK2, HB2⟩
        case measure => simp [intOf]; omega
    · obtain rfl : k = n := by omega
      go_wp2_with fail
      go_ret
      have h := HK.out
      rw [List.take_of_length_le (by rw [HL.out]; exact Nat.le_refl _)] at h
      exact ⟨_, _, _, rfl, h, HBr.out⟩
theorem at_alloc {w : World} {b q : Nat} {x : Sp} (h : At w b q x) (hlt : b < w.heap.size) (o : Obj) : At (w.alloc o) b q x := h.below ((Below.refl _ _).alloc (Nat.le_refl _) _) hlt
theorem at_two {w : World} {b q r : Nat} {x : Sp} (h : At w b q x) (hne : b ≠ r) (u v : Value) : At ((w.setCell ⟨r, 0, none⟩ u).setCell ⟨r, 1, none⟩ v) b q x := by
  have k : ∀ (w : World) (j : Nat) (o : Nat) (u : Value), (w.setCell ⟨r, j, none⟩ u).cell? ⟨b, o, none⟩ = w.cell? ⟨b, o, none⟩ := fun w j o u => World.cell?_of_block (a := ⟨b, o, none⟩) (Below.heap_setCell w ⟨r, j, none⟩ u b hne)
  exact ⟨by rw [k, k]; exact h.1, by rw [k, k]; exact h.2⟩
/-- on the way: the meets so far -/
def MeetWay (L : List Sp) (p : Option Addr) (m c : Nat) (w wr : World) : Prop := OwS E 64 wr w.heap.size wr.heap.size p m c L ∧ Below w.heap.size w wr
theorem MeetWay.app {L : List Sp} {x : Sp} {p p' : Option Addr} {m c c' : Nat} {w wr w3 : World} {O : Obj} (h : MeetWay L p m c w wr) (ho : OwS E 64 w3 w.heap.size w3.heap.size p' (m + 1) c' (L ++ [x])) (hg : (wr.alloc O).grownBy w3 (Value.slice p m c).ownBlock) : MeetWay (L ++ [x]) p' (m + 1) c' w w3 :=
  ⟨ho, (h.2.alloc h.2.size _).grown hg (Nat.le_trans h.2.size (by simp)) (fun k e => (h.1.far k e).1)⟩
theorem MeetWay.on {L : List Sp} {p : Option Addr} {m c : Nat} {w wr w2 : World} (h : MeetWay L p m c w wr) (hb : Below wr.heap.size wr w2) : MeetWay L p m c w w2 :=
  ⟨(h.1.below hb).wide (Nat.le_refl _) hb.size (Nat.le_refl _), below_on h.2 hb⟩
end Go.Proofs.Ytjoeacdoblgncaa.Jo
