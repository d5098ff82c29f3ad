/- Contracts of the reference's join and meet of lists of spans, of what they cover and touch. -/
import Derived.Test.YtlgkgccmilapbaaJo
namespace Go.Proofs.Ytlgkgccmilapbaa.Jo
open Go.ChangeShapes Go.WideShapes Go.ChangeAt Go.RowKit Sl St Jn Sps SlSpan

theorem getD_at {xs : List Sp} {k : Nat} {x : Sp} (hk : k < xs.length) (hx : xs.getD k zero = x) : xs[k] = x := by
  rw [← hx, List.getD_eq_getElem?_getD, List.getElem?_eq_getElem hk]
  rfl
set_option maxRecDepth 100000 in
set_option maxHeartbeats 4000000 in
theorem spec_join_any (p : Option Addr) (n c : Nat) (xs : List Sp) (w : World) (hr : RdS E w p n xs) (hn : n ≤ 1099511627776) : Calls Try.prog 47 #[.slice p n c] w (Makes (join xs) w) := by
  have HR := Lib.hid hr
  have HL := Lib.hid hr.len
  have HM : Hid (OwS E 40 (w.alloc (.cells #[] 40)) w.heap.size (w.alloc (.cells #[] 40)).heap.size (some ⟨w.heap.size, 0, none⟩) 0 0 (join (xs.take 0))) := Lib.hid (empty_own _ w _ (Nat.le_refl _))
  have HB : Hid (Below w.heap.size w (w.alloc (.cells #[] 40))) := Lib.hid ((Below.refl w.heap.size w).alloc (Nat.le_refl _) _)
  have hle := hr.le
  clear hr
  go_enter Try.func47, Try.ntmps47
  go_wp2_with fail
  go_loopw [3, 4] (fun v i wr => ∃ (k m c' : Nat) (p' : Option Addr), k ≤ n ∧ i = .int .i64 k ∧ v = .slice p' m c' ∧ Hid (OwS E 40 wr w.heap.size wr.heap.size p' m c' (join (xs.take k))) ∧ Hid (Below w.heap.size w wr)) (fun _ i _ => n - (intOf i).toNat)
  case atStart => exact ⟨0, _, _, _, Nat.zero_le _, rfl, rfl, HM, HB⟩
  case round =>
    obtain ⟨k, m, c', p', hk, rfl, rfl, HK, HBr⟩ := hrel
    by_cases hlt : k < n
    · obtain ⟨b, o, rfl, hb, hat⟩ := rd_at (HR.out.below HBr.out) hlt
      have hkL : Hid (k < xs.length) := Lib.hid (by rw [HL.out]; exact hlt)
      have hm : m ≤ n := by
        have h1 := HK.out.len
        have h2 := join_len (xs.take k)
        have h3 : (xs.take k).length ≤ k := by rw [List.length_take]; omega
        omega
      have HA := Lib.hid hat
      generalize hx : xs.getD k zero = x at hat HA
      have HX := Lib.hid (getD_at hkL.out hx)
      obtain ⟨xa, xb⟩ := x
      obtain ⟨hc0, hc1⟩ := hat
      simp only at hc0 hc1
      clear hx
      rcases hok : okB (xa, xb) with _ | _
      · have HOk := Lib.hid hok
        clear hok
        go_wp2_with fail
        refine (spec_isSpan_any _ _ _).mono ?_
        rintro e w1 ⟨rfl, hb1⟩
        rw [HOk.out]
        have HK1 : Hid (OwS E 40 w1 w.heap.size w1.heap.size p' m c' (join (xs.take (k + 1)))) := Lib.hid (by
          rw [← join_skip hkL.out (by rw [HX.out]; exact HOk.out)]
          exact (HK.out.below hb1).wide (Nat.le_refl _) hb1.size (Nat.le_refl _))
        have HB1 := Lib.hid (below_on HBr.out hb1)
        clear hb1
        go_wp2_with fail
        go_roundw
        case rel => exact ⟨k + 1, _, _, _, by omega, by go_num, rfl, HK1, HB1⟩
        case measure => simp [intOf]; omega
      · have HOk := Lib.hid hok
        clear hok
        go_wp2_with fail
        refine (spec_isSpan_any _ _ _).mono ?_
        rintro e w1 ⟨rfl, hb1⟩
        rw [HOk.out]
        have HK1 := Lib.hid ((HK.out.below hb1).wide (Nat.le_refl _) hb1.size (Nat.le_refl _))
        have HB1 := Lib.hid (below_on HBr.out hb1)
        obtain ⟨d0, d1⟩ := HA.out.below hb1 hb
        simp only at d0 d1
        clear hb1
        go_wp2_with fail
        refine (put_any _ _ _ _ _ _ _ HK1.out.rd (join_can _) HOk.out (by omega)).mono ?_
        rintro e w2 ⟨p2, n2, c2, rfl, ho2, hb2⟩
        have HK2 : Hid (OwS E 40 w2 w.heap.size w2.heap.size p2 n2 c2 (join (xs.take (k + 1)))) := Lib.hid (by
          rw [← join_step hkL.out (by rw [HX.out]; exact HOk.out), HX.out]
          exact ho2.wide HB1.out.size (Nat.le_refl _) (Nat.le_refl _))
        have HB2 := Lib.hid (below_on HB1.out hb2)
        clear ho2 hb2
        go_wp2_with fail
        go_roundw
        case rel => exact ⟨k + 1, _, _, _, by omega, by go_num, rfl, HK2, HB2⟩
        case measure => simp [intOf]; omega
    · obtain rfl : k = n := by omega
      go_wp2_with fail
      go_ret
      have h := HK.out
      rw [List.take_of_length_le (by rw [HL.out]; exact Nat.le_refl _)] at h
      exact ⟨_, _, _, rfl, h, HBr.out⟩
theorem at_alloc {w : World} {b q : Nat} {x : Sp} (h : At w b q x) (hlt : b < w.heap.size) (o : Obj) : At (w.alloc o) b q x := h.below ((Below.refl _ _).alloc (Nat.le_refl _) _) hlt
theorem at_two {w : World} {b q r : Nat} {x : Sp} (h : At w b q x) (hne : b ≠ r) (u v : Value) : At ((w.setCell ⟨r, 0, none⟩ u).setCell ⟨r, 1, none⟩ v) b q x := by
  have k : ∀ (w : World) (j : Nat) (o : Nat) (u : Value), (w.setCell ⟨r, j, none⟩ u).cell? ⟨b, o, none⟩ = w.cell? ⟨b, o, none⟩ := fun w j o u => World.cell?_of_block (a := ⟨b, o, none⟩) (Below.heap_setCell w ⟨r, j, none⟩ u b hne)
  exact ⟨by rw [k, k]; exact h.1, by rw [k, k]; exact h.2⟩
/-- on the way: the meets so far -/
def MeetWay (L : List Sp) (p : Option Addr) (m c : Nat) (w wr : World) : Prop := OwS E 40 wr w.heap.size wr.heap.size p m c L ∧ Below w.heap.size w wr
theorem MeetWay.app {L : List Sp} {x : Sp} {p p' : Option Addr} {m c c' : Nat} {w wr w3 : World} {O : Obj} (h : MeetWay L p m c w wr) (ho : OwS E 40 w3 w.heap.size w3.heap.size p' (m + 1) c' (L ++ [x])) (hg : (wr.alloc O).grownBy w3 (Value.slice p m c).ownBlock) : MeetWay (L ++ [x]) p' (m + 1) c' w w3 :=
  ⟨ho, (h.2.alloc h.2.size _).grown hg (Nat.le_trans h.2.size (by simp)) (fun k e => (h.1.far k e).1)⟩
theorem MeetWay.on {L : List Sp} {p : Option Addr} {m c : Nat} {w wr w2 : World} (h : MeetWay L p m c w wr) (hb : Below wr.heap.size wr w2) : MeetWay L p m c w w2 :=
  ⟨(h.1.below hb).wide (Nat.le_refl _) hb.size (Nat.le_refl _), below_on h.2 hb⟩
set_option maxRecDepth 100000 in
set_option maxHeartbeats 8000000 in
theorem spec_meetAll_any (p p' : Option Addr) (n n' c c' : Nat) (xs ys : List Sp) (w : World) (hr : RdS E w p n xs) (hr' : RdS E w p' n' ys) (hn : n ≤ 1048576) (hn' : n' ≤ 1048576) : Calls Try.prog 39 #[.slice p n c, .slice p' n' c'] w (Makes (join (mall xs ys)) w) := by
  obtain ⟨i0, hi, hz0, hz1, hz2⟩ := info_parts info
  have HR := Lib.hid hr
  have HR' := Lib.hid hr'
  have HL := Lib.hid hr.len
  have HL' := Lib.hid hr'.len
  have HM : Hid (MeetWay (mall (xs.take 0) ys) (some ⟨w.heap.size, 0, none⟩) 0 0 w (w.alloc (.cells #[] 40))) := Lib.hid ⟨empty_own _ w _ (Nat.le_refl _), (Below.refl w.heap.size w).alloc (Nat.le_refl _) _⟩
  clear hr hr'
  go_enter Try.func39, Try.ntmps39
  go_wp2_with fail
  go_loopw [5, 6] (fun v i wr => ∃ (k m cc : Nat) (q : Option Addr), k ≤ n ∧ i = .int .i64 k ∧ v = .slice q m cc ∧ Hid (MeetWay (mall (xs.take k) ys) q m cc w wr)) (fun _ i _ => n - (intOf i).toNat)
  case atStart => exact ⟨0, _, _, _, Nat.zero_le _, rfl, rfl, HM⟩
  case round =>
    obtain ⟨k, m, cc, q, hk, rfl, rfl, HK⟩ := hrel
    by_cases hlt : k < n
    · have hkL : Hid (k < xs.length) := Lib.hid (by rw [HL.out]; exact hlt)
      obtain ⟨wo, hwo⟩ : ∃ wo : World, wo = wr := ⟨_, rfl⟩
      subst hwo
      obtain ⟨⟨xa, xb⟩, hx⟩ : ∃ x, xs[k]'hkL.out = x := ⟨_, rfl⟩
      have HX := Lib.hid hx
      clear hx
      have HK0 : Hid (MeetWay (mall (xs.take k) ys ++ mrow (xa, xb) (ys.take 0)) q m cc w wo) := Lib.hid (by
        have h := HK.out
        rw [show mrow (xa, xb) (ys.take 0) = [] from rfl, List.append_nil]
        exact h)
      go_wp2_with fail
      go_loopw [5, 7] (fun v i wr => ∃ (j m cc : Nat) (q : Option Addr), j ≤ n' ∧ i = .int .i64 j ∧ v = .slice q m cc ∧ Hid (MeetWay (mall (xs.take k) ys ++ mrow (xa, xb) (ys.take j)) q m cc w wr)) (fun _ i _ => n' - (intOf i).toNat)
      case atStart => exact ⟨0, _, _, _, Nat.zero_le _, rfl, rfl, HK0⟩
      case round =>
        obtain ⟨j, m, cc, q, hj, rfl, rfl, HJ⟩ := hrel
        by_cases hjlt : j < n'
        · have hjL : Hid (j < ys.length) := Lib.hid (by rw [HL'.out]; exact hjlt)
          obtain ⟨b, o, rfl, hb, hat⟩ := rd_at (HR.out.below HJ.out.2) hlt
          obtain ⟨b', o', rfl, hb', hat'⟩ := rd_at (HR'.out.below HJ.out.2) hjlt
          have hxe : xs.getD k zero = (xa, xb) := by
            rw [List.getD_eq_getElem?_getD, List.getElem?_eq_getElem hkL.out]
            exact HX.out
          rw [hxe] at hat
          have hye : ∃ y, ys.getD j zero = y ∧ ys[j]'hjL.out = y := ⟨_, rfl, by rw [List.getD_eq_getElem?_getD, List.getElem?_eq_getElem hjL.out]; rfl⟩
          obtain ⟨⟨ya, yb⟩, hy1, hy2⟩ := hye
          rw [hy1] at hat'
          have HY := Lib.hid hy2
          have HAT := Lib.hid hat
          have HAT' := Lib.hid hat'
          have hm : m ≤ 1099512676352 := by
            have h1 := HJ.out.1.len
            have h2 := mall_len ys (xs.take k)
            have h3 := mrow_len (xa, xb) (ys.take j)
            have h4 : (xs.take k).length * ys.length ≤ 1048576 * 1048576 := Nat.mul_le_mul (by rw [List.length_take]; omega) (by rw [HL'.out]; exact hn')
            have h5 : (ys.take j).length ≤ j := by rw [List.length_take]; omega
            rw [List.length_append] at h1
            omega
          have hsz := HJ.out.2.size
          obtain ⟨c0, c1⟩ := hat
          obtain ⟨d0, d1⟩ := hat'
          have i1 : (0 : Int) ≤ (k : Int) := by omega
          have i2 : (k : Int) < (n : Int) := by omega
          have i3 : (0 : Int) ≤ (j : Int) := by omega
          have i4 : (j : Int) < (n' : Int) := by omega
          clear hxe hy1 hy2
          obtain ⟨⟨ra, rb⟩, hR⟩ : ∃ r, meetR (xa, xb) (ya, yb) = r := ⟨_, rfl⟩
          have HRr := Lib.hid hR
          simp only at c0 c1 d0 d1
          clear hR
          rcases hmt : meets (xa, xb) (ya, yb) with _ | _
          · have HMt := Lib.hid hmt
            clear hmt
            go_wp2_with fail
            go_region_held3 (fun w' => w'.cell? ⟨b, o + k * 2, none⟩ = some (.int .i64 xa) ∧ w'.cell? ⟨b, o + k * 2 + 1, none⟩ = some (.int .i64 xb) ∧ w'.cell? ⟨b', o' + j * 2, none⟩ = some (.int .i64 ya) ∧ w'.cell? ⟨b', o' + j * 2 + 1, none⟩ = some (.int .i64 yb)) (first | exact ⟨hat2.1, hat2.2, hat3.1, hat3.2⟩ | exact ⟨(at_alloc hat2 hl2 _).1, (at_alloc hat2 hl2 _).2, (at_alloc hat3 hl3 _).1, (at_alloc hat3 hl3 _).2⟩ | exact ⟨(at_alloc (w := wr.drew) HAT.out hb _).1, (at_alloc (w := wr.drew) HAT.out hb _).2, (at_alloc (w := wr.drew) HAT'.out hb' _).1, (at_alloc (w := wr.drew) HAT'.out hb' _).2⟩ | exact ⟨(at_two hat2 (by omega) _ _).1, (at_two hat2 (by omega) _ _).2, (at_two hat3 (by omega) _ _).1, (at_two hat3 (by omega) _ _).2⟩ | go_keep) (first
              | (go_at_call 66; refine (spec_meet_any _ _ _ _ _).mono ?_; rintro e w2 ⟨rfl, hb2⟩; rw [HMt.out, HRr.out]; have HB2 := Lib.hid ((below_drewN (Below.refl wr.heap.size wr) 1).trans hb2); have hat2 := HAT.out.below HB2.out hb; have hat3 := HAT'.out.below HB2.out hb'; have hl2 := Nat.lt_of_lt_of_le hb HB2.out.size; have hl3 := Nat.lt_of_lt_of_le hb' HB2.out.size; clear hb2)
              | (go_at_call 66; refine (spec_meet_any _ _ _ _ _).mono ?_; rintro e w2 ⟨rfl, hb2⟩; rw [HMt.out, HRr.out]; have HB2 := Lib.hid (((below_drewN (Below.refl wr.heap.size wr) 1).alloc (Nat.le_refl _) _).trans (hb2.mono (by simp))); have hat2 := HAT.out.below HB2.out hb; have hat3 := HAT'.out.below HB2.out hb'; have HXB : Hid (Bx w2 wr.heap.size 40 #[.int .i64 0, .int .i64 0]) := Lib.hid ((Bx.new wr.drew _ _).below hb2); obtain ⟨q0, q1, q2, q3⟩ := HXB.out.two; clear hb2))
            all_goals
              have HJ2 : Hid (mrow (xa, xb) (ys.take (j + 1)) = mrow (xa, xb) (ys.take j)) := Lib.hid (mrow_snoc_no hjL.out (by rw [HY.out]; exact HMt.out))
              clear c0 c1 d0 d1
              go_wp2_with fail
              go_roundw
              case rel =>
                refine ⟨j + 1, m, cc, q, by omega, by go_num, rfl, Lib.hid ?_⟩
                rw [HJ2.out]
                first
                  | exact HJ.out.on (HB2.out.alloc HB2.out.size _)
                  | exact HJ.out.on ((HB2.out.setCell (p := ⟨wr.heap.size, 0, none⟩) (Nat.le_refl _) _).setCell (p := ⟨wr.heap.size, 1, none⟩) (Nat.le_refl _) _)
              case measure => simp [intOf]; omega
          · have HMt := Lib.hid hmt
            have HMR := Lib.hid (meetR_yes hmt)
            clear hmt
            go_wp2_with fail
            go_region_held3 (fun w' => w'.cell? ⟨b, o + k * 2, none⟩ = some (.int .i64 xa) ∧ w'.cell? ⟨b, o + k * 2 + 1, none⟩ = some (.int .i64 xb) ∧ w'.cell? ⟨b', o' + j * 2, none⟩ = some (.int .i64 ya) ∧ w'.cell? ⟨b', o' + j * 2 + 1, none⟩ = some (.int .i64 yb)) (first | exact ⟨hat2.1, hat2.2, hat3.1, hat3.2⟩ | exact ⟨(at_alloc hat2 hl2 _).1, (at_alloc hat2 hl2 _).2, (at_alloc hat3 hl3 _).1, (at_alloc hat3 hl3 _).2⟩ | exact ⟨(at_alloc (w := wr.drew) HAT.out hb _).1, (at_alloc (w := wr.drew) HAT.out hb _).2, (at_alloc (w := wr.drew) HAT'.out hb' _).1, (at_alloc (w := wr.drew) HAT'.out hb' _).2⟩ | exact ⟨(at_two hat2 (by omega) _ _).1, (at_two hat2 (by omega) _ _).2, (at_two hat3 (by omega) _ _).1, (at_two hat3 (by omega) _ _).2⟩ | go_keep) (first
              | (go_at_call 66; refine (spec_meet_any _ _ _ _ _).mono ?_; rintro e w2 ⟨rfl, hb2⟩; rw [HMt.out, HRr.out]; have HB2 := Lib.hid ((below_drewN (Below.refl wr.heap.size wr) 1).trans hb2); have hat2 := HAT.out.below HB2.out hb; have hat3 := HAT'.out.below HB2.out hb'; have hl2 := Nat.lt_of_lt_of_le hb HB2.out.size; have hl3 := Nat.lt_of_lt_of_le hb' HB2.out.size; clear hb2)
              | (go_at_call 66; refine (spec_meet_any _ _ _ _ _).mono ?_; rintro e w2 ⟨rfl, hb2⟩; rw [HMt.out, HRr.out]; have HB2 := Lib.hid (((below_drewN (Below.refl wr.heap.size wr) 1).alloc (Nat.le_refl _) _).trans (hb2.mono (by simp))); have hat2 := HAT.out.below HB2.out hb; have hat3 := HAT'.out.below HB2.out hb'; have HXB : Hid (Bx w2 wr.heap.size 40 #[.int .i64 0, .int .i64 0]) := Lib.hid ((Bx.new wr.drew _ _).below hb2); obtain ⟨q0, q1, q2, q3⟩ := HXB.out.two; clear hb2))
            all_goals
              have HJ2 : Hid (mrow (xa, xb) (ys.take (j + 1)) = mrow (xa, xb) (ys.take j) ++ [(ra, rb)]) := Lib.hid (by
                have h := mrow_snoc_yes hjL.out (x := (xa, xb)) (by rw [HY.out]; exact HMt.out)
                rw [HY.out, ← HMR.out, HRr.out] at h
                exact h)
              clear c0 c1 d0 d1
              go_wp2_with (first
                | (at_builtin; refine wpList_appS rfl (.tmp 36) (.tmp 38) 26 rfl i0 _ 16 Try.underlying26 hi hz0 hz1 hz2 rfl rfl (((HJ.out.on HB2.out).1.alloc _).alloc _) (some ⟨w2.heap.size + 1, 0, none⟩) 1 1 [(ra, rb)] rfl (one_rd _ w2 _ ((ra, rb))) (Nat.le_trans (HJ.out.on HB2.out).2.size (by simp; omega)) (by omega) (by omega) ?_; intro p3 c3 w3 how3 hg3; have HJ3 := Lib.hid (((HJ.out.on HB2.out).on ((Below.refl _ _).alloc (Nat.le_refl _) _)).app how3 hg3); clear how3 hg3)
                | (at_builtin; refine wpList_appS rfl (.tmp 36) (.tmp 38) 26 rfl i0 _ 16 Try.underlying26 hi hz0 hz1 hz2 rfl rfl ((HJ.out.on ((HB2.out.setCell (p := ⟨wr.heap.size, 0, none⟩) (Nat.le_refl _) _).setCell (p := ⟨wr.heap.size, 1, none⟩) (Nat.le_refl _) _)).1.alloc _) (some ⟨w2.heap.size, 0, none⟩) 1 1 [(ra, rb)] rfl (one_rdG _ _ w2.heap.size ((ra, rb)) (by simp [World.setCell])) (Nat.le_trans (HJ.out.on HB2.out).2.size (by simp [World.setCell])) (by omega) (by omega) ?_; intro p3 c3 w3 how3 hg3; have HJ3 := Lib.hid ((HJ.out.on ((HB2.out.setCell (p := ⟨wr.heap.size, 0, none⟩) (Nat.le_refl _) _).setCell (p := ⟨wr.heap.size, 1, none⟩) (Nat.le_refl _) _)).app how3 hg3); clear how3 hg3))
              go_roundw
              case rel =>
                refine ⟨j + 1, _, _, _, by omega, by go_num, rfl, Lib.hid ?_⟩
                rw [HJ2.out, ← List.append_assoc]
                exact HJ3.out
              case measure => simp [intOf]; omega
        · obtain rfl : j = n' := by omega
          have HJ2 : Hid (MeetWay (mall (xs.take (k + 1)) ys) q m cc w wr) := Lib.hid (by
            have h := HJ.out
            rw [List.take_of_length_le (l := ys) (by rw [HL'.out]; exact Nat.le_refl _), ← HX.out, ← mall_snoc ys hkL.out] at h
            exact h)
          go_wp2_with fail
          go_roundw
          case rel => exact ⟨k + 1, _, _, _, by omega, by go_num, rfl, HJ2⟩
          case measure => simp [intOf]; omega
    · obtain rfl : k = n := by omega
      have hm : m ≤ 1099511627776 := by
        have h1 := HK.out.1.len
        have h2 := mall_len ys (xs.take k)
        rw [List.take_of_length_le (by rw [HL.out]; exact Nat.le_refl _)] at h1 h2
        have h3 : xs.length * ys.length ≤ 1048576 * 1048576 := Nat.mul_le_mul (by rw [HL.out]; exact hn) (by rw [HL'.out]; exact hn')
        omega
      go_wp2_with fail
      refine (spec_join_any _ _ _ _ _ HK.out.1.rd hm).mono ?_
      rintro e w2 ⟨p2, n2, c2, rfl, ho2, hb2⟩
      have HO2 := Lib.hid (ho2.wide HK.out.2.size (Nat.le_refl _) (Nat.le_refl _))
      have HB2 := Lib.hid (below_on HK.out.2 hb2)
      clear ho2 hb2
      go_wp2_with fail
      go_ret
      have h := HO2.out
      rw [List.take_of_length_le (by rw [HL.out]; exact Nat.le_refl _)] at h
      exact ⟨_, _, _, rfl, h, HB2.out⟩
end Go.Proofs.Ytlgkgccmilapbaa.Jo
