/- Contracts of the varints: appended and read back, in the program and in the reference. -/
import Derived.Test.YtdncodfgllfjiaaSlB
import Derived.Test.YtdncodfgllfjiaaUv
import Derived.Test.YtdncodfgllfjiaaShelf
import Derived.Outline
namespace Go.Proofs.Ytdncodfgllfjiaa.Var
open Go.ChangeShapes Go.WideShapes Go.ChangeAt Go.RowKit Sl Uv

theorem uv_all (n : Nat) : allK .u8 (uv n) := uv_range n
theorem uvI_all (n : Int) : allK .u8 (uvI n) := uvI_range n
/-- The call answers a slice of its own from lo on that reads as zs; what lay below lo is as it was. -/
def Grew (lo : Nat) (zs : List Int) (w : World) (e : Ending) (w' : World) : Prop := ∃ p n c, e = .returned (.slice p n c) ∧ Ow .u8 5 w' lo w'.heap.size p n c zs ∧ Below lo w w'
/-- the slice on the way: what is there, and what is to come -/
def PutMid (lo : Nat) (zs : List Int) (p : Option Addr) (n c q : Nat) (w wr : World) : Prop :=
  ∃ acc, acc ++ uv q = zs ∧ Ow .u8 5 wr lo wr.heap.size p n c acc ∧ lo ≤ wr.heap.size ∧ Below lo w wr
theorem PutMid.small {lo n c q : Nat} {zs : List Int} {p : Option Addr} {w wr : World} (h : PutMid lo zs p n c q w wr) (hz : zs.length ≤ 1000000006) : n ≤ 1000000006 := by
  obtain ⟨acc, e, ho, _⟩ := h
  have h1 := ho.len
  rw [← e, List.length_append] at hz
  omega
theorem group_bits (q : Nat) (h : q ≤ 1000000000000) : ∃ x y : Int, bits .and .i64 (q : Int) 127 = x ∧ bits .or .i64 x 128 = y ∧ y = ((q % 128 + 128 : Nat) : Int) := by
  refine ⟨_, _, rfl, rfl, ?_⟩
  rw [show (127 : Int) = ((127 : Nat) : Int) from rfl, Sl.i64_and_nat _ _ (by omega) (by omega), show (128 : Int) = ((128 : Nat) : Int) from rfl, Sl.i64_or_nat _ _ (Nat.lt_of_le_of_lt Nat.and_le_right (by omega)) (by omega)]
  rw [show 127 = 2 ^ 7 - 1 from rfl, Nat.and_two_pow_sub_one_eq_mod]
  have := Nat.two_pow_add_eq_or_of_lt (i := 7) (b := q % 2 ^ 7) (Nat.mod_lt _ (by decide)) 1
  rw [show 2 ^ 7 * 1 = 128 from rfl, show 2 ^ 7 = 128 from rfl] at this
  rw [show 2 ^ 7 = 128 from rfl, Nat.or_comm, ← this]
  omega

set_option maxHeartbeats 1000000 in
theorem put_any (lo : Nat) (p : Option Addr) (n c : Nat) (xs : List Int) (v : Int) (w : World) (ho : Ow .u8 5 w lo w.heap.size p n c xs) (hlo : lo ≤ w.heap.size) (hn : n ≤ 1000000000) : Calls Try.prog 48 #[.slice p n c, .int .i64 v] w (Grew lo (xs ++ uvI v) w) := by
  obtain ⟨i0, hi, hz0, hz1, hz2⟩ := info_parts SlB.info
  by_cases hv : 0 ≤ v ∧ v ≤ 1000000000000
  · obtain ⟨hv0, hv1⟩ := hv
    obtain ⟨q, rfl⟩ := Int.eq_ofNat_of_zero_le hv0
    have HM : Hid (PutMid lo (xs ++ uvI q) p n c q w w) := ⟨xs, by rw [uvI_nat (by omega)], ho, hlo, Below.refl _ _⟩
    have HZ : Hid ((xs ++ uvI q).length ≤ 1000000006) := by
      have := uvI_len q
      have := ho.len
      show (xs ++ uvI q).length ≤ 1000000006
      rw [List.length_append]
      omega
    go_enter Try.func48, Try.ntmps48
    go_wp2_with (go_at_call 50; refine (Ints.inRange_any _ _ _ true (by rw [decide_eq_true_iff]; omega) _).mono ?_; rintro e w' ⟨rfl, rfl⟩)
    go_loopw [0, 1] (fun b i wr => ∃ (p' : Option Addr) (n' c' q' : Nat), b = .slice p' n' c' ∧ i = .int .i64 q' ∧ q' ≤ 1000000000000 ∧ Hid (PutMid lo (xs ++ uvI q) p' n' c' q' w wr)) (fun _ i _ => (intOf i).toNat)
    case atStart => exact ⟨_, _, _, _, rfl, rfl, by omega, HM⟩
    case round =>
      obtain ⟨p', n', c', q', rfl, rfl, hq, HK⟩ := hrel
      have hn' := HK.out.small HZ.out
      obtain ⟨acc, hacc, hown, hlo', hbel⟩ := HK.out
      have HA := Lib.hid hacc
      have HO := Lib.hid hown
      have HB := Lib.hid hbel
      have HLo := Lib.hid hlo'
      clear hacc hown hbel hlo'
      by_cases hb : 127 < q'
      · obtain ⟨x, y, e1, e2, hy⟩ := group_bits q' hq
        have hy0 : 0 ≤ y := by omega
        have hy1 : y ≤ 255 := by omega
        have HY := Lib.hid hy
        clear hy
        go_wp2_with (at_builtin; refine wpList_app1 rfl (.tmp 11) (.tmp 16) 22 rfl i0 _ 1 Try.underlying22 hi hz0 hz1 hz2 rfl rfl (HO.out.alloc _) wr.heap.size 1 y rfl (by go_simp) ⟨hy0, hy1⟩ (Nat.le_trans HLo.out (by simp)) (by omega) (by omega) ?_; intro p2 c2 w2 how2 hg2)
        have e := HA.out
        rw [uv_big (by omega), ← HY.out] at e
        refine ⟨⟨p2, _, c2, q' / 128, rfl, by go_num, by omega, ⟨acc ++ [y], by rw [List.append_assoc]; exact e, how2, Nat.le_trans (Nat.le_trans HLo.out (by simp)) hg2.size, (HB.out.alloc HLo.out _).trans ((HO.out.alloc _).below_row hg2 (Nat.le_trans HLo.out (by simp)))⟩⟩, by simp [intOf]; omega⟩
      · have hs : uv q' = [(q' : Int)] := uv_small (by omega)
        have HS := Lib.hid hs
        have hb2 : (q' : Int) ≤ 127 := by omega
        clear hs
        go_wp2_with (at_builtin; refine wpList_app1 rfl (.tmp 20) (.tmp 23) 22 rfl i0 _ 1 Try.underlying22 hi hz0 hz1 hz2 rfl rfl (HO.out.alloc _) wr.heap.size 1 (q' : Int) rfl (by go_simp) ⟨by omega, by omega⟩ (Nat.le_trans HLo.out (by simp)) (by omega) (by omega) ?_; intro p2 c2 w2 how2 hg2)
        go_ret
        have e := HA.out
        rw [HS.out] at e
        rw [← e]
        exact ⟨_, _, _, rfl, how2, (HB.out.alloc HLo.out _).trans ((HO.out.alloc _).below_row hg2 (Nat.le_trans HLo.out (by simp)))⟩
  · go_enter Try.func48, Try.ntmps48
    go_wp2_with (go_at_call 50; refine (Ints.inRange_any _ _ _ false (by rw [decide_eq_false_iff_not]; exact hv) _).mono ?_; rintro e w' ⟨rfl, rfl⟩)
    go_ret
    rw [uvI_out hv, List.append_nil]
    exact ⟨_, _, _, rfl, ho, Below.refl _ _⟩
theorem clone_any (p : Option Addr) (n c : Nat) (xs : List Int) (w : World) (hr : Rd .u8 w p n xs) (hn : n ≤ 140737488355328) : Calls Try.prog 49 #[.slice p n c] w (Grew w.heap.size xs w) := by
  rcases p with _ | ⟨b, o, spot⟩
  · refine (Try.bytes_Clone_nil n c w).mono ?_
    rintro e w' ⟨rfl, rfl⟩
    have hm : n = 0 := by
      rcases Nat.eq_zero_or_pos n with h0 | h0
      · exact h0
      · obtain ⟨_, _, e, _⟩ := hr.2.2.2 h0
        cases e
    subst hm
    have hy : xs = [] := List.eq_nil_of_length_eq_zero hr.1
    subst hy
    exact ⟨_, _, _, rfl, Ow.nil_ _ _ _ _ (Nat.le_refl _), Below.refl _ _⟩
  · refine (Try.bytes_Clone_at ⟨b, o, spot⟩ n c xs w hr.len hn (fun i hi => ?_)).mono ?_
    · obtain ⟨b', o', e, _, hc⟩ := hr.at_ hi
      simp only [Option.some.injEq, Addr.mk.injEq] at e
      obtain ⟨rfl, rfl, rfl⟩ := e
      rw [Addr.add_lit]
      exact hc
    · rintro e w' ⟨v', rfl, hown, _, hb⟩
      obtain ⟨p', c', rfl⟩ : ∃ p' c', v' = .slice p' n c' := by
        rcases hown.2 with ⟨rfl, h0⟩ | ⟨g, cap, _, rfl, _⟩
        · exact ⟨_, _, by rw [h0]⟩
        · exact ⟨_, _, rfl⟩
      exact ⟨_, _, _, rfl, Ow.of_row hown hr.all, hb⟩

theorem Grew.from {zs : List Int} {w w1 : World} {lo : Nat} {e : Ending} {w' : World} (h : Grew lo zs w1 e w') (hb : Below lo w w1) : Grew lo zs w e w' := by
  obtain ⟨p, n, c, he, ho, h1⟩ := h
  exact ⟨p, n, c, he, ho, hb.trans h1⟩
set_option maxHeartbeats 400000 in
theorem append_any (p : Option Addr) (n c : Nat) (xs : List Int) (v : Int) (w : World) (hr : Rd .u8 w p n xs) (hn : n ≤ 1000000000) : Calls Try.prog 15 #[.slice p n c, .int .i64 v] w (Grew w.heap.size (xs ++ uvI v) w) := by
  have HR := Lib.hid hr
  clear hr
  go_enter Try.func15, Try.ntmps15
  go_wp2_with fail
  refine (clone_any _ _ _ _ _ HR.out (by omega)).mono ?_
  rintro e w1 ⟨p1, n1, c1, rfl, ho1, hb1⟩
  have HO := Lib.hid ho1
  have HB := Lib.hid hb1
  have hn1 : n1 ≤ 1000000000 := by have := ho1.len; have := HR.out.len; omega
  clear ho1 hb1
  go_wp2_with fail
  refine (put_any w.heap.size _ _ _ _ _ _ HO.out HB.out.size hn1).mono ?_
  intro e w2 h2
  obtain ⟨p2, n2, c2, rfl, ho2, hb2⟩ := h2.from HB.out
  have HO2 := Lib.hid ho2
  have HB2 := Lib.hid hb2
  clear ho2 hb2 h2
  go_wp2_with fail
  go_ret
  exact ⟨_, _, _, rfl, HO2.out, HB2.out⟩
/-- the empty slice that is made anew -/
theorem empty_own (w : World) (lo : Nat) (h : lo ≤ w.heap.size) : Ow .u8 5 (w.alloc (.cells #[] 5)) lo (w.heap.size + 1) (some ⟨w.heap.size, 0, none⟩) 0 0 [] :=
  ⟨World.ownsRow_lit w #[] 0 h (Nat.zero_le _) rfl, allK_nil _, by simp, fun g hg => by simp [Value.ownBlock] at hg; omega⟩
set_option maxHeartbeats 1000000 in
theorem spec_append_any (p : Option Addr) (n c : Nat) (xs : List Int) (v : Int) (w : World) (hr : Rd .u8 w p n xs) (hn : n ≤ 1000000000) : Calls Try.prog 27 #[.slice p n c, .int .i64 v] w (Grew w.heap.size (xs ++ uvI v) w) := by
  obtain ⟨i0, hi, hz0, hz1, hz2⟩ := info_parts SlB.info
  have HR := Lib.hid hr
  clear hr
  obtain ⟨lo, hlo⟩ : ∃ lo, lo = w.heap.size := ⟨_, rfl⟩
  have HLO := Lib.hid hlo
  rw [← hlo]
  clear hlo
  by_cases hv : 0 ≤ v ∧ v ≤ 1000000000000
  · obtain ⟨hv0, hv1⟩ := hv
    obtain ⟨q, rfl⟩ := Int.eq_ofNat_of_zero_le hv0
    have HZ : Hid ((xs ++ uvI q).length ≤ 1000000006) := by
      have := uvI_len q
      have := HR.out.len
      show (xs ++ uvI q).length ≤ 1000000006
      rw [List.length_append]
      omega
    go_enter Try.func27, Try.ntmps27
    go_wp2_with (first
      | (at_builtin; refine wpList_appR rfl (.tmp 6) (.tmp 7) 22 rfl i0 _ 1 Try.underlying22 hi hz0 hz1 hz2 rfl rfl (empty_own w lo (Nat.le_of_eq HLO.out)) p n c xs rfl (HR.out.alloc _) (by rw [HLO.out]; simp) (by omega) (by omega) ?_; intro p1 c1 w1 how1 hg1; rw [Nat.zero_add, List.nil_append] at how1; rw [Nat.zero_add])
      | (go_at_call 56; refine (Ints.l1In_any _ _ _ true (by rw [decide_eq_true_iff]; omega) _).mono ?_; rintro e w' ⟨rfl, rfl⟩))
    have HM : Hid (PutMid lo (xs ++ uvI q) p1 n c1 q w w1) := ⟨xs, by rw [uvI_nat (by omega)], how1, by have := HLO.out; have := hg1.size; simp at this; omega, ((Below.refl _ _).alloc (Nat.le_of_eq HLO.out) _).trans ((empty_own w lo (Nat.le_of_eq HLO.out)).below_row hg1 (by rw [HLO.out]; simp))⟩
    clear how1 hg1
    go_loopw [1, 5] (fun i b wr => ∃ (p' : Option Addr) (n' c' q' : Nat), b = .slice p' n' c' ∧ i = .int .i64 q' ∧ q' ≤ 1000000000000 ∧ Hid (PutMid lo (xs ++ uvI q) p' n' c' q' w wr)) (fun i _ _ => (intOf i).toNat)
    case atStart => exact ⟨_, _, _, _, rfl, rfl, by omega, HM⟩
    case round =>
      obtain ⟨p', n', c', q', rfl, rfl, hq, HK⟩ := hrel
      have hn' := HK.out.small HZ.out
      obtain ⟨acc, hacc, hown, hlo', hbel⟩ := HK.out
      have HA := Lib.hid hacc
      have HO := Lib.hid hown
      have HB := Lib.hid hbel
      have HLo := Lib.hid hlo'
      clear hacc hown hbel hlo'
      by_cases hb : 127 < q'
      · obtain ⟨x, y, e1, e2, hy⟩ := group_bits q' hq
        have hy0 : 0 ≤ y := by omega
        have hy1 : y ≤ 255 := by omega
        have HY := Lib.hid hy
        clear hy
        go_wp2_with (at_builtin; refine wpList_app1 rfl (.tmp 15) (.tmp 20) 22 rfl i0 _ 1 Try.underlying22 hi hz0 hz1 hz2 rfl rfl (HO.out.alloc _) wr.heap.size 1 y rfl (by go_simp) ⟨hy0, hy1⟩ (Nat.le_trans HLo.out (by simp)) (by omega) (by omega) ?_; intro p2 c2 w2 how2 hg2)
        have e := HA.out
        rw [uv_big (by omega), ← HY.out] at e
        refine ⟨⟨p2, _, c2, q' / 128, rfl, by go_num, by omega, ⟨acc ++ [y], by rw [List.append_assoc]; exact e, how2, Nat.le_trans (Nat.le_trans HLo.out (by simp)) hg2.size, (HB.out.alloc HLo.out _).trans ((HO.out.alloc _).below_row hg2 (Nat.le_trans HLo.out (by simp)))⟩⟩, by simp [intOf]; omega⟩
      · have hs : uv q' = [(q' : Int)] := uv_small (by omega)
        have HS := Lib.hid hs
        have hb2 : (q' : Int) ≤ 127 := by omega
        clear hs
        go_wp2_with (at_builtin; refine wpList_app1 rfl (.tmp 24) (.tmp 27) 22 rfl i0 _ 1 Try.underlying22 hi hz0 hz1 hz2 rfl rfl (HO.out.alloc _) wr.heap.size 1 (q' : Int) rfl (by go_simp) ⟨by omega, by omega⟩ (Nat.le_trans HLo.out (by simp)) (by omega) (by omega) ?_; intro p2 c2 w2 how2 hg2)
        go_ret
        have e := HA.out
        rw [HS.out] at e
        rw [← e]
        exact ⟨_, _, _, rfl, how2, (HB.out.alloc HLo.out _).trans ((HO.out.alloc _).below_row hg2 (Nat.le_trans HLo.out (by simp)))⟩
  · go_enter Try.func27, Try.ntmps27
    go_wp2_with (first
      | (at_builtin; refine wpList_appR rfl (.tmp 6) (.tmp 7) 22 rfl i0 _ 1 Try.underlying22 hi hz0 hz1 hz2 rfl rfl (empty_own w lo (Nat.le_of_eq HLO.out)) p n c xs rfl (HR.out.alloc _) (by rw [HLO.out]; simp) (by omega) (by omega) ?_; intro p1 c1 w1 how1 hg1; rw [Nat.zero_add, List.nil_append] at how1; rw [Nat.zero_add])
      | (go_at_call 56; refine (Ints.l1In_any _ _ _ false (by rw [decide_eq_false_iff_not]; exact hv) _).mono ?_; rintro e w' ⟨rfl, rfl⟩))
    go_ret
    rw [uvI_out hv, List.append_nil]
    exact ⟨_, _, _, rfl, how1, ((Below.refl _ _).alloc (Nat.le_of_eq HLO.out) _).trans ((empty_own w lo (Nat.le_of_eq HLO.out)).below_row hg1 (by rw [HLO.out]; simp))⟩
end Go.Proofs.Ytdncodfgllfjiaa.Var
