/- Contracts of byte strings, appended and read back, in the program and in the reference. -/
import Derived.Test.YtdncodfgllfjiaaVarR
namespace Go.Proofs.Ytdncodfgllfjiaa.Var
open Go.ChangeShapes Go.WideShapes Go.ChangeAt Go.RowKit Sl Uv

set_option maxHeartbeats 400000 in
theorem appendB_any (p p' : Option Addr) (n n' c c' : Nat) (xs ys : List Int) (w : World) (hr : Rd .u8 w p n xs) (hr' : Rd .u8 w p' n' ys) (hn : n ≤ 1000000000) (hn' : n' ≤ 1000000000) : Calls Try.prog 21 #[.slice p n c, .slice p' n' c'] w (Grew w.heap.size ((xs ++ uvI (n' : Int)) ++ ys) w) := by
  obtain ⟨i0, hi, hz0, hz1, hz2⟩ := info_parts SlB.info
  have HR := Lib.hid hr
  have HR' := Lib.hid hr'
  clear hr hr'
  go_enter Try.func21, Try.ntmps21
  go_wp2_with fail
  refine (append_any _ _ _ _ _ _ HR.out hn).mono ?_
  rintro e w1 ⟨p1, n1, c1, rfl, ho1, hb1⟩
  have HO := Lib.hid ho1
  have HB := Lib.hid hb1
  have hn1 : n1 ≤ 1000000006 := by
    have h1 := ho1.len
    rw [List.length_append, HR.out.len] at h1
    have h2 := uvI_len (n' : Int)
    omega
  clear ho1 hb1
  go_wp2_with (at_builtin; refine wpList_appR rfl (.tmp 8) (.tmp 9) 22 rfl i0 _ 1 Try.underlying22 hi hz0 hz1 hz2 rfl rfl HO.out p' n' c' ys rfl (HR'.out.below HB.out) HB.out.size (by omega) (by omega) ?_; intro p2 c2 w2 how2 hg2)
  go_ret
  exact ⟨_, _, _, rfl, how2, HB.out.trans (HO.out.below_row hg2 HB.out.size)⟩
set_option maxHeartbeats 400000 in
theorem spec_appendB_any (p p' : Option Addr) (n n' c c' : Nat) (xs ys : List Int) (w : World) (hr : Rd .u8 w p n xs) (hr' : Rd .u8 w p' n' ys) (hn : n ≤ 1000000000) (hn' : n' ≤ 1000000000) : Calls Try.prog 32 #[.slice p n c, .slice p' n' c'] w (Grew w.heap.size ((xs ++ uvI (n' : Int)) ++ ys) w) := by
  obtain ⟨i0, hi, hz0, hz1, hz2⟩ := info_parts SlB.info
  have HR := Lib.hid hr
  have HR' := Lib.hid hr'
  clear hr hr'
  go_enter Try.func32, Try.ntmps32
  go_wp2_with fail
  refine (spec_append_any _ _ _ _ _ _ HR.out hn).mono ?_
  rintro e w1 ⟨p1, n1, c1, rfl, ho1, hb1⟩
  have HO := Lib.hid ho1
  have HB := Lib.hid hb1
  have hn1 : n1 ≤ 1000000006 := by
    have h1 := ho1.len
    rw [List.length_append, HR.out.len] at h1
    have h2 := uvI_len (n' : Int)
    omega
  clear ho1 hb1
  go_wp2_with (at_builtin; refine wpList_appR rfl (.tmp 8) (.tmp 9) 22 rfl i0 _ 1 Try.underlying22 hi hz0 hz1 hz2 rfl rfl HO.out p' n' c' ys rfl (HR'.out.below HB.out) HB.out.size (by omega) (by omega) ?_; intro p2 c2 w2 how2 hg2)
  go_ret
  exact ⟨_, _, _, rfl, how2, HB.out.trans (HO.out.below_row hg2 HB.out.size)⟩

/-! ### read back -/
def rbL (xs : List Int) (a m : Int) : List Int := match rb xs a m with | none => [] | some p => p.1
def rbE (xs : List Int) (a m : Int) : Int := match rb xs a m with | none => 0 | some p => p.2
def rbOk (xs : List Int) (a m : Int) : Bool := match rb xs a m with | none => false | some _ => true
theorem rbL_len (xs : List Int) (a m : Int) : (rbL xs a m).length ≤ xs.length := by
  unfold rbL
  rcases hr : rd xs a with _ | ⟨n, e⟩
  · rw [rb_none hr]; simp
  · by_cases hn : m < n ∨ xs.length - e < n
    · rw [rb_over hr hn]; simp
    · rw [rb_some hr hn]
      simp only [List.length_take, List.length_drop]; omega
theorem rbL_all {xs : List Int} (h : allK .u8 xs) (a m : Int) : allK .u8 (rbL xs a m) := by
  unfold rbL
  rcases hr : rd xs a with _ | ⟨n, e⟩
  · rw [rb_none hr]; exact allK_nil _
  · by_cases hn : m < n ∨ xs.length - e < n
    · rw [rb_over hr hn]; exact allK_nil _
    · rw [rb_some hr hn]; exact allK_take (allK_drop h _) _
/-- The call answers the bytes, the offset behind them, and whether there are any; the bytes are new; what lay before is as it was. -/
def RbEnd (xs : List Int) (a m : Int) (w : World) (e : Ending) (w' : World) : Prop :=
  ∃ p n c, e = .returned (.tuple #[.slice p n c, .int .i64 (rbE xs a m), .bool (rbOk xs a m)]) ∧ Ow .u8 5 w' w.heap.size w'.heap.size p n c (rbL xs a m) ∧ Below w.heap.size w w'
theorem rbEnd_none {xs : List Int} {a m : Int} {w w' : World} {p : Option Addr} {c : Nat} (h : rb xs a m = none) (ho : Ow .u8 5 w' w.heap.size w'.heap.size p 0 c []) (hb : Below w.heap.size w w') : RbEnd xs a m w (.returned (.tuple #[.slice p 0 c, .int .i64 0, .bool false])) w' := by
  refine ⟨p, 0, c, ?_, ?_, hb⟩
  · unfold rbE rbOk; rw [h]
  · unfold rbL; rw [h]; exact ho
theorem rbEnd_some {xs zs : List Int} {a m v : Int} {w w' : World} {p : Option Addr} {n c : Nat} (h : rb xs a m = some (zs, v)) (ho : Ow .u8 5 w' w.heap.size w'.heap.size p n c zs) (hb : Below w.heap.size w w') : RbEnd xs a m w (.returned (.tuple #[.slice p n c, .int .i64 v, .bool true])) w' := by
  refine ⟨p, n, c, ?_, ?_, hb⟩
  · unfold rbE rbOk; rw [h]
  · unfold rbL; rw [h]; exact ho
theorem empty_end (w w0 : World) (hb : Below w0.heap.size w0 w) : Ow .u8 5 (w.alloc (.cells #[] 5)) w0.heap.size (w.alloc (.cells #[] 5)).heap.size (some ⟨w.heap.size, 0, none⟩) 0 0 [] := by
  have h := empty_own w w0.heap.size hb.size
  simpa using h
/-- what was read, with its parts as natural numbers -/
theorem rd_nat {xs : List Int} {a : Int} {v e : Int} (hx : allK .u8 xs) (h : rd xs a = some (v, e)) : ∃ m s : Nat, v = m ∧ e = s ∧ m ≤ 1000000000000 ∧ s ≤ xs.length := by
  obtain ⟨o, n, _, hv, hn, he, hle, _⟩ := rd_some hx h
  exact ⟨n, _, hv, he, hn, hle⟩
theorem rb_cut {xs : List Int} {a most : Int} {m s : Nat} (h : rd xs a = some ((m : Int), (s : Int))) (h1 : ¬ most < m) (h2 : s + m ≤ xs.length) : rb xs a most = some ((xs.drop s).take m, ((s + m : Nat) : Int)) := by
  rw [rb_some h (by omega)]
  simp
theorem read_some (p : Option Addr) (n c : Nat) (zs : List Int) (a : Int) (w : World) (hr : Rd .u8 w p n zs) (hn : n ≤ 1000000000000) (hc : n ≤ c) (hc' : c ≤ 9223372036854775807) {v e : Int} (h : rd zs a = some (v, e)) : Calls Try.prog 16 #[.slice p n c, .int .i64 a] w fun e' w' => e' = .returned (.tuple #[.int .i64 v, .int .i64 e, .bool true]) ∧ Below w.heap.size w w' := by
  have := read_any p n c zs a w hr hn hc hc'
  rw [h] at this
  exact this
theorem read_none (p : Option Addr) (n c : Nat) (zs : List Int) (a : Int) (w : World) (hr : Rd .u8 w p n zs) (hn : n ≤ 1000000000000) (hc : n ≤ c) (hc' : c ≤ 9223372036854775807) (h : rd zs a = none) : Calls Try.prog 16 #[.slice p n c, .int .i64 a] w fun e' w' => e' = .returned (.tuple #[.int .i64 0, .int .i64 0, .bool false]) ∧ Below w.heap.size w w' := by
  have := read_any p n c zs a w hr hn hc hc'
  rw [h] at this
  exact this
theorem spec_read_some (p : Option Addr) (n c : Nat) (zs : List Int) (a : Int) (w : World) (hr : Rd .u8 w p n zs) (hn : n ≤ 1000000000000) (ha1 : -9223372036854775808 ≤ a) (ha2 : a ≤ 9223372036854775807) {v e : Int} (h : rd zs a = some (v, e)) : Calls Try.prog 19 #[.slice p n c, .int .i64 a] w fun e' w' => e' = .returned (.tuple #[.int .i64 v, .int .i64 e, .bool true]) ∧ Below w.heap.size w w' := by
  have := spec_read_any p n c zs a w hr hn ha1 ha2
  rw [h] at this
  exact this
theorem spec_read_none (p : Option Addr) (n c : Nat) (zs : List Int) (a : Int) (w : World) (hr : Rd .u8 w p n zs) (hn : n ≤ 1000000000000) (ha1 : -9223372036854775808 ≤ a) (ha2 : a ≤ 9223372036854775807) (h : rd zs a = none) : Calls Try.prog 19 #[.slice p n c, .int .i64 a] w fun e' w' => e' = .returned (.tuple #[.int .i64 0, .int .i64 0, .bool false]) ∧ Below w.heap.size w w' := by
  have := spec_read_any p n c zs a w hr hn ha1 ha2
  rw [h] at this
  exact this
set_option maxHeartbeats 1000000 in
theorem readB_any (p : Option Addr) (n c : Nat) (zs : List Int) (a most : Int) (w : World) (hr : Rd .u8 w p n zs) (hn : n ≤ 1000000000) (hc : n ≤ c) (hc' : c ≤ 9223372036854775807) : Calls Try.prog 22 #[.slice p n c, .int .i64 a, .int .i64 most] w (RbEnd zs a most w) := by
  have HR := Lib.hid hr
  have HL := Lib.hid hr.len
  clear hr
  rcases hrd : rd zs a with _ | ⟨v, e⟩
  · have HN := Lib.hid (rb_none (most := most) hrd)
    have HD := Lib.hid hrd
    clear hrd
    go_enter Try.func22, Try.ntmps22
    go_wp2_with fail
    refine (read_none _ _ _ _ _ _ HR.out (by omega) hc hc' HD.out).mono ?_
    rintro e w1 ⟨rfl, hb1⟩
    have HB := Lib.hid hb1
    clear hb1
    go_wp2_with fail
    go_ret3
    exact rbEnd_none HN.out (empty_end _ _ HB.out) (HB.out.alloc HB.out.size _)
  · obtain ⟨m, s, rfl, rfl, hm, hs⟩ := rd_nat HR.out.all hrd
    have HD := Lib.hid hrd
    rw [HL.out] at hs
    clear hrd
    by_cases hmost : most < m
    · have HN := Lib.hid (rb_over HD.out (Or.inl hmost))
      go_enter Try.func22, Try.ntmps22
      go_wp2_with fail
      refine (read_some _ _ _ _ _ _ HR.out (by omega) hc hc' HD.out).mono ?_
      rintro e w1 ⟨rfl, hb1⟩
      have HB := Lib.hid hb1
      clear hb1
      go_wp2_with fail
      go_ret3
      exact rbEnd_none HN.out (empty_end _ _ HB.out) (HB.out.alloc HB.out.size _)
    · by_cases hfit : s + m ≤ n
      · have HS := Lib.hid (rb_cut HD.out hmost (by rw [HL.out]; exact hfit))
        have HC : ∀ (w1 : World) (p' : Option Addr) (c' : Nat), Below w.heap.size w w1 → Rd .u8 w1 p' m ((zs.drop s).take m) → Calls Try.prog 49 #[.slice p' m c'] w1 (Grew w1.heap.size ((zs.drop s).take m) w1) := fun w1 p' c' _ h => clone_any p' m c' _ w1 h (by omega)
        have HCH := Lib.hid HC
        clear HC
        by_cases hm0 : 0 < m
        · obtain ⟨b, q, rfl, hb, _⟩ := HR.out.at_ (i := s) (by omega)
          have HRC := Lib.hid (HR.out.cut (lo := s) (m := m) (p' := some ⟨b, q + s, none⟩) hfit (fun _ b' o' e => by simp only [Option.some.injEq, Addr.mk.injEq, and_true] at e; obtain ⟨rfl, rfl⟩ := e; rfl))
          go_enter Try.func22, Try.ntmps22
          go_wp2_with fail
          refine (read_some _ _ _ _ _ _ HR.out (by omega) hc hc' HD.out).mono ?_
          rintro e w1 ⟨rfl, hb1⟩
          have HB := Lib.hid hb1
          clear hb1
          go_wp2_with fail
          refine (HCH.out _ _ _ HB.out (HRC.out.below HB.out)).mono ?_
          rintro e w2 ⟨p2, n2, c2, rfl, ho2, hb2⟩
          have HO := Lib.hid ho2
          have HB2 := Lib.hid hb2
          clear ho2 hb2
          go_wp2_with fail
          go_ret3
          exact rbEnd_some HS.out (HO.out.wide HB.out.size (Nat.le_refl _) (Nat.le_refl _)) (below_on HB.out HB2.out)
        · obtain rfl : m = 0 := by omega
          rcases p with _ | ⟨b, q, spot⟩
          all_goals
            go_enter Try.func22, Try.ntmps22
            go_wp2_with fail
            refine (read_some _ _ _ _ _ _ HR.out (by omega) hc hc' HD.out).mono ?_
            rintro e w1 ⟨rfl, hb1⟩
            have HB := Lib.hid hb1
            clear hb1
            go_wp2_with fail
            refine (HCH.out _ _ _ HB.out (by rw [List.take_zero]; exact Rd.nil_ _ _ _)).mono ?_
            rintro e w2 ⟨p2, n2, c2, rfl, ho2, hb2⟩
            have HO := Lib.hid ho2
            have HB2 := Lib.hid hb2
            clear ho2 hb2
            go_wp2_with fail
            go_ret3
            exact rbEnd_some HS.out (HO.out.wide HB.out.size (Nat.le_refl _) (Nat.le_refl _)) (below_on HB.out HB2.out)
      · have HN := Lib.hid (rb_over (most := most) HD.out (Or.inr (by rw [HL.out]; omega)))
        go_enter Try.func22, Try.ntmps22
        go_wp2_with fail
        refine (read_some _ _ _ _ _ _ HR.out (by omega) hc hc' HD.out).mono ?_
        rintro e w1 ⟨rfl, hb1⟩
        have HB := Lib.hid hb1
        clear hb1
        go_wp2_with fail
        go_ret3
        exact rbEnd_none HN.out (empty_end _ _ HB.out) (HB.out.alloc HB.out.size _)
set_option maxHeartbeats 1000000 in
theorem spec_readB_any (p : Option Addr) (n c : Nat) (zs : List Int) (a most : Int) (w : World) (hr : Rd .u8 w p n zs) (hn : n ≤ 1000000000) (hc : n ≤ c) (hc' : c ≤ 9223372036854775807) (ha1 : -9223372036854775808 ≤ a) (ha2 : a ≤ 9223372036854775807) : Calls Try.prog 33 #[.slice p n c, .int .i64 a, .int .i64 most] w (RbEnd zs a most w) := by
  obtain ⟨i0, hi, hz0, hz1, hz2⟩ := info_parts SlB.info
  have HR := Lib.hid hr
  have HL := Lib.hid hr.len
  clear hr
  rcases hrd : rd zs a with _ | ⟨v, e⟩
  · have HN := Lib.hid (rb_none (most := most) hrd)
    have HD := Lib.hid hrd
    clear hrd
    go_enter Try.func33, Try.ntmps33
    go_wp2_with fail
    refine (spec_read_none _ _ _ _ _ _ HR.out (by omega) ha1 ha2 HD.out).mono ?_
    rintro e w1 ⟨rfl, hb1⟩
    have HB := Lib.hid hb1
    clear hb1
    go_wp2_with fail
    go_ret3
    exact rbEnd_none HN.out (empty_end _ _ HB.out) (HB.out.alloc HB.out.size _)
  · obtain ⟨m, s, rfl, rfl, hm, hs⟩ := rd_nat HR.out.all hrd
    have HD := Lib.hid hrd
    rw [HL.out] at hs
    clear hrd
    by_cases hmost : most < m
    · have HN := Lib.hid (rb_over HD.out (Or.inl hmost))
      go_enter Try.func33, Try.ntmps33
      go_wp2_with fail
      refine (spec_read_some _ _ _ _ _ _ HR.out (by omega) ha1 ha2 HD.out).mono ?_
      rintro e w1 ⟨rfl, hb1⟩
      have HB := Lib.hid hb1
      clear hb1
      go_wp2_with fail
      go_ret3
      exact rbEnd_none HN.out (empty_end _ _ HB.out) (HB.out.alloc HB.out.size _)
    · by_cases hfit : s + m ≤ n
      · have HS := Lib.hid (rb_cut HD.out hmost (by rw [HL.out]; exact hfit))
        by_cases hm0 : 0 < m
        · obtain ⟨b, q, rfl, hb, _⟩ := HR.out.at_ (i := s) (by omega)
          have hcs : ¬ c = s := by omega
          have HRC := Lib.hid (HR.out.cut (lo := s) (m := m) (p' := some ⟨b, q + s, none⟩) hfit (fun _ b' o' e => by simp only [Option.some.injEq, Addr.mk.injEq, and_true] at e; obtain ⟨rfl, rfl⟩ := e; rfl))
          go_enter Try.func33, Try.ntmps33
          go_wp2_with fail
          refine (spec_read_some _ _ _ _ _ _ HR.out (by omega) ha1 ha2 HD.out).mono ?_
          rintro e w1 ⟨rfl, hb1⟩
          have HB := Lib.hid hb1
          clear hb1
          go_wp2_with (at_builtin; refine wpList_appR rfl (.tmp 35) (.tmp 41) 22 rfl i0 _ 1 Try.underlying22 hi hz0 hz1 hz2 rfl rfl (empty_end w1 w HB.out) _ (s + m - s) _ _ rfl (by rw [Nat.add_sub_cancel_left]; exact (HRC.out.below HB.out).alloc _) (Nat.le_trans HB.out.size (by simp)) (by omega) (by omega) ?_; intro p2 c2 w2 how2 hg2; rw [List.nil_append, Nat.zero_add, Nat.add_sub_cancel_left] at how2; rw [Nat.zero_add, Nat.add_sub_cancel_left])
          go_ret3
          exact rbEnd_some HS.out how2 ((HB.out.alloc HB.out.size _).trans ((empty_end w1 w HB.out).below_row hg2 (Nat.le_trans HB.out.size (by simp))))
        · obtain rfl : m = 0 := by omega
          rcases p with _ | ⟨b, q, spot⟩
          all_goals
            go_enter Try.func33, Try.ntmps33
            go_wp2_with fail
            refine (spec_read_some _ _ _ _ _ _ HR.out (by omega) ha1 ha2 HD.out).mono ?_
            rintro e w1 ⟨rfl, hb1⟩
            have HB := Lib.hid hb1
            clear hb1
            go_wp2_with (at_builtin; refine wpList_appR rfl (.tmp 35) (.tmp 41) 22 rfl i0 _ 1 Try.underlying22 hi hz0 hz1 hz2 rfl rfl (empty_end w1 w HB.out) _ 0 _ [] rfl (Rd.nil_ _ _ _) (Nat.le_trans HB.out.size (by simp)) (by omega) (by omega) ?_; intro p2 c2 w2 how2 hg2; rw [List.nil_append] at how2)
            all_goals
              go_ret3
              exact rbEnd_some (n := 0) HS.out (by rw [List.take_zero]; exact how2) ((HB.out.alloc HB.out.size _).trans ((empty_end w1 w HB.out).below_row hg2 (Nat.le_trans HB.out.size (by simp))))
      · have HN := Lib.hid (rb_over (most := most) HD.out (Or.inr (by rw [HL.out]; omega)))
        go_enter Try.func33, Try.ntmps33
        go_wp2_with fail
        refine (spec_read_some _ _ _ _ _ _ HR.out (by omega) ha1 ha2 HD.out).mono ?_
        rintro e w1 ⟨rfl, hb1⟩
        have HB := Lib.hid hb1
        clear hb1
        go_wp2_with fail
        go_ret3
        exact rbEnd_none HN.out (empty_end _ _ HB.out) (HB.out.alloc HB.out.size _)
end Go.Proofs.Ytdncodfgllfjiaa.Var
