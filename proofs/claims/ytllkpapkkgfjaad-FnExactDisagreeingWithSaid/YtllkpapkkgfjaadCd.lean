/- Contracts: who disagrees with a span; in the program and in the reference. -/
import Derived.Test.YtllkpapkkgfjaadCo
import Derived.Deep.RegionHeld3
import Derived.LoopTactic
import Derived.Outline
namespace Go.Proofs.Ytllkpapkkgfjaad.Cd
open Go.ChangeShapes Go.WideShapes Go.ChangeAt Go.RowKit Sl St Jn Sps SlSpan Co
def Way (xs : List Sp) (s : Sp) (k : Nat) (p : Option Addr) (m c : Nat) (w wr : World) : Prop := Ow .i64 3 wr w.heap.size wr.heap.size p m c (dis xs s k) ∧ Below w.heap.size w wr
theorem Way.len {xs : List Sp} {s : Sp} {k : Nat} {p : Option Addr} {m c : Nat} {w wr : World} (h : Way xs s k p m c w wr) : m ≤ k := by
  have h1 := h.1.len
  have h2 := dis_len xs s k
  omega
theorem Way.next {xs : List Sp} {s : Sp} {k : Nat} {p : Option Addr} {m c : Nat} {w wr w' : World} (h : Way xs s k p m c w wr) (hb : Below wr.heap.size wr w') (hi : dis xs s (k + 1) = dis xs s k) : Way xs s (k + 1) p m c w w' := ⟨by rw [hi]; exact (h.1.below hb).wide (Nat.le_refl _) hb.size (Nat.le_refl _), below_on h.2 hb⟩
theorem at_alloc {w : World} {b q : Nat} {x : Sp} (h : At w b q x) (hlt : b < w.heap.size) (o : Obj) : At (w.alloc o) b q x := h.below ((Below.refl _ _).alloc (Nat.le_refl _) _) hlt
theorem at_two {w : World} {b q r : Nat} {x : Sp} (h : At w b q x) (hne : b ≠ r) (u v : Value) : At ((w.setCell ⟨r, 0, none⟩ u).setCell ⟨r, 1, none⟩ v) b q x := by
  have k : ∀ (w : World) (j : Nat) (o : Nat) (u : Value), (w.setCell ⟨r, j, none⟩ u).cell? ⟨b, o, none⟩ = w.cell? ⟨b, o, none⟩ := fun w j o u => World.cell?_of_block (a := ⟨b, o, none⟩) (Below.heap_setCell w ⟨r, j, none⟩ u b hne)
  exact ⟨by rw [k, k]; exact h.1, by rw [k, k]; exact h.2⟩
set_option maxRecDepth 100000 in
set_option maxHeartbeats 8000000 in
theorem who_any (p : Option Addr) (n c : Nat) (xs : List Sp) (sa sb : Int) (w : World) (hr : RdS E w p n xs) (hn : n ≤ 10000000) : Calls Try.prog 15 #[.slice p n c, .agg #[.int .i64 sa, .int .i64 sb]] w (SlI.Makes (dis xs (sa, sb) xs.length) w) := by
  obtain ⟨i0, hi, hz0, hz1, hz2⟩ := info_parts SlI.info
  have HX := Lib.hid (Bx.new w 28 #[.int .i64 sa, .int .i64 sb])
  have HB := Lib.hid ((Below.refl _ w).alloc (Nat.le_refl _) (.cells #[.int .i64 sa, .int .i64 sb] 28))
  have HR := Lib.hid (hr.below HB.out)
  have HL := Lib.hid hr.len
  have HV : Hid ((w.alloc (.cells #[.int .i64 sa, .int .i64 sb] 28)).heap.size = w.heap.size + 1) := Lib.hid (by rw [World.size_alloc])
  clear hr
  go_enter Try.func15, Try.ntmps15
  go_wp2_with fail
  generalize w.alloc (.cells #[.int .i64 sa, .int .i64 sb] 28) = V at HX HB HR HV ⊢
  have HM : Hid (Way xs (sa, sb) 0 (some ⟨w.heap.size + 1, 0, none⟩) 0 0 V (V.alloc (.cells #[] 3))) := Lib.hid ⟨litN_at 3 V V.heap.size (w.heap.size + 1) [] (allK_nil _) (Nat.le_refl _) HV.out.symm (by simp), (Below.refl _ _).alloc (Nat.le_refl _) _⟩
  go_loopw [5, 13] (fun v i wr => ∃ (k m c' : Nat) (p' : Option Addr), k ≤ n ∧ i = .int .i64 k ∧ v = .slice p' m c' ∧ Hid (Way xs (sa, sb) k p' m c' V wr)) (fun _ i _ => n - (intOf i).toNat)
  case atStart => exact ⟨0, _, _, _, Nat.zero_le _, rfl, rfl, HM⟩
  case round =>
    obtain ⟨k, m, c', p', hk, rfl, rfl, HK⟩ := hrel
    have hsz := HK.out.2.size
    have hml := HK.out.len
    have HS := Lib.hid (HX.out.below HK.out.2)
    have hwr : w.heap.size < wr.heap.size := HS.out.lt
    by_cases hlt : k < n
    · obtain ⟨b, o, rfl, hb, hat⟩ := rd_at (HR.out.below HK.out.2) hlt
      have hkx : k < xs.length := by rw [HL.out]; exact hlt
      generalize hx : xs.getD k zero = x at hat
      obtain ⟨xa, xb⟩ := x
      have HAT := Lib.hid hat
      obtain ⟨c0, c1⟩ := hat
      obtain ⟨⟨ra, rb⟩, hR⟩ : ∃ r, meetR (xa, xb) (sa, sb) = r := ⟨_, rfl⟩
      have HRr := Lib.hid hR
      clear hR
      have i1 : (0 : Int) ≤ (k : Int) := by omega
      have i2 : (k : Int) < (n : Int) := by omega
      rcases hmt : meets (xa, xb) (sa, sb) with _ | _
      · have HMt := Lib.hid hmt
        have HI := Lib.hid (dis_yes hx hmt)
        clear hmt hx
        obtain ⟨d0, d1, _, _⟩ := (HS.out.alloc (.cells #[.int .i64 xa, .int .i64 xb] 28)).two
        go_wp2_with fail
        refine (meet_any _ _ _ _ _).mono ?_
        rintro e w2 ⟨rfl, hb2⟩
        rw [HMt.out, HRr.out]
        have HB2 := Lib.hid (below_on ((Below.refl wr.heap.size wr).alloc (Nat.le_refl _) (.cells #[.int .i64 xa, .int .i64 xb] 28)) hb2)
        have HC1 := Lib.hid (HB2.out.alloc HB2.out.size (.cells #[.int .i64 ra, .int .i64 rb] 28))
        have HLit : Hid (Rd .i64 ((w2.alloc (.cells #[.int .i64 ra, .int .i64 rb] 28)).alloc (.cells #[.int .i64 (k : Int)] 3)) (some ⟨w2.heap.size + 1, 0, none⟩) 1 [(k : Int)]) := Lib.hid (litN_at 3 _ (w2.alloc (.cells #[.int .i64 ra, .int .i64 rb] 28)).heap.size _ [(k : Int)] (allK_cons ⟨by omega, by omega⟩ (allK_nil _)) (Nat.le_refl _) (by simp) (by simp)).rd
        clear hb2 d0 d1
        all_goals
          clear c0 c1
          go_wp2_with (at_builtin; refine wpList_appR rfl (.tmp 26) (.tmp 28) 36 rfl i0 _ 8 Try.underlying36 hi hz0 hz1 hz2 rfl rfl ((HK.out.1.below HC1.out).alloc _) _ _ _ _ rfl HLit.out (Nat.le_trans hsz (Nat.le_trans HC1.out.size (by simp))) (by omega) (by omega) ?_; intro p2 c2 w3 how2 hg2; rw [← HI.out] at how2; have HK2 : Hid (Way xs (sa, sb) (k + 1) p2 (m + 1) c2 V w3) := Lib.hid ⟨how2, (below_on HK.out.2 (HC1.out.alloc HC1.out.size _)).trans (((HK.out.1.below HC1.out).alloc _).below_row hg2 (Nat.le_trans hsz (Nat.le_trans HC1.out.size (by simp))))⟩; clear how2 hg2)
          go_roundw
          case rel => exact ⟨k + 1, _, _, _, by omega, by go_num, rfl, HK2⟩
          case measure => simp [intOf]; omega
      · have HMt := Lib.hid hmt
        have HI := Lib.hid (dis_no hx hmt)
        clear hmt hx
        obtain ⟨d0, d1, _, _⟩ := (HS.out.alloc (.cells #[.int .i64 xa, .int .i64 xb] 28)).two
        go_wp2_with fail
        refine (meet_any _ _ _ _ _).mono ?_
        rintro e w2 ⟨rfl, hb2⟩
        rw [HMt.out, HRr.out]
        have HB2 := Lib.hid (below_on ((Below.refl wr.heap.size wr).alloc (Nat.le_refl _) (.cells #[.int .i64 xa, .int .i64 xb] 28)) hb2)
        have HC1 := Lib.hid (HB2.out.alloc HB2.out.size (.cells #[.int .i64 ra, .int .i64 rb] 28))
        skip
        clear hb2 d0 d1
        all_goals
          clear c0 c1
          go_wp2_with fail
          go_roundw
          case rel => exact ⟨k + 1, _, _, _, by omega, by go_num, rfl, Lib.hid (HK.out.next HC1.out HI.out)⟩
          case measure => simp [intOf]; omega
    · obtain rfl : k = n := by omega
      go_wp2_with fail
      go_ret
      exact ⟨_, _, _, rfl, by have h := HK.out.1.wide HB.out.size (Nat.le_refl _) (Nat.le_refl _); rw [HL.out]; exact h, below_on HB.out HK.out.2⟩
set_option maxRecDepth 100000 in
set_option maxHeartbeats 8000000 in
theorem spec_who_any (p : Option Addr) (n c : Nat) (xs : List Sp) (sa sb : Int) (w : World) (hr : RdS E w p n xs) (hn : n ≤ 10000000) : Calls Try.prog 24 #[.slice p n c, .agg #[.int .i64 sa, .int .i64 sb]] w (SlI.Makes (dis xs (sa, sb) xs.length) w) := by
  obtain ⟨i0, hi, hz0, hz1, hz2⟩ := info_parts SlI.info
  have HX := Lib.hid (Bx.new w 28 #[.int .i64 sa, .int .i64 sb])
  have HB := Lib.hid ((Below.refl _ w).alloc (Nat.le_refl _) (.cells #[.int .i64 sa, .int .i64 sb] 28))
  have HR := Lib.hid (hr.below HB.out)
  have HL := Lib.hid hr.len
  have HV : Hid ((w.alloc (.cells #[.int .i64 sa, .int .i64 sb] 28)).heap.size = w.heap.size + 1) := Lib.hid (by rw [World.size_alloc])
  clear hr
  go_enter Try.func24, Try.ntmps24
  go_wp2_with fail
  generalize w.alloc (.cells #[.int .i64 sa, .int .i64 sb] 28) = V at HX HB HR HV ⊢
  have HM : Hid (Way xs (sa, sb) 0 (some ⟨w.heap.size + 1, 0, none⟩) 0 0 V (V.alloc (.cells #[] 3))) := Lib.hid ⟨litN_at 3 V V.heap.size (w.heap.size + 1) [] (allK_nil _) (Nat.le_refl _) HV.out.symm (by simp), (Below.refl _ _).alloc (Nat.le_refl _) _⟩
  go_loopw [5, 6] (fun v i wr => ∃ (k m c' : Nat) (p' : Option Addr), k ≤ n ∧ i = .int .i64 k ∧ v = .slice p' m c' ∧ Hid (Way xs (sa, sb) k p' m c' V wr)) (fun _ i _ => n - (intOf i).toNat)
  case atStart => exact ⟨0, _, _, _, Nat.zero_le _, rfl, rfl, HM⟩
  case round =>
    obtain ⟨k, m, c', p', hk, rfl, rfl, HK⟩ := hrel
    have hsz := HK.out.2.size
    have hml := HK.out.len
    have HS := Lib.hid (HX.out.below HK.out.2)
    have hwr : w.heap.size < wr.heap.size := HS.out.lt
    by_cases hlt : k < n
    · obtain ⟨b, o, rfl, hb, hat⟩ := rd_at (HR.out.below HK.out.2) hlt
      have hkx : k < xs.length := by rw [HL.out]; exact hlt
      generalize hx : xs.getD k zero = x at hat
      obtain ⟨xa, xb⟩ := x
      have HAT := Lib.hid hat
      obtain ⟨c0, c1⟩ := hat
      obtain ⟨⟨ra, rb⟩, hR⟩ : ∃ r, meetR (xa, xb) (sa, sb) = r := ⟨_, rfl⟩
      have HRr := Lib.hid hR
      clear hR
      have i1 : (0 : Int) ≤ (k : Int) := by omega
      have i2 : (k : Int) < (n : Int) := by omega
      rcases hmt : meets (xa, xb) (sa, sb) with _ | _
      · have HMt := Lib.hid hmt
        have HI := Lib.hid (dis_yes hx hmt)
        clear hmt hx
        go_wp2_with fail
        go_region_held3 (fun w' => w'.cell? ⟨b, o + k * 2, none⟩ = some (.int .i64 xa) ∧ w'.cell? ⟨b, o + k * 2 + 1, none⟩ = some (.int .i64 xb) ∧ w'.cell? ⟨w.heap.size, 0, none⟩ = some (.int .i64 sa) ∧ w'.cell? ⟨w.heap.size, 1, none⟩ = some (.int .i64 sb)) (first | exact ⟨hat2.1, hat2.2, HS2.out.two.1, HS2.out.two.2.1⟩ | exact ⟨(at_alloc hat2 hl2 _).1, (at_alloc hat2 hl2 _).2, (HS2.out.alloc _).two.1, (HS2.out.alloc _).two.2.1⟩ | exact ⟨(at_alloc (w := wr.drew) HAT.out hb _).1, (at_alloc (w := wr.drew) HAT.out hb _).2, (HS.out.drew1.alloc _).two.1, (HS.out.drew1.alloc _).two.2.1⟩ | exact ⟨(at_two hat2 (by omega) _ _).1, (at_two hat2 (by omega) _ _).2, (HS2.out.two_far (by omega) _ _).1, (HS2.out.two_far (by omega) _ _).2⟩ | exact ⟨HAT.out.1, HAT.out.2, HS.out.two.1, HS.out.two.2.1⟩ | go_keep) (first
          | (go_at_call 48; refine (spec_meet_any _ _ _ _ _).mono ?_; rintro e w2 ⟨rfl, hb2⟩; rw [HMt.out, HRr.out]; have HB2 := Lib.hid ((below_drewN (Below.refl wr.heap.size wr) 1).trans hb2); have hat2 := HAT.out.below HB2.out hb; have HS2 := Lib.hid (HS.out.below HB2.out); have hl2 := Nat.lt_of_lt_of_le hb HB2.out.size; have HC1 := Lib.hid (HB2.out.alloc HB2.out.size (.cells #[.int .i64 ra, .int .i64 rb] 28)); have HLit : Hid (Rd .i64 ((w2.alloc (.cells #[.int .i64 ra, .int .i64 rb] 28)).alloc (.cells #[.int .i64 (k : Int)] 3)) (some ⟨w2.heap.size + 1, 0, none⟩) 1 [(k : Int)]) := Lib.hid (litN_at 3 _ (w2.alloc (.cells #[.int .i64 ra, .int .i64 rb] 28)).heap.size _ [(k : Int)] (allK_cons ⟨by omega, by omega⟩ (allK_nil _)) (Nat.le_refl _) (by simp) (by simp)).rd; clear hb2)
          | (go_at_call 48; refine (spec_meet_any _ _ _ _ _).mono ?_; rintro e w2 ⟨rfl, hb2⟩; rw [HMt.out, HRr.out]; have HB2 := Lib.hid (((below_drewN (Below.refl wr.heap.size wr) 1).alloc (Nat.le_refl _) _).trans (hb2.mono (by simp))); have hat2 := HAT.out.below HB2.out hb; have HS2 := Lib.hid (HS.out.below HB2.out); have HXB : Hid (Bx w2 wr.heap.size 28 #[.int .i64 0, .int .i64 0]) := Lib.hid ((Bx.new wr.drew _ _).below hb2); obtain ⟨q0, q1, q2, q3⟩ := HXB.out.two; have HC1 := Lib.hid ((HB2.out.setCell (p := ⟨wr.heap.size, 0, none⟩) (Nat.le_refl _) (.int .i64 ra)).setCell (p := ⟨wr.heap.size, 1, none⟩) (Nat.le_refl _) (.int .i64 rb)); have HLit : Hid (Rd .i64 (((w2.setCell ⟨wr.heap.size, 0, none⟩ (.int .i64 ra)).setCell ⟨wr.heap.size, 1, none⟩ (.int .i64 rb)).alloc (.cells #[.int .i64 (k : Int)] 3)) (some ⟨w2.heap.size, 0, none⟩) 1 [(k : Int)]) := Lib.hid (litN_at 3 _ ((w2.setCell ⟨wr.heap.size, 0, none⟩ (.int .i64 ra)).setCell ⟨wr.heap.size, 1, none⟩ (.int .i64 rb)).heap.size _ [(k : Int)] (allK_cons ⟨by omega, by omega⟩ (allK_nil _)) (Nat.le_refl _) (by simp [World.setCell]) (by simp)).rd; clear hb2))
        all_goals
          clear c0 c1
          go_wp2_with (at_builtin; refine wpList_appR rfl (.tmp 27) (.tmp 29) 36 rfl i0 _ 8 Try.underlying36 hi hz0 hz1 hz2 rfl rfl ((HK.out.1.below HC1.out).alloc _) _ _ _ _ rfl HLit.out (Nat.le_trans hsz (Nat.le_trans HC1.out.size (by simp))) (by omega) (by omega) ?_; intro p2 c2 w3 how2 hg2; rw [← HI.out] at how2; have HK2 : Hid (Way xs (sa, sb) (k + 1) p2 (m + 1) c2 V w3) := Lib.hid ⟨how2, (below_on HK.out.2 (HC1.out.alloc HC1.out.size _)).trans (((HK.out.1.below HC1.out).alloc _).below_row hg2 (Nat.le_trans hsz (Nat.le_trans HC1.out.size (by simp))))⟩; clear how2 hg2)
          go_roundw
          case rel => exact ⟨k + 1, _, _, _, by omega, by go_num, rfl, HK2⟩
          case measure => simp [intOf]; omega
      · have HMt := Lib.hid hmt
        have HI := Lib.hid (dis_no hx hmt)
        clear hmt hx
        go_wp2_with fail
        go_region_held3 (fun w' => w'.cell? ⟨b, o + k * 2, none⟩ = some (.int .i64 xa) ∧ w'.cell? ⟨b, o + k * 2 + 1, none⟩ = some (.int .i64 xb) ∧ w'.cell? ⟨w.heap.size, 0, none⟩ = some (.int .i64 sa) ∧ w'.cell? ⟨w.heap.size, 1, none⟩ = some (.int .i64 sb)) (first | exact ⟨hat2.1, hat2.2, HS2.out.two.1, HS2.out.two.2.1⟩ | exact ⟨(at_alloc hat2 hl2 _).1, (at_alloc hat2 hl2 _).2, (HS2.out.alloc _).two.1, (HS2.out.alloc _).two.2.1⟩ | exact ⟨(at_alloc (w := wr.drew) HAT.out hb _).1, (at_alloc (w := wr.drew) HAT.out hb _).2, (HS.out.drew1.alloc _).two.1, (HS.out.drew1.alloc _).two.2.1⟩ | exact ⟨(at_two hat2 (by omega) _ _).1, (at_two hat2 (by omega) _ _).2, (HS2.out.two_far (by omega) _ _).1, (HS2.out.two_far (by omega) _ _).2⟩ | exact ⟨HAT.out.1, HAT.out.2, HS.out.two.1, HS.out.two.2.1⟩ | go_keep) (first
          | (go_at_call 48; refine (spec_meet_any _ _ _ _ _).mono ?_; rintro e w2 ⟨rfl, hb2⟩; rw [HMt.out, HRr.out]; have HB2 := Lib.hid ((below_drewN (Below.refl wr.heap.size wr) 1).trans hb2); have hat2 := HAT.out.below HB2.out hb; have HS2 := Lib.hid (HS.out.below HB2.out); have hl2 := Nat.lt_of_lt_of_le hb HB2.out.size; have HC1 := Lib.hid (HB2.out.alloc HB2.out.size (.cells #[.int .i64 ra, .int .i64 rb] 28)); skip; clear hb2)
          | (go_at_call 48; refine (spec_meet_any _ _ _ _ _).mono ?_; rintro e w2 ⟨rfl, hb2⟩; rw [HMt.out, HRr.out]; have HB2 := Lib.hid (((below_drewN (Below.refl wr.heap.size wr) 1).alloc (Nat.le_refl _) _).trans (hb2.mono (by simp))); have hat2 := HAT.out.below HB2.out hb; have HS2 := Lib.hid (HS.out.below HB2.out); have HXB : Hid (Bx w2 wr.heap.size 28 #[.int .i64 0, .int .i64 0]) := Lib.hid ((Bx.new wr.drew _ _).below hb2); obtain ⟨q0, q1, q2, q3⟩ := HXB.out.two; have HC1 := Lib.hid ((HB2.out.setCell (p := ⟨wr.heap.size, 0, none⟩) (Nat.le_refl _) (.int .i64 ra)).setCell (p := ⟨wr.heap.size, 1, none⟩) (Nat.le_refl _) (.int .i64 rb)); skip; clear hb2))
        all_goals
          clear c0 c1
          go_wp2_with fail
          go_roundw
          case rel => exact ⟨k + 1, _, _, _, by omega, by go_num, rfl, Lib.hid (HK.out.next HC1.out HI.out)⟩
          case measure => simp [intOf]; omega
    · obtain rfl : k = n := by omega
      go_wp2_with fail
      go_ret
      exact ⟨_, _, _, rfl, by have h := HK.out.1.wide HB.out.size (Nat.le_refl _) (Nat.le_refl _); rw [HL.out]; exact h, below_on HB.out HK.out.2⟩
end Go.Proofs.Ytllkpapkkgfjaad.Cd
