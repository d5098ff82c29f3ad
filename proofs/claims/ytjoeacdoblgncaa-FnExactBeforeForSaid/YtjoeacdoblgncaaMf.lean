/- Contracts of signing together: a chain, a rule that is met, what comes before; in the program and in the reference. -/
import Derived.Test.YtjoeacdoblgncaaMe
import Derived.LoopTactic
import Derived.Outline
namespace Go.Proofs.Ytjoeacdoblgncaa.Mf
open Go.ChangeShapes Go.WideShapes Go.ChangeAt Go.RowKit Go.Shelf Sl St Fnd Kn Kr Ki Km Ko SlSignature Gi Ge Gs Sg Mo Ir Me
def lst (y : I9) : List Int := [104, y.1, y.2.1, y.2.2.1, y.2.2.2.1, y.2.2.2.2.1, y.2.2.2.2.2.1, y.2.2.2.2.2.2.1, y.2.2.2.2.2.2.2.1, y.2.2.2.2.2.2.2.2]
def Link (ys : List I9) (i : Nat) : Prop := 0 < i → (ys.getD i zero).2.2.2.2.2.2.1 = Dg.dig (ys.getD i zero).2.2.1 (lst (ys.getD (i - 1) zero))
open Classical in
noncomputable def chainB (ys : List I9) : Bool := decide (∀ i, i < ys.length → Link ys i)
theorem link_next {ys : List I9} {k : Nat} (h : ∀ i, i < k → Link ys i) (hk : Link ys k) : ∀ i, i < k + 1 → Link ys i := fun i hi => by
  rcases Nat.lt_succ_iff_lt_or_eq.1 hi with h' | rfl
  · exact h i h'
  · exact hk
theorem link_zero (ys : List I9) : Link ys 0 := fun h => absurd h (Nat.lt_irrefl 0)
theorem link_succ {ys : List I9} {j : Nat} {x y : I9} {ρ : Int} (hx : ys.getD (j + 1) zero = x) (hy : ys.getD j zero = y) (hr : Dg.dig x.2.2.1 (lst y) = ρ) : Link ys (j + 1) ↔ x.2.2.2.2.2.2.1 = ρ := by
  unfold Link
  rw [Nat.add_sub_cancel, hx, hy, hr]
  exact ⟨fun h => h (Nat.succ_pos _), fun h _ => h⟩
open Classical in
theorem chain_no {ys : List I9} {k : Nat} (hk : k < ys.length) (h : ¬ Link ys k) : chainB ys = false := decide_eq_false fun a => h (a k hk)
open Classical in
theorem chain_yes {ys : List I9} (h : ∀ i, i < ys.length → Link ys i) : chainB ys = true := decide_eq_true h
set_option maxRecDepth 100000 in
set_option maxHeartbeats 8000000 in
theorem chain_any (q : Option Addr) (m c' : Nat) (ys : List I9) (hX : ∀ x ∈ ys, InR x) (w : World) (hs : RdS E w q m ys) : Calls Try.prog 53 #[.slice q m c'] w (Val (.bool (chainB ys)) w) := by
  have HS := Lib.hid hs
  have HSL := Lib.hid hs.len
  have hmle := hs.le
  clear hs
  go_enter Try.func53, Try.ntmps53
  go_wp2_with fail
  go_loopw [7] (fun i wr => ∃ k : Nat, k ≤ m ∧ i = .int .i64 k ∧ Hid (Below w.heap.size w wr) ∧ Hid (∀ j, j < k → Link ys j)) (fun i _ => m - (intOf i).toNat)
  case atStart => exact ⟨0, Nat.zero_le _, rfl, Lib.hid (Below.refl _ _), Lib.hid fun j h => by omega⟩
  case round =>
    obtain ⟨k, hk, rfl, HB, HK⟩ := hrel
    by_cases hlt : k < m
    · obtain ⟨b, o, rfl, hbb, hat⟩ := rd_at (HS.out.below HB.out) hlt
      have HKX : Hid (k < ys.length) := Lib.hid (by rw [HSL.out]; exact hlt)
      have HI := Lib.hid (hX (ys.getD k zero) (getD_mem zero HKX.out))
      generalize hx : ys.getD k zero = x at hat HI
      have HXx := Lib.hid hx
      clear hx
      obtain ⟨x0, x1, x2, x3, x4, x5, x6, x7, x8⟩ := x
      have HN := Lib.hid (Bx.new wr 70 #[.int .i64 x0, .int .i64 x1, .int .i64 x2, .int .i64 x3, .int .i64 x4, .int .i64 x5, .int .i64 x6, .int .i64 x7, .int .i64 x8])
      have HWa := Lib.hid (Ki.box1 wr (.cells #[.int .i64 x0, .int .i64 x1, .int .i64 x2, .int .i64 x3, .int .i64 x4, .int .i64 x5, .int .i64 x6, .int .i64 x7, .int .i64 x8] 70))
      cases k with
      | zero =>
        rw [Nat.zero_mul, Nat.add_zero] at hat
        obtain ⟨c0, c1, c2, c3, c4, c5, c6, c7, c8⟩ := hat
        have HB1 := Lib.hid (below_on HB.out HWa.out)
        have HL := Lib.hid (link_next HK.out (link_zero ys))
        go_wp2_with fail
        have HC : Hid (∀ w', Qt.Keeps ((wr.alloc (.cells #[.int .i64 x0, .int .i64 x1, .int .i64 x2, .int .i64 x3, .int .i64 x4, .int .i64 x5, .int .i64 x6, .int .i64 x7, .int .i64 x8] 70))) w' → w'.cell? ⟨wr.heap.size, 2, none⟩ = some (.int .i64 x2) ∧ w'.cell? ⟨wr.heap.size, 6, none⟩ = some (.int .i64 x6)) := Lib.hid fun w' hw => let h := bxc (HN.out.below hw); ⟨h.2.2.1, h.2.2.2.2.2.2.1⟩
        refine Qt.region (Qt.Keeps ((wr.alloc (.cells #[.int .i64 x0, .int .i64 x1, .int .i64 x2, .int .i64 x3, .int .i64 x4, .int .i64 x5, .int .i64 x6, .int .i64 x7, .int .i64 x8] 70)))) (by kernel_rfl) (by kernel_rfl) (Qt.Keeps.drew _) ?_
        repeat (first
          | go_big_quiet_skip
          | (go_big_quiet_want
             refine Qt.val (v := ?_) (fun w hw => ?_) ?_
             rotate_left
             · obtain ⟨s2, s6⟩ := HC.out w hw
               go_simp
               rfl
             simp only [Act.put, List.setIfInBounds_toArray, List.set_cons_zero, List.set_cons_succ]
             go_big_quiet_on))
        refine wpQuiet_nil ?_
        intro w2 hw2
        have HB2 := Lib.hid (below_on HB1.out hw2)
        clear hw2
        go_wp2_with fail
        go_roundw
        case rel => exact ⟨1, by omega, rfl, HB2, HL⟩
        case measure => simp [intOf]; omega
      | succ j =>
        obtain ⟨b', o', e', hb', hat'⟩ := rd_at (HS.out.below HB.out) (k := j) (by omega)
        have HJ := Lib.hid (hX (ys.getD j zero) (getD_mem zero (by have := HKX.out; omega)))
        generalize hy : ys.getD j zero = y at hat' HJ
        have HYy := Lib.hid hy
        clear hy
        obtain ⟨y0, y1, y2, y3, y4, y5, y6, y7, y8⟩ := y
        simp only [Option.some.injEq, Addr.mk.injEq, and_true] at e'
        obtain ⟨rfl, rfl⟩ := e'
        have HP := Lib.hid (hat'.below HWa.out hbb)
        have HBS : Hid (b < (wr.alloc (.cells #[.int .i64 x0, .int .i64 x1, .int .i64 x2, .int .i64 x3, .int .i64 x4, .int .i64 x5, .int .i64 x6, .int .i64 x7, .int .i64 x8] 70)).heap.size) := Lib.hid (Nat.lt_of_lt_of_le hbb (by simp))
        obtain ⟨c0, c1, c2, c3, c4, c5, c6, c7, c8⟩ := hat
        obtain ⟨ji0, ji1, ji2, ji3, ji4, ji5, ji6, ji7, ji8⟩ := HJ.out
        have J0 := Lib.hid ji0
        have J1 := Lib.hid ji1
        have J2 := Lib.hid ji2
        have J3 := Lib.hid ji3
        have J4 := Lib.hid ji4
        have J5 := Lib.hid ji5
        have J6 := Lib.hid ji6
        have J7 := Lib.hid ji7
        have J8 := Lib.hid ji8
        clear ji0 ji1 ji2 ji3 ji4 ji5 ji6 ji7 ji8
        have jw : IntKind.i64.wrap (j : Int) = (j : Int) := IntWalk.i64_in _ (by omega)
        have j1 : (0 : Int) ≤ (j : Int) := by omega
        have j2 : (j : Int) < (m : Int) := by omega
        have HB1 := Lib.hid (below_on HB.out HWa.out)
        obtain ⟨ρ, hρ⟩ : ∃ ρ, Dg.dig x2 (lst (y0, y1, y2, y3, y4, y5, y6, y7, y8)) = ρ := ⟨_, rfl⟩
        have HD := Lib.hid hρ
        have HL := Lib.hid (link_succ HXx.out HYy.out hρ)
        clear hρ hat'
        by_cases he : x6 = ρ
        · have HL2 := Lib.hid (link_next HK.out (HL.out.2 he))
          have e1 : (x6 != ρ) = false := by simp [he]
          have e2 : (x6 == ρ) = true := by simp [he]
          clear he
          go_wp2_with fail
          have HC : Hid (∀ w', Qt.Keeps ((wr.alloc (.cells #[.int .i64 x0, .int .i64 x1, .int .i64 x2, .int .i64 x3, .int .i64 x4, .int .i64 x5, .int .i64 x6, .int .i64 x7, .int .i64 x8] 70))) w' → w'.cell? ⟨wr.heap.size, 2, none⟩ = some (.int .i64 x2) ∧ w'.cell? ⟨wr.heap.size, 6, none⟩ = some (.int .i64 x6) ∧ w'.cell? ⟨b, o + j * 9, none⟩ = some (.int .i64 y0) ∧ w'.cell? ⟨b, o + j * 9 + 1, none⟩ = some (.int .i64 y1) ∧ w'.cell? ⟨b, o + j * 9 + 2, none⟩ = some (.int .i64 y2) ∧ w'.cell? ⟨b, o + j * 9 + 3, none⟩ = some (.int .i64 y3) ∧ w'.cell? ⟨b, o + j * 9 + 4, none⟩ = some (.int .i64 y4) ∧ w'.cell? ⟨b, o + j * 9 + 5, none⟩ = some (.int .i64 y5) ∧ w'.cell? ⟨b, o + j * 9 + 6, none⟩ = some (.int .i64 y6) ∧ w'.cell? ⟨b, o + j * 9 + 7, none⟩ = some (.int .i64 y7) ∧ w'.cell? ⟨b, o + j * 9 + 8, none⟩ = some (.int .i64 y8)) := Lib.hid fun w' hw => let h := bxc (HN.out.below hw); let h2 := HP.out.below hw HBS.out; ⟨h.2.2.1, h.2.2.2.2.2.2.1, h2⟩
          refine Qt.region (Qt.Keeps ((wr.alloc (.cells #[.int .i64 x0, .int .i64 x1, .int .i64 x2, .int .i64 x3, .int .i64 x4, .int .i64 x5, .int .i64 x6, .int .i64 x7, .int .i64 x8] 70)))) (by kernel_rfl) (by kernel_rfl) (Qt.Keeps.drew _) ?_
          repeat (first
            | go_big_quiet_skip
            | (go_big_quiet_want
               refine Qt.val (v := ?_) (fun w hw => ?_) ?_
               rotate_left
               · obtain ⟨s2, s6, r0, r1, r2, r3, r4, r5, r6, r7, r8⟩ := HC.out w hw
                 go_simp
                 rfl
               simp only [Act.put, List.setIfInBounds_toArray, List.set_cons_zero, List.set_cons_succ]
               go_big_quiet_on)
            | (go_big_quiet_want
               refine Qt.call (v := .int .i64 ρ) (f := 59) (args := #[.int .i64 x2, .agg #[.int .i64 y0, .int .i64 y1, .int .i64 y2, .int .i64 y3, .int .i64 y4, .int .i64 y5, .int .i64 y6, .int .i64 y7, .int .i64 y8]]) (fun w hw => ?_) (fun w hw => ?_) ?_
               · go_simp
               · refine (Gd.sigDigest_any x2 y0 y1 y2 y3 y4 y5 y6 y7 y8 _ J0.out J1.out J2.out J3.out J4.out J5.out J6.out J7.out J8.out).mono ?_
                 rintro e w1 ⟨rfl, hb1⟩
                 rw [show Dg.dig x2 [104, y0, y1, y2, y3, y4, y5, y6, y7, y8] = ρ from HD.out]
                 exact ⟨rfl, hw.then hb1⟩
               simp only [Act.put, List.setIfInBounds_toArray, List.set_cons_zero, List.set_cons_succ]
               go_big_quiet_on))
          refine wpQuiet_nil ?_
          intro w2 hw2
          have HB2 := Lib.hid (below_on HB1.out hw2)
          clear hw2
          go_wp2_with fail
          go_roundw
          case rel => exact ⟨j + 2, by omega, by go_num, HB2, HL2⟩
          case measure => simp [intOf]; omega
        · have HE := Lib.hid (chain_no HKX.out (fun h => he (HL.out.1 h)))
          have e1 : (x6 != ρ) = true := by simp [he]
          have e2 : (x6 == ρ) = false := by simp [he]
          clear he
          go_wp2_with fail
          have HC : Hid (∀ w', Qt.Keeps ((wr.alloc (.cells #[.int .i64 x0, .int .i64 x1, .int .i64 x2, .int .i64 x3, .int .i64 x4, .int .i64 x5, .int .i64 x6, .int .i64 x7, .int .i64 x8] 70))) w' → w'.cell? ⟨wr.heap.size, 2, none⟩ = some (.int .i64 x2) ∧ w'.cell? ⟨wr.heap.size, 6, none⟩ = some (.int .i64 x6) ∧ w'.cell? ⟨b, o + j * 9, none⟩ = some (.int .i64 y0) ∧ w'.cell? ⟨b, o + j * 9 + 1, none⟩ = some (.int .i64 y1) ∧ w'.cell? ⟨b, o + j * 9 + 2, none⟩ = some (.int .i64 y2) ∧ w'.cell? ⟨b, o + j * 9 + 3, none⟩ = some (.int .i64 y3) ∧ w'.cell? ⟨b, o + j * 9 + 4, none⟩ = some (.int .i64 y4) ∧ w'.cell? ⟨b, o + j * 9 + 5, none⟩ = some (.int .i64 y5) ∧ w'.cell? ⟨b, o + j * 9 + 6, none⟩ = some (.int .i64 y6) ∧ w'.cell? ⟨b, o + j * 9 + 7, none⟩ = some (.int .i64 y7) ∧ w'.cell? ⟨b, o + j * 9 + 8, none⟩ = some (.int .i64 y8)) := Lib.hid fun w' hw => let h := bxc (HN.out.below hw); let h2 := HP.out.below hw HBS.out; ⟨h.2.2.1, h.2.2.2.2.2.2.1, h2⟩
          refine Qt.region (Qt.Keeps ((wr.alloc (.cells #[.int .i64 x0, .int .i64 x1, .int .i64 x2, .int .i64 x3, .int .i64 x4, .int .i64 x5, .int .i64 x6, .int .i64 x7, .int .i64 x8] 70)))) (by kernel_rfl) (by kernel_rfl) (Qt.Keeps.drew _) ?_
          repeat (first
            | go_big_quiet_skip
            | (go_big_quiet_want
               refine Qt.val (v := ?_) (fun w hw => ?_) ?_
               rotate_left
               · obtain ⟨s2, s6, r0, r1, r2, r3, r4, r5, r6, r7, r8⟩ := HC.out w hw
                 go_simp
                 rfl
               simp only [Act.put, List.setIfInBounds_toArray, List.set_cons_zero, List.set_cons_succ]
               go_big_quiet_on)
            | (go_big_quiet_want
               refine Qt.call (v := .int .i64 ρ) (f := 59) (args := #[.int .i64 x2, .agg #[.int .i64 y0, .int .i64 y1, .int .i64 y2, .int .i64 y3, .int .i64 y4, .int .i64 y5, .int .i64 y6, .int .i64 y7, .int .i64 y8]]) (fun w hw => ?_) (fun w hw => ?_) ?_
               · go_simp
               · refine (Gd.sigDigest_any x2 y0 y1 y2 y3 y4 y5 y6 y7 y8 _ J0.out J1.out J2.out J3.out J4.out J5.out J6.out J7.out J8.out).mono ?_
                 rintro e w1 ⟨rfl, hb1⟩
                 rw [show Dg.dig x2 [104, y0, y1, y2, y3, y4, y5, y6, y7, y8] = ρ from HD.out]
                 exact ⟨rfl, hw.then hb1⟩
               simp only [Act.put, List.setIfInBounds_toArray, List.set_cons_zero, List.set_cons_succ]
               go_big_quiet_on))
          refine wpQuiet_nil ?_
          intro w2 hw2
          have HB2 := Lib.hid (below_on HB1.out hw2)
          clear hw2
          go_wp2_with fail
          go_ret
          exact Sg.says (by rw [HE.out]; try rfl) HB2.out
    · obtain rfl : k = m := by omega
      have HE := Lib.hid (chain_yes (ys := ys) (by rw [HSL.out]; exact HK.out))
      go_wp2_with fail
      go_ret
      exact Sg.says (by rw [HE.out]; try rfl) HB.out
/-! ### a rule that is met -/
theorem inrL {ks : List I5} {xs : List I9} (hX : ∀ x ∈ xs, InR x) (dg ow : Int) (h : isMiss ks xs dg ow = false) : InR (pv ks xs dg ow) := by
  unfold pv
  rcases first_in (sg ks ow dg) xs with h1 | ⟨k, hk, h1⟩
  · rw [isMiss_yes h1 (by omega)] at h; cases h
  · rw [h1, Int.toNat_natCast]; exact hX _ (getD_mem zero hk)
theorem signed_in {ks : List I5} {xs : List I9} (hX : ∀ x ∈ xs, InR x) (dg : Int) (ows : List Int) : ∀ y ∈ signedL ks xs dg ows, InR y := fun y hy => by
  unfold signedL at hy
  obtain ⟨ow, ho, rfl⟩ := List.mem_map.1 hy
  obtain ⟨i, hi, rfl⟩ := List.mem_iff_getElem.1 ho
  rw [List.length_take] at hi
  have h := led_no (isMiss ks xs dg) ows i (by omega)
  rw [List.getElem_take]
  refine inrL hX dg _ ?_
  rw [List.getD_eq_getElem?_getD, List.getElem?_eq_getElem (by omega)] at h
  exact h
theorem signed_len (ks : List I5) (xs : List I9) (dg : Int) (ows : List Int) : (signedL ks xs dg ows).length = led (isMiss ks xs dg) ows := by
  unfold signedL
  rw [List.length_map, List.length_take]
  have := led_le (isMiss ks xs dg) ows
  omega
noncomputable def meetsB (ks : List I5) (xs : List I9) (dg : Int) (io : Bool) (ows : List Int) : Bool := okR ows && (decide (led (isMiss ks xs dg) ows = ows.length) && (!io || chainB (ows.map (pv ks xs dg))))
theorem signed_all {ks : List I5} {xs : List I9} {dg : Int} {ows : List Int} (h : led (isMiss ks xs dg) ows = ows.length) : signedL ks xs dg ows = ows.map (pv ks xs dg) := by
  unfold signedL
  rw [h, List.take_length]
set_option maxRecDepth 100000 in
set_option maxHeartbeats 8000000 in
theorem meets_any (p : Option Addr) (n c : Nat) (ks : List I5) (hR : ∀ x ∈ ks, SlKey.InR x) (po : Option Addr) (no co : Nat) (io : Bool) (ows : List Int) (q : Option Addr) (m c' : Nat) (xs : List I9) (hX : ∀ x ∈ xs, InR x) (dg : Int) (w : World) (hr : RdS SlKey.E w p n ks) (ho : Rd .i64 w po no ows) (hs : RdS E w q m xs) (hn : no ≤ 10000000) (hc : no ≤ co) : Calls Try.prog 16 #[.slice p n c, .agg #[.slice po no co, .bool io], .slice q m c', .int .i64 dg] w (Val (.bool (meetsB ks xs dg io ows)) w) := by
  have hb := Ki.box1 w (.cells #[.slice po no co, .bool io] 33)
  have HB := Lib.hid hb
  have HX' := Lib.hid (Bx.new w 33 #[.slice po no co, .bool io])
  have HS := Lib.hid (hs.below hb)
  have HR := Lib.hid (hr.below hb)
  have HO := Lib.hid (ho.below hb)
  have HL := Lib.hid ho.len
  have hm1 : meetsB ks xs dg io ows = (okR ows && (decide (led (isMiss ks xs dg) ows = ows.length) && (!io || chainB (ows.map (pv ks xs dg))))) := rfl
  clear hb hr hs ho
  obtain ⟨β, hβ⟩ : ∃ β, okR ows = β := ⟨_, rfl⟩
  have HO1 := Lib.hid hβ
  rw [hβ] at hm1
  clear hβ
  have hq := SlRule.bx2 HX'.out
  cases β
  · have HE : Hid (meetsB ks xs dg io ows = false) := Lib.hid hm1
    clear hm1
    obtain ⟨q0, q1⟩ := hq
    go_enter Try.func16, Try.ntmps16
    go_wp2_with fail
    refine (isRule_any po no co io ows _ HO.out hc).mono ?_
    rintro e w1 ⟨rfl, hb⟩
    rw [HO1.out]
    have HB1 := Lib.hid (below_on HB.out hb)
    clear hb q0 q1
    go_wp2_with fail
    go_ret
    exact Sg.says (by rw [HE.out]; try rfl) HB1.out
  have HM1 := Lib.hid hm1
  clear hm1
  have HTL := Lib.hid (signed_len ks xs dg ows)
  have HIN := Lib.hid (signed_in (ks := ks) hX dg ows)
  obtain ⟨q0, q1⟩ := hq
  go_enter Try.func16, Try.ntmps16
  go_wp2_with fail
  refine (isRule_any po no co io ows _ HO.out hc).mono ?_
  rintro e w1 ⟨rfl, hb⟩
  rw [HO1.out]
  have HB1 := Lib.hid (below_on HB.out hb)
  have HX1 := Lib.hid (HX'.out.below hb)
  have HR1 := Lib.hid (HR.out.below hb)
  have HS1 := Lib.hid (HS.out.below hb)
  have HO2 := Lib.hid (HO.out.below hb)
  clear hb q0 q1 HR HS HO HB HX'
  obtain ⟨q0, q1⟩ := SlRule.bx2 HX1.out
  go_wp2_with fail
  refine (turn_any p n c ks hR po no co io ows q m c' xs hX dg _ HR1.out HO2.out HS1.out hn).mono ?_
  rintro e w2 ⟨p2, n2, c2, rfl, ho2, hb⟩
  have HB2 := Lib.hid (below_on HB1.out hb)
  have HX2 := Lib.hid (HX1.out.below hb)
  have HS2 := Lib.hid ho2.rd
  have hl2 : n2 = led (isMiss ks xs dg) ows := by rw [← HTL.out]; exact ho2.len.symm
  clear hb ho2 q0 q1 HR1 HS1 HB1 HX1
  obtain ⟨q0, q1⟩ := SlRule.bx2 HX2.out
  by_cases hn2 : n2 = no
  rotate_left
  · have HE : Hid (meetsB ks xs dg io ows = false) := Lib.hid (by rw [HM1.out, decide_eq_false (by rw [HL.out, ← hl2]; exact hn2)]; rfl)
    have e0 : ((n2 : Int) == (no : Int)) = false := beq_eq_false_iff_ne.2 (by omega)
    clear hl2 hn2 HO2
    go_wp2_with fail
    go_ret
    exact Sg.says (by rw [HE.out]; try rfl) HB2.out
  have hled : led (isMiss ks xs dg) ows = ows.length := by rw [HL.out, ← hl2]; exact hn2
  have HAll := Lib.hid (signed_all hled)
  have HE : Hid (meetsB ks xs dg io ows = (!io || chainB (ows.map (pv ks xs dg)))) := Lib.hid (by rw [HM1.out, decide_eq_true hled]; rfl)
  have e0 : ((n2 : Int) == (no : Int)) = true := by rw [hn2]; simp
  clear hled hl2 hn2 HO2
  cases io
  · go_wp2_with fail
    go_ret
    exact Sg.says (by rw [HE.out]; try rfl) HB2.out
  · go_wp2_with fail
    refine (chain_any p2 n2 c2 (signedL ks xs dg ows) HIN.out _ HS2.out).mono ?_
    rintro e w3 ⟨rfl, hb⟩
    have HB3 := Lib.hid (below_on HB2.out hb)
    clear hb q0 q1
    go_wp2_with fail
    go_ret
    exact Sg.says (by rw [HE.out, HAll.out]; simp) HB3.out
theorem led_ne {f : Int → Bool} {l : List Int} {k : Nat} (hk : k < l.length) (h : f (l.getD k 0) = true) : led f l ≠ l.length := fun e => by
  have := led_no f l k (by omega)
  rw [h] at this
  cases this
theorem map_at {f : Int → I9} {l : List Int} {k : Nat} {x : Int} {y : I9} (hk : k < l.length) (hx : l.getD k 0 = x) (hy : f x = y) : (l.map f).getD k zero = y := by
  rw [List.getD_eq_getElem?_getD, List.getElem?_map, List.getElem?_eq_getElem hk] 
  rw [List.getD_eq_getElem?_getD, List.getElem?_eq_getElem hk] at hx
  simp only [Option.map_some, Option.getD_some] at hx ⊢
  rw [hx, hy]
theorem pv_of {ks : List I5} {xs : List I9} {dg ow : Int} {a : Nat} {y : I9} (h : first (sg ks ow dg) xs = a) (hy : xs.getD a zero = y) : pv ks xs dg ow = y := by
  unfold pv
  rw [h, Int.toNat_natCast, hy]
theorem at_of {ks : List I5} {xs : List I9} {dg ow : Int} (h : isMiss ks xs dg ow = false) : ∃ a : Nat, a < xs.length ∧ first (sg ks ow dg) xs = a := by
  rcases first_in (sg ks ow dg) xs with h1 | h1
  · rw [isMiss_yes h1 (by omega)] at h; cases h
  · exact h1
set_option maxRecDepth 100000 in
set_option maxHeartbeats 16000000 in
theorem spec_meets_any (p : Option Addr) (n c : Nat) (ks : List I5) (hR : ∀ x ∈ ks, SlKey.InR x) (po : Option Addr) (no co : Nat) (io : Bool) (ows : List Int) (q : Option Addr) (m c' : Nat) (xs : List I9) (hX : ∀ x ∈ xs, InR x) (dg : Int) (w : World) (hr : RdS SlKey.E w p n ks) (ho : Rd .i64 w po no ows) (hs : RdS E w q m xs) (hn : no ≤ 10000000) (hc : no ≤ co) : Calls Try.prog 12 #[.slice p n c, .agg #[.slice po no co, .bool io], .slice q m c', .int .i64 dg] w (Val (.bool (meetsB ks xs dg io ows)) w) := by
  have hb := Ki.box1 w (.cells #[.slice po no co, .bool io] 33)
  have HB := Lib.hid hb
  have HX' := Lib.hid (Bx.new w 33 #[.slice po no co, .bool io])
  have HS := Lib.hid (hs.below hb)
  have HSL := Lib.hid hs.len
  have HR := Lib.hid (hr.below hb)
  have HO := Lib.hid (ho.below hb)
  have HL := Lib.hid ho.len
  have HAll := Lib.hid ho.all
  have hmle := hs.le
  have hm1 : meetsB ks xs dg io ows = (okR ows && (decide (led (isMiss ks xs dg) ows = ows.length) && (!io || chainB (ows.map (pv ks xs dg))))) := rfl
  clear hb hr hs ho
  obtain ⟨β, hβ⟩ : ∃ β, okR ows = β := ⟨_, rfl⟩
  have HO1 := Lib.hid hβ
  rw [hβ] at hm1
  clear hβ
  have hq := SlRule.bx2 HX'.out
  cases β
  · have HE : Hid (meetsB ks xs dg io ows = false) := Lib.hid hm1
    clear hm1
    obtain ⟨q0, q1⟩ := hq
    go_enter Try.func12, Try.ntmps12
    go_wp2_with fail
    refine (spec_isRule_any po no co io ows _ HO.out hc).mono ?_
    rintro e w1 ⟨rfl, hb⟩
    rw [HO1.out]
    have HB1 := Lib.hid (below_on HB.out hb)
    clear hb q0 q1
    go_wp2_with fail
    go_ret
    exact Sg.says (by rw [HE.out]; try rfl) HB1.out
  have HM1 := Lib.hid hm1
  clear hm1
  obtain ⟨q0, q1⟩ := hq
  go_enter Try.func12, Try.ntmps12
  go_wp2_with fail
  refine (spec_isRule_any po no co io ows _ HO.out hc).mono ?_
  rintro e V ⟨rfl, hb⟩
  rw [HO1.out]
  have HB1 := Lib.hid (below_on HB.out hb)
  have HX1 := Lib.hid (HX'.out.below hb)
  have HR1 := Lib.hid (HR.out.below hb)
  have HS1 := Lib.hid (HS.out.below hb)
  have HO2 := Lib.hid (HO.out.below hb)
  clear hb q0 q1 HR HS HO HB HX'
  go_wp2_with fail
  go_loopw [9] (fun i wr => ∃ k : Nat, k ≤ no ∧ i = .int .i64 k ∧ Hid (Below V.heap.size V wr) ∧ Hid (∀ i, i < k → isMiss ks xs dg (ows.getD i 0) = false) ∧ Hid (io = true → ∀ i, i < k → Link (ows.map (pv ks xs dg)) i)) (fun i _ => no - (intOf i).toNat)
  case atStart => exact ⟨0, Nat.zero_le _, rfl, Lib.hid (Below.refl _ _), Lib.hid (fun i h => by omega), Lib.hid (fun _ i h => by omega)⟩
  case round =>
    obtain ⟨k, hk, rfl, HB, HA, HC⟩ := hrel
    have HXr := Lib.hid (HX1.out.below HB.out)
    obtain ⟨q0, q1⟩ := SlRule.bx2 HXr.out
    by_cases hlt : k < no
    · obtain ⟨b, o, rfl, hbb, hat⟩ := HO2.out.at_below HB.out hlt
      have hbr : b < wr.heap.size := Nat.lt_of_lt_of_le hbb HB.out.size
      have HKX : Hid (k < ows.length) := Lib.hid (by rw [HL.out]; exact hlt)
      generalize hx : ows.getD k 0 = x at hat
      have HXx := Lib.hid hx
      rcases first_in (sg ks x dg) xs with h1 | ⟨a, ha, h1⟩
      · have HF := Lib.hid h1
        have HE : Hid (meetsB ks xs dg io ows = false) := Lib.hid (by rw [HM1.out, decide_eq_false (led_ne HKX.out (by rw [hx]; exact isMiss_yes h1 (by omega)))]; rfl)
        clear hx h1
        go_wp2_with fail
        refine (spec_sigOf_any p n c ks hR q m c' xs hX x dg _ (HR1.out.below HB.out) (HS1.out.below HB.out)).mono ?_
        rintro e w1 ⟨rfl, hb1⟩
        rw [HF.out]
        have HB2 := Lib.hid (below_on HB1.out (below_on HB.out hb1))
        clear q0 q1 hat hb1
        go_wp2_with fail
        go_ret
        exact Sg.says (by rw [HE.out]; try rfl) HB2.out
      have HF := Lib.hid h1
      have HAX := Lib.hid ha
      have HMs := Lib.hid (isMiss_no h1 (by omega))
      have ham : a < m := by rw [← HSL.out]; exact ha
      have a1 : (0 : Int) ≤ (a : Int) := by omega
      have a2 : (a : Int) < (m : Int) := by omega
      have HI := Lib.hid (hX (xs.getD a zero) (getD_mem zero ha))
      generalize hy : xs.getD a zero = y at HI
      have HYy := Lib.hid hy
      obtain ⟨x0, x1, x2, x3, x4, x5, x6, x7, x8⟩ := y
      have HPv := Lib.hid (map_at (f := pv ks xs dg) HKX.out hx (pv_of h1 hy))
      obtain ⟨ii0, ii1, ii2, ii3, ii4, ii5, ii6, ii7, ii8⟩ := HI.out
      have I0 := Lib.hid ii0
      have I1 := Lib.hid ii1
      have I2 := Lib.hid ii2
      have I3 := Lib.hid ii3
      have I4 := Lib.hid ii4
      have I5 := Lib.hid ii5
      have I6 := Lib.hid ii6
      have I7 := Lib.hid ii7
      have I8 := Lib.hid ii8
      clear ii0 ii1 ii2 ii3 ii4 ii5 ii6 ii7 ii8
      clear hx h1 ha hy
      go_wp2_with fail
      refine (spec_sigOf_any p n c ks hR q m c' xs hX x dg _ (HR1.out.below HB.out) (HS1.out.below HB.out)).mono ?_
      rintro e w1 ⟨rfl, hb1⟩
      rw [HF.out]
      have HB2 := Lib.hid (below_on HB.out hb1)
      have HX2 := Lib.hid (HXr.out.below hb1)
      have hb1s : b < w1.heap.size := Nat.lt_of_lt_of_le hbr hb1.size
      have HA2 := Lib.hid (all_next HA.out HXx.out HMs.out)
      clear q0 q1 hat hb1
      cases io
      · have HC2 : Hid (false = true → ∀ i, i < k + 1 → Link (ows.map (pv ks xs dg)) i) := Lib.hid (fun h => by cases h)
        go_wp2_with fail
        have HC : Hid (∀ w', Qt.Keeps (w1) w' → w'.cell? ⟨w.heap.size, 1, none⟩ = some (.bool false)) := Lib.hid fun w' hw => (SlRule.bx2 (HX2.out.below hw)).2
        refine Qt.region (Qt.Keeps (w1)) (by kernel_rfl) (by kernel_rfl) (Qt.Keeps.drew _) ?_
        repeat (first
          | go_big_quiet_skip
          | (go_big_quiet_want
             refine Qt.val (v := ?_) (fun w hw => ?_) ?_
             rotate_left
             · have u1 := HC.out w hw
               go_simp
               rfl
             simp only [Act.put, List.setIfInBounds_toArray, List.set_cons_zero, List.set_cons_succ]
             go_big_quiet_on))
        refine wpQuiet_nil ?_
        intro w2 hw2
        have HB3 := Lib.hid (below_on HB2.out hw2)
        clear hw2
        go_wp2_with fail
        go_roundw
        case rel => exact ⟨k + 1, by omega, by go_num, HB3, HA2, HC2⟩
        case measure => simp [intOf]; omega
      cases k with
      | zero =>
        have HC2 : Hid (true = true → ∀ i, i < 0 + 1 → Link (ows.map (pv ks xs dg)) i) := Lib.hid (fun h => link_next (HC.out h) (link_zero _))
        go_wp2_with fail
        have HC : Hid (∀ w', Qt.Keeps (w1) w' → w'.cell? ⟨w.heap.size, 1, none⟩ = some (.bool true)) := Lib.hid fun w' hw => (SlRule.bx2 (HX2.out.below hw)).2
        refine Qt.region (Qt.Keeps (w1)) (by kernel_rfl) (by kernel_rfl) (Qt.Keeps.drew _) ?_
        repeat (first
          | go_big_quiet_skip
          | (go_big_quiet_want
             refine Qt.val (v := ?_) (fun w hw => ?_) ?_
             rotate_left
             · have u1 := HC.out w hw
               go_simp
               rfl
             simp only [Act.put, List.setIfInBounds_toArray, List.set_cons_zero, List.set_cons_succ]
             go_big_quiet_on))
        refine wpQuiet_nil ?_
        intro w2 hw2
        have HB3 := Lib.hid (below_on HB2.out hw2)
        clear hw2
        go_wp2_with fail
        go_roundw
        case rel => exact ⟨1, by omega, rfl, HB3, HA2, HC2⟩
        case measure => simp [intOf]; omega
      | succ j =>
        obtain ⟨b', o', e', _, hatj⟩ := HO2.out.at_below HB2.out (i := j) (by omega)
        simp only [Option.some.injEq, Addr.mk.injEq, and_true] at e'
        obtain ⟨rfl, rfl⟩ := e'
        obtain ⟨d, hd, hd1⟩ := at_of (HA.out j (by omega))
        generalize hxj : ows.getD j 0 = xj at hatj hd1
        have HATJ := Lib.hid hatj
        have HFD := Lib.hid hd1
        have hdm : d < m := by rw [← HSL.out]; exact hd
        have d1 : (0 : Int) ≤ (d : Int) := by omega
        have d2 : (d : Int) < (m : Int) := by omega
        obtain ⟨bS, oS, rfl, hbS, hata⟩ := rd_at (HS1.out.below HB2.out) ham
        obtain ⟨bT, oT, eT, hbT, hatd⟩ := rd_at (HS1.out.below HB2.out) hdm
        simp only [Option.some.injEq, Addr.mk.injEq, and_true] at eT
        obtain ⟨rfl, rfl⟩ := eT
        rw [HYy.out] at hata
        have HJ := Lib.hid (hX (xs.getD d zero) (getD_mem zero hd))
        generalize hz : xs.getD d zero = z at hatd HJ
        obtain ⟨y0, y1, y2, y3, y4, y5, y6, y7, y8⟩ := z
        have HPj := Lib.hid (map_at (f := pv ks xs dg) (k := j) (by have := HKX.out; omega) hxj (pv_of hd1 hz))
        have HTA := Lib.hid hata
        have HTD := Lib.hid hatd
        have HBS := Lib.hid hbS
        have HBO := Lib.hid hb1s
        obtain ⟨ji0, ji1, ji2, ji3, ji4, ji5, ji6, ji7, ji8⟩ := HJ.out
        have J0 := Lib.hid ji0
        have J1 := Lib.hid ji1
        have J2 := Lib.hid ji2
        have J3 := Lib.hid ji3
        have J4 := Lib.hid ji4
        have J5 := Lib.hid ji5
        have J6 := Lib.hid ji6
        have J7 := Lib.hid ji7
        have J8 := Lib.hid ji8
        clear ji0 ji1 ji2 ji3 ji4 ji5 ji6 ji7 ji8
        have jw : IntKind.i64.wrap (j : Int) = (j : Int) := IntWalk.i64_in _ (by omega)
        have j1 : (0 : Int) ≤ (j : Int) := by omega
        have j2 : (j : Int) < (no : Int) := by omega
        obtain ⟨ρ, hρ⟩ : ∃ ρ, Dg.dig x2 (lst (y0, y1, y2, y3, y4, y5, y6, y7, y8)) = ρ := ⟨_, rfl⟩
        have HD := Lib.hid hρ
        have HLk := Lib.hid (link_succ HPv.out HPj.out hρ)
        clear hρ hatj hata hatd hz hxj hd1 hd
        by_cases he : x6 = ρ
        · have HC2 : Hid (true = true → ∀ i, i < j + 1 + 1 → Link (ows.map (pv ks xs dg)) i) := Lib.hid (fun h => link_next (HC.out h) (HLk.out.2 he))
          have e1 : (x6 != ρ) = false := by simp [he]
          have e2 : (x6 == ρ) = true := by simp [he]
          clear he
          go_wp2_with fail
          have HC : Hid (∀ w', Qt.Keeps (w1) w' → w'.cell? ⟨w.heap.size, 0, none⟩ = some (.slice (some ⟨b, o, none⟩) no co) ∧ w'.cell? ⟨w.heap.size, 1, none⟩ = some (.bool true) ∧ w'.cell? ⟨b, o + j, none⟩ = some (.int .i64 xj) ∧ w'.cell? ⟨bS, oS + a * 9 + 2, none⟩ = some (.int .i64 x2) ∧ w'.cell? ⟨bS, oS + a * 9 + 6, none⟩ = some (.int .i64 x6) ∧ w'.cell? ⟨bS, oS + d * 9, none⟩ = some (.int .i64 y0) ∧ w'.cell? ⟨bS, oS + d * 9 + 1, none⟩ = some (.int .i64 y1) ∧ w'.cell? ⟨bS, oS + d * 9 + 2, none⟩ = some (.int .i64 y2) ∧ w'.cell? ⟨bS, oS + d * 9 + 3, none⟩ = some (.int .i64 y3) ∧ w'.cell? ⟨bS, oS + d * 9 + 4, none⟩ = some (.int .i64 y4) ∧ w'.cell? ⟨bS, oS + d * 9 + 5, none⟩ = some (.int .i64 y5) ∧ w'.cell? ⟨bS, oS + d * 9 + 6, none⟩ = some (.int .i64 y6) ∧ w'.cell? ⟨bS, oS + d * 9 + 7, none⟩ = some (.int .i64 y7) ∧ w'.cell? ⟨bS, oS + d * 9 + 8, none⟩ = some (.int .i64 y8)) := Lib.hid fun w' hw => let h := SlRule.bx2 (HX2.out.below hw); let h1 := HTA.out.below hw HBS.out; let h2 := HTD.out.below hw HBS.out; ⟨h.1, h.2, (hw.cell (p := ⟨b, o + j, none⟩) HBO.out).trans HATJ.out, h1.2.2.1, h1.2.2.2.2.2.2.1, h2⟩
          refine Qt.region (Qt.Keeps (w1)) (by kernel_rfl) (by kernel_rfl) (Qt.Keeps.drew _) ?_
          repeat (first
            | go_big_quiet_skip
            | (go_big_quiet_want
               refine Qt.val (v := ?_) (fun w hw => ?_) ?_
               rotate_left
               · obtain ⟨u0, u1, v0, s2, s6, r0, r1, r2, r3, r4, r5, r6, r7, r8⟩ := HC.out w hw
                 go_simp
                 rfl
               simp only [Act.put, List.setIfInBounds_toArray, List.set_cons_zero, List.set_cons_succ]
               go_big_quiet_on)
            | (go_big_quiet_want
               refine Qt.call (v := .int .i64 (d : Int)) (f := 46) (args := #[.slice p n c, .slice (some ⟨bS, oS, none⟩) m c', .int .i64 xj, .int .i64 dg]) (fun w hw => ?_) (fun w hw => ?_) ?_
               · go_simp
               · refine (spec_sigOf_any p n c ks hR _ m c' xs hX xj dg _ (HR1.out.below (below_on HB2.out hw)) (HS1.out.below (below_on HB2.out hw))).mono ?_
                 rintro e w1 ⟨rfl, hb1⟩
                 rw [HFD.out]
                 exact ⟨rfl, hw.then hb1⟩
               simp only [Act.put, List.setIfInBounds_toArray, List.set_cons_zero, List.set_cons_succ]
               go_big_quiet_on)
            | (go_big_quiet_want
               refine Qt.call (v := .int .i64 ρ) (f := 47) (args := #[.int .i64 x2, .agg #[.int .i64 y0, .int .i64 y1, .int .i64 y2, .int .i64 y3, .int .i64 y4, .int .i64 y5, .int .i64 y6, .int .i64 y7, .int .i64 y8]]) (fun w hw => ?_) (fun w hw => ?_) ?_
               · go_simp
               · refine (Gd.spec_sigDigest_any x2 y0 y1 y2 y3 y4 y5 y6 y7 y8 _ I2.out J0.out J1.out J2.out J3.out J4.out J5.out J6.out J7.out J8.out).mono ?_
                 rintro e w1 ⟨rfl, hb1⟩
                 rw [show Dg.dig x2 [104, y0, y1, y2, y3, y4, y5, y6, y7, y8] = ρ from HD.out]
                 exact ⟨rfl, hw.then hb1⟩
               simp only [Act.put, List.setIfInBounds_toArray, List.set_cons_zero, List.set_cons_succ]
               go_big_quiet_on))
          refine wpQuiet_nil ?_
          intro w2 hw2
          have HB3 := Lib.hid (below_on HB2.out hw2)
          clear hw2
          go_wp2_with fail
          go_roundw
          case rel => exact ⟨j + 2, by omega, by go_num, HB3, HA2, HC2⟩
          case measure => simp [intOf]; omega
        · have HE : Hid (meetsB ks xs dg true ows = false) := Lib.hid (by
            rw [HM1.out, chain_no (by rw [List.length_map]; exact HKX.out) (fun h => he (HLk.out.1 h))]
            simp)
          have e1 : (x6 != ρ) = true := by simp [he]
          have e2 : (x6 == ρ) = false := by simp [he]
          clear he
          go_wp2_with fail
          have HC : Hid (∀ w', Qt.Keeps (w1) w' → w'.cell? ⟨w.heap.size, 0, none⟩ = some (.slice (some ⟨b, o, none⟩) no co) ∧ w'.cell? ⟨w.heap.size, 1, none⟩ = some (.bool true) ∧ w'.cell? ⟨b, o + j, none⟩ = some (.int .i64 xj) ∧ w'.cell? ⟨bS, oS + a * 9 + 2, none⟩ = some (.int .i64 x2) ∧ w'.cell? ⟨bS, oS + a * 9 + 6, none⟩ = some (.int .i64 x6) ∧ w'.cell? ⟨bS, oS + d * 9, none⟩ = some (.int .i64 y0) ∧ w'.cell? ⟨bS, oS + d * 9 + 1, none⟩ = some (.int .i64 y1) ∧ w'.cell? ⟨bS, oS + d * 9 + 2, none⟩ = some (.int .i64 y2) ∧ w'.cell? ⟨bS, oS + d * 9 + 3, none⟩ = some (.int .i64 y3) ∧ w'.cell? ⟨bS, oS + d * 9 + 4, none⟩ = some (.int .i64 y4) ∧ w'.cell? ⟨bS, oS + d * 9 + 5, none⟩ = some (.int .i64 y5) ∧ w'.cell? ⟨bS, oS + d * 9 + 6, none⟩ = some (.int .i64 y6) ∧ w'.cell? ⟨bS, oS + d * 9 + 7, none⟩ = some (.int .i64 y7) ∧ w'.cell? ⟨bS, oS + d * 9 + 8, none⟩ = some (.int .i64 y8)) := Lib.hid fun w' hw => let h := SlRule.bx2 (HX2.out.below hw); let h1 := HTA.out.below hw HBS.out; let h2 := HTD.out.below hw HBS.out; ⟨h.1, h.2, (hw.cell (p := ⟨b, o + j, none⟩) HBO.out).trans HATJ.out, h1.2.2.1, h1.2.2.2.2.2.2.1, h2⟩
          refine Qt.region (Qt.Keeps (w1)) (by kernel_rfl) (by kernel_rfl) (Qt.Keeps.drew _) ?_
          repeat (first
            | go_big_quiet_skip
            | (go_big_quiet_want
               refine Qt.val (v := ?_) (fun w hw => ?_) ?_
               rotate_left
               · obtain ⟨u0, u1, v0, s2, s6, r0, r1, r2, r3, r4, r5, r6, r7, r8⟩ := HC.out w hw
                 go_simp
                 rfl
               simp only [Act.put, List.setIfInBounds_toArray, List.set_cons_zero, List.set_cons_succ]
               go_big_quiet_on)
            | (go_big_quiet_want
               refine Qt.call (v := .int .i64 (d : Int)) (f := 46) (args := #[.slice p n c, .slice (some ⟨bS, oS, none⟩) m c', .int .i64 xj, .int .i64 dg]) (fun w hw => ?_) (fun w hw => ?_) ?_
               · go_simp
               · refine (spec_sigOf_any p n c ks hR _ m c' xs hX xj dg _ (HR1.out.below (below_on HB2.out hw)) (HS1.out.below (below_on HB2.out hw))).mono ?_
                 rintro e w1 ⟨rfl, hb1⟩
                 rw [HFD.out]
                 exact ⟨rfl, hw.then hb1⟩
               simp only [Act.put, List.setIfInBounds_toArray, List.set_cons_zero, List.set_cons_succ]
               go_big_quiet_on)
            | (go_big_quiet_want
               refine Qt.call (v := .int .i64 ρ) (f := 47) (args := #[.int .i64 x2, .agg #[.int .i64 y0, .int .i64 y1, .int .i64 y2, .int .i64 y3, .int .i64 y4, .int .i64 y5, .int .i64 y6, .int .i64 y7, .int .i64 y8]]) (fun w hw => ?_) (fun w hw => ?_) ?_
               · go_simp
               · refine (Gd.spec_sigDigest_any x2 y0 y1 y2 y3 y4 y5 y6 y7 y8 _ I2.out J0.out J1.out J2.out J3.out J4.out J5.out J6.out J7.out J8.out).mono ?_
                 rintro e w1 ⟨rfl, hb1⟩
                 rw [show Dg.dig x2 [104, y0, y1, y2, y3, y4, y5, y6, y7, y8] = ρ from HD.out]
                 exact ⟨rfl, hw.then hb1⟩
               simp only [Act.put, List.setIfInBounds_toArray, List.set_cons_zero, List.set_cons_succ]
               go_big_quiet_on))
          refine wpQuiet_nil ?_
          intro w2 hw2
          have HB3 := Lib.hid (below_on HB1.out (below_on HB2.out hw2))
          clear hw2
          go_wp2_with fail
          go_ret
          exact Sg.says (by rw [HE.out]; try rfl) HB3.out
    · obtain rfl : k = no := by omega
      have HE : Hid (meetsB ks xs dg io ows = true) := Lib.hid (by
        rw [HM1.out, decide_eq_true (led_eq (f := isMiss ks xs dg) (l := ows) (j := ows.length) (Nat.le_refl _) (by rw [HL.out]; exact HA.out) (fun h => absurd h (Nat.lt_irrefl _)))]
        cases io
        · rfl
        · rw [chain_yes (by rw [List.length_map, HL.out]; exact HC.out rfl)]; rfl)
      have HB2 := Lib.hid (below_on HB1.out HB.out)
      go_wp2_with fail
      go_ret
      exact Sg.says (by rw [HE.out]; try rfl) HB2.out
/-! ### what comes before -/
def befV (ks : List I5) (xs : List I9) (dg : Int) (io : Bool) (md : Int) (ows : List Int) : Int := if io = false then 0 else if nextO (miss ks xs dg ows) < 0 then 0 else if led (isMiss ks xs dg) ows = 0 then 0 else Dg.dig md (lst (pv ks xs dg (ows.getD (led (isMiss ks xs dg) ows - 1) 0)))
theorem signed_at {ks : List I5} {xs : List I9} {dg : Int} {ows : List Int} {l : Nat} (h : led (isMiss ks xs dg) ows = l + 1) : (signedL ks xs dg ows).getD l zero = pv ks xs dg (ows.getD l 0) := by
  unfold signedL
  have hl := led_le (isMiss ks xs dg) ows
  refine map_at (by rw [List.length_take]; omega) ?_ rfl
  rw [List.getD_eq_getElem?_getD, List.getElem?_take, if_pos (by omega), ← List.getD_eq_getElem?_getD]
set_option maxRecDepth 100000 in
set_option maxHeartbeats 8000000 in
theorem before_any (p : Option Addr) (n c : Nat) (ks : List I5) (hR : ∀ x ∈ ks, SlKey.InR x) (po : Option Addr) (no co : Nat) (io : Bool) (ows : List Int) (q : Option Addr) (m c' : Nat) (xs : List I9) (hX : ∀ x ∈ xs, InR x) (dg : Int) (md : Int) (w : World) (hr : RdS SlKey.E w p n ks) (ho : Rd .i64 w po no ows) (hs : RdS E w q m xs) (hn : no ≤ 10000000) : Calls Try.prog 31 #[.slice p n c, .agg #[.slice po no co, .bool io], .slice q m c', .int .i64 dg, .int .i64 md] w (Val (.int .i64 (befV ks xs dg io md ows)) w) := by
  have hb := Ki.box1 w (.cells #[.slice po no co, .bool io] 33)
  have HB := Lib.hid hb
  have HX' := Lib.hid (Bx.new w 33 #[.slice po no co, .bool io])
  have HS := Lib.hid (hs.below hb)
  have HR := Lib.hid (hr.below hb)
  have HO := Lib.hid (ho.below hb)
  have hv1 : befV ks xs dg io md ows = (if io = false then 0 else if nextO (miss ks xs dg ows) < 0 then 0 else if led (isMiss ks xs dg) ows = 0 then 0 else Dg.dig md (lst (pv ks xs dg (ows.getD (led (isMiss ks xs dg) ows - 1) 0)))) := rfl
  have HV := Lib.hid hv1
  have HIN := Lib.hid (signed_in (ks := ks) hX dg ows)
  obtain ⟨q0, q1⟩ := SlRule.bx2 HX'.out
  clear hb hr hs ho hv1
  go_enter Try.func31, Try.ntmps31
  go_wp2_with fail
  refine (turn_any p n c ks hR po no co io ows q m c' xs hX dg _ HR.out HO.out HS.out hn).mono ?_
  rintro e w2 ⟨p2, n2, c2, rfl, ho2, hb⟩
  have HB2 := Lib.hid (below_on HB.out hb)
  have HX2 := Lib.hid (HX'.out.below hb)
  have HR2 := Lib.hid (HR.out.below hb)
  have HS2 := Lib.hid (HS.out.below hb)
  have HO2 := Lib.hid (HO.out.below hb)
  have HT := Lib.hid ho2.rd
  have HTL : Hid (led (isMiss ks xs dg) ows = n2) := Lib.hid (by rw [← signed_len]; exact ho2.len)
  have hn2 := ho2.rd.le
  clear hb ho2 q0 q1 HR HS HO HB HX'
  obtain ⟨q0, q1⟩ := SlRule.bx2 HX2.out
  cases io
  · have HE : Hid (befV ks xs dg false md ows = 0) := Lib.hid (by rw [HV.out, if_pos rfl])
    go_wp2_with fail
    go_ret
    exact Sg.says (by rw [HE.out]; try rfl) HB2.out
  obtain ⟨ν, hν⟩ : ∃ ν, nextO (miss ks xs dg ows) = ν := ⟨_, rfl⟩
  have HN := Lib.hid hν
  by_cases h0 : ν < 0
  · have HE : Hid (befV ks xs dg true md ows = 0) := Lib.hid (by rw [HV.out, if_neg (by simp), hν, if_pos h0])
    clear hν
    go_wp2_with fail
    refine (next_any p n c ks hR po no co true ows q m c' xs hX dg _ HR2.out HO2.out HS2.out hn).mono ?_
    rintro e w3 ⟨rfl, hb⟩
    rw [HN.out]
    have HB3 := Lib.hid (below_on HB2.out hb)
    clear hb q0 q1
    go_wp2_with fail
    go_ret
    exact Sg.says (by rw [HE.out]; try rfl) HB3.out
  cases n2 with
  | zero =>
    have HE : Hid (befV ks xs dg true md ows = 0) := Lib.hid (by rw [HV.out, if_neg (by simp), hν, if_neg h0, if_pos HTL.out])
    clear hν
    go_wp2_with fail
    refine (next_any p n c ks hR po no co true ows q m c' xs hX dg _ HR2.out HO2.out HS2.out hn).mono ?_
    rintro e w3 ⟨rfl, hb⟩
    rw [HN.out]
    have HB3 := Lib.hid (below_on HB2.out hb)
    clear hb q0 q1
    go_wp2_with fail
    go_ret
    exact Sg.says (by rw [HE.out]; try rfl) HB3.out
  | succ l =>
    have HE : Hid (befV ks xs dg true md ows = Dg.dig md (lst (pv ks xs dg (ows.getD l 0)))) := Lib.hid (by rw [HV.out, if_neg (by simp), hν, if_neg h0, if_neg (by rw [HTL.out]; omega), HTL.out, Nat.add_sub_cancel])
    have HPl := Lib.hid (signed_at HTL.out)
    have hlm : l < (signedL ks xs dg ows).length := by rw [signed_len, HTL.out]; omega
    have HI := Lib.hid (HIN.out _ (getD_mem zero hlm))
    obtain ⟨b, o, rfl, hbb, hat⟩ := rd_at HT.out (Nat.lt_succ_self l)
    generalize hy : (signedL ks xs dg ows).getD l zero = y at hat HI
    have HYy := Lib.hid hy
    obtain ⟨x0, x1, x2, x3, x4, x5, x6, x7, x8⟩ := y
    obtain ⟨ii0, ii1, ii2, ii3, ii4, ii5, ii6, ii7, ii8⟩ := HI.out
    have I0 := Lib.hid ii0
    have I1 := Lib.hid ii1
    have I2 := Lib.hid ii2
    have I3 := Lib.hid ii3
    have I4 := Lib.hid ii4
    have I5 := Lib.hid ii5
    have I6 := Lib.hid ii6
    have I7 := Lib.hid ii7
    have I8 := Lib.hid ii8
    clear ii0 ii1 ii2 ii3 ii4 ii5 ii6 ii7 ii8
    have HAT := Lib.hid hat
    have jw : IntKind.i64.wrap (l : Int) = (l : Int) := IntWalk.i64_in _ (by omega)
    have j1 : (0 : Int) ≤ (l : Int) := by omega
    have j2 : (l : Int) < ((l + 1 : Nat) : Int) := by omega
    have e0 : (((l + 1 : Nat) : Int) == 0) = false := beq_eq_false_iff_ne.2 (by omega)
    have e3 : (((l : Int) + 1) == 0) = false := beq_eq_false_iff_ne.2 (by omega)
    clear hν hy hat hlm
    go_wp2_with fail
    refine (next_any p n c ks hR po no co true ows q m c' xs hX dg _ HR2.out HO2.out HS2.out hn).mono ?_
    rintro e w3 ⟨rfl, hb⟩
    rw [HN.out]
    have HB3 := Lib.hid (below_on HB2.out hb)
    obtain ⟨c0, c1, c2, c3, c4, c5, c6, c7, c8⟩ := HAT.out.below hb hbb
    clear hb q0 q1
    go_wp2_with fail
    refine (Gd.sigDigest_any md x0 x1 x2 x3 x4 x5 x6 x7 x8 _ I0.out I1.out I2.out I3.out I4.out I5.out I6.out I7.out I8.out).mono ?_
    rintro e w4 ⟨rfl, hb⟩
    have HB4 := Lib.hid (below_on HB3.out hb)
    clear hb
    go_wp2_with fail
    go_ret
    exact Sg.says (by rw [HE.out, ← HPl.out, HYy.out]; rfl) HB4.out
theorem first_of {ks : List I5} {xs : List I9} {dg ν : Int} {ows : List Int} (h : nextO (miss ks xs dg ows) = ν) (h0 : ¬ ν < 0) : led (isMiss ks xs dg) ows < ows.length ∧ ows.getD (led (isMiss ks xs dg) ows) 0 = ν ∧ isMiss ks xs dg ν = true := by
  have e := next_led (isMiss ks xs dg) ows
  rw [show ows.filter (isMiss ks xs dg) = miss ks xs dg ows from rfl, h] at e
  by_cases hl : led (isMiss ks xs dg) ows < ows.length
  · rw [if_pos hl] at e
    exact ⟨hl, e.symm, by rw [e]; exact led_yes _ _ hl⟩
  · rw [if_neg hl] at e; omega
set_option maxRecDepth 100000 in
set_option maxHeartbeats 8000000 in
theorem spec_before_any (p : Option Addr) (n c : Nat) (ks : List I5) (hR : ∀ x ∈ ks, SlKey.InR x) (po : Option Addr) (no co : Nat) (io : Bool) (ows : List Int) (q : Option Addr) (m c' : Nat) (xs : List I9) (hX : ∀ x ∈ xs, InR x) (dg : Int) (md : Int) (hmd : inK .i64 md) (w : World) (hr : RdS SlKey.E w p n ks) (ho : Rd .i64 w po no ows) (hs : RdS E w q m xs) (hn : no ≤ 10000000) : Calls Try.prog 30 #[.slice p n c, .agg #[.slice po no co, .bool io], .slice q m c', .int .i64 dg, .int .i64 md] w (Val (.int .i64 (befV ks xs dg io md ows)) w) := by
  have hb := Ki.box1 w (.cells #[.slice po no co, .bool io] 33)
  have HB := Lib.hid hb
  have HX' := Lib.hid (Bx.new w 33 #[.slice po no co, .bool io])
  have HS := Lib.hid (hs.below hb)
  have HSL := Lib.hid hs.len
  have HR := Lib.hid (hr.below hb)
  have HO := Lib.hid (ho.below hb)
  have HL := Lib.hid ho.len
  have hmle := hs.le
  have HMd := Lib.hid hmd
  have hv1 : befV ks xs dg io md ows = (if io = false then 0 else if nextO (miss ks xs dg ows) < 0 then 0 else if led (isMiss ks xs dg) ows = 0 then 0 else Dg.dig md (lst (pv ks xs dg (ows.getD (led (isMiss ks xs dg) ows - 1) 0)))) := rfl
  have HV := Lib.hid hv1
  obtain ⟨q0, q1⟩ := SlRule.bx2 HX'.out
  obtain ⟨ν, hν⟩ : ∃ ν, nextO (miss ks xs dg ows) = ν := ⟨_, rfl⟩
  have HN := Lib.hid hν
  clear hb hr hs ho hv1 hν hmd
  go_enter Try.func30, Try.ntmps30
  go_wp2_with fail
  refine (spec_next_any p n c ks hR po no co io ows q m c' xs hX dg _ HR.out HO.out HS.out hn).mono ?_
  rintro e V ⟨rfl, hb⟩
  rw [HN.out]
  have HB1 := Lib.hid (below_on HB.out hb)
  have HX1 := Lib.hid (HX'.out.below hb)
  have HR1 := Lib.hid (HR.out.below hb)
  have HS1 := Lib.hid (HS.out.below hb)
  have HO2 := Lib.hid (HO.out.below hb)
  clear hb q0 q1 HR HS HO HB HX'
  go_wp2_with fail
  go_loopw [12] (fun i wr => ∃ k : Nat, 1 ≤ k ∧ k ≤ no + 1 ∧ i = .int .i64 k ∧ Hid (wr = V) ∧ Hid (∀ i, 1 ≤ i → i < k → ows.getD i 0 ≠ ν)) (fun i _ => no + 1 - (intOf i).toNat)
  case atStart => exact ⟨1, Nat.le_refl _, by omega, rfl, Lib.hid rfl, Lib.hid (fun i h h' => by omega)⟩
  case round =>
    obtain ⟨k, hk1, hk, rfl, HW, HA⟩ := hrel
    obtain rfl := HW.out
    obtain ⟨q0, q1⟩ := SlRule.bx2 HX1.out
    by_cases hlt : k < no
    rotate_left
    · have HE : Hid (befV ks xs dg io md ows = 0) := Lib.hid (by
        rw [HV.out]
        split
        · rfl
        · split
          · rfl
          · split
            · rfl
            · next _ h2 h3 =>
              rw [HN.out] at h2
              have h4 := first_of HN.out h2
              exact absurd h4.2.1 (HA.out _ (by omega) (by have := h4.1; rw [HL.out] at this; omega)))
      cases io
      all_goals
        go_wp2_with fail
        go_ret
        exact Sg.says (by rw [HE.out]; try rfl) HB1.out
    cases io
    · have HE : Hid (befV ks xs dg false md ows = 0) := Lib.hid (by rw [HV.out, if_pos rfl])
      go_wp2_with fail
      go_ret
      exact Sg.says (by rw [HE.out]; try rfl) HB1.out
    by_cases h0 : ν < 0
    · have HE : Hid (befV ks xs dg true md ows = 0) := Lib.hid (by rw [HV.out, if_neg (by simp), HN.out, if_pos h0])
      go_wp2_with fail
      go_ret
      exact Sg.says (by rw [HE.out]; try rfl) HB1.out
    obtain ⟨hf1, hf2, hf3⟩ := first_of HN.out h0
    have HE : Hid (befV ks xs dg true md ows = if led (isMiss ks xs dg) ows = 0 then 0 else Dg.dig md (lst (pv ks xs dg (ows.getD (led (isMiss ks xs dg) ows - 1) 0)))) := Lib.hid (by rw [HV.out, if_neg (by simp), HN.out, if_neg h0])
    have HF1 := Lib.hid hf1
    have HF2 := Lib.hid hf2
    have HF3 := Lib.hid hf3
    clear hf1 hf2 hf3
    obtain ⟨b, o, rfl, hbb, hat⟩ := HO2.out.at_ hlt
    generalize hx : ows.getD k 0 = x at hat
    by_cases he : x = ν
    rotate_left
    · have HA2 : Hid (∀ i, 1 ≤ i → i < k + 1 → ows.getD i 0 ≠ ν) := Lib.hid (fun i h1 h2 => by
        rcases Nat.lt_succ_iff_lt_or_eq.1 h2 with h' | rfl
        · exact HA.out i h1 h'
        · rw [hx]; exact he)
      have e1 : (x != ν) = true := by simp [he]
      have e2 : (x == ν) = false := by simp [he]
      clear hx he
      go_wp2_with fail
      go_roundw
      case rel => exact ⟨k + 1, by omega, by omega, by go_num, by first | exact Lib.hid rfl | exact Lib.hid trivial, HA2⟩
      case measure => simp [intOf]; omega
    subst he
    obtain ⟨j, rfl⟩ : ∃ j, k = j + 1 := ⟨k - 1, by omega⟩
    obtain ⟨b1, o1, e1, _, hatj⟩ := HO2.out.at_ (i := j) (by omega)
    simp only [Option.some.injEq, Addr.mk.injEq, and_true] at e1
    obtain ⟨rfl, rfl⟩ := e1
    obtain ⟨b2, o2, e2, _, hat0⟩ := HO2.out.at_ (i := 0) (by omega)
    simp only [Option.some.injEq, Addr.mk.injEq, and_true] at e2
    obtain ⟨rfl, rfl⟩ := e2
    rw [Nat.add_zero] at hat0
    generalize hxj : ows.getD j 0 = xj at hatj
    generalize hx0 : ows.getD 0 0 = z at hat0
    have jw : IntKind.i64.wrap (j : Int) = (j : Int) := IntWalk.i64_in _ (by omega)
    have j1 : (0 : Int) ≤ (j : Int) := by omega
    have j2 : (j : Int) < (no : Int) := by omega
    have j0 : (0 : Int) < (no : Int) := by omega
    have HT0 := Lib.hid hat0
    have HBV := Lib.hid hbb
    by_cases hl0 : led (isMiss ks xs dg) ows = 0
    · have HE2 : Hid (befV ks xs dg true md ows = 0) := Lib.hid (by rw [HE.out, if_pos hl0])
      have hz : z = x := by rw [← hx0]; have := HF2.out; rw [hl0] at this; exact this
      subst hz
      obtain ⟨φ, hφ⟩ : ∃ φ, first (sg ks xj dg) xs = φ := ⟨_, rfl⟩
      have HF := Lib.hid hφ
      clear hx hxj hx0 hl0 hφ
      by_cases hn0 : φ < 0
      all_goals
        go_wp2_with fail
        refine (spec_sigOf_any p n c ks hR q m c' xs hX xj dg _ HR1.out HS1.out).mono ?_
        rintro e w1 ⟨rfl, hb1⟩
        rw [HF.out]
        have HB2 := Lib.hid (below_on HB1.out hb1)
        have hat1 := (hb1.cell (p := ⟨b, o, none⟩) HBV.out).trans HT0.out
        clear q0 q1 hat hat0 hatj
        obtain ⟨q0, q1⟩ := SlRule.bx2 (HX1.out.below hb1)
        clear hb1
        go_wp2_with fail
        go_ret
        exact Sg.says (by rw [HE2.out]; try rfl) HB2.out
    · have hle : led (isMiss ks xs dg) ows ≤ j + 1 := by
        rcases Nat.lt_or_ge (j + 1) (led (isMiss ks xs dg) ows) with h | h
        · have h5 := led_no (isMiss ks xs dg) ows (j + 1) h
          rw [hx, HF3.out] at h5
          cases h5
        · exact h
      have hge : j + 1 ≤ led (isMiss ks xs dg) ows := by
        rcases Nat.lt_or_ge (led (isMiss ks xs dg) ows) (j + 1) with h | h
        · exact absurd HF2.out (HA.out _ (by omega) h)
        · exact h
      have hlj : led (isMiss ks xs dg) ows = j + 1 := by omega
      have hmj := led_no (isMiss ks xs dg) ows j (by omega)
      have hm0 := led_no (isMiss ks xs dg) ows 0 (by omega)
      rw [hxj] at hmj
      rw [hx0] at hm0
      have hzx : ¬ z = x := fun e => by rw [e, HF3.out] at hm0; cases hm0
      have z1 : (z == x) = false := beq_eq_false_iff_ne.2 hzx
      obtain ⟨a, ha, ha1⟩ := at_of hmj
      have HF := Lib.hid ha1
      have ham : a < m := by rw [← HSL.out]; exact ha
      have a1 : (0 : Int) ≤ (a : Int) := by omega
      have a2 : (a : Int) < (m : Int) := by omega
      have HI := Lib.hid (hX (xs.getD a zero) (getD_mem zero ha))
      obtain ⟨bS, oS, rfl, hbS, hata⟩ := rd_at HS1.out ham
      generalize hy : xs.getD a zero = y at HI hata
      obtain ⟨x0, x1, x2, x3, x4, x5, x6, x7, x8⟩ := y
      have HE2 : Hid (befV ks xs dg true md ows = Dg.dig md (lst (x0, x1, x2, x3, x4, x5, x6, x7, x8))) := Lib.hid (by rw [HE.out, if_neg hl0, hlj, Nat.add_sub_cancel, hxj, pv_of ha1 hy])
      obtain ⟨ii0, ii1, ii2, ii3, ii4, ii5, ii6, ii7, ii8⟩ := HI.out
      have I0 := Lib.hid ii0
      have I1 := Lib.hid ii1
      have I2 := Lib.hid ii2
      have I3 := Lib.hid ii3
      have I4 := Lib.hid ii4
      have I5 := Lib.hid ii5
      have I6 := Lib.hid ii6
      have I7 := Lib.hid ii7
      have I8 := Lib.hid ii8
      clear ii0 ii1 ii2 ii3 ii4 ii5 ii6 ii7 ii8
      have HAT := Lib.hid hata
      clear hx hxj hx0 hl0 hle hge hlj hmj hm0 hzx ha ha1 hy hata
      go_wp2_with fail
      refine (spec_sigOf_any p n c ks hR _ m c' xs hX xj dg _ HR1.out HS1.out).mono ?_
      rintro e w1 ⟨rfl, hb1⟩
      rw [HF.out]
      have HB2 := Lib.hid (below_on HB1.out hb1)
      have hat1 := (hb1.cell (p := ⟨b, o, none⟩) HBV.out).trans HT0.out
      obtain ⟨c0, c1, c2, c3, c4, c5, c6, c7, c8⟩ := HAT.out.below hb1 hbS
      clear q0 q1 hat hat0 hatj
      obtain ⟨q0, q1⟩ := SlRule.bx2 (HX1.out.below hb1)
      clear hb1
      go_wp2_with fail
      refine (Gd.spec_sigDigest_any md x0 x1 x2 x3 x4 x5 x6 x7 x8 _ HMd.out I0.out I1.out I2.out I3.out I4.out I5.out I6.out I7.out I8.out).mono ?_
      rintro e w2 ⟨rfl, hb2⟩
      have HB3 := Lib.hid (below_on HB2.out hb2)
      clear hb2
      go_wp2_with fail
      go_ret
      exact Sg.says (by rw [HE2.out]; rfl) HB3.out
end Go.Proofs.Ytjoeacdoblgncaa.Mf
