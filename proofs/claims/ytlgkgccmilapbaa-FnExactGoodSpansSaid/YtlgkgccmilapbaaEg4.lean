/- Contracts: the times at which a certificate is good, bad or open, in the reference. -/
import Derived.Test.YtlgkgccmilapbaaEg3
import Derived.Test.YtlgkgccmilapbaaJs
namespace Go.Proofs.Ytlgkgccmilapbaa.Eg4
open Go.ChangeShapes Go.WideShapes Go.ChangeAt Go.RowKit Go.Shelf Sl St Jn Sps SlSpan Jo Fnd Ki Eg Eg3
theorem box1 (w : World) (o : Obj) : Below w.heap.size w (w.alloc o) := (Below.refl _ _).alloc (Nat.le_refl _) _
/-- The call answers a slice of the call's own (from lo on) that reads as xs; what lay below lo is as it was. -/
def Puts (xs : List Sp) (lo : Nat) (w : World) (e : Ending) (w' : World) : Prop := ∃ p n c, e = .returned (.slice p n c) ∧ OwS SlSpan.E 40 w' lo w'.heap.size p n c xs ∧ Below lo w w' ∧ w.heap.size ≤ w'.heap.size
theorem make_put (a b : Int) : (Egm.put [] a b = [] ∧ makeB a b = false) ∨ ∃ x y, max 0 a = x ∧ min 10000 b = y ∧ (∀ L : List Sp, Egm.put L a b = L ++ [(x, y)]) ∧ makeB a b = true ∧ makeS a b = (x, y) := by
  by_cases h : max 0 a ≤ min 10000 b
  · right
    have hb : makeB a b = true := by rw [makeB_le rfl rfl]; exact decide_eq_true h
    exact ⟨_, _, rfl, rfl, fun L => Egm.put_yes h, hb, by rw [makeS_yes hb, makeS_at rfl rfl]⟩
  · left
    exact ⟨Egm.put_no h, by rw [makeB_le rfl rfl]; exact decide_eq_false h⟩
theorem put_same {L : List Sp} {a b : Int} (h : makeB a b = false) : Egm.put L a b = L := Egm.put_no (by rw [makeB_le rfl rfl] at h; exact of_decide_eq_false h)
set_option maxRecDepth 100000 in
set_option maxHeartbeats 4000000 in
theorem put_any (lo : Nat) (p : Option Addr) (n c : Nat) (L : List Sp) (a b : Int) (w : World) (ho : OwS SlSpan.E 40 w lo w.heap.size p n c L) (hlo : lo ≤ w.heap.size) (hn : n ≤ 1000000) : Calls Try.prog 46 #[.slice p n c, .int .i64 a, .int .i64 b] w (Puts (Egm.put L a b) lo w) := by
  obtain ⟨i0, hi0, hz0, hz1, hz2⟩ := info_parts info_sp
  have HO := Lib.hid ho
  clear ho
  rcases make_put a b with ⟨_, h2⟩ | ⟨x, y, _, _, h1, h2, h3⟩
  · have HL : Hid (Egm.put L a b = L) := Lib.hid (put_same h2)
    have H2 := Lib.hid h2
    have H3 : Hid (makeS a b = (0, 0)) := Lib.hid (makeS_no h2)
    clear h2
    go_enter Try.func46, Try.ntmps46
    go_wp2_with fail
    refine (spec_make_any a b _).mono ?_
    rintro e w1 ⟨rfl, hb⟩
    rw [H2.out, H3.out]
    have HB := Lib.hid hb
    clear hb
    go_wp2_with fail
    go_ret
    refine ⟨_, _, _, rfl, ?_, ((HB.out.alloc HB.out.size _).mono hlo), Nat.le_trans HB.out.size (by simp)⟩
    rw [HL.out]
    exact (HO.out.below (HB.out.alloc HB.out.size _)).wide (Nat.le_refl _) (Nat.le_trans HB.out.size (by simp)) (Nat.le_refl _)
  · have HL : Hid (Egm.put L a b = L ++ [(x, y)]) := Lib.hid (h1 L)
    have H2 := Lib.hid h2
    have H3 := Lib.hid h3
    clear h1 h2 h3
    go_enter Try.func46, Try.ntmps46
    go_wp2_with fail
    refine (spec_make_any a b _).mono ?_
    rintro e w1 ⟨rfl, hb⟩
    rw [H2.out, H3.out]
    have HB := Lib.hid (hb.alloc hb.size (.cells #[.int .i64 x, .int .i64 y] 40))
    have HO1 := Lib.hid ((HO.out.below (hb.alloc hb.size (.cells #[.int .i64 x, .int .i64 y] 40))).wide (Nat.le_refl _) (Nat.le_trans hb.size (by simp)) (Nat.le_refl _))
    have hz := hb.size
    have HLit : Hid (RdS SlSpan.E ((w1.alloc (.cells #[.int .i64 x, .int .i64 y] 40)).alloc (.cells #[.int .i64 x, .int .i64 y] 40)) (some ⟨w1.heap.size + 1, 0, none⟩) 1 [(x, y)]) := Lib.hid (by have h := (one_own 40 (w1.alloc (.cells #[.int .i64 x, .int .i64 y] 40)) 0 (x, y) (Nat.zero_le _)).rd; rw [World.size_alloc] at h; exact h)
    have hz5 : lo ≤ ((w1.alloc (.cells #[.int .i64 x, .int .i64 y] 40)).alloc (.cells #[.int .i64 x, .int .i64 y] 40)).heap.size := by rw [World.size_alloc, World.size_alloc]; omega
    have hz6 : w.heap.size ≤ ((w1.alloc (.cells #[.int .i64 x, .int .i64 y] 40)).alloc (.cells #[.int .i64 x, .int .i64 y] 40)).heap.size := by rw [World.size_alloc, World.size_alloc]; omega
    have HZ5 := Lib.hid hz5
    have HZ6 := Lib.hid hz6
    clear hb hz hz5 hz6
    go_wp2_with (at_builtin; refine wpList_appS rfl (.tmp 18) (.tmp 20) 26 rfl i0 _ 16 Try.underlying26 hi0 hz0 hz1 hz2 rfl rfl (HO1.out.alloc _) _ 1 1 [(x, y)] rfl HLit.out HZ5.out (by omega) (by omega) ?_; intro p4 c4 w4 how4 hg4; have HO4 := Lib.hid how4; have HB4 : Hid (Below lo w w4) := Lib.hid (((HB.out.alloc HB.out.size (.cells #[.int .i64 x, .int .i64 y] 40)).mono hlo).grown hg4 HZ5.out (fun g e => ((HO1.out.alloc (.cells #[.int .i64 x, .int .i64 y] 40)).far g e).1)); have hz4 : w.heap.size ≤ w4.heap.size := Nat.le_trans HZ6.out hg4.size; clear how4 hg4)
    go_ret
    refine ⟨_, _, _, rfl, ?_, HB4.out, hz4⟩
    rw [HL.out]
    exact HO4.out
theorem one_b (w : World) (x y : Int) : RdS SlSpan.E (w.alloc (.cells #[.int .i64 x, .int .i64 y] 40)) (some ⟨w.heap.size, 0, none⟩) 1 [(x, y)] := (one_own 40 w 0 (x, y) (Nat.zero_le _)).rd
theorem two_b (w : World) (x y s t : Int) : RdS SlSpan.E ((w.alloc (.cells #[.int .i64 x, .int .i64 y] 40)).alloc (.cells #[.int .i64 s, .int .i64 t] 40)) (some ⟨w.heap.size, 0, none⟩) 1 [(x, y)] ∧ RdS SlSpan.E ((w.alloc (.cells #[.int .i64 x, .int .i64 y] 40)).alloc (.cells #[.int .i64 s, .int .i64 t] 40)) (some ⟨w.heap.size + 1, 0, none⟩) 1 [(s, t)] := by
  have h1 := (one_b w x y).alloc (.cells #[.int .i64 s, .int .i64 t] 40)
  have h2 := one_b (w.alloc (.cells #[.int .i64 x, .int .i64 y] 40)) s t
  rw [World.size_alloc] at h2
  exact ⟨h1, h2⟩
theorem bel_alloc {w V : World} (h : Below w.heap.size w V) (o : Obj) : Below w.heap.size w (V.alloc o) := h.alloc h.size _
set_option maxRecDepth 100000 in
set_option maxHeartbeats 8000000 in
theorem spec_goodS_any (x0 x1 x2 f to x5 x6 : Int) (hc : SlCert.InR (x0, x1, x2, f, to, x5, x6)) (p : Option Addr) (n c : Nat) (xs : List I5) (hR : ∀ x ∈ xs, SlStatus.InR x) (w : World) (hr : RdS SlStatus.E w p n xs) : Calls Try.prog 10 #[.agg #[.int .i64 x0, .int .i64 x1, .int .i64 x2, .int .i64 f, .int .i64 to, .int .i64 x5, .int .i64 x6], .slice p n c] w (Makes (Egm.cov (Egm.goodB f to (Gu.goodU xs x0))) w) := by
  have hcc := hc
  have hRR := hR
  clear hc hR hcc hRR
  obtain ⟨u, hu⟩ : ∃ u, Gu.goodU xs x0 = u := ⟨_, rfl⟩
  have HU := Lib.hid hu
  have HR := Lib.hid (hr.below (box1 w (.cells #[.int .i64 x0, .int .i64 x1, .int .i64 x2, .int .i64 f, .int .i64 to, .int .i64 x5, .int .i64 x6] 28)))
  have HB := Lib.hid (box1 w (.cells #[.int .i64 x0, .int .i64 x1, .int .i64 x2, .int .i64 f, .int .i64 to, .int .i64 x5, .int .i64 x6] 28))
  have HX := Lib.hid (Bx.new w 28 #[.int .i64 x0, .int .i64 x1, .int .i64 x2, .int .i64 f, .int .i64 to, .int .i64 x5, .int .i64 x6])
  rw [hu]
  clear hu hr
  by_cases hin : 0 ≤ u ∧ u ≤ 10000
  · obtain ⟨g0, g1⟩ := hin
    have hm : makeB 0 u = true := by rw [makeB_le rfl rfl]; exact decide_eq_true (by omega)
    have hs : makeS 0 u = (0, u) := by rw [makeS_yes hm]; exact Prod.ext (by show max (0 : Int) 0 = 0; omega) (by show min u 10000 = u; omega)
    have HM := Lib.hid hm
    have HS := Lib.hid hs
    have HG : Hid (join (mall [(f, to)] [(0, u)]) = Egm.cov (Egm.goodB f to u)) := Lib.hid (Egm.good_ref g0 g1)
    clear hm hs
    go_enter Try.func10, Try.ntmps10
    go_wp2_with fail
    refine (Gu.spec_goodU_any _ _ _ xs x0 _ HR.out).mono ?_
    rintro e w1 ⟨rfl, hb⟩
    rw [HU.out]
    replace HB := Lib.hid (below_on HB.out hb)
    replace HX := Lib.hid (HX.out.below hb)
    clear hb
    go_wp2_with fail
    refine (spec_make_any 0 u _).mono ?_
    rintro e w2 ⟨rfl, hb⟩
    rw [HM.out, HS.out]
    replace HB := Lib.hid (below_on HB.out hb)
    replace HX := Lib.hid (HX.out.below hb)
    clear hb
    have HY := Lib.hid (Bx.new w2 40 #[.int .i64 0, .int .i64 u])
    replace HB := Lib.hid (bel_alloc HB.out (.cells #[.int .i64 0, .int .i64 u] 40))
    replace HX := Lib.hid (HX.out.alloc (.cells #[.int .i64 0, .int .i64 u] 40))
    go_wp2_with fail
    generalize hgV : w2.alloc (.cells #[.int .i64 0, .int .i64 u] 40) = V at HB HX HY ⊢
    have HBd := Lib.hid (below_drewN HB.out 1)
    have HXd := Lib.hid HX.out.drew1
    have HYd := Lib.hid HY.out.drew1
    have HBa := Lib.hid (below_drewN (bel_alloc HB.out (.cells #[.int .i64 0, .int .i64 u] 40)) 1)
    have HXa := Lib.hid (HX.out.alloc (.cells #[.int .i64 0, .int .i64 u] 40)).drew1
    have HYa := Lib.hid (HY.out.alloc (.cells #[.int .i64 0, .int .i64 u] 40)).drew1
    have HLa := Lib.hid (one_b V 0 u).drew1
    clear hgV
    go_region_held3 (fun w' => (w'.cell? ⟨w.heap.size, 0, none⟩ = some (.int .i64 x0) ∧ w'.cell? ⟨w.heap.size, 1, none⟩ = some (.int .i64 x1) ∧ w'.cell? ⟨w.heap.size, 2, none⟩ = some (.int .i64 x2) ∧ w'.cell? ⟨w.heap.size, 3, none⟩ = some (.int .i64 f) ∧ w'.cell? ⟨w.heap.size, 4, none⟩ = some (.int .i64 to) ∧ w'.cell? ⟨w.heap.size, 5, none⟩ = some (.int .i64 x5) ∧ w'.cell? ⟨w.heap.size, 6, none⟩ = some (.int .i64 x6)) ∧ w'.cell? ⟨w2.heap.size, 0, none⟩ = some (.int .i64 0) ∧ w'.cell? ⟨w2.heap.size, 1, none⟩ = some (.int .i64 u)) (first | with_reducible exact ⟨cert7 HXd.out, HYd.out.cell rfl, HYd.out.cell rfl⟩ | with_reducible exact ⟨cert7 HXa.out, HYa.out.cell rfl, HYa.out.cell rfl⟩ | with_reducible exact ⟨cert7 HX3.out, HY3.out.cell rfl, HY3.out.cell rfl⟩ | with_reducible exact ⟨cert7 (HX3.out.alloc _), (HY3.out.alloc _).cell rfl, (HY3.out.alloc _).cell rfl⟩ | with_reducible exact ⟨cert7 ((HX3.out.alloc _).alloc _), ((HY3.out.alloc _).alloc _).cell rfl, ((HY3.out.alloc _).alloc _).cell rfl⟩ | with_reducible exact ⟨cert7 HX4.out, HY4.out.cell rfl, HY4.out.cell rfl⟩ | go_keep | fail) (first
      | (go_at_call 40; (with_reducible refine (Ci.spec_certSpan_any x0 x1 x2 f to x5 x6 V.drew).mono ?_); rintro e w3 ⟨rfl, hb⟩; have HB3 := Lib.hid (below_on HBd.out hb); have HX3 := Lib.hid (HXd.out.below hb); have HY3 := Lib.hid (HYd.out.below hb); clear hb)
      | (go_at_call 40; (with_reducible refine (Ci.spec_certSpan_any x0 x1 x2 f to x5 x6 (V.alloc (.cells #[.int .i64 0, .int .i64 u] 40)).drew).mono ?_); rintro e w3 ⟨rfl, hb⟩; have HL3 := Lib.hid (HLa.out.below hb); have HB3 := Lib.hid (below_on HBa.out hb); have HX3 := Lib.hid (HXa.out.below hb); have HY3 := Lib.hid (HYa.out.below hb); clear hb)
      | (go_at_call 39; (with_reducible refine (spec_meetAll_any _ _ 1 1 1 1 [(f, to)] [(0, u)] (w3.alloc (.cells #[.int .i64 f, .int .i64 to] 40)) (one_b w3 f to) (HL3.out.alloc (.cells #[.int .i64 f, .int .i64 to] 40)) (by omega) (by omega)).mono ?_); rintro e w4 ⟨q, m, d, rfl, ho, hb⟩; have HO4 := Lib.hid (ho.wide (bel_alloc HB3.out (.cells #[.int .i64 f, .int .i64 to] 40)).size (Nat.le_refl _) (Nat.le_refl _)); have HB4 := Lib.hid (below_on (bel_alloc HB3.out (.cells #[.int .i64 f, .int .i64 to] 40)) hb); have HX4 := Lib.hid ((HX3.out.alloc (.cells #[.int .i64 f, .int .i64 to] 40)).below hb); have HY4 := Lib.hid ((HY3.out.alloc (.cells #[.int .i64 f, .int .i64 to] 40)).below hb); clear hb ho)
      | (go_at_call 39; (with_reducible refine (spec_meetAll_any _ _ 1 1 1 1 [(f, to)] [(0, u)] ((w3.alloc (.cells #[.int .i64 f, .int .i64 to] 40)).alloc (.cells #[.int .i64 0, .int .i64 u] 40)) (two_b w3 f to 0 u).1 (two_b w3 f to 0 u).2 (by omega) (by omega)).mono ?_); rintro e w4 ⟨q, m, d, rfl, ho, hb⟩; have HO4 := Lib.hid (ho.wide (bel_alloc (bel_alloc HB3.out (.cells #[.int .i64 f, .int .i64 to] 40)) (.cells #[.int .i64 0, .int .i64 u] 40)).size (Nat.le_refl _) (Nat.le_refl _)); have HB4 := Lib.hid (below_on (bel_alloc (bel_alloc HB3.out (.cells #[.int .i64 f, .int .i64 to] 40)) (.cells #[.int .i64 0, .int .i64 u] 40)) hb); have HX4 := Lib.hid (((HX3.out.alloc (.cells #[.int .i64 f, .int .i64 to] 40)).alloc (.cells #[.int .i64 0, .int .i64 u] 40)).below hb); have HY4 := Lib.hid (((HY3.out.alloc (.cells #[.int .i64 f, .int .i64 to] 40)).alloc (.cells #[.int .i64 0, .int .i64 u] 40)).below hb); clear hb ho)
      | (go_at_call 39; (with_reducible refine (spec_meetAll_any _ _ 1 1 1 1 [(f, to)] [(0, u)] ((w3.alloc (.cells #[.int .i64 0, .int .i64 u] 40)).alloc (.cells #[.int .i64 f, .int .i64 to] 40)) (two_b w3 0 u f to).2 (two_b w3 0 u f to).1 (by omega) (by omega)).mono ?_); rintro e w4 ⟨q, m, d, rfl, ho, hb⟩; have HO4 := Lib.hid (ho.wide (bel_alloc (bel_alloc HB3.out (.cells #[.int .i64 0, .int .i64 u] 40)) (.cells #[.int .i64 f, .int .i64 to] 40)).size (Nat.le_refl _) (Nat.le_refl _)); have HB4 := Lib.hid (below_on (bel_alloc (bel_alloc HB3.out (.cells #[.int .i64 0, .int .i64 u] 40)) (.cells #[.int .i64 f, .int .i64 to] 40)) hb); have HX4 := Lib.hid (((HX3.out.alloc (.cells #[.int .i64 0, .int .i64 u] 40)).alloc (.cells #[.int .i64 f, .int .i64 to] 40)).below hb); have HY4 := Lib.hid (((HY3.out.alloc (.cells #[.int .i64 0, .int .i64 u] 40)).alloc (.cells #[.int .i64 f, .int .i64 to] 40)).below hb); clear hb ho)
      | fail)
    all_goals
      go_wp2_with fail
      go_ret
      refine ⟨_, _, _, rfl, ?_, HB4.out⟩
      have h := HO4.out
      rw [HG.out] at h
      exact h
  · have HG : Hid (Egm.cov (Egm.goodB f to u) = []) := Lib.hid (Egm.good_none (by omega))
    rcases hm : makeB 0 u with _ | _
    · have HM := Lib.hid hm
      have HS : Hid (makeS 0 u = (0, 0)) := Lib.hid (makeS_no hm)
      clear hm hin
      go_enter Try.func10, Try.ntmps10
      go_wp2_with fail
      refine (Gu.spec_goodU_any _ _ _ xs x0 _ HR.out).mono ?_
      rintro e w1 ⟨rfl, hb⟩
      rw [HU.out]
      replace HB := Lib.hid (below_on HB.out hb)
      clear hb
      go_wp2_with fail
      refine (spec_make_any 0 u _).mono ?_
      rintro e w2 ⟨rfl, hb⟩
      rw [HM.out, HS.out]
      replace HB := Lib.hid (below_on HB.out hb)
      clear hb
      go_wp2_with fail
      go_ret
      refine ⟨_, _, _, rfl, ?_, bel_alloc (bel_alloc HB.out _) _⟩
      rw [HG.out]
      exact empty_ownG 40 (w2.alloc (.cells #[.int .i64 0, .int .i64 0] 40)) (w2.heap.size + 1) w.heap.size (by simp) (bel_alloc HB.out _).size
    · have hhi : 10000 < u := by
        have h := hm
        rw [makeB_le rfl rfl] at h
        have h2 := of_decide_eq_true h
        omega
      obtain ⟨s0, s1, hs⟩ : ∃ s0 s1, makeS 0 u = (s0, s1) := ⟨_, _, rfl⟩
      have HM := Lib.hid hm
      have HS := Lib.hid hs
      clear hm hin hs
      go_enter Try.func10, Try.ntmps10
      go_wp2_with fail
      refine (Gu.spec_goodU_any _ _ _ xs x0 _ HR.out).mono ?_
      rintro e w1 ⟨rfl, hb⟩
      rw [HU.out]
      replace HB := Lib.hid (below_on HB.out hb)
      clear hb
      go_wp2_with fail
      refine (spec_make_any 0 u _).mono ?_
      rintro e w2 ⟨rfl, hb⟩
      rw [HM.out, HS.out]
      replace HB := Lib.hid (below_on HB.out hb)
      clear hb
      go_wp2_with fail
      go_ret
      refine ⟨_, _, _, rfl, ?_, bel_alloc (bel_alloc HB.out _) _⟩
      rw [HG.out]
      exact empty_ownG 40 (w2.alloc (.cells #[.int .i64 s0, .int .i64 s1] 40)) (w2.heap.size + 1) w.heap.size (by simp) (bel_alloc HB.out _).size
set_option maxRecDepth 100000 in
set_option maxHeartbeats 8000000 in
theorem spec_badS_any (x0 x1 x2 f to x5 x6 : Int) (hc : SlCert.InR (x0, x1, x2, f, to, x5, x6)) (p : Option Addr) (n c : Nat) (xs : List I5) (hR : ∀ x ∈ xs, SlStatus.InR x) (w : World) (hr : RdS SlStatus.E w p n xs) : Calls Try.prog 19 #[.agg #[.int .i64 x0, .int .i64 x1, .int .i64 x2, .int .i64 f, .int .i64 to, .int .i64 x5, .int .i64 x6], .slice p n c] w (Makes (Egm.cov (Egm.badB f to (Gu.badF xs x0))) w) := by
  have hfb : -9223372036854775808 ≤ f ∧ f ≤ 9223372036854775807 := hc.2.2.2.1
  have htb : -9223372036854775808 ≤ to ∧ to ≤ 9223372036854775807 := hc.2.2.2.2.1
  have hRR := hR
  clear hc hR hRR
  obtain ⟨b, hu⟩ : ∃ b, Gu.badF xs x0 = b := ⟨_, rfl⟩
  have HD := Lib.hid hu
  have HR := Lib.hid hr
  have HB : Hid (Below w.heap.size w ((w.alloc (.cells #[.int .i64 x0, .int .i64 x1, .int .i64 x2, .int .i64 f, .int .i64 to, .int .i64 x5, .int .i64 x6] 28)).alloc (.cells #[] 40))) := Lib.hid (bel_alloc (box1 w (.cells #[.int .i64 x0, .int .i64 x1, .int .i64 x2, .int .i64 f, .int .i64 to, .int .i64 x5, .int .i64 x6] 28)) _)
  have HX := Lib.hid ((Bx.new w 28 #[.int .i64 x0, .int .i64 x1, .int .i64 x2, .int .i64 f, .int .i64 to, .int .i64 x5, .int .i64 x6]).alloc (.cells #[] 40))
  have HL : Hid (OwS SlSpan.E 40 ((w.alloc (.cells #[.int .i64 x0, .int .i64 x1, .int .i64 x2, .int .i64 f, .int .i64 to, .int .i64 x5, .int .i64 x6] 28)).alloc (.cells #[] 40)) (w.heap.size + 1) ((w.alloc (.cells #[.int .i64 x0, .int .i64 x1, .int .i64 x2, .int .i64 f, .int .i64 to, .int .i64 x5, .int .i64 x6] 28)).alloc (.cells #[] 40)).heap.size (some ⟨w.heap.size + 1, 0, none⟩) 0 0 []) := Lib.hid (empty_ownG 40 (w.alloc (.cells #[.int .i64 x0, .int .i64 x1, .int .i64 x2, .int .i64 f, .int .i64 to, .int .i64 x5, .int .i64 x6] 28)) (w.heap.size + 1) (w.heap.size + 1) (by simp) (by simp))
  rw [hu]
  clear hu hr
  by_cases hF : 0 < f
  · by_cases hT : to < 10000
    · skip
      have HG : Hid (join (Egm.put (Egm.put (Egm.put [] 0 (f - 1)) (to + 1) 10000) b 10000) = Egm.cov (Egm.badB f to b)) := Lib.hid (by have h := Egm.bad_ref f to b; unfold Egm.badL at h; rw [if_pos hT, if_pos hF] at h; exact h)
      go_enter Try.func19, Try.ntmps19
      go_wp2_with fail
      generalize ((w.alloc (.cells #[.int .i64 x0, .int .i64 x1, .int .i64 x2, .int .i64 f, .int .i64 to, .int .i64 x5, .int .i64 x6] 28)).alloc (.cells #[] 40)) = V at HB HX HL ⊢
      obtain ⟨c0, c1, c2, c3, c4, c5, c6⟩ := cert7 HX.out
      go_wp2_with fail
      clear c0 c1 c2 c3 c4 c5 c6
      refine (put_any (w.heap.size + 1) _ _ _ [] 0 (f - 1) _ HL.out (Nat.lt_of_lt_of_le HX.out.lt (Nat.le_refl _)) (by omega)).mono ?_
      rintro e w1 ⟨q1, m1, d1, rfl, ho, hb, hz⟩
      have hm1 : m1 ≤ 1 := by have h := ho.len; have h2 := Egm.put_len [] 0 (f - 1); have h3 := HL.out.len; omega
      replace HL := Lib.hid ho
      replace HX := Lib.hid (HX.out.keep (hb.block w.heap.size (Nat.lt_succ_self _)))
      replace HB := Lib.hid (HB.out.trans (hb.mono (Nat.le_succ _)))
      clear ho hb hz
      obtain ⟨c0, c1, c2, c3, c4, c5, c6⟩ := cert7 HX.out
      go_wp2_with fail
      clear c0 c1 c2 c3 c4 c5 c6
      refine (put_any (w.heap.size + 1) _ _ _ (Egm.put [] 0 (f - 1)) (to + 1) 10000 _ HL.out (Nat.lt_of_lt_of_le HX.out.lt (Nat.le_refl _)) (by omega)).mono ?_
      rintro e w2 ⟨q2, m2, d2, rfl, ho, hb, hz⟩
      have hm2 : m2 ≤ 2 := by have h := ho.len; have h2 := Egm.put_len (Egm.put [] 0 (f - 1)) (to + 1) 10000; have h3 := HL.out.len; omega
      replace HL := Lib.hid ho
      replace HX := Lib.hid (HX.out.keep (hb.block w.heap.size (Nat.lt_succ_self _)))
      replace HB := Lib.hid (HB.out.trans (hb.mono (Nat.le_succ _)))
      clear ho hb hz
      obtain ⟨c0, c1, c2, c3, c4, c5, c6⟩ := cert7 HX.out
      go_wp2_with fail
      clear c0 c1 c2 c3 c4 c5 c6
      refine (Gu.spec_badF_any _ _ _ xs x0 _ (HR.out.below HB.out)).mono ?_
      rintro e w9 ⟨rfl, hb⟩
      rw [HD.out]
      replace HL := Lib.hid ((HL.out.below hb).wide (Nat.le_refl _) hb.size (Nat.le_refl _))
      replace HX := Lib.hid (HX.out.below hb)
      replace HB := Lib.hid (below_on HB.out hb)
      clear hb
      go_wp2_with fail
      refine (put_any (w.heap.size + 1) _ _ _ (Egm.put (Egm.put [] 0 (f - 1)) (to + 1) 10000) b 10000 _ HL.out (Nat.lt_of_lt_of_le HX.out.lt (Nat.le_refl _)) (by omega)).mono ?_
      rintro e w3 ⟨q3, m3, d3, rfl, ho, hb, hz⟩
      have hm3 : m3 ≤ 3 := by have h := ho.len; have h2 := Egm.put_len (Egm.put (Egm.put [] 0 (f - 1)) (to + 1) 10000) b 10000; have h3 := HL.out.len; omega
      replace HL := Lib.hid ho
      replace HX := Lib.hid (HX.out.keep (hb.block w.heap.size (Nat.lt_succ_self _)))
      replace HB := Lib.hid (HB.out.trans (hb.mono (Nat.le_succ _)))
      clear ho hb hz
      go_wp2_with fail
      refine (spec_join_any _ _ _ _ _ HL.out.rd (by omega)).mono ?_
      rintro e w8 ⟨q, m, d, rfl, ho, hb⟩
      have HO := Lib.hid (ho.wide HB.out.size (Nat.le_refl _) (Nat.le_refl _))
      replace HB := Lib.hid (below_on HB.out hb)
      clear ho hb
      go_wp2_with fail
      go_ret
      refine ⟨_, _, _, rfl, ?_, HB.out⟩
      have h := HO.out
      rw [HG.out] at h
      exact h
    · skip
      have HG : Hid (join (Egm.put (Egm.put [] 0 (f - 1)) b 10000) = Egm.cov (Egm.badB f to b)) := Lib.hid (by have h := Egm.bad_ref f to b; unfold Egm.badL at h; rw [if_neg hT, if_pos hF] at h; exact h)
      go_enter Try.func19, Try.ntmps19
      go_wp2_with fail
      generalize ((w.alloc (.cells #[.int .i64 x0, .int .i64 x1, .int .i64 x2, .int .i64 f, .int .i64 to, .int .i64 x5, .int .i64 x6] 28)).alloc (.cells #[] 40)) = V at HB HX HL ⊢
      obtain ⟨c0, c1, c2, c3, c4, c5, c6⟩ := cert7 HX.out
      go_wp2_with fail
      clear c0 c1 c2 c3 c4 c5 c6
      refine (put_any (w.heap.size + 1) _ _ _ [] 0 (f - 1) _ HL.out (Nat.lt_of_lt_of_le HX.out.lt (Nat.le_refl _)) (by omega)).mono ?_
      rintro e w1 ⟨q1, m1, d1, rfl, ho, hb, hz⟩
      have hm1 : m1 ≤ 1 := by have h := ho.len; have h2 := Egm.put_len [] 0 (f - 1); have h3 := HL.out.len; omega
      replace HL := Lib.hid ho
      replace HX := Lib.hid (HX.out.keep (hb.block w.heap.size (Nat.lt_succ_self _)))
      replace HB := Lib.hid (HB.out.trans (hb.mono (Nat.le_succ _)))
      clear ho hb hz
      obtain ⟨c0, c1, c2, c3, c4, c5, c6⟩ := cert7 HX.out
      go_wp2_with fail
      clear c0 c1 c2 c3 c4 c5 c6
      refine (Gu.spec_badF_any _ _ _ xs x0 _ (HR.out.below HB.out)).mono ?_
      rintro e w9 ⟨rfl, hb⟩
      rw [HD.out]
      replace HL := Lib.hid ((HL.out.below hb).wide (Nat.le_refl _) hb.size (Nat.le_refl _))
      replace HX := Lib.hid (HX.out.below hb)
      replace HB := Lib.hid (below_on HB.out hb)
      clear hb
      go_wp2_with fail
      refine (put_any (w.heap.size + 1) _ _ _ (Egm.put [] 0 (f - 1)) b 10000 _ HL.out (Nat.lt_of_lt_of_le HX.out.lt (Nat.le_refl _)) (by omega)).mono ?_
      rintro e w2 ⟨q2, m2, d2, rfl, ho, hb, hz⟩
      have hm2 : m2 ≤ 2 := by have h := ho.len; have h2 := Egm.put_len (Egm.put [] 0 (f - 1)) b 10000; have h3 := HL.out.len; omega
      replace HL := Lib.hid ho
      replace HX := Lib.hid (HX.out.keep (hb.block w.heap.size (Nat.lt_succ_self _)))
      replace HB := Lib.hid (HB.out.trans (hb.mono (Nat.le_succ _)))
      clear ho hb hz
      go_wp2_with fail
      refine (spec_join_any _ _ _ _ _ HL.out.rd (by omega)).mono ?_
      rintro e w8 ⟨q, m, d, rfl, ho, hb⟩
      have HO := Lib.hid (ho.wide HB.out.size (Nat.le_refl _) (Nat.le_refl _))
      replace HB := Lib.hid (below_on HB.out hb)
      clear ho hb
      go_wp2_with fail
      go_ret
      refine ⟨_, _, _, rfl, ?_, HB.out⟩
      have h := HO.out
      rw [HG.out] at h
      exact h
  · by_cases hT : to < 10000
    · skip
      have HG : Hid (join (Egm.put (Egm.put [] (to + 1) 10000) b 10000) = Egm.cov (Egm.badB f to b)) := Lib.hid (by have h := Egm.bad_ref f to b; unfold Egm.badL at h; rw [if_pos hT, if_neg hF] at h; exact h)
      go_enter Try.func19, Try.ntmps19
      go_wp2_with fail
      generalize ((w.alloc (.cells #[.int .i64 x0, .int .i64 x1, .int .i64 x2, .int .i64 f, .int .i64 to, .int .i64 x5, .int .i64 x6] 28)).alloc (.cells #[] 40)) = V at HB HX HL ⊢
      obtain ⟨c0, c1, c2, c3, c4, c5, c6⟩ := cert7 HX.out
      go_wp2_with fail
      clear c0 c1 c2 c3 c4 c5 c6
      refine (put_any (w.heap.size + 1) _ _ _ [] (to + 1) 10000 _ HL.out (Nat.lt_of_lt_of_le HX.out.lt (Nat.le_refl _)) (by omega)).mono ?_
      rintro e w1 ⟨q1, m1, d1, rfl, ho, hb, hz⟩
      have hm1 : m1 ≤ 1 := by have h := ho.len; have h2 := Egm.put_len [] (to + 1) 10000; have h3 := HL.out.len; omega
      replace HL := Lib.hid ho
      replace HX := Lib.hid (HX.out.keep (hb.block w.heap.size (Nat.lt_succ_self _)))
      replace HB := Lib.hid (HB.out.trans (hb.mono (Nat.le_succ _)))
      clear ho hb hz
      obtain ⟨c0, c1, c2, c3, c4, c5, c6⟩ := cert7 HX.out
      go_wp2_with fail
      clear c0 c1 c2 c3 c4 c5 c6
      refine (Gu.spec_badF_any _ _ _ xs x0 _ (HR.out.below HB.out)).mono ?_
      rintro e w9 ⟨rfl, hb⟩
      rw [HD.out]
      replace HL := Lib.hid ((HL.out.below hb).wide (Nat.le_refl _) hb.size (Nat.le_refl _))
      replace HX := Lib.hid (HX.out.below hb)
      replace HB := Lib.hid (below_on HB.out hb)
      clear hb
      go_wp2_with fail
      refine (put_any (w.heap.size + 1) _ _ _ (Egm.put [] (to + 1) 10000) b 10000 _ HL.out (Nat.lt_of_lt_of_le HX.out.lt (Nat.le_refl _)) (by omega)).mono ?_
      rintro e w2 ⟨q2, m2, d2, rfl, ho, hb, hz⟩
      have hm2 : m2 ≤ 2 := by have h := ho.len; have h2 := Egm.put_len (Egm.put [] (to + 1) 10000) b 10000; have h3 := HL.out.len; omega
      replace HL := Lib.hid ho
      replace HX := Lib.hid (HX.out.keep (hb.block w.heap.size (Nat.lt_succ_self _)))
      replace HB := Lib.hid (HB.out.trans (hb.mono (Nat.le_succ _)))
      clear ho hb hz
      go_wp2_with fail
      refine (spec_join_any _ _ _ _ _ HL.out.rd (by omega)).mono ?_
      rintro e w8 ⟨q, m, d, rfl, ho, hb⟩
      have HO := Lib.hid (ho.wide HB.out.size (Nat.le_refl _) (Nat.le_refl _))
      replace HB := Lib.hid (below_on HB.out hb)
      clear ho hb
      go_wp2_with fail
      go_ret
      refine ⟨_, _, _, rfl, ?_, HB.out⟩
      have h := HO.out
      rw [HG.out] at h
      exact h
    · skip
      have HG : Hid (join (Egm.put [] b 10000) = Egm.cov (Egm.badB f to b)) := Lib.hid (by have h := Egm.bad_ref f to b; unfold Egm.badL at h; rw [if_neg hT, if_neg hF] at h; exact h)
      go_enter Try.func19, Try.ntmps19
      go_wp2_with fail
      generalize ((w.alloc (.cells #[.int .i64 x0, .int .i64 x1, .int .i64 x2, .int .i64 f, .int .i64 to, .int .i64 x5, .int .i64 x6] 28)).alloc (.cells #[] 40)) = V at HB HX HL ⊢
      obtain ⟨c0, c1, c2, c3, c4, c5, c6⟩ := cert7 HX.out
      go_wp2_with fail
      clear c0 c1 c2 c3 c4 c5 c6
      refine (Gu.spec_badF_any _ _ _ xs x0 _ (HR.out.below HB.out)).mono ?_
      rintro e w9 ⟨rfl, hb⟩
      rw [HD.out]
      replace HL := Lib.hid ((HL.out.below hb).wide (Nat.le_refl _) hb.size (Nat.le_refl _))
      replace HX := Lib.hid (HX.out.below hb)
      replace HB := Lib.hid (below_on HB.out hb)
      clear hb
      go_wp2_with fail
      refine (put_any (w.heap.size + 1) _ _ _ [] b 10000 _ HL.out (Nat.lt_of_lt_of_le HX.out.lt (Nat.le_refl _)) (by omega)).mono ?_
      rintro e w1 ⟨q1, m1, d1, rfl, ho, hb, hz⟩
      have hm1 : m1 ≤ 1 := by have h := ho.len; have h2 := Egm.put_len [] b 10000; have h3 := HL.out.len; omega
      replace HL := Lib.hid ho
      replace HX := Lib.hid (HX.out.keep (hb.block w.heap.size (Nat.lt_succ_self _)))
      replace HB := Lib.hid (HB.out.trans (hb.mono (Nat.le_succ _)))
      clear ho hb hz
      go_wp2_with fail
      refine (spec_join_any _ _ _ _ _ HL.out.rd (by omega)).mono ?_
      rintro e w8 ⟨q, m, d, rfl, ho, hb⟩
      have HO := Lib.hid (ho.wide HB.out.size (Nat.le_refl _) (Nat.le_refl _))
      replace HB := Lib.hid (below_on HB.out hb)
      clear ho hb
      go_wp2_with fail
      go_ret
      refine ⟨_, _, _, rfl, ?_, HB.out⟩
      have h := HO.out
      rw [HG.out] at h
      exact h
set_option maxRecDepth 100000 in
set_option maxHeartbeats 8000000 in
theorem spec_openS_any (x0 x1 x2 f to x5 x6 : Int) (hc : SlCert.InR (x0, x1, x2, f, to, x5, x6)) (p : Option Addr) (n c : Nat) (xs : List I5) (hR : ∀ x ∈ xs, SlStatus.InR x) (w : World) (hr : RdS SlStatus.E w p n xs) : Calls Try.prog 21 #[.agg #[.int .i64 x0, .int .i64 x1, .int .i64 x2, .int .i64 f, .int .i64 to, .int .i64 x5, .int .i64 x6], .slice p n c] w (Makes (Egm.cov (Egm.openB f to (Gu.goodU xs x0) (Gu.badF xs x0))) w) := by
  obtain ⟨i0, hi0, hz0, hz1, hz2⟩ := info_parts info_sp
  have HC := Lib.hid hc
  have HRR := Lib.hid hR
  have HR := Lib.hid (hr.below (box1 w (.cells #[.int .i64 x0, .int .i64 x1, .int .i64 x2, .int .i64 f, .int .i64 to, .int .i64 x5, .int .i64 x6] 28)))
  have HB := Lib.hid (box1 w (.cells #[.int .i64 x0, .int .i64 x1, .int .i64 x2, .int .i64 f, .int .i64 to, .int .i64 x5, .int .i64 x6] 28))
  have HX := Lib.hid (Bx.new w 28 #[.int .i64 x0, .int .i64 x1, .int .i64 x2, .int .i64 f, .int .i64 to, .int .i64 x5, .int .i64 x6])
  have HGl := Egm.cov_len (Egm.goodB f to (Gu.goodU xs x0))
  have HBl := Egm.cov_len (Egm.badB f to (Gu.badF xs x0))
  obtain ⟨all, hall⟩ : ∃ all, join (Egm.cov (Egm.goodB f to (Gu.goodU xs x0)) ++ Egm.cov (Egm.badB f to (Gu.badF xs x0))) = all := ⟨_, rfl⟩
  have HAll := Lib.hid hall
  have HAh := Lib.hid (fun t => by have h := Egm.all_has (f := f) (to := to) (u := Gu.goodU xs x0) (b := Gu.badF xs x0) t; rw [hall] at h; exact h)
  have HAc : Hid (Jn.Can all) := Lib.hid (by rw [← hall]; exact join_can _)
  have hal : all.length ≤ 20002 := by
    have h := join_len (Egm.cov (Egm.goodB f to (Gu.goodU xs x0)) ++ Egm.cov (Egm.badB f to (Gu.badF xs x0)))
    rw [hall, List.length_append] at h
    omega
  clear hc hR hr hall
  go_enter Try.func21, Try.ntmps21
  go_wp2_with fail
  generalize w.alloc (.cells #[.int .i64 x0, .int .i64 x1, .int .i64 x2, .int .i64 f, .int .i64 to, .int .i64 x5, .int .i64 x6] 28) = V at HB HR HX ⊢
  have HBd := Lib.hid (below_drewN HB.out 1)
  have HXd := Lib.hid HX.out.drew1
  have HRd := Lib.hid HR.out.drew1
  obtain ⟨a0, a1, a2, a3, a4, a5, a6⟩ := cert7 HXd.out
  go_region_law (first
    | (go_simp; go_at_call 10; (with_reducible refine (spec_goodS_any x0 x1 x2 f to x5 x6 HC.out _ _ _ xs HRR.out _ HRd.out).mono ?_); rintro e w2 ⟨q2, m2, d2, rfl, ho, hb⟩; have HO2 := Lib.hid ho; have hm2 := ho.len; have HB2 := Lib.hid (below_on HBd.out hb); have HX2 := Lib.hid (HXd.out.below hb); have HR2 := Lib.hid (HRd.out.below hb); obtain ⟨b0, b1, b2, b3, b4, b5, b6⟩ := cert7 HX2.out; clear hb ho)
    | (go_simp; go_at_call 19; (with_reducible refine (spec_badS_any x0 x1 x2 f to x5 x6 HC.out _ _ _ xs HRR.out _ HR2.out).mono ?_); rintro e w3 ⟨q3, m3, d3, rfl, ho, hb⟩; have HO3 := Lib.hid ho; have hm3 := ho.len; have HO2b := Lib.hid ((HO2.out.below hb).wide (lo' := w.heap.size) HBd.out.size hb.size (Nat.le_refl _)); have HB3 := Lib.hid (below_on HB2.out hb); have HX3 := Lib.hid (HX2.out.below hb); clear hb ho)
    | (refine step_appS (E := SlSpan.E) (by rfl) (.tmp 11) (.tmp 14) 26 (by rfl) i0 _ 16 Try.underlying26 hi0 hz0 hz1 hz2 (by rfl) (by rfl) HO2b.out _ _ _ _ (by rfl) HO3.out.rd HB3.out.size (by omega) (by omega) ?_; intro p4 c4 w4 how4 hg4; have HO4 := Lib.hid how4; have HB4 := Lib.hid (below_rowS HB3.out HO2b.out hg4 (Nat.le_refl _)); clear how4 hg4)
    | (go_simp; go_at_call 47; (with_reducible refine (spec_join_any _ _ _ _ _ HO4.out.rd (by omega)).mono ?_); rintro e w5 ⟨q5, m5, d5, rfl, ho, hb⟩; rw [HAll.out] at ho; have HO5 := Lib.hid ho; have HB5 := Lib.hid (below_on HB4.out hb); clear hb ho))
  all_goals
    have hl5 := HO5.out.len
    have HRa := Lib.hid HO5.out.rd
    have HL0 : Hid (OwS SlSpan.E 40 (w5.alloc (.cells #[] 40)) w5.heap.size (w5.alloc (.cells #[] 40)).heap.size (some ⟨w5.heap.size, 0, none⟩) 0 0 []) := Lib.hid (empty_own _ _ _ (Nat.le_refl _))
    have HB6 := Lib.hid (box1 w5 (.cells #[] 40))
    go_wp2_with fail
    go_loopw [6, 7, 8] (fun v nxv i wr => ∃ (k m d : Nat) (q : Option Addr) (nx : Int) (out : List Sp), k ≤ m5 ∧ m ≤ k ∧ 0 ≤ nx ∧ nx ≤ 10001 ∧ i = .int .i64 k ∧ nxv = .int .i64 nx ∧ v = .slice q m d ∧ Hid (Egm.Gap all k out nx) ∧ Hid (OwS SlSpan.E 40 wr w5.heap.size wr.heap.size q m d out) ∧ Hid (Below w5.heap.size w5 wr)) (fun _ _ i _ => m5 - (intOf i).toNat)
    case atStart => exact ⟨0, 0, _, _, 0, [], Nat.zero_le _, Nat.le_refl _, by omega, by omega, rfl, rfl, rfl, Lib.hid (Egm.Gap.start HAc.out), HL0, HB6⟩
    case round =>
      obtain ⟨k, m, d, q, nx, out, hk, hmk, hn1, hn2, rfl, rfl, rfl, HGp, HL, HBr⟩ := hrel
      by_cases hlt : k < m5
      · obtain ⟨bb, oo, rfl, hbb, hat⟩ := SlSpan.rd_at HRa.out hlt
        have hkL : k < all.length := by omega
        obtain ⟨⟨xa, xb⟩, hx⟩ : ∃ x, all[k] = x := ⟨_, rfl⟩
        have hgd : all.getD k SlSpan.zero = (xa, xb) := by rw [List.getD_eq_getElem?_getD, List.getElem?_eq_getElem hkL, hx]; rfl
        rw [hgd] at hat
        have HAT := Lib.hid (hat.below HBr.out hbb)
        have HN := Lib.hid (HGp.out.next HAc.out hkL)
        rw [hx] at HN
        obtain ⟨v1, v2, v3, v4, v5⟩ := okB_yes (HAc.out.ok (List.getElem_mem hkL))
        rw [hx] at v1 v2 v3 v4 v5
        simp only at v1 v2 v3 v4 v5
        have hbw := Nat.lt_of_lt_of_le hbb HBr.out.size
        clear hgd hx hat
        obtain ⟨c0, c1⟩ := HAT.out
        simp only at c0 c1
        go_wp2_with fail
        clear c0 c1
        refine (put_any w5.heap.size _ _ _ out nx (xa - 1) _ HL.out HBr.out.size (by omega)).mono ?_
        rintro e w6 ⟨q6, m6, d6, rfl, ho, hb, hz⟩
        have hm6 : m6 ≤ k + 1 := by have h := ho.len; have h2 := Egm.put_len out nx (xa - 1); have h3 := HL.out.len; omega
        have HL6 := Lib.hid ho
        have HB7 := Lib.hid (HBr.out.trans hb)
        have c1 : w6.cell? ⟨bb, oo + k * 2 + 1, none⟩ = some (.int .i64 xb) := (hb.cell (p := ⟨bb, oo + k * 2 + 1, none⟩) hbb).trans HAT.out.2
        clear ho hb hz
        go_wp2_with fail
        go_roundw
        case rel => exact ⟨k + 1, m6, _, _, xb + 1, _, by omega, hm6, by omega, by omega, by go_num, rfl, rfl, HN, HL6, HB7⟩
        case measure => simp [intOf]; omega
      · obtain rfl : k = m5 := by omega
        have HD := Lib.hid (Egm.Gap.done (f := f) (to := to) (u := Gu.goodU xs x0) (b := Gu.badF xs x0) (by rw [hl5]; exact HGp.out) HAh.out)
        have HBe := Lib.hid (below_on HB5.out HBr.out)
        go_wp2_with fail
        refine (put_any w5.heap.size _ _ _ out nx 10000 _ HL.out HBr.out.size (by omega)).mono ?_
        rintro e w6 ⟨q6, m6, d6, rfl, ho, hb, hz⟩
        rw [HD.out] at ho
        have HL6 := Lib.hid (ho.wide HB5.out.size (Nat.le_refl _) (Nat.le_refl _))
        have HB7 := Lib.hid (below_on HB5.out (HBr.out.trans hb))
        clear ho hb hz
        go_wp2_with fail
        go_ret
        exact ⟨_, _, _, rfl, HL6.out, HB7.out⟩
set_option maxRecDepth 100000 in
set_option maxHeartbeats 4000000 in
theorem spec_entB_any (x0 x1 x2 f to x5 x6 : Int) (hc : SlCert.InR (x0, x1, x2, f, to, x5, x6)) (p : Option Addr) (n c : Nat) (xs : List I5) (hR : ∀ x ∈ xs, SlStatus.InR x) (s0 s1 : Int) (w : World) (hr : RdS SlStatus.E w p n xs) : Calls Try.prog 23 #[.agg #[.int .i64 x0, .int .i64 x1, .int .i64 x2, .int .i64 f, .int .i64 to, .int .i64 x5, .int .i64 x6], .slice p n c, .agg #[.int .i64 s0, .int .i64 s1]] w (Tells (covers (Egm.cov (Egm.goodB f to (Gu.goodU xs x0))) (s0, s1)) w) := by
  have hb0 : Below w.heap.size w ((w.alloc (.cells #[.int .i64 x0, .int .i64 x1, .int .i64 x2, .int .i64 f, .int .i64 to, .int .i64 x5, .int .i64 x6] 28)).alloc (.cells #[.int .i64 s0, .int .i64 s1] 40)) := ((Below.refl w.heap.size w).alloc (Nat.le_refl _) _).alloc (by simp) _
  have HB := Lib.hid hb0
  have HC := Lib.hid hc
  have HR := Lib.hid (hr.below hb0)
  have HX := Lib.hid ((Bx.new w 28 #[.int .i64 x0, .int .i64 x1, .int .i64 x2, .int .i64 f, .int .i64 to, .int .i64 x5, .int .i64 x6]).alloc (.cells #[.int .i64 s0, .int .i64 s1] 40))
  have HY : Hid (Bx ((w.alloc (.cells #[.int .i64 x0, .int .i64 x1, .int .i64 x2, .int .i64 f, .int .i64 to, .int .i64 x5, .int .i64 x6] 28)).alloc (.cells #[.int .i64 s0, .int .i64 s1] 40)) (w.heap.size + 1) 40 #[.int .i64 s0, .int .i64 s1]) := Lib.hid (by have h := Bx.new (w.alloc (.cells #[.int .i64 x0, .int .i64 x1, .int .i64 x2, .int .i64 f, .int .i64 to, .int .i64 x5, .int .i64 x6] 28)) 40 #[.int .i64 s0, .int .i64 s1]; rw [World.size_alloc] at h; exact h)
  have HLn := Egm.cov_len (Egm.goodB f to (Gu.goodU xs x0))
  clear hc hr hb0
  go_enter Try.func23, Try.ntmps23
  go_wp2_with fail
  generalize ((w.alloc (.cells #[.int .i64 x0, .int .i64 x1, .int .i64 x2, .int .i64 f, .int .i64 to, .int .i64 x5, .int .i64 x6] 28)).alloc (.cells #[.int .i64 s0, .int .i64 s1] 40)) = V at HB HR HX HY ⊢
  replace HB := Lib.hid (below_drewN HB.out 1)
  replace HR := Lib.hid HR.out.drew1
  replace HX := Lib.hid HX.out.drew1
  replace HY := Lib.hid HY.out.drew1
  go_region_held3 (fun w' => (w'.cell? ⟨w.heap.size, 0, none⟩ = some (.int .i64 x0) ∧ w'.cell? ⟨w.heap.size, 1, none⟩ = some (.int .i64 x1) ∧ w'.cell? ⟨w.heap.size, 2, none⟩ = some (.int .i64 x2) ∧ w'.cell? ⟨w.heap.size, 3, none⟩ = some (.int .i64 f) ∧ w'.cell? ⟨w.heap.size, 4, none⟩ = some (.int .i64 to) ∧ w'.cell? ⟨w.heap.size, 5, none⟩ = some (.int .i64 x5) ∧ w'.cell? ⟨w.heap.size, 6, none⟩ = some (.int .i64 x6)) ∧ w'.cell? ⟨w.heap.size + 1, 0, none⟩ = some (.int .i64 s0) ∧ w'.cell? ⟨w.heap.size + 1, 1, none⟩ = some (.int .i64 s1)) (first | with_reducible exact ⟨cert7 HX.out, HY.out.cell rfl, HY.out.cell rfl⟩ | go_keep | fail) (first
    | (go_at_call 10; (with_reducible refine (spec_goodS_any x0 x1 x2 f to x5 x6 HC.out _ _ _ xs hR _ HR.out).mono ?_); rintro e w2 ⟨q, m, d, rfl, ho, hb⟩; have HO := Lib.hid ho; have hm := ho.len; replace HB := Lib.hid (below_on HB.out hb); replace HX := Lib.hid (HX.out.below hb); replace HY := Lib.hid (HY.out.below hb); clear hb ho)
    | (go_at_call 51; (with_reducible refine (Tc.spec_covers_any _ _ _ _ s0 s1 _ HO.out.rd (by omega)).mono ?_); rintro e w3 ⟨rfl, hb⟩; replace HB := Lib.hid (below_on HB.out hb); replace HX := Lib.hid (HX.out.below hb); replace HY := Lib.hid (HY.out.below hb); clear hb) | fail)
  all_goals
    go_wp2_with fail
    go_ret
    exact ⟨rfl, HB.out⟩
set_option maxRecDepth 100000 in
set_option maxHeartbeats 4000000 in
theorem spec_barB_any (x0 x1 x2 f to x5 x6 : Int) (hc : SlCert.InR (x0, x1, x2, f, to, x5, x6)) (p : Option Addr) (n c : Nat) (xs : List I5) (hR : ∀ x ∈ xs, SlStatus.InR x) (s0 s1 : Int) (w : World) (hr : RdS SlStatus.E w p n xs) : Calls Try.prog 26 #[.agg #[.int .i64 x0, .int .i64 x1, .int .i64 x2, .int .i64 f, .int .i64 to, .int .i64 x5, .int .i64 x6], .slice p n c, .agg #[.int .i64 s0, .int .i64 s1]] w (Tells (covers (Egm.cov (Egm.badB f to (Gu.badF xs x0))) (s0, s1)) w) := by
  have hb0 : Below w.heap.size w ((w.alloc (.cells #[.int .i64 x0, .int .i64 x1, .int .i64 x2, .int .i64 f, .int .i64 to, .int .i64 x5, .int .i64 x6] 28)).alloc (.cells #[.int .i64 s0, .int .i64 s1] 40)) := ((Below.refl w.heap.size w).alloc (Nat.le_refl _) _).alloc (by simp) _
  have HB := Lib.hid hb0
  have HC := Lib.hid hc
  have HR := Lib.hid (hr.below hb0)
  have HX := Lib.hid ((Bx.new w 28 #[.int .i64 x0, .int .i64 x1, .int .i64 x2, .int .i64 f, .int .i64 to, .int .i64 x5, .int .i64 x6]).alloc (.cells #[.int .i64 s0, .int .i64 s1] 40))
  have HY : Hid (Bx ((w.alloc (.cells #[.int .i64 x0, .int .i64 x1, .int .i64 x2, .int .i64 f, .int .i64 to, .int .i64 x5, .int .i64 x6] 28)).alloc (.cells #[.int .i64 s0, .int .i64 s1] 40)) (w.heap.size + 1) 40 #[.int .i64 s0, .int .i64 s1]) := Lib.hid (by have h := Bx.new (w.alloc (.cells #[.int .i64 x0, .int .i64 x1, .int .i64 x2, .int .i64 f, .int .i64 to, .int .i64 x5, .int .i64 x6] 28)) 40 #[.int .i64 s0, .int .i64 s1]; rw [World.size_alloc] at h; exact h)
  have HLn := Egm.cov_len (Egm.badB f to (Gu.badF xs x0))
  clear hc hr hb0
  go_enter Try.func26, Try.ntmps26
  go_wp2_with fail
  generalize ((w.alloc (.cells #[.int .i64 x0, .int .i64 x1, .int .i64 x2, .int .i64 f, .int .i64 to, .int .i64 x5, .int .i64 x6] 28)).alloc (.cells #[.int .i64 s0, .int .i64 s1] 40)) = V at HB HR HX HY ⊢
  replace HB := Lib.hid (below_drewN HB.out 1)
  replace HR := Lib.hid HR.out.drew1
  replace HX := Lib.hid HX.out.drew1
  replace HY := Lib.hid HY.out.drew1
  go_region_held3 (fun w' => (w'.cell? ⟨w.heap.size, 0, none⟩ = some (.int .i64 x0) ∧ w'.cell? ⟨w.heap.size, 1, none⟩ = some (.int .i64 x1) ∧ w'.cell? ⟨w.heap.size, 2, none⟩ = some (.int .i64 x2) ∧ w'.cell? ⟨w.heap.size, 3, none⟩ = some (.int .i64 f) ∧ w'.cell? ⟨w.heap.size, 4, none⟩ = some (.int .i64 to) ∧ w'.cell? ⟨w.heap.size, 5, none⟩ = some (.int .i64 x5) ∧ w'.cell? ⟨w.heap.size, 6, none⟩ = some (.int .i64 x6)) ∧ w'.cell? ⟨w.heap.size + 1, 0, none⟩ = some (.int .i64 s0) ∧ w'.cell? ⟨w.heap.size + 1, 1, none⟩ = some (.int .i64 s1)) (first | with_reducible exact ⟨cert7 HX.out, HY.out.cell rfl, HY.out.cell rfl⟩ | go_keep | fail) (first
    | (go_at_call 19; (with_reducible refine (spec_badS_any x0 x1 x2 f to x5 x6 HC.out _ _ _ xs hR _ HR.out).mono ?_); rintro e w2 ⟨q, m, d, rfl, ho, hb⟩; have HO := Lib.hid ho; have hm := ho.len; replace HB := Lib.hid (below_on HB.out hb); replace HX := Lib.hid (HX.out.below hb); replace HY := Lib.hid (HY.out.below hb); clear hb ho)
    | (go_at_call 51; (with_reducible refine (Tc.spec_covers_any _ _ _ _ s0 s1 _ HO.out.rd (by omega)).mono ?_); rintro e w3 ⟨rfl, hb⟩; replace HB := Lib.hid (below_on HB.out hb); replace HX := Lib.hid (HX.out.below hb); replace HY := Lib.hid (HY.out.below hb); clear hb) | fail)
  all_goals
    go_wp2_with fail
    go_ret
    exact ⟨rfl, HB.out⟩
end Go.Proofs.Ytlgkgccmilapbaa.Eg4
