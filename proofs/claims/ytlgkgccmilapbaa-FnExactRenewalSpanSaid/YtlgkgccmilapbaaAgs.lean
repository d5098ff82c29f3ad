/- Contracts of AgreedSpan, in the program (a sweep over sorted edges) and in the reference. -/
import Derived.Test.YtlgkgccmilapbaaAge
import Derived.Test.YtlgkgccmilapbaaAgi
import Derived.Test.YtlgkgccmilapbaaCo
import Derived.Test.YtlgkgccmilapbaaFnd
import Derived.Test.YtlgkgccmilapbaaMin
import Derived.Deep.RegionHeld3
import Derived.LoopTactic
namespace Go.Proofs.Ytlgkgccmilapbaa.Ags
open Go.ChangeShapes Go.WideShapes Go.ChangeAt Go.RowKit Sl St Jn Sps SlSpan Co
theorem ok_le (s : Int × Int) (h : okB s = true) : 0 ≤ s.1 ∧ s.1 ≤ s.2 := by
  have := of_decide_eq_true h
  omega
def agr (xs : List Sp) (l : Int) : (Int × Int) × Bool := if lieB xs.length l = true then Agm.tell (xs.foldl (Agm.sst okB fun t => supp xs t l) (-1, -1)) else ((0, 0), false)
theorem cnt_eq (xs : List Sp) (t : Int) : Agm.cnt okB xs t = cnt xs t := List.countP_congr fun x _ => by simp [has]
theorem supp_eq {xs : List Sp} {l : Int} (h : lieB xs.length l = true) : (fun t => supp xs t l) = fun t => decide ((xs.length : Int) - l ≤ (Agm.cnt okB xs t : Int)) := by
  funext t
  unfold supp
  rw [h, cnt_eq, Bool.true_and]
theorem drewB {W w : World} {B : Nat} (h : Below B W w) : Below B W w.drew := below_drewN h 1
theorem below_last {W w : World} {v0 v1 : Value} (h : Below W.heap.size W w) : Below W.heap.size W ((w.setCell ⟨W.heap.size, 0, none⟩ v0).setCell ⟨W.heap.size, 1, none⟩ v1).drew := drewB ((h.setCell (p := ⟨W.heap.size, 0, none⟩) (Nat.le_refl _) _).setCell (p := ⟨W.heap.size, 1, none⟩) (Nat.le_refl _) _)
theorem foldl_take {α β : Type} {f : β → α → β} {z : β} {xs : List α} {k : Nat} {x d : α} (hk : k < xs.length) (hx : xs.getD k d = x) : (xs.take (k + 1)).foldl f z = f ((xs.take k).foldl f z) x := by
  rw [Fnd.take_succ d hk, List.foldl_append, hx]
  rfl
theorem stp_in {need c f t x : Int} {b : Bool} : Agm.stp need (c, f, t, b) (x, 0) = (c + 1, (Agm.stp need (c, f, t, b) (x, 0)).2) := by
  unfold Agm.stp
  rw [if_pos rfl]
theorem stp_out {need c f t x : Int} {b : Bool} : Agm.stp need (c, f, t, b) (x, 1) = (c - 1, (Agm.stp need (c, f, t, b) (x, 1)).2) := by
  unfold Agm.stp
  rw [if_neg (by simp)]
set_option maxRecDepth 100000 in
set_option maxHeartbeats 8000000 in
theorem agreed_any (p : Option Addr) (n c : Nat) (xs : List Sp) (l : Int) (hl : -9223372036854775808 ≤ l ∧ l ≤ 9223372036854775807) (y0 y1 : Int) (bb : Bool) (hA : agr xs l = ((y0, y1), bb)) (w : World) (hr : RdS E w p n xs) (hn : n ≤ 1048576) : Calls Try.prog 87 #[.slice p n c, .int .i64 l] w fun e w' => e = .returned (.tuple #[.agg #[.int .i64 y0, .int .i64 y1], .bool bb]) ∧ Below w.heap.size w w' := by
  have HR := Lib.hid hr
  have HL := Lib.hid hr.len
  have hle := hr.le
  have HAg := Lib.hid hA
  have hb1 := box1 w (.cells #[.int .i64 0, .int .i64 0] 40)
  have HY0 := Lib.hid (Bx.new w 40 #[.int .i64 0, .int .i64 0])
  have HB0 := Lib.hid hb1
  have HR0 := Lib.hid (hr.below hb1)
  clear hr hA hb1
  rcases hlie : lieB n l with _ | _
  · have he : agr xs l = ((0, 0), false) := if_neg (by rw [HL.out, hlie]; simp)
    have h2 := he.symm.trans HAg.out
    cases h2
    have HLi := Lib.hid hlie
    clear hlie he
    go_enter Try.func87, Try.ntmps87
    go_wp2_with fail
    refine (canLie_any p n c l _ hle).mono ?_
    rintro e w1 ⟨rfl, rfl⟩
    rw [HLi.out]
    generalize (w.alloc (.cells #[.int .i64 0, .int .i64 0] 40)) = V at HY0 HB0 HR0 ⊢
    obtain ⟨q0, q1, _, _⟩ := HY0.out.two
    have f0 := HY0.out.free 0
    have f1 := HY0.out.free 1
    go_wp2_with fail
    exact bodyPost_ret (v := .tuple #[.agg #[.int .i64 0, .int .i64 0], .bool false]) (by simp [results, Try.results87, go_sem, q0, q1]) rfl ⟨rfl, (HB0.out.setCell (p := ⟨w.heap.size, 0, none⟩) (Nat.le_refl _) _).setCell (p := ⟨w.heap.size, 1, none⟩) (Nat.le_refl _) _⟩
  · obtain ⟨need, hneed⟩ : ∃ q : Int, (n : Int) - l = q := ⟨_, rfl⟩
    have hl2 := lie_in hlie
    have hn1 : 1 ≤ need := by omega
    have HSp : Hid (agr xs l = Agm.tell (xs.foldl (Agm.sst okB fun t => decide (need ≤ (Agm.cnt okB xs t : Int))) (-1, -1))) := Lib.hid (by unfold agr; rw [if_pos (by rw [HL.out]; exact hlie), supp_eq (by rw [HL.out]; exact hlie), HL.out, hneed])
    have HLi := Lib.hid hlie
    have hnl : -9223372036854775808 ≤ need ∧ need ≤ 9223372036854775807 := by omega
    have HX0 : Hid (Bx ((w.alloc (.cells #[.int .i64 0, .int .i64 0] 40)).alloc (.cells #[.int .i64 0, .int .i64 0, .int .i64 need, .int .i64 0, .bool false] 132)) (w.heap.size + 1) 132 #[.int .i64 0, .int .i64 0, .int .i64 need, .int .i64 0, .bool false]) := Lib.hid (by have h := Bx.new (w.alloc (.cells #[.int .i64 0, .int .i64 0] 40)) 132 #[.int .i64 0, .int .i64 0, .int .i64 need, .int .i64 0, .bool false]; rw [World.size_alloc] at h; exact h)
    have HY1 := Lib.hid (HY0.out.alloc (.cells #[.int .i64 0, .int .i64 0, .int .i64 need, .int .i64 0, .bool false] 132))
    have HB1 := Lib.hid (HB0.out.alloc HB0.out.size (.cells #[.int .i64 0, .int .i64 0, .int .i64 need, .int .i64 0, .bool false] 132))
    have HR1 := Lib.hid (HR0.out.below (box1 _ (.cells #[.int .i64 0, .int .i64 0, .int .i64 need, .int .i64 0, .bool false] 132)))
    have HV : Hid (w.heap.size + 1 < ((w.alloc (.cells #[.int .i64 0, .int .i64 0] 40)).alloc (.cells #[.int .i64 0, .int .i64 0, .int .i64 need, .int .i64 0, .bool false] 132)).heap.size) := Lib.hid HX0.out.lt
    clear hlie
    go_enter Try.func87, Try.ntmps87
    go_wp2_with fail
    refine (canLie_any p n c l _ hle).mono ?_
    rintro e w1 ⟨rfl, rfl⟩
    rw [HLi.out]
    go_wp2_with (rw [hneed])
    generalize ((w.alloc (.cells #[.int .i64 0, .int .i64 0] 40)).alloc (.cells #[.int .i64 0, .int .i64 0, .int .i64 need, .int .i64 0, .bool false] 132)) = V at HX0 HY1 HB1 HR1 HV ⊢
    refine (Age.edges_any p n c xs _ HR1.out hn).mono ?_
    rintro e w1 ⟨p1, n1, c1, ys, rfl, ho, hb, hs, hp⟩
    have hm1 : n1 ≤ 2097152 := by
      have h1 := ho.len
      have h2 := hp.length_eq
      have h3 := Age.es_len xs
      have h4 := HL.out
      omega
    have HS := Lib.hid hs
    have HP := Lib.hid hp
    have HLy := Lib.hid ho.len
    have HKd : Hid (∀ e ∈ ys, e.2 = 0 ∨ e.2 = 1) := Lib.hid (fun e he => by
      obtain ⟨s, _, _, h | h⟩ := Agm.mem_es.1 (hp.mem_iff.1 he)
      · exact Or.inl (by rw [h])
      · exact Or.inr (by rw [h]))
    have HO := Lib.hid ho
    have HX := Lib.hid (HX0.out.below hb)
    have HY := Lib.hid (HY1.out.below hb)
    have HB := Lib.hid (below_on HB1.out hb)
    clear ho hb hs hp HX0 HY1 HB1 HR1
    go_wp2_with fail
    go_loopw [22] (fun i wr => ∃ (k : Nat) (cc f t : Int) (b : Bool), k ≤ n1 ∧ -(k : Int) ≤ cc ∧ cc ≤ (k : Int) ∧ i = .int .i64 k ∧ Hid ((ys.take k).foldl (Agm.stp need) (0, 0, 0, false) = (cc, f, t, b)) ∧ Hid (OwS E 136 wr V.heap.size w1.heap.size p1 n1 c1 ys) ∧ Hid (Bx wr (w.heap.size + 1) 132 #[.int .i64 f, .int .i64 t, .int .i64 need, .int .i64 cc, .bool b]) ∧ Hid (Bx wr w.heap.size 40 #[.int .i64 0, .int .i64 0]) ∧ Hid (Below w.heap.size w wr)) (fun i _ => n1 - (intOf i).toNat)
    case atStart => exact ⟨0, 0, 0, 0, false, Nat.zero_le _, by omega, by omega, rfl, Lib.hid rfl, HO, HX, HY, HB⟩
    case round =>
      clear HO HX HY HB
      obtain ⟨k, cc, f, t, b, hk, hc1, hc2, rfl, HF, HO, HX, HY, HB⟩ := hrel
      by_cases hlt : k < n1
      · obtain ⟨bk, o, rfl, hbb, hat⟩ := rd_at HO.out.rd hlt
        have hkL : k < ys.length := by rw [HLy.out]; exact hlt
        have hkd := HKd.out _ (Fnd.getD_mem zero hkL)
        generalize hx : ys.getD k zero = x at hat hkd
        obtain ⟨e1, e2⟩ := x
        obtain ⟨c0, c1⟩ := hat
        simp only at c0 c1 hkd
        rcases hkd with hk2 | hk2
        · obtain rfl : e2 = 0 := hk2
          rcases hst : Agm.stp need (cc, f, t, b) (e1, 0) with ⟨cc', f', t', b'⟩
          have hcc : cc' = cc + 1 := by have h := (stp_in (need := need) (c := cc) (f := f) (t := t) (x := e1) (b := b)).symm.trans hst; exact (congrArg Prod.fst h).symm
          have HFk := Lib.hid (by rw [foldl_take hkL hx, HF.out]; exact hst : (ys.take (k + 1)).foldl (Agm.stp need) (0, 0, 0, false) = (cc', f', t', b'))
          have HST := Lib.hid hst
          clear hst hx
          go_wp2_with fail
          clear c0 c1
          refine (Agi.enter_any (w.heap.size + 1) f t need cc b e1 (by omega) _ (HX.out.alloc _)).mono ?_
          rintro e w2 ⟨rfl, hx2, hg2⟩
          rw [HST.out] at hx2
          have HX2 := Lib.hid hx2
          have HO2 := Lib.hid ((HO.out.alloc (.cells #[.int .i64 e1, .int .i64 0] 136)).kept hg2 (fun g e => by cases e; exact Or.inl HV.out))
          have HY2 := Lib.hid ((HY.out.alloc (.cells #[.int .i64 e1, .int .i64 0] 136)).grown hg2 (fun e => by simp at e))
          have HB2 := Lib.hid ((HB.out.alloc HB.out.size (.cells #[.int .i64 e1, .int .i64 0] 136)).grown hg2 (Nat.le_trans HB.out.size (by simp)) (fun g e => by cases e; exact Nat.le_succ _))
          clear hx2 hg2
          go_wp2_with fail
          go_roundw
          case rel => exact ⟨k + 1, cc', f', t', b', by omega, by omega, by omega, by go_num, HFk, HO2, HX2, HY2, HB2⟩
          case measure => simp [intOf]; omega
        · obtain rfl : e2 = 1 := hk2
          rcases hst : Agm.stp need (cc, f, t, b) (e1, 1) with ⟨cc', f', t', b'⟩
          have hcc : cc' = cc - 1 := by have h := (stp_out (need := need) (c := cc) (f := f) (t := t) (x := e1) (b := b)).symm.trans hst; exact (congrArg Prod.fst h).symm
          have HFk := Lib.hid (by rw [foldl_take hkL hx, HF.out]; exact hst : (ys.take (k + 1)).foldl (Agm.stp need) (0, 0, 0, false) = (cc', f', t', b'))
          have HST := Lib.hid hst
          clear hst hx
          go_wp2_with fail
          clear c0 c1
          refine (Agi.leave_any (w.heap.size + 1) f t need cc b e1 (by omega) _ (HX.out.alloc _)).mono ?_
          rintro e w2 ⟨rfl, hx2, hg2⟩
          rw [HST.out] at hx2
          have HX2 := Lib.hid hx2
          have HO2 := Lib.hid ((HO.out.alloc (.cells #[.int .i64 e1, .int .i64 1] 136)).kept hg2 (fun g e => by cases e; exact Or.inl HV.out))
          have HY2 := Lib.hid ((HY.out.alloc (.cells #[.int .i64 e1, .int .i64 1] 136)).grown hg2 (fun e => by simp at e))
          have HB2 := Lib.hid ((HB.out.alloc HB.out.size (.cells #[.int .i64 e1, .int .i64 1] 136)).grown hg2 (Nat.le_trans HB.out.size (by simp)) (fun g e => by cases e; exact Nat.le_succ _))
          clear hx2 hg2
          go_wp2_with fail
          go_roundw
          case rel => exact ⟨k + 1, cc', f', t', b', by omega, by omega, by omega, by go_num, HFk, HO2, HX2, HY2, HB2⟩
          case measure => simp [intOf]; omega
      · obtain rfl : k = n1 := by omega
        have hF := HF.out
        rw [List.take_of_length_le (by rw [HLy.out]; exact Nat.le_refl _)] at hF
        have hag := Agm.agree ok_le xs need hn1 ys HP.out HS.out
        rw [hF] at hag
        have h2 := (hag.trans HSp.out.symm).trans HAg.out
        simp only at h2
        cases h2
        clear hag hF
        go_wp2_with fail
        obtain ⟨q0, q1, _, _⟩ := HY.out.two
        have f0 := HY.out.free 0
        have f1 := HY.out.free 1
        obtain ⟨r0, r1, _, _⟩ := HY.out.drew1.two
        have g0 := HY.out.drew1.free 0
        have g1 := HY.out.drew1.free 1
        have HXd := Lib.hid (((HX.out.far (q := ⟨w.heap.size, 0, none⟩) (by show w.heap.size + 1 ≠ w.heap.size; omega) (.int .i64 y0)).far (q := ⟨w.heap.size, 1, none⟩) (by show w.heap.size + 1 ≠ w.heap.size; omega) (.int .i64 y1)).drew1)
        go_region_held3 (fun w' => w'.cell? ⟨w.heap.size + 1, 0, none⟩ = some (.int .i64 y0) ∧ w'.cell? ⟨w.heap.size + 1, 1, none⟩ = some (.int .i64 y1) ∧ w'.cell? ⟨w.heap.size + 1, 4, none⟩ = some (.bool bb)) (first | exact ⟨HX.out.drew1.cell rfl, HX.out.drew1.cell rfl, HX.out.drew1.cell rfl⟩ | exact ⟨HX.out.cell rfl, HX.out.cell rfl, HX.out.cell rfl⟩ | exact ⟨HXd.out.cell rfl, HXd.out.cell rfl, HXd.out.cell rfl⟩ | go_keep | fail) (first | fail)
        go_wp2_with fail
        exact bodyPost_ret (v := .tuple #[.agg #[.int .i64 y0, .int .i64 y1], .bool bb]) (by simp [results, Try.results87, go_sem, q0, q1]) rfl ⟨rfl, below_last HB.out⟩
set_option maxRecDepth 100000 in
set_option maxHeartbeats 8000000 in
theorem spec_agreed_any (p : Option Addr) (n c : Nat) (xs : List Sp) (l : Int) (y0 y1 : Int) (bb : Bool) (hA : agr xs l = ((y0, y1), bb)) (w : World) (hr : RdS E w p n xs) (hn : n ≤ 1048576) : Calls Try.prog 56 #[.slice p n c, .int .i64 l] w fun e w' => e = .returned (.tuple #[.agg #[.int .i64 y0, .int .i64 y1], .bool bb]) ∧ Below w.heap.size w w' := by
  have HR := Lib.hid hr
  have HL := Lib.hid hr.len
  have hle := hr.le
  have HAg := Lib.hid hA
  have HY := Lib.hid (Bx.new w 40 #[.int .i64 0, .int .i64 0])
  have HB := Lib.hid (box1 w (.cells #[.int .i64 0, .int .i64 0] 40))
  clear hr hA
  rcases hlie : lieB n l with _ | _
  · have he : agr xs l = ((0, 0), false) := if_neg (by rw [HL.out, hlie]; simp)
    have h2 := he.symm.trans HAg.out
    cases h2
    have HLi := Lib.hid hlie
    clear hlie he
    go_enter Try.func56, Try.ntmps56
    go_wp2_with fail
    refine (Ints.l1In_any _ _ _ _ (show decide (0 ≤ l ∧ l ≤ (n : Int) - 1) = lieB n l from rfl) _).mono ?_
    rintro e w1 ⟨rfl, rfl⟩
    rw [HLi.out]
    generalize (w.alloc (.cells #[.int .i64 0, .int .i64 0] 40)) = V at HY HB ⊢
    obtain ⟨q0, q1, _, _⟩ := HY.out.two
    have f0 := HY.out.free 0
    have f1 := HY.out.free 1
    go_wp2_with fail
    exact bodyPost_ret (v := .tuple #[.agg #[.int .i64 0, .int .i64 0], .bool false]) (by simp [results, Try.results56, go_sem, q0, q1]) rfl ⟨rfl, (HB.out.setCell (p := ⟨w.heap.size, 0, none⟩) (Nat.le_refl _) _).setCell (p := ⟨w.heap.size, 1, none⟩) (Nat.le_refl _) _⟩
  · have HSp : Hid (agr xs l = Agm.tell (xs.foldl (Agm.sst okB fun t => supp xs t l) (-1, -1))) := Lib.hid (if_pos (by rw [HL.out]; exact hlie))
    have HLi := Lib.hid hlie
    clear hlie
    go_enter Try.func56, Try.ntmps56
    go_wp2_with fail
    refine (Ints.l1In_any _ _ _ _ (show decide (0 ≤ l ∧ l ≤ (n : Int) - 1) = lieB n l from rfl) _).mono ?_
    rintro e w1 ⟨rfl, rfl⟩
    rw [HLi.out]
    generalize (w.alloc (.cells #[.int .i64 0, .int .i64 0] 40)) = V at HY HB ⊢
    go_wp2_with fail
    go_loopw [6, 7, 8] (fun fv tv i wr => ∃ (k : Nat) (f t : Int), k ≤ n ∧ fv = .int .i64 f ∧ tv = .int .i64 t ∧ i = .int .i64 k ∧ Hid ((xs.take k).foldl (Agm.sst okB fun t => supp xs t l) (-1, -1) = (f, t)) ∧ Hid (Bx wr w.heap.size 40 #[.int .i64 0, .int .i64 0]) ∧ Hid (Below w.heap.size w wr)) (fun _ _ i _ => n - (intOf i).toNat)
    case atStart => exact ⟨0, -1, -1, Nat.zero_le _, rfl, rfl, rfl, Lib.hid rfl, HY, HB⟩
    case round =>
      clear HY HB
      obtain ⟨k, f, t, hk, rfl, rfl, rfl, HF, HY, HB⟩ := hrel
      by_cases hlt : k < n
      · obtain ⟨b, o, rfl, hbb, hat⟩ := rd_at (HR.out.below HB.out) hlt
        have hkL : k < xs.length := by rw [HL.out]; exact hlt
        generalize hx : xs.getD k zero = x at hat
        obtain ⟨xa, xb⟩ := x
        have HAT := Lib.hid hat
        obtain ⟨c0, c1⟩ := hat
        simp only at c0 c1
        rcases okx : okB (xa, xb) with _ | _
        · have HOk := Lib.hid okx
          go_wp2_with fail
          clear c0 c1
          refine (spec_isSpan_any xa xb _).mono ?_
          rintro e w2 ⟨rfl, hb⟩
          rw [HOk.out]
          replace HB := Lib.hid (below_on HB.out hb)
          replace HY := Lib.hid (HY.out.below hb)
          have hbz := Nat.lt_of_lt_of_le hbb hb.size
          replace HAT := Lib.hid (HAT.out.below hb hbb)
          clear hb hbb
          have hbb := hbz
          clear hbz
          obtain ⟨c0, c1⟩ := HAT.out
          go_wp2_with fail
          clear c0 c1
          refine (spec_isSpan_any xa xb _).mono ?_
          rintro e w2 ⟨rfl, hb⟩
          rw [HOk.out]
          replace HB := Lib.hid (below_on HB.out hb)
          replace HY := Lib.hid (HY.out.below hb)
          have hbz := Nat.lt_of_lt_of_le hbb hb.size
          replace HAT := Lib.hid (HAT.out.below hb hbb)
          clear hb hbb
          have hbb := hbz
          clear hbz
          obtain ⟨c0, c1⟩ := HAT.out
          have HFk := Lib.hid (by rw [foldl_take hkL hx, HF.out]; simp [Agm.sst, okx] : (xs.take (k + 1)).foldl (Agm.sst okB fun t => supp xs t l) (-1, -1) = (f, t))
          go_wp2_with fail
          go_roundw
          case rel => exact ⟨k + 1, f, t, by omega, rfl, rfl, by go_num, HFk, HY, HB⟩
          case measure => simp [intOf]; omega
        · have HOk := Lib.hid okx
          rcases g1 : supp xs xa l with _ | _
          · have HG1 := Lib.hid g1
            go_wp2_with fail
            clear c0 c1
            refine (spec_isSpan_any xa xb _).mono ?_
            rintro e w2 ⟨rfl, hb⟩
            rw [HOk.out]
            replace HB := Lib.hid (below_on HB.out hb)
            replace HY := Lib.hid (HY.out.below hb)
            have hbz := Nat.lt_of_lt_of_le hbb hb.size
            replace HAT := Lib.hid (HAT.out.below hb hbb)
            clear hb hbb
            have hbb := hbz
            clear hbz
            obtain ⟨c0, c1⟩ := HAT.out
            go_wp2_with fail
            clear c0 c1
            refine (spec_supported_any _ _ _ xs xa l _ (HR.out.below HB.out)).mono ?_
            rintro e w2 ⟨rfl, hb⟩
            rw [HG1.out]
            replace HB := Lib.hid (below_on HB.out hb)
            replace HY := Lib.hid (HY.out.below hb)
            have hbz := Nat.lt_of_lt_of_le hbb hb.size
            replace HAT := Lib.hid (HAT.out.below hb hbb)
            clear hb hbb
            have hbb := hbz
            clear hbz
            obtain ⟨c0, c1⟩ := HAT.out
            rcases g2 : supp xs xb l with _ | _
            · have HG2 := Lib.hid g2
              go_wp2_with fail
              clear c0 c1
              refine (spec_isSpan_any xa xb _).mono ?_
              rintro e w2 ⟨rfl, hb⟩
              rw [HOk.out]
              replace HB := Lib.hid (below_on HB.out hb)
              replace HY := Lib.hid (HY.out.below hb)
              have hbz := Nat.lt_of_lt_of_le hbb hb.size
              replace HAT := Lib.hid (HAT.out.below hb hbb)
              clear hb hbb
              have hbb := hbz
              clear hbz
              obtain ⟨c0, c1⟩ := HAT.out
              go_wp2_with fail
              clear c0 c1
              refine (spec_supported_any _ _ _ xs xb l _ (HR.out.below HB.out)).mono ?_
              rintro e w2 ⟨rfl, hb⟩
              rw [HG2.out]
              replace HB := Lib.hid (below_on HB.out hb)
              replace HY := Lib.hid (HY.out.below hb)
              have hbz := Nat.lt_of_lt_of_le hbb hb.size
              replace HAT := Lib.hid (HAT.out.below hb hbb)
              clear hb hbb
              have hbb := hbz
              clear hbz
              obtain ⟨c0, c1⟩ := HAT.out
              have HFk := Lib.hid (by rw [foldl_take hkL hx, HF.out]; simp [Agm.sst, okx, g1, g2] : (xs.take (k + 1)).foldl (Agm.sst okB fun t => supp xs t l) (-1, -1) = (f, t))
              go_wp2_with fail
              go_roundw
              case rel => exact ⟨k + 1, f, t, by omega, rfl, rfl, by go_num, HFk, HY, HB⟩
              case measure => simp [intOf]; omega
            · have HG2 := Lib.hid g2
              go_wp2_with fail
              clear c0 c1
              refine (spec_isSpan_any xa xb _).mono ?_
              rintro e w2 ⟨rfl, hb⟩
              rw [HOk.out]
              replace HB := Lib.hid (below_on HB.out hb)
              replace HY := Lib.hid (HY.out.below hb)
              have hbz := Nat.lt_of_lt_of_le hbb hb.size
              replace HAT := Lib.hid (HAT.out.below hb hbb)
              clear hb hbb
              have hbb := hbz
              clear hbz
              obtain ⟨c0, c1⟩ := HAT.out
              go_wp2_with fail
              clear c0 c1
              refine (spec_supported_any _ _ _ xs xb l _ (HR.out.below HB.out)).mono ?_
              rintro e w2 ⟨rfl, hb⟩
              rw [HG2.out]
              replace HB := Lib.hid (below_on HB.out hb)
              replace HY := Lib.hid (HY.out.below hb)
              have hbz := Nat.lt_of_lt_of_le hbb hb.size
              replace HAT := Lib.hid (HAT.out.below hb hbb)
              clear hb hbb
              have hbb := hbz
              clear hbz
              obtain ⟨c0, c1⟩ := HAT.out
              go_wp2_with fail
              refine (Ints.spec_max_any _ _ _).mono ?_
              rintro e w3 ⟨rfl, rfl⟩
              have HFk := Lib.hid (by rw [foldl_take hkL hx, HF.out]; simp [Agm.sst, okx, g1, g2] : (xs.take (k + 1)).foldl (Agm.sst okB fun t => supp xs t l) (-1, -1) = (f, (if t < xb then xb else t)))
              go_wp2_with fail
              go_roundw
              case rel => exact ⟨k + 1, f, (if t < xb then xb else t), by omega, rfl, by unfold Ints.maxI; rfl, by go_num, HFk, HY, HB⟩
              case measure => simp [intOf]; omega
          · have HG1 := Lib.hid g1
            by_cases h1 : f < 0
            · skip
              go_wp2_with fail
              clear c0 c1
              refine (spec_isSpan_any xa xb _).mono ?_
              rintro e w2 ⟨rfl, hb⟩
              rw [HOk.out]
              replace HB := Lib.hid (below_on HB.out hb)
              replace HY := Lib.hid (HY.out.below hb)
              have hbz := Nat.lt_of_lt_of_le hbb hb.size
              replace HAT := Lib.hid (HAT.out.below hb hbb)
              clear hb hbb
              have hbb := hbz
              clear hbz
              obtain ⟨c0, c1⟩ := HAT.out
              go_wp2_with fail
              clear c0 c1
              refine (spec_supported_any _ _ _ xs xa l _ (HR.out.below HB.out)).mono ?_
              rintro e w2 ⟨rfl, hb⟩
              rw [HG1.out]
              replace HB := Lib.hid (below_on HB.out hb)
              replace HY := Lib.hid (HY.out.below hb)
              have hbz := Nat.lt_of_lt_of_le hbb hb.size
              replace HAT := Lib.hid (HAT.out.below hb hbb)
              clear hb hbb
              have hbb := hbz
              clear hbz
              obtain ⟨c0, c1⟩ := HAT.out
              rcases g2 : supp xs xb l with _ | _
              · have HG2 := Lib.hid g2
                go_wp2_with fail
                clear c0 c1
                refine (spec_isSpan_any xa xb _).mono ?_
                rintro e w2 ⟨rfl, hb⟩
                rw [HOk.out]
                replace HB := Lib.hid (below_on HB.out hb)
                replace HY := Lib.hid (HY.out.below hb)
                have hbz := Nat.lt_of_lt_of_le hbb hb.size
                replace HAT := Lib.hid (HAT.out.below hb hbb)
                clear hb hbb
                have hbb := hbz
                clear hbz
                obtain ⟨c0, c1⟩ := HAT.out
                go_wp2_with fail
                clear c0 c1
                refine (spec_supported_any _ _ _ xs xb l _ (HR.out.below HB.out)).mono ?_
                rintro e w2 ⟨rfl, hb⟩
                rw [HG2.out]
                replace HB := Lib.hid (below_on HB.out hb)
                replace HY := Lib.hid (HY.out.below hb)
                have hbz := Nat.lt_of_lt_of_le hbb hb.size
                replace HAT := Lib.hid (HAT.out.below hb hbb)
                clear hb hbb
                have hbb := hbz
                clear hbz
                obtain ⟨c0, c1⟩ := HAT.out
                have HFk := Lib.hid (by rw [foldl_take hkL hx, HF.out]; simp [Agm.sst, okx, g1, h1, g2] : (xs.take (k + 1)).foldl (Agm.sst okB fun t => supp xs t l) (-1, -1) = (xa, t))
                go_wp2_with fail
                go_roundw
                case rel => exact ⟨k + 1, xa, t, by omega, rfl, rfl, by go_num, HFk, HY, HB⟩
                case measure => simp [intOf]; omega
              · have HG2 := Lib.hid g2
                go_wp2_with fail
                clear c0 c1
                refine (spec_isSpan_any xa xb _).mono ?_
                rintro e w2 ⟨rfl, hb⟩
                rw [HOk.out]
                replace HB := Lib.hid (below_on HB.out hb)
                replace HY := Lib.hid (HY.out.below hb)
                have hbz := Nat.lt_of_lt_of_le hbb hb.size
                replace HAT := Lib.hid (HAT.out.below hb hbb)
                clear hb hbb
                have hbb := hbz
                clear hbz
                obtain ⟨c0, c1⟩ := HAT.out
                go_wp2_with fail
                clear c0 c1
                refine (spec_supported_any _ _ _ xs xb l _ (HR.out.below HB.out)).mono ?_
                rintro e w2 ⟨rfl, hb⟩
                rw [HG2.out]
                replace HB := Lib.hid (below_on HB.out hb)
                replace HY := Lib.hid (HY.out.below hb)
                have hbz := Nat.lt_of_lt_of_le hbb hb.size
                replace HAT := Lib.hid (HAT.out.below hb hbb)
                clear hb hbb
                have hbb := hbz
                clear hbz
                obtain ⟨c0, c1⟩ := HAT.out
                go_wp2_with fail
                refine (Ints.spec_max_any _ _ _).mono ?_
                rintro e w3 ⟨rfl, rfl⟩
                have HFk := Lib.hid (by rw [foldl_take hkL hx, HF.out]; simp [Agm.sst, okx, g1, h1, g2] : (xs.take (k + 1)).foldl (Agm.sst okB fun t => supp xs t l) (-1, -1) = (xa, (if t < xb then xb else t)))
                go_wp2_with fail
                go_roundw
                case rel => exact ⟨k + 1, xa, (if t < xb then xb else t), by omega, rfl, by unfold Ints.maxI; rfl, by go_num, HFk, HY, HB⟩
                case measure => simp [intOf]; omega
            · by_cases h2 : xa < f
              · skip
                go_wp2_with fail
                clear c0 c1
                refine (spec_isSpan_any xa xb _).mono ?_
                rintro e w2 ⟨rfl, hb⟩
                rw [HOk.out]
                replace HB := Lib.hid (below_on HB.out hb)
                replace HY := Lib.hid (HY.out.below hb)
                have hbz := Nat.lt_of_lt_of_le hbb hb.size
                replace HAT := Lib.hid (HAT.out.below hb hbb)
                clear hb hbb
                have hbb := hbz
                clear hbz
                obtain ⟨c0, c1⟩ := HAT.out
                go_wp2_with fail
                clear c0 c1
                refine (spec_supported_any _ _ _ xs xa l _ (HR.out.below HB.out)).mono ?_
                rintro e w2 ⟨rfl, hb⟩
                rw [HG1.out]
                replace HB := Lib.hid (below_on HB.out hb)
                replace HY := Lib.hid (HY.out.below hb)
                have hbz := Nat.lt_of_lt_of_le hbb hb.size
                replace HAT := Lib.hid (HAT.out.below hb hbb)
                clear hb hbb
                have hbb := hbz
                clear hbz
                obtain ⟨c0, c1⟩ := HAT.out
                rcases g2 : supp xs xb l with _ | _
                · have HG2 := Lib.hid g2
                  go_wp2_with fail
                  clear c0 c1
                  refine (spec_isSpan_any xa xb _).mono ?_
                  rintro e w2 ⟨rfl, hb⟩
                  rw [HOk.out]
                  replace HB := Lib.hid (below_on HB.out hb)
                  replace HY := Lib.hid (HY.out.below hb)
                  have hbz := Nat.lt_of_lt_of_le hbb hb.size
                  replace HAT := Lib.hid (HAT.out.below hb hbb)
                  clear hb hbb
                  have hbb := hbz
                  clear hbz
                  obtain ⟨c0, c1⟩ := HAT.out
                  go_wp2_with fail
                  clear c0 c1
                  refine (spec_supported_any _ _ _ xs xb l _ (HR.out.below HB.out)).mono ?_
                  rintro e w2 ⟨rfl, hb⟩
                  rw [HG2.out]
                  replace HB := Lib.hid (below_on HB.out hb)
                  replace HY := Lib.hid (HY.out.below hb)
                  have hbz := Nat.lt_of_lt_of_le hbb hb.size
                  replace HAT := Lib.hid (HAT.out.below hb hbb)
                  clear hb hbb
                  have hbb := hbz
                  clear hbz
                  obtain ⟨c0, c1⟩ := HAT.out
                  have HFk := Lib.hid (by rw [foldl_take hkL hx, HF.out]; simp [Agm.sst, okx, g1, h2, g2] : (xs.take (k + 1)).foldl (Agm.sst okB fun t => supp xs t l) (-1, -1) = (xa, t))
                  go_wp2_with fail
                  go_roundw
                  case rel => exact ⟨k + 1, xa, t, by omega, rfl, rfl, by go_num, HFk, HY, HB⟩
                  case measure => simp [intOf]; omega
                · have HG2 := Lib.hid g2
                  go_wp2_with fail
                  clear c0 c1
                  refine (spec_isSpan_any xa xb _).mono ?_
                  rintro e w2 ⟨rfl, hb⟩
                  rw [HOk.out]
                  replace HB := Lib.hid (below_on HB.out hb)
                  replace HY := Lib.hid (HY.out.below hb)
                  have hbz := Nat.lt_of_lt_of_le hbb hb.size
                  replace HAT := Lib.hid (HAT.out.below hb hbb)
                  clear hb hbb
                  have hbb := hbz
                  clear hbz
                  obtain ⟨c0, c1⟩ := HAT.out
                  go_wp2_with fail
                  clear c0 c1
                  refine (spec_supported_any _ _ _ xs xb l _ (HR.out.below HB.out)).mono ?_
                  rintro e w2 ⟨rfl, hb⟩
                  rw [HG2.out]
                  replace HB := Lib.hid (below_on HB.out hb)
                  replace HY := Lib.hid (HY.out.below hb)
                  have hbz := Nat.lt_of_lt_of_le hbb hb.size
                  replace HAT := Lib.hid (HAT.out.below hb hbb)
                  clear hb hbb
                  have hbb := hbz
                  clear hbz
                  obtain ⟨c0, c1⟩ := HAT.out
                  go_wp2_with fail
                  refine (Ints.spec_max_any _ _ _).mono ?_
                  rintro e w3 ⟨rfl, rfl⟩
                  have HFk := Lib.hid (by rw [foldl_take hkL hx, HF.out]; simp [Agm.sst, okx, g1, h2, g2] : (xs.take (k + 1)).foldl (Agm.sst okB fun t => supp xs t l) (-1, -1) = (xa, (if t < xb then xb else t)))
                  go_wp2_with fail
                  go_roundw
                  case rel => exact ⟨k + 1, xa, (if t < xb then xb else t), by omega, rfl, by unfold Ints.maxI; rfl, by go_num, HFk, HY, HB⟩
                  case measure => simp [intOf]; omega
              · skip
                go_wp2_with fail
                clear c0 c1
                refine (spec_isSpan_any xa xb _).mono ?_
                rintro e w2 ⟨rfl, hb⟩
                rw [HOk.out]
                replace HB := Lib.hid (below_on HB.out hb)
                replace HY := Lib.hid (HY.out.below hb)
                have hbz := Nat.lt_of_lt_of_le hbb hb.size
                replace HAT := Lib.hid (HAT.out.below hb hbb)
                clear hb hbb
                have hbb := hbz
                clear hbz
                obtain ⟨c0, c1⟩ := HAT.out
                go_wp2_with fail
                clear c0 c1
                refine (spec_supported_any _ _ _ xs xa l _ (HR.out.below HB.out)).mono ?_
                rintro e w2 ⟨rfl, hb⟩
                rw [HG1.out]
                replace HB := Lib.hid (below_on HB.out hb)
                replace HY := Lib.hid (HY.out.below hb)
                have hbz := Nat.lt_of_lt_of_le hbb hb.size
                replace HAT := Lib.hid (HAT.out.below hb hbb)
                clear hb hbb
                have hbb := hbz
                clear hbz
                obtain ⟨c0, c1⟩ := HAT.out
                rcases g2 : supp xs xb l with _ | _
                · have HG2 := Lib.hid g2
                  go_wp2_with fail
                  clear c0 c1
                  refine (spec_isSpan_any xa xb _).mono ?_
                  rintro e w2 ⟨rfl, hb⟩
                  rw [HOk.out]
                  replace HB := Lib.hid (below_on HB.out hb)
                  replace HY := Lib.hid (HY.out.below hb)
                  have hbz := Nat.lt_of_lt_of_le hbb hb.size
                  replace HAT := Lib.hid (HAT.out.below hb hbb)
                  clear hb hbb
                  have hbb := hbz
                  clear hbz
                  obtain ⟨c0, c1⟩ := HAT.out
                  go_wp2_with fail
                  clear c0 c1
                  refine (spec_supported_any _ _ _ xs xb l _ (HR.out.below HB.out)).mono ?_
                  rintro e w2 ⟨rfl, hb⟩
                  rw [HG2.out]
                  replace HB := Lib.hid (below_on HB.out hb)
                  replace HY := Lib.hid (HY.out.below hb)
                  have hbz := Nat.lt_of_lt_of_le hbb hb.size
                  replace HAT := Lib.hid (HAT.out.below hb hbb)
                  clear hb hbb
                  have hbb := hbz
                  clear hbz
                  obtain ⟨c0, c1⟩ := HAT.out
                  have HFk := Lib.hid (by rw [foldl_take hkL hx, HF.out]; simp [Agm.sst, okx, g1, g2]; intro hh; omega : (xs.take (k + 1)).foldl (Agm.sst okB fun t => supp xs t l) (-1, -1) = (f, t))
                  go_wp2_with fail
                  go_roundw
                  case rel => exact ⟨k + 1, f, t, by omega, rfl, rfl, by go_num, HFk, HY, HB⟩
                  case measure => simp [intOf]; omega
                · have HG2 := Lib.hid g2
                  go_wp2_with fail
                  clear c0 c1
                  refine (spec_isSpan_any xa xb _).mono ?_
                  rintro e w2 ⟨rfl, hb⟩
                  rw [HOk.out]
                  replace HB := Lib.hid (below_on HB.out hb)
                  replace HY := Lib.hid (HY.out.below hb)
                  have hbz := Nat.lt_of_lt_of_le hbb hb.size
                  replace HAT := Lib.hid (HAT.out.below hb hbb)
                  clear hb hbb
                  have hbb := hbz
                  clear hbz
                  obtain ⟨c0, c1⟩ := HAT.out
                  go_wp2_with fail
                  clear c0 c1
                  refine (spec_supported_any _ _ _ xs xb l _ (HR.out.below HB.out)).mono ?_
                  rintro e w2 ⟨rfl, hb⟩
                  rw [HG2.out]
                  replace HB := Lib.hid (below_on HB.out hb)
                  replace HY := Lib.hid (HY.out.below hb)
                  have hbz := Nat.lt_of_lt_of_le hbb hb.size
                  replace HAT := Lib.hid (HAT.out.below hb hbb)
                  clear hb hbb
                  have hbb := hbz
                  clear hbz
                  obtain ⟨c0, c1⟩ := HAT.out
                  go_wp2_with fail
                  refine (Ints.spec_max_any _ _ _).mono ?_
                  rintro e w3 ⟨rfl, rfl⟩
                  have HFk := Lib.hid (by rw [foldl_take hkL hx, HF.out]; simp [Agm.sst, okx, g1, g2]; intro hh; omega : (xs.take (k + 1)).foldl (Agm.sst okB fun t => supp xs t l) (-1, -1) = (f, (if t < xb then xb else t)))
                  go_wp2_with fail
                  go_roundw
                  case rel => exact ⟨k + 1, f, (if t < xb then xb else t), by omega, rfl, by unfold Ints.maxI; rfl, by go_num, HFk, HY, HB⟩
                  case measure => simp [intOf]; omega
      · obtain rfl : k = n := by omega
        have hF := HF.out
        rw [List.take_of_length_le (by rw [HL.out]; exact Nat.le_refl _)] at hF
        have h2 := HSp.out.symm.trans HAg.out
        rw [hF] at h2
        unfold Agm.tell at h2
        simp only at h2
        obtain ⟨q0, q1, _, _⟩ := HY.out.two
        have f0 := HY.out.free 0
        have f1 := HY.out.free 1
        by_cases hf : f < 0
        · rw [if_pos hf] at h2
          cases h2
          go_wp2_with fail
          exact bodyPost_ret (v := .tuple #[.agg #[.int .i64 0, .int .i64 0], .bool false]) (by simp [results, Try.results56, go_sem, q0, q1]) rfl ⟨rfl, (HB.out.setCell (p := ⟨w.heap.size, 0, none⟩) (Nat.le_refl _) _).setCell (p := ⟨w.heap.size, 1, none⟩) (Nat.le_refl _) _⟩
        · rw [if_neg hf] at h2
          cases h2
          go_wp2_with fail
          exact bodyPost_ret (v := .tuple #[.agg #[.int .i64 y0, .int .i64 y1], .bool true]) (by simp [results, Try.results56, go_sem, q0, q1]) rfl ⟨rfl, (HB.out.setCell (p := ⟨w.heap.size, 0, none⟩) (Nat.le_refl _) _).setCell (p := ⟨w.heap.size, 1, none⟩) (Nat.le_refl _) _⟩
end Go.Proofs.Ytlgkgccmilapbaa.Ags
