/- What a renewal has to cover; in the program and in the reference. -/
import Derived.Test.YtfojilogcecphaaGreatDpStrand
import Derived.Test.YtfojilogcecphaaGreatWpA
import Derived.Test.YtfojilogcecphaaGreatRxA
import Derived.Test.YtfojilogcecphaaGreatQrA
import Derived.Test.YtfojilogcecphaaGreatInt
import Derived.Outline
namespace Go.Proofs.YtfojilogcecphaaGreat.La
open Go.ChangeShapes Go.WideShapes Go.ChangeAt Go.RowKit Sl St Ed Dz
theorem takeR {α : Type} {E : Ent α} {S : Nat → Prop} {w : World} {p : Option Addr} {n : Nat} {xs : List α} (h : RdD E S w p n xs) {m : Nat} (hm : m ≤ n) : RdD E S w p m (xs.take m) := by
  refine ⟨by rw [List.length_take, h.1]; omega, Nat.le_trans hm h.2.1, fun hp => ?_⟩
  obtain ⟨b, o, e, hS, hb, hc⟩ := h.2.2 (by omega)
  refine ⟨b, o, e, hS, hb, fun i x hx => hc i x ?_⟩
  rw [List.getElem?_take] at hx
  split at hx
  · exact hx
  · cases hx
def prev (m : Int) (ch : List DpRenewal.A) : Nat → Int
  | 0 => 0
  | k + 1 => match ch[k]? with | some r => Dg.dig m (Rw.ren r) | none => 0
theorem prev_succ {m : Int} {ch : List DpRenewal.A} {k : Nat} {r : DpRenewal.A} (h : ch[k]? = some r) : prev m ch (k + 1) = Dg.dig m (Rw.ren r) := by simp only [prev, h]
theorem prev_in (m : Int) (ch : List DpRenewal.A) (k : Nat) : InI (prev m ch k) := by
  cases k with
  | zero => exact ⟨by show (-9223372036854775808 : Int) ≤ 0; decide, by show (0 : Int) ≤ 9223372036854775807; decide⟩
  | succ k =>
    simp only [prev]
    split
    · exact Wp.dig_inK _ _
    · exact ⟨by decide, by decide⟩
def leafAt (ps : List DpPiece.A) (ch : List DpRenewal.A) (docs : List Int) (k : Int) : Int :=
  if 0 ≤ k then
    match ch[k.toNat]? with
    | some r => if docs.length = ch.length ∧ 0 ≤ r.1 ∧ r.1 ≤ ps.length then Wl.leaf r.2.1 (docs.getD k.toNat 0) (ps.take r.1.toNat) (prev r.2.1 ch k.toNat) else -1
    | none => -1
  else -1
section
variable {ps : List DpPiece.A} {ch : List DpRenewal.A} {docs : List Int}
theorem la_out {k : Int} {n : Nat} (hn : ch.length = n) (h : ¬ (0 ≤ k ∧ k ≤ (n : Int) - 1)) : leafAt ps ch docs k = -1 := by
  unfold leafAt
  by_cases h0 : 0 ≤ k
  · rw [if_pos h0, List.getElem?_eq_none (by omega)]
  · rw [if_neg h0]
theorem la_docs {k : Nat} {r : DpRenewal.A} (hx : ch[k]? = some r) (h : docs.length ≠ ch.length) : leafAt ps ch docs k = -1 := by
  unfold leafAt
  rw [if_pos (by omega), Int.toNat_natCast, hx]
  simp only
  rw [if_neg (fun h1 => h h1.1)]
theorem la_cnt {k : Nat} {r : DpRenewal.A} {n : Nat} (hx : ch[k]? = some r) (hn : ps.length = n) (h : ¬ (0 ≤ r.1 ∧ r.1 ≤ (n : Int))) : leafAt ps ch docs k = -1 := by
  unfold leafAt
  rw [if_pos (by omega), Int.toNat_natCast, hx]
  simp only
  rw [if_neg (fun h1 => h (by rw [← hn]; exact h1.2))]
theorem la_at {k m : Nat} {x1 : Int} {t : Int × List (Int × Bool) × List (Int × Int × Int × Int × Int)} {y : Int} (hx : ch[k]? = some ((m : Int), x1, t)) (hd : docs.length = ch.length) (hy : docs[k]? = some y) (hm : m ≤ ps.length) : leafAt ps ch docs k = Wl.leaf x1 y (ps.take m) (prev x1 ch k) := by
  unfold leafAt
  rw [if_pos (by omega), Int.toNat_natCast, hx]
  simp only
  rw [if_pos ⟨hd, by omega, by omega⟩, Int.toNat_natCast, List.getD_eq_getElem?_getD, hy]
  rfl
theorem leaf_in (id doc : Int) (xs : List DpPiece.A) (before : Int) : InI (Wl.leaf id doc xs before) := Wp.dig_inK _ _
theorem leafAt_in (k : Int) : InI (leafAt ps ch docs k) := by
  unfold leafAt
  split
  · split
    · split
      · exact leaf_in _ _ _ _
      · exact ⟨by decide, by decide⟩
    · exact ⟨by decide, by decide⟩
  · exact ⟨by decide, by decide⟩
end
set_option maxRecDepth 100000 in
set_option maxHeartbeats 8000000 in
theorem leafAt_any (l0 : List DpPiece.A) (p0 : Option Addr) (n0 c0 : Nat) (l1 : List DpRenewal.A) (p1 : Option Addr) (n1 c1 : Nat) (docs : List Int) (q : Option Addr) (d e : Nat) (k : Int) {S0 S1 T : Nat → Prop} (w : World) (h0 : RdD DpPiece.E S0 w p0 n0 l0) (h1 : RdD DpRenewal.E S1 w p1 n1 l1) (hd : RdD int T w q d docs) (hc0 : n0 ≤ c0) (hm : DpStrand.E.wt (l0, l1) ≤ 1048576) : Calls Tryz.prog 78 #[.agg #[.slice p0 n0 c0, .slice p1 n1 c1], .slice q d e, .int .i64 k] w (Val (.int .i64 (leafAt l0 l1 docs k)) w) := by
  have hb := box1 w (.cells #[.slice p0 n0 c0, .slice p1 n1 c1] 44)
  have HBV := Lib.hid hb
  have HX := Lib.hid (Bx.new w 44 #[.slice p0 n0 c0, .slice p1 n1 c1])
  have H0 := Lib.hid (h0.below hb)
  have H1 := Lib.hid (h1.below hb)
  have HD := Lib.hid (hd.below hb)
  have L0 := Lib.hid h0.len
  have L1 := Lib.hid h1.len
  have LD := Lib.hid hd.len
  have hle0 := h0.le
  have hle1 := h1.le
  have hled := hd.le
  rw [DpStrand.wt_eq] at hm
  have HM := Lib.hid hm
  have hw1 : IntKind.i64.wrap ((n1 : Int) - 1) = (n1 : Int) - 1 := IntWalk.i64_in _ (by omega)
  clear hb h0 h1 hd hm
  by_cases hin : 0 ≤ k ∧ k ≤ (n1 : Int) - 1
  rotate_left
  · have HS : Hid (leafAt l0 l1 docs k = -1) := Lib.hid (la_out L1.out hin)
    have HR : Hid (decide (0 ≤ k ∧ k ≤ (n1 : Int) - 1) = false) := Lib.hid (decide_eq_false hin)
    clear hin
    go_enter Tryz.func78, Tryz.ntmps78
    go_wp2_with fail
    generalize (w.alloc (.cells #[.slice p0 n0 c0, .slice p1 n1 c1] 44)) = V at HBV HX H0 H1 HD ⊢
    have HC : Hid (∀ w', Qt.Keeps (V) w' → w'.cell? ⟨w.heap.size, 0, none⟩ = some (.slice p0 n0 c0) ∧ w'.cell? ⟨w.heap.size, 1, none⟩ = some (.slice p1 n1 c1)) := Lib.hid fun w' hw => DpStrand.bxc (HX.out.below hw)
    refine Qt.region (Qt.Keeps (V)) (by kernel_rfl) (by kernel_rfl) (Qt.Keeps.drew _) ?_
    repeat (first
      | go_big_quiet_skip
      | (go_big_quiet_want
         refine Qt.val (v := ?_) (fun w hw => ?_) ?_
         rotate_left
         · obtain ⟨s0, s1⟩ := HC.out w hw
           go_simp
           rfl
         simp only [Act.put, List.setIfInBounds_toArray, List.set_cons_zero, List.set_cons_succ]
         go_big_quiet_on)
      | (go_big_quiet_want
         refine Qt.call (v := .bool false) (f := 106) (args := #[.int .i64 k, .int .i64 0, .int .i64 ((n1 : Int) - 1)]) (fun w hw => ?_) (fun w hw => ?_) ?_
         · go_simp
         · refine (Ints.inRange_any k 0 _ _ HR.out _).mono ?_
           rintro e w1 ⟨rfl, rfl⟩
           exact ⟨rfl, hw⟩
         simp only [Act.put, List.setIfInBounds_toArray, List.set_cons_zero, List.set_cons_succ]
         go_big_quiet_on))
    refine wpQuiet_nil ?_
    intro w2 hw2
    have HB2 := Lib.hid (below_on HBV.out hw2)
    clear hw2
    go_wp2_with fail
    go_ret
    exact val_of (by rw [HS.out]; first | done | rfl) HB2.out
  obtain ⟨K, rfl⟩ := Int.eq_ofNat_of_zero_le hin.1
  have hlt : K < n1 := by omega
  have HR : Hid (decide (0 ≤ (K : Int) ∧ (K : Int) ≤ (n1 : Int) - 1) = true) := Lib.hid (decide_eq_true hin)
  clear hin
  obtain ⟨b, o, x_e, cs_e, rfl, _, hbwe, hxe, hce, hrde⟩ := H1.out.at_ hlt
  obtain ⟨xe0, xe1, xe2, le3, le4⟩ := x_e
  obtain ⟨pe3, ne3, ce3, pe4, ne4, ce4, rfl, be0, be1, be2, he3, he4⟩ := DpRenewal.ex hrde
  have HXe := Lib.hid hxe
  have HCe := Lib.hid hce
  have He3 := Lib.hid he3
  have He4 := Lib.hid he4
  have Gbe0 := Lib.hid be0
  have Gbe1 := Lib.hid be1
  have Gbe2 := Lib.hid be2
  have Hbw := Lib.hid hbwe
  clear hbwe hxe hce hrde he3 he4 be0 be1 be2
  have i1 : (0 : Int) ≤ (K : Int) := by omega
  have i2 : (K : Int) < (n1 : Int) := by omega
  by_cases hd : d = n1
  rotate_left
  · have HS : Hid (leafAt l0 l1 docs K = -1) := Lib.hid (la_docs HXe.out (by rw [LD.out, L1.out]; exact hd))
    have e1 : ((d : Int) != (n1 : Int)) = true := bne_iff_ne.2 (by omega)
    have e2 : ((d : Int) == (n1 : Int)) = false := beq_eq_false_iff_ne.2 (by omega)
    clear hd
    go_enter Tryz.func78, Tryz.ntmps78
    go_wp2_with fail
    generalize (w.alloc (.cells #[.slice p0 n0 c0, .slice (some ⟨b, o, none⟩) n1 c1] 44)) = V at HBV HX H0 H1 HD HCe He3 He4 Hbw ⊢
    have HC : Hid (∀ w', Qt.Keeps (V) w' → w'.cell? ⟨w.heap.size, 0, none⟩ = some (.slice p0 n0 c0) ∧ w'.cell? ⟨w.heap.size, 1, none⟩ = some (.slice (some ⟨b, o, none⟩) n1 c1)) := Lib.hid fun w' hw => DpStrand.bxc (HX.out.below hw)
    refine Qt.region (Qt.Keeps (V)) (by kernel_rfl) (by kernel_rfl) (Qt.Keeps.drew _) ?_
    repeat (first
      | go_big_quiet_skip
      | (go_big_quiet_want
         refine Qt.val (v := ?_) (fun w hw => ?_) ?_
         rotate_left
         · obtain ⟨s0, s1⟩ := HC.out w hw
           go_simp
           rfl
         simp only [Act.put, List.setIfInBounds_toArray, List.set_cons_zero, List.set_cons_succ]
         go_big_quiet_on)
      | (go_big_quiet_want
         refine Qt.call (v := .bool true) (f := 106) (args := #[.int .i64 K, .int .i64 0, .int .i64 ((n1 : Int) - 1)]) (fun w hw => ?_) (fun w hw => ?_) ?_
         · go_simp
         · refine (Ints.inRange_any K 0 _ _ HR.out _).mono ?_
           rintro e w1 ⟨rfl, rfl⟩
           exact ⟨rfl, hw⟩
         simp only [Act.put, List.setIfInBounds_toArray, List.set_cons_zero, List.set_cons_succ]
         go_big_quiet_on))
    refine wpQuiet_nil ?_
    intro w2 hw2
    have HB2 := Lib.hid (below_on HBV.out hw2)
    clear hw2
    go_wp2_with fail
    go_ret
    exact val_of (by rw [HS.out]; first | done | rfl) HB2.out
  subst hd
  have e1 : ((d : Int) != (d : Int)) = false := by simp
  have e2 : ((d : Int) == (d : Int)) = true := by simp
  have HU0 : Hid (∀ w', Below (w.alloc (.cells #[.slice p0 n0 c0, .slice (some ⟨b, o, none⟩) d c1] 44)).heap.size (w.alloc (.cells #[.slice p0 n0 c0, .slice (some ⟨b, o, none⟩) d c1] 44)) w' → w'.cell? ⟨b, o + K * 5, none⟩ = some (.int .i64 xe0) ∧ w'.cell? ⟨b, o + K * 5 + 1, none⟩ = some (.int .i64 xe1) ∧ w'.cell? ⟨b, o + K * 5 + 2, none⟩ = some (.int .i64 xe2) ∧ w'.cell? ⟨b, o + K * 5 + 3, none⟩ = some (.slice pe3 ne3 ce3) ∧ w'.cell? ⟨b, o + K * 5 + 4, none⟩ = some (.slice pe4 ne4 ce4)) := Lib.hid fun w' hw => DpRenewal.at_cells (q := o + K * 5) fun j v hv => (hw.cell (p := ⟨b, o + K * 5 + j, none⟩) Hbw.out).trans (HCe.out j v hv)
  by_cases hcnt : 0 ≤ xe0 ∧ xe0 ≤ (n0 : Int)
  rotate_left
  · have HS : Hid (leafAt l0 l1 docs K = -1) := Lib.hid (la_cnt HXe.out L0.out hcnt)
    have HC2 : Hid (decide (0 ≤ xe0 ∧ xe0 ≤ (n0 : Int)) = false) := Lib.hid (decide_eq_false hcnt)
    clear hcnt
    go_enter Tryz.func78, Tryz.ntmps78
    go_wp2_with fail
    generalize (w.alloc (.cells #[.slice p0 n0 c0, .slice (some ⟨b, o, none⟩) d c1] 44)) = V at HBV HX H0 H1 HD HCe He3 He4 Hbw HU0 ⊢
    have HC : Hid (∀ w', Qt.Keeps (V) w' → w'.cell? ⟨w.heap.size, 0, none⟩ = some (.slice p0 n0 c0) ∧ w'.cell? ⟨w.heap.size, 1, none⟩ = some (.slice (some ⟨b, o, none⟩) d c1) ∧ w'.cell? ⟨b, o + K * 5, none⟩ = some (.int .i64 xe0)) := Lib.hid fun w' hw => let h := DpStrand.bxc (HX.out.below hw); ⟨h.1, h.2, (HU0.out w' hw).1⟩
    refine Qt.region (Qt.Keeps (V)) (by kernel_rfl) (by kernel_rfl) (Qt.Keeps.drew _) ?_
    repeat (first
      | go_big_quiet_skip
      | (go_big_quiet_want
         refine Qt.val (v := ?_) (fun w hw => ?_) ?_
         rotate_left
         · obtain ⟨s0, s1, u0⟩ := HC.out w hw
           go_simp
           rfl
         simp only [Act.put, List.setIfInBounds_toArray, List.set_cons_zero, List.set_cons_succ]
         go_big_quiet_on)
      | (go_big_quiet_want
         refine Qt.call (v := .bool true) (f := 106) (args := #[.int .i64 K, .int .i64 0, .int .i64 ((d : Int) - 1)]) (fun w hw => ?_) (fun w hw => ?_) ?_
         · go_simp
         · refine (Ints.inRange_any K 0 _ _ HR.out _).mono ?_
           rintro e w1 ⟨rfl, rfl⟩
           exact ⟨rfl, hw⟩
         simp only [Act.put, List.setIfInBounds_toArray, List.set_cons_zero, List.set_cons_succ]
         go_big_quiet_on)
      | (go_big_quiet_want
         refine Qt.call (v := .bool false) (f := 106) (args := #[.int .i64 xe0, .int .i64 0, .int .i64 n0]) (fun w hw => ?_) (fun w hw => ?_) ?_
         · go_simp
         · refine (Ints.inRange_any xe0 0 _ _ HC2.out _).mono ?_
           rintro e w1 ⟨rfl, rfl⟩
           exact ⟨rfl, hw⟩
         simp only [Act.put, List.setIfInBounds_toArray, List.set_cons_zero, List.set_cons_succ]
         go_big_quiet_on))
    refine wpQuiet_nil ?_
    intro w2 hw2
    have HB2 := Lib.hid (below_on HBV.out hw2)
    clear hw2
    go_wp2_with fail
    go_ret
    exact val_of (by rw [HS.out]; first | done | rfl) HB2.out
  obtain ⟨m, rfl⟩ := Int.eq_ofNat_of_zero_le hcnt.1
  have hmn : m ≤ n0 := by omega
  have hmc : m ≤ c0 := by omega
  have HC2 : Hid (decide (0 ≤ (m : Int) ∧ (m : Int) ≤ (n0 : Int)) = true) := Lib.hid (decide_eq_true hcnt)
  clear hcnt
  obtain ⟨bq, oq, y, cq, rfl, _, hbq, hy, hcq, hyr⟩ := HD.out.at_ hlt
  obtain ⟨rfl, hyin⟩ := hyr
  have hq0 := hcq 0 _ rfl
  rw [show oq + K * int.C + 0 = oq + K from by show oq + K * 1 + 0 = _; omega] at hq0
  have HQ := Lib.hid hq0
  have HQb := Lib.hid hbq
  have HY := Lib.hid hyin
  have HS : Hid (leafAt l0 l1 docs K = Wl.leaf xe1 y (l0.take m) (prev xe1 l1 K)) := Lib.hid (la_at HXe.out (by rw [LD.out, L1.out]) hy (by rw [L0.out]; exact hmn))
  have HT := Lib.hid (takeR H0.out hmn)
  have HMT : Hid (m + wts DpPiece.E (l0.take m) ≤ 1048576) := Lib.hid (by have h := HM.out; have h2 := wts_le (E := DpPiece.E) l0 m; have h3 := L0.out; omega)
  have hps : (if c0 = 0 then p0 else Option.map (fun x => x.add 0) p0) = p0 := by cases p0 <;> simp [Addr.add]
  clear hq0 hcq hbq hyin hy
  go_enter Tryz.func78, Tryz.ntmps78
  go_wp2_with fail
  generalize (w.alloc (.cells #[.slice p0 n0 c0, .slice (some ⟨b, o, none⟩) d c1] 44)) = V at HBV HX H0 H1 HD HCe He3 He4 Hbw HU0 HT HQ HQb ⊢
  have HC : Hid (∀ w', Qt.Keeps (V) w' → w'.cell? ⟨w.heap.size, 0, none⟩ = some (.slice p0 n0 c0) ∧ w'.cell? ⟨w.heap.size, 1, none⟩ = some (.slice (some ⟨b, o, none⟩) d c1) ∧ w'.cell? ⟨b, o + K * 5, none⟩ = some (.int .i64 m)) := Lib.hid fun w' hw => let h := DpStrand.bxc (HX.out.below hw); ⟨h.1, h.2, (HU0.out w' hw).1⟩
  refine Qt.region (Qt.Keeps (V)) (by kernel_rfl) (by kernel_rfl) (Qt.Keeps.drew _) ?_
  repeat (first
    | go_big_quiet_skip
    | (go_big_quiet_want
       refine Qt.val (v := ?_) (fun w hw => ?_) ?_
       rotate_left
       · obtain ⟨s0, s1, u0⟩ := HC.out w hw
         go_simp
         rfl
       simp only [Act.put, List.setIfInBounds_toArray, List.set_cons_zero, List.set_cons_succ]
       go_big_quiet_on)
    | (go_big_quiet_want
       refine Qt.call (v := .bool true) (f := 106) (args := #[.int .i64 K, .int .i64 0, .int .i64 ((d : Int) - 1)]) (fun w hw => ?_) (fun w hw => ?_) ?_
       · go_simp
       · refine (Ints.inRange_any K 0 _ _ HR.out _).mono ?_
         rintro e w1 ⟨rfl, rfl⟩
         exact ⟨rfl, hw⟩
       simp only [Act.put, List.setIfInBounds_toArray, List.set_cons_zero, List.set_cons_succ]
       go_big_quiet_on)
    | (go_big_quiet_want
       refine Qt.call (v := .bool true) (f := 106) (args := #[.int .i64 m, .int .i64 0, .int .i64 n0]) (fun w hw => ?_) (fun w hw => ?_) ?_
       · go_simp
       · refine (Ints.inRange_any m 0 _ _ HC2.out _).mono ?_
         rintro e w1 ⟨rfl, rfl⟩
         exact ⟨rfl, hw⟩
       simp only [Act.put, List.setIfInBounds_toArray, List.set_cons_zero, List.set_cons_succ]
       go_big_quiet_on))
  refine wpQuiet_nil ?_
  intro w2 hw2
  have HB2 := Lib.hid hw2
  clear hw2
  cases K with
  | zero =>
    have HPI := Lib.hid (prev_in xe1 l1 0)
    replace HS : Hid (leafAt l0 l1 docs ((0 : Nat) : Int) = Wl.leaf xe1 y (l0.take m) 0) := HS
    have hu := HU0.out _ HB2.out
    obtain ⟨u0, u1, u2, u3, u4⟩ := hu
    simp only [Nat.zero_mul, Nat.add_zero] at u0 u1 u2 u3 u4
    obtain ⟨s0, s1⟩ := DpStrand.bxc (HX.out.below HB2.out)
    have HR2 := Lib.hid (Bx.new w2 103 #[.int .i64 m, .int .i64 xe1, .int .i64 xe2, .slice pe3 ne3 ce3, .slice pe4 ne4 ce4])
    have HB3 := Lib.hid (HB2.out.alloc HB2.out.size (.cells #[.int .i64 m, .int .i64 xe1, .int .i64 xe2, .slice pe3 ne3 ce3, .slice pe4 ne4 ce4] 103))
    go_wp2_with fail
    generalize (w2.alloc (.cells #[.int .i64 m, .int .i64 xe1, .int .i64 xe2, .slice pe3 ne3 ce3, .slice pe4 ne4 ce4] 103)) = W3 at HR2 HB3 ⊢
    clear u0 u1 u2 u3 u4 s0 s1
    have HC : Hid (∀ w', Qt.Keeps (W3) w' → w'.cell? ⟨w.heap.size, 0, none⟩ = some (.slice p0 n0 c0) ∧ w'.cell? ⟨bq, oq, none⟩ = some (.int .i64 y) ∧ w'.cell? ⟨w2.heap.size, 0, none⟩ = some (.int .i64 m) ∧ w'.cell? ⟨w2.heap.size, 1, none⟩ = some (.int .i64 xe1)) := Lib.hid fun w' hw => ⟨(DpStrand.bxc (HX.out.below (below_on HB3.out hw))).1, ((below_on HB3.out hw).cell (p := ⟨bq, oq + 0, none⟩) HQb.out).trans HQ.out, (DpRenewal.bxc (HR2.out.below hw)).1, (DpRenewal.bxc (HR2.out.below hw)).2.1⟩
    refine Qt.region (Qt.Keeps (W3)) (by kernel_rfl) (by kernel_rfl) (Qt.Keeps.drew _) ?_
    repeat (first
      | go_big_quiet_skip
      | (go_big_quiet_want
         refine Qt.val (v := ?_) (fun w hw => ?_) ?_
         rotate_left
         · obtain ⟨s0, q0, r0, r1⟩ := HC.out w hw
           go_simp
           rfl
         simp only [Act.put, List.setIfInBounds_toArray, List.set_cons_zero, List.set_cons_succ]
         go_big_quiet_on)
      | (go_big_quiet_want
         refine Qt.call (v := .int .i64 (Wl.leaf xe1 y (l0.take m) (0))) (f := 112) (args := #[.int .i64 xe1, .int .i64 y, .slice p0 m c0, .int .i64 (0)]) (fun w hw => ?_) (fun w hw => ?_) ?_
         · go_simp
         · refine (Wl.leaf_any xe1 y HY.out (l0.take m) _ _ _ (0) HPI.out _ (HT.out.below (below_on HB3.out hw)) HMT.out).mono ?_
           rintro e w1 ⟨rfl, hb1⟩
           skip
           exact ⟨rfl, hw.then hb1⟩
         simp only [Act.put, List.setIfInBounds_toArray, List.set_cons_zero, List.set_cons_succ]
         go_big_quiet_on))
    refine wpQuiet_nil ?_
    intro w5 hw5
    have HB5 := Lib.hid (below_on HBV.out (below_on HB3.out hw5))
    clear hw5
    go_wp2_with fail
    go_ret
    exact val_of (by rw [HS.out]; first | done | rfl) HB5.out
  | succ j =>
    obtain ⟨b', o', y_, cy_, ey, _, hby, hyx, hcy, hyr⟩ := H1.out.at_ (i := j) (by omega)
    simp only [Option.some.injEq, Addr.mk.injEq, and_true] at ey
    obtain ⟨rfl, rfl⟩ := ey
    obtain ⟨y0, y1, y2, l3, l4⟩ := y_
    have hwj := wts_at (E := DpRenewal.E) hyx
    rw [DpRenewal.wt_eq] at hwj
    obtain ⟨p3, n3, c3, p4, n4, c4, rfl, b0, b1, b2, h3, h4⟩ := DpRenewal.ex hyr
    have hn3 : n3 ≤ 1048576 := by have h := HM.out; have k := h3.len; omega
    have hn4 : n4 ≤ 1048576 := by have h := HM.out; have k := h4.len; omega
    have HPr : Hid (prev xe1 l1 (j + 1) = Dg.dig xe1 (Rw.ren (y0, y1, y2, l3, l4))) := Lib.hid (prev_succ hyx)
    have HPI := Lib.hid (prev_in xe1 l1 (j + 1))
    rw [HPr.out] at HS HPI
    have HCy := Lib.hid hcy
    have H3 := Lib.hid h3
    have H4 := Lib.hid h4
    have Gb0 := Lib.hid b0
    have Gb1 := Lib.hid b1
    have Gb2 := Lib.hid b2
    have jw : IntKind.i64.wrap (j : Int) = (j : Int) := IntWalk.i64_in _ (by omega)
    have j1 : (0 : Int) ≤ (j : Int) := by omega
    have j2 : (j : Int) < (d : Int) := by omega
    have j3 : (0 : Int) < (j : Int) + 1 := by omega
    have j4 : (j : Int) + 1 < (d : Int) := by omega
    clear hwj hyr hcy hyx h3 h4 b0 b1 b2
    have hu := HU0.out _ HB2.out
    obtain ⟨u0, u1, u2, u3, u4⟩ := hu
    obtain ⟨s0, s1⟩ := DpStrand.bxc (HX.out.below HB2.out)
    have HR2 := Lib.hid (Bx.new w2 103 #[.int .i64 m, .int .i64 xe1, .int .i64 xe2, .slice pe3 ne3 ce3, .slice pe4 ne4 ce4])
    have HB3 := Lib.hid (HB2.out.alloc HB2.out.size (.cells #[.int .i64 m, .int .i64 xe1, .int .i64 xe2, .slice pe3 ne3 ce3, .slice pe4 ne4 ce4] 103))
    go_wp2_with fail
    generalize (w2.alloc (.cells #[.int .i64 m, .int .i64 xe1, .int .i64 xe2, .slice pe3 ne3 ce3, .slice pe4 ne4 ce4] 103)) = W3 at HR2 HB3 ⊢
    clear u0 u1 u2 u3 u4 s0 s1
    have HC : Hid (∀ w', Qt.Keeps (W3) w' → w'.cell? ⟨w2.heap.size, 1, none⟩ = some (.int .i64 xe1) ∧ w'.cell? ⟨w.heap.size, 1, none⟩ = some (.slice (some ⟨b, o, none⟩) d c1) ∧ w'.cell? ⟨b, o + j * 5, none⟩ = some (.int .i64 y0) ∧ w'.cell? ⟨b, o + j * 5 + 1, none⟩ = some (.int .i64 y1) ∧ w'.cell? ⟨b, o + j * 5 + 2, none⟩ = some (.int .i64 y2) ∧ w'.cell? ⟨b, o + j * 5 + 3, none⟩ = some (.slice p3 n3 c3) ∧ w'.cell? ⟨b, o + j * 5 + 4, none⟩ = some (.slice p4 n4 c4)) := Lib.hid fun w' hw => let h := DpRenewal.at_cells (w := w') (b := b) (q := o + j * 5) fun t v hv => ((below_on HB3.out hw).cell (p := ⟨b, o + j * 5 + t, none⟩) Hbw.out).trans (HCy.out t v hv); ⟨(DpRenewal.bxc (HR2.out.below hw)).2.1, (DpStrand.bxc (HX.out.below (below_on HB3.out hw))).2, h.1, h.2.1, h.2.2.1, h.2.2.2.1, h.2.2.2.2⟩
    refine Qt.region (Qt.Keeps (W3)) (by kernel_rfl) (by kernel_rfl) (Qt.Keeps.drew _) ?_
    repeat (first
      | go_big_quiet_skip
      | (go_big_quiet_want
         refine Qt.val (v := ?_) (fun w hw => ?_) ?_
         rotate_left
         · obtain ⟨r1, s1, v0, v1, v2, v3, v4⟩ := HC.out w hw
           go_simp
           rfl
         simp only [Act.put, List.setIfInBounds_toArray, List.set_cons_zero, List.set_cons_succ]
         go_big_quiet_on)
      | (go_big_quiet_want
         refine Qt.call (v := .int .i64 (Dg.dig xe1 (Rw.ren (y0, y1, y2, l3, l4)))) (f := 111) (args := #[.int .i64 xe1, .agg #[.int .i64 y0, .int .i64 y1, .int .i64 y2, .slice p3 n3 c3, .slice p4 n4 c4]]) (fun w hw => ?_) (fun w hw => ?_) ?_
         · go_simp
         · refine (Rw.digest_any xe1 y0 y1 y2 l3 _ _ _ l4 _ _ _ _ Gb0.out Gb1.out Gb2.out (H3.out.below (below_on HB3.out hw)) (H4.out.below (below_on HB3.out hw)) hn3 hn4).mono ?_
           rintro e w1 ⟨rfl, hb1⟩
           skip
           exact ⟨rfl, hw.then hb1⟩
         simp only [Act.put, List.setIfInBounds_toArray, List.set_cons_zero, List.set_cons_succ]
         go_big_quiet_on))
    refine wpQuiet_nil ?_
    intro w4 hw4
    have HB4 := Lib.hid (below_on HB3.out hw4)
    have HR4 := Lib.hid (HR2.out.below hw4)
    clear hw4
    go_wp2_with fail
    have HC : Hid (∀ w', Qt.Keeps (w4) w' → w'.cell? ⟨w.heap.size, 0, none⟩ = some (.slice p0 n0 c0) ∧ w'.cell? ⟨bq, oq + (j + 1), none⟩ = some (.int .i64 y) ∧ w'.cell? ⟨w2.heap.size, 0, none⟩ = some (.int .i64 m) ∧ w'.cell? ⟨w2.heap.size, 1, none⟩ = some (.int .i64 xe1)) := Lib.hid fun w' hw => ⟨(DpStrand.bxc (HX.out.below (below_on HB4.out hw))).1, ((below_on HB4.out hw).cell (p := ⟨bq, oq + (j + 1), none⟩) HQb.out).trans HQ.out, (DpRenewal.bxc (HR4.out.below hw)).1, (DpRenewal.bxc (HR4.out.below hw)).2.1⟩
    refine Qt.region (Qt.Keeps (w4)) (by kernel_rfl) (by kernel_rfl) (Qt.Keeps.drew _) ?_
    repeat (first
      | go_big_quiet_skip
      | (go_big_quiet_want
         refine Qt.val (v := ?_) (fun w hw => ?_) ?_
         rotate_left
         · obtain ⟨s0, q0, r0, r1⟩ := HC.out w hw
           go_simp
           rfl
         simp only [Act.put, List.setIfInBounds_toArray, List.set_cons_zero, List.set_cons_succ]
         go_big_quiet_on)
      | (go_big_quiet_want
         refine Qt.call (v := .int .i64 (Wl.leaf xe1 y (l0.take m) (Dg.dig xe1 (Rw.ren (y0, y1, y2, l3, l4))))) (f := 112) (args := #[.int .i64 xe1, .int .i64 y, .slice p0 m c0, .int .i64 (Dg.dig xe1 (Rw.ren (y0, y1, y2, l3, l4)))]) (fun w hw => ?_) (fun w hw => ?_) ?_
         · go_simp
         · refine (Wl.leaf_any xe1 y HY.out (l0.take m) _ _ _ (Dg.dig xe1 (Rw.ren (y0, y1, y2, l3, l4))) HPI.out _ (HT.out.below (below_on HB4.out hw)) HMT.out).mono ?_
           rintro e w1 ⟨rfl, hb1⟩
           skip
           exact ⟨rfl, hw.then hb1⟩
         simp only [Act.put, List.setIfInBounds_toArray, List.set_cons_zero, List.set_cons_succ]
         go_big_quiet_on))
    refine wpQuiet_nil ?_
    intro w5 hw5
    have HB5 := Lib.hid (below_on HBV.out (below_on HB4.out hw5))
    clear hw5
    go_wp2_with fail
    go_ret
    exact val_of (by rw [HS.out]; first | done | rfl) HB5.out
set_option maxRecDepth 100000 in
set_option maxHeartbeats 8000000 in
theorem spec_leafAt_any (l0 : List DpPiece.A) (p0 : Option Addr) (n0 c0 : Nat) (l1 : List DpRenewal.A) (p1 : Option Addr) (n1 c1 : Nat) (docs : List Int) (q : Option Addr) (d e : Nat) (k : Int) {S0 S1 T : Nat → Prop} (w : World) (h0 : RdD DpPiece.E S0 w p0 n0 l0) (h1 : RdD DpRenewal.E S1 w p1 n1 l1) (hd : RdD int T w q d docs) (hc0 : n0 ≤ c0) (hm : DpStrand.E.wt (l0, l1) ≤ 1048576) : Calls Tryz.prog 70 #[.agg #[.slice p0 n0 c0, .slice p1 n1 c1], .slice q d e, .int .i64 k] w (Val (.int .i64 (leafAt l0 l1 docs k)) w) := by
  have hb := box1 w (.cells #[.slice p0 n0 c0, .slice p1 n1 c1] 44)
  have HBV := Lib.hid hb
  have HX := Lib.hid (Bx.new w 44 #[.slice p0 n0 c0, .slice p1 n1 c1])
  have H0 := Lib.hid (h0.below hb)
  have H1 := Lib.hid (h1.below hb)
  have HD := Lib.hid (hd.below hb)
  have L0 := Lib.hid h0.len
  have L1 := Lib.hid h1.len
  have LD := Lib.hid hd.len
  have hle0 := h0.le
  have hle1 := h1.le
  have hled := hd.le
  rw [DpStrand.wt_eq] at hm
  have HM := Lib.hid hm
  have hw1 : IntKind.i64.wrap ((n1 : Int) - 1) = (n1 : Int) - 1 := IntWalk.i64_in _ (by omega)
  clear hb h0 h1 hd hm
  by_cases hin : 0 ≤ k ∧ k ≤ (n1 : Int) - 1
  rotate_left
  · have HS : Hid (leafAt l0 l1 docs k = -1) := Lib.hid (la_out L1.out hin)
    have HR : Hid (decide (0 ≤ k ∧ k ≤ (n1 : Int) - 1) = false) := Lib.hid (decide_eq_false hin)
    clear hin
    go_enter Tryz.func70, Tryz.ntmps70
    go_wp2_with fail
    generalize (w.alloc (.cells #[.slice p0 n0 c0, .slice p1 n1 c1] 44)) = V at HBV HX H0 H1 HD ⊢
    have HC : Hid (∀ w', Qt.Keeps (V) w' → w'.cell? ⟨w.heap.size, 0, none⟩ = some (.slice p0 n0 c0) ∧ w'.cell? ⟨w.heap.size, 1, none⟩ = some (.slice p1 n1 c1)) := Lib.hid fun w' hw => DpStrand.bxc (HX.out.below hw)
    refine Qt.region (Qt.Keeps (V)) (by kernel_rfl) (by kernel_rfl) (Qt.Keeps.drew _) ?_
    repeat (first
      | go_big_quiet_skip
      | (go_big_quiet_want
         refine Qt.val (v := ?_) (fun w hw => ?_) ?_
         rotate_left
         · obtain ⟨s0, s1⟩ := HC.out w hw
           go_simp
           rfl
         simp only [Act.put, List.setIfInBounds_toArray, List.set_cons_zero, List.set_cons_succ]
         go_big_quiet_on)
      | (go_big_quiet_want
         refine Qt.call (v := .bool false) (f := 96) (args := #[.int .i64 k, .int .i64 0, .int .i64 ((n1 : Int) - 1)]) (fun w hw => ?_) (fun w hw => ?_) ?_
         · go_simp
         · refine (Ints.l1In_any k 0 _ _ HR.out _).mono ?_
           rintro e w1 ⟨rfl, rfl⟩
           exact ⟨rfl, hw⟩
         simp only [Act.put, List.setIfInBounds_toArray, List.set_cons_zero, List.set_cons_succ]
         go_big_quiet_on))
    refine wpQuiet_nil ?_
    intro w2 hw2
    have HB2 := Lib.hid (below_on HBV.out hw2)
    clear hw2
    go_wp2_with fail
    go_ret
    exact val_of (by rw [HS.out]; first | done | rfl) HB2.out
  obtain ⟨K, rfl⟩ := Int.eq_ofNat_of_zero_le hin.1
  have hlt : K < n1 := by omega
  have HR : Hid (decide (0 ≤ (K : Int) ∧ (K : Int) ≤ (n1 : Int) - 1) = true) := Lib.hid (decide_eq_true hin)
  clear hin
  obtain ⟨b, o, x_e, cs_e, rfl, _, hbwe, hxe, hce, hrde⟩ := H1.out.at_ hlt
  obtain ⟨xe0, xe1, xe2, le3, le4⟩ := x_e
  obtain ⟨pe3, ne3, ce3, pe4, ne4, ce4, rfl, be0, be1, be2, he3, he4⟩ := DpRenewal.ex hrde
  have HXe := Lib.hid hxe
  have HCe := Lib.hid hce
  have He3 := Lib.hid he3
  have He4 := Lib.hid he4
  have Gbe0 := Lib.hid be0
  have Gbe1 := Lib.hid be1
  have Gbe2 := Lib.hid be2
  have Hbw := Lib.hid hbwe
  clear hbwe hxe hce hrde he3 he4 be0 be1 be2
  have i1 : (0 : Int) ≤ (K : Int) := by omega
  have i2 : (K : Int) < (n1 : Int) := by omega
  by_cases hd : d = n1
  rotate_left
  · have HS : Hid (leafAt l0 l1 docs K = -1) := Lib.hid (la_docs HXe.out (by rw [LD.out, L1.out]; exact hd))
    have e1 : ((d : Int) != (n1 : Int)) = true := bne_iff_ne.2 (by omega)
    have e2 : ((d : Int) == (n1 : Int)) = false := beq_eq_false_iff_ne.2 (by omega)
    clear hd
    go_enter Tryz.func70, Tryz.ntmps70
    go_wp2_with fail
    generalize (w.alloc (.cells #[.slice p0 n0 c0, .slice (some ⟨b, o, none⟩) n1 c1] 44)) = V at HBV HX H0 H1 HD HCe He3 He4 Hbw ⊢
    have HC : Hid (∀ w', Qt.Keeps (V) w' → w'.cell? ⟨w.heap.size, 0, none⟩ = some (.slice p0 n0 c0) ∧ w'.cell? ⟨w.heap.size, 1, none⟩ = some (.slice (some ⟨b, o, none⟩) n1 c1)) := Lib.hid fun w' hw => DpStrand.bxc (HX.out.below hw)
    refine Qt.region (Qt.Keeps (V)) (by kernel_rfl) (by kernel_rfl) (Qt.Keeps.drew _) ?_
    repeat (first
      | go_big_quiet_skip
      | (go_big_quiet_want
         refine Qt.val (v := ?_) (fun w hw => ?_) ?_
         rotate_left
         · obtain ⟨s0, s1⟩ := HC.out w hw
           go_simp
           rfl
         simp only [Act.put, List.setIfInBounds_toArray, List.set_cons_zero, List.set_cons_succ]
         go_big_quiet_on)
      | (go_big_quiet_want
         refine Qt.call (v := .bool true) (f := 96) (args := #[.int .i64 K, .int .i64 0, .int .i64 ((n1 : Int) - 1)]) (fun w hw => ?_) (fun w hw => ?_) ?_
         · go_simp
         · refine (Ints.l1In_any K 0 _ _ HR.out _).mono ?_
           rintro e w1 ⟨rfl, rfl⟩
           exact ⟨rfl, hw⟩
         simp only [Act.put, List.setIfInBounds_toArray, List.set_cons_zero, List.set_cons_succ]
         go_big_quiet_on))
    refine wpQuiet_nil ?_
    intro w2 hw2
    have HB2 := Lib.hid (below_on HBV.out hw2)
    clear hw2
    go_wp2_with fail
    go_ret
    exact val_of (by rw [HS.out]; first | done | rfl) HB2.out
  subst hd
  have e1 : ((d : Int) != (d : Int)) = false := by simp
  have e2 : ((d : Int) == (d : Int)) = true := by simp
  have HU0 : Hid (∀ w', Below (w.alloc (.cells #[.slice p0 n0 c0, .slice (some ⟨b, o, none⟩) d c1] 44)).heap.size (w.alloc (.cells #[.slice p0 n0 c0, .slice (some ⟨b, o, none⟩) d c1] 44)) w' → w'.cell? ⟨b, o + K * 5, none⟩ = some (.int .i64 xe0) ∧ w'.cell? ⟨b, o + K * 5 + 1, none⟩ = some (.int .i64 xe1) ∧ w'.cell? ⟨b, o + K * 5 + 2, none⟩ = some (.int .i64 xe2) ∧ w'.cell? ⟨b, o + K * 5 + 3, none⟩ = some (.slice pe3 ne3 ce3) ∧ w'.cell? ⟨b, o + K * 5 + 4, none⟩ = some (.slice pe4 ne4 ce4)) := Lib.hid fun w' hw => DpRenewal.at_cells (q := o + K * 5) fun j v hv => (hw.cell (p := ⟨b, o + K * 5 + j, none⟩) Hbw.out).trans (HCe.out j v hv)
  by_cases hcnt : 0 ≤ xe0 ∧ xe0 ≤ (n0 : Int)
  rotate_left
  · have HS : Hid (leafAt l0 l1 docs K = -1) := Lib.hid (la_cnt HXe.out L0.out hcnt)
    have HC2 : Hid (decide (0 ≤ xe0 ∧ xe0 ≤ (n0 : Int)) = false) := Lib.hid (decide_eq_false hcnt)
    clear hcnt
    go_enter Tryz.func70, Tryz.ntmps70
    go_wp2_with fail
    generalize (w.alloc (.cells #[.slice p0 n0 c0, .slice (some ⟨b, o, none⟩) d c1] 44)) = V at HBV HX H0 H1 HD HCe He3 He4 Hbw HU0 ⊢
    have HC : Hid (∀ w', Qt.Keeps (V) w' → w'.cell? ⟨w.heap.size, 0, none⟩ = some (.slice p0 n0 c0) ∧ w'.cell? ⟨w.heap.size, 1, none⟩ = some (.slice (some ⟨b, o, none⟩) d c1) ∧ w'.cell? ⟨b, o + K * 5, none⟩ = some (.int .i64 xe0)) := Lib.hid fun w' hw => let h := DpStrand.bxc (HX.out.below hw); ⟨h.1, h.2, (HU0.out w' hw).1⟩
    refine Qt.region (Qt.Keeps (V)) (by kernel_rfl) (by kernel_rfl) (Qt.Keeps.drew _) ?_
    repeat (first
      | go_big_quiet_skip
      | (go_big_quiet_want
         refine Qt.val (v := ?_) (fun w hw => ?_) ?_
         rotate_left
         · obtain ⟨s0, s1, u0⟩ := HC.out w hw
           go_simp
           rfl
         simp only [Act.put, List.setIfInBounds_toArray, List.set_cons_zero, List.set_cons_succ]
         go_big_quiet_on)
      | (go_big_quiet_want
         refine Qt.call (v := .bool true) (f := 96) (args := #[.int .i64 K, .int .i64 0, .int .i64 ((d : Int) - 1)]) (fun w hw => ?_) (fun w hw => ?_) ?_
         · go_simp
         · refine (Ints.l1In_any K 0 _ _ HR.out _).mono ?_
           rintro e w1 ⟨rfl, rfl⟩
           exact ⟨rfl, hw⟩
         simp only [Act.put, List.setIfInBounds_toArray, List.set_cons_zero, List.set_cons_succ]
         go_big_quiet_on)
      | (go_big_quiet_want
         refine Qt.call (v := .bool false) (f := 96) (args := #[.int .i64 xe0, .int .i64 0, .int .i64 n0]) (fun w hw => ?_) (fun w hw => ?_) ?_
         · go_simp
         · refine (Ints.l1In_any xe0 0 _ _ HC2.out _).mono ?_
           rintro e w1 ⟨rfl, rfl⟩
           exact ⟨rfl, hw⟩
         simp only [Act.put, List.setIfInBounds_toArray, List.set_cons_zero, List.set_cons_succ]
         go_big_quiet_on))
    refine wpQuiet_nil ?_
    intro w2 hw2
    have HB2 := Lib.hid (below_on HBV.out hw2)
    clear hw2
    go_wp2_with fail
    go_ret
    exact val_of (by rw [HS.out]; first | done | rfl) HB2.out
  obtain ⟨m, rfl⟩ := Int.eq_ofNat_of_zero_le hcnt.1
  have hmn : m ≤ n0 := by omega
  have hmc : m ≤ c0 := by omega
  have HC2 : Hid (decide (0 ≤ (m : Int) ∧ (m : Int) ≤ (n0 : Int)) = true) := Lib.hid (decide_eq_true hcnt)
  clear hcnt
  obtain ⟨bq, oq, y, cq, rfl, _, hbq, hy, hcq, hyr⟩ := HD.out.at_ hlt
  obtain ⟨rfl, hyin⟩ := hyr
  have hq0 := hcq 0 _ rfl
  rw [show oq + K * int.C + 0 = oq + K from by show oq + K * 1 + 0 = _; omega] at hq0
  have HQ := Lib.hid hq0
  have HQb := Lib.hid hbq
  have HY := Lib.hid hyin
  have HS : Hid (leafAt l0 l1 docs K = Wl.leaf xe1 y (l0.take m) (prev xe1 l1 K)) := Lib.hid (la_at HXe.out (by rw [LD.out, L1.out]) hy (by rw [L0.out]; exact hmn))
  have HT := Lib.hid (takeR H0.out hmn)
  have HMT : Hid (m + wts DpPiece.E (l0.take m) ≤ 1048576) := Lib.hid (by have h := HM.out; have h2 := wts_le (E := DpPiece.E) l0 m; have h3 := L0.out; omega)
  have hps : (if c0 = 0 then p0 else Option.map (fun x => x.add 0) p0) = p0 := by cases p0 <;> simp [Addr.add]
  clear hq0 hcq hbq hyin hy
  go_enter Tryz.func70, Tryz.ntmps70
  go_wp2_with fail
  generalize (w.alloc (.cells #[.slice p0 n0 c0, .slice (some ⟨b, o, none⟩) d c1] 44)) = V at HBV HX H0 H1 HD HCe He3 He4 Hbw HU0 HT HQ HQb ⊢
  have HC : Hid (∀ w', Qt.Keeps (V) w' → w'.cell? ⟨w.heap.size, 0, none⟩ = some (.slice p0 n0 c0) ∧ w'.cell? ⟨w.heap.size, 1, none⟩ = some (.slice (some ⟨b, o, none⟩) d c1) ∧ w'.cell? ⟨b, o + K * 5, none⟩ = some (.int .i64 m)) := Lib.hid fun w' hw => let h := DpStrand.bxc (HX.out.below hw); ⟨h.1, h.2, (HU0.out w' hw).1⟩
  refine Qt.region (Qt.Keeps (V)) (by kernel_rfl) (by kernel_rfl) (Qt.Keeps.drew _) ?_
  repeat (first
    | go_big_quiet_skip
    | (go_big_quiet_want
       refine Qt.val (v := ?_) (fun w hw => ?_) ?_
       rotate_left
       · obtain ⟨s0, s1, u0⟩ := HC.out w hw
         go_simp
         rfl
       simp only [Act.put, List.setIfInBounds_toArray, List.set_cons_zero, List.set_cons_succ]
       go_big_quiet_on)
    | (go_big_quiet_want
       refine Qt.call (v := .bool true) (f := 96) (args := #[.int .i64 K, .int .i64 0, .int .i64 ((d : Int) - 1)]) (fun w hw => ?_) (fun w hw => ?_) ?_
       · go_simp
       · refine (Ints.l1In_any K 0 _ _ HR.out _).mono ?_
         rintro e w1 ⟨rfl, rfl⟩
         exact ⟨rfl, hw⟩
       simp only [Act.put, List.setIfInBounds_toArray, List.set_cons_zero, List.set_cons_succ]
       go_big_quiet_on)
    | (go_big_quiet_want
       refine Qt.call (v := .bool true) (f := 96) (args := #[.int .i64 m, .int .i64 0, .int .i64 n0]) (fun w hw => ?_) (fun w hw => ?_) ?_
       · go_simp
       · refine (Ints.l1In_any m 0 _ _ HC2.out _).mono ?_
         rintro e w1 ⟨rfl, rfl⟩
         exact ⟨rfl, hw⟩
       simp only [Act.put, List.setIfInBounds_toArray, List.set_cons_zero, List.set_cons_succ]
       go_big_quiet_on))
  refine wpQuiet_nil ?_
  intro w2 hw2
  have HB2 := Lib.hid hw2
  clear hw2
  cases K with
  | zero =>
    have HPI := Lib.hid (prev_in xe1 l1 0)
    replace HS : Hid (leafAt l0 l1 docs ((0 : Nat) : Int) = Wl.leaf xe1 y (l0.take m) 0) := HS
    have hu := HU0.out _ HB2.out
    obtain ⟨u0, u1, u2, u3, u4⟩ := hu
    simp only [Nat.zero_mul, Nat.add_zero] at u0 u1 u2 u3 u4
    obtain ⟨s0, s1⟩ := DpStrand.bxc (HX.out.below HB2.out)
    have HB3 := HB2
    go_wp2_with fail
    clear u0 u1 u2 u3 u4 s0 s1
    have HC : Hid (∀ w', Qt.Keeps (w2) w' → w'.cell? ⟨w.heap.size, 0, none⟩ = some (.slice p0 n0 c0) ∧ w'.cell? ⟨bq, oq, none⟩ = some (.int .i64 y) ∧ w'.cell? ⟨w.heap.size, 1, none⟩ = some (.slice (some ⟨b, o, none⟩) d c1) ∧ w'.cell? ⟨b, o, none⟩ = some (.int .i64 m)) := Lib.hid fun w' hw => ⟨(DpStrand.bxc (HX.out.below (below_on HB3.out hw))).1, ((below_on HB3.out hw).cell (p := ⟨bq, oq + 0, none⟩) HQb.out).trans HQ.out, (DpStrand.bxc (HX.out.below (below_on HB3.out hw))).2, by have h := (HU0.out _ (below_on HB3.out hw)).1; rw [Nat.zero_mul, Nat.add_zero] at h; exact h⟩
    refine Qt.region (Qt.Keeps (w2)) (by kernel_rfl) (by kernel_rfl) (Qt.Keeps.drew _) ?_
    repeat (first
      | go_big_quiet_skip
      | (go_big_quiet_want
         refine Qt.val (v := ?_) (fun w hw => ?_) ?_
         rotate_left
         · obtain ⟨s0, q0, s1, u0⟩ := HC.out w hw
           go_simp
           rfl
         simp only [Act.put, List.setIfInBounds_toArray, List.set_cons_zero, List.set_cons_succ]
         go_big_quiet_on)
      | (go_big_quiet_want
         refine Qt.call (v := .int .i64 (Wl.leaf xe1 y (l0.take m) (0))) (f := 101) (args := #[.int .i64 xe1, .int .i64 y, .slice p0 m c0, .int .i64 (0)]) (fun w hw => ?_) (fun w hw => ?_) ?_
         · go_simp
         · refine (Wl.spec_leaf_any xe1 Gbe1.out y HY.out (l0.take m) _ _ _ (0) HPI.out _ (HT.out.below (below_on HB3.out hw)) HMT.out).mono ?_
           rintro e w1 ⟨rfl, hb1⟩
           skip
           exact ⟨rfl, hw.then hb1⟩
         simp only [Act.put, List.setIfInBounds_toArray, List.set_cons_zero, List.set_cons_succ]
         go_big_quiet_on))
    refine wpQuiet_nil ?_
    intro w5 hw5
    have HB5 := Lib.hid (below_on HBV.out (below_on HB3.out hw5))
    clear hw5
    go_wp2_with fail
    go_ret
    exact val_of (by rw [HS.out]; first | done | rfl) HB5.out
  | succ j =>
    obtain ⟨b', o', y_, cy_, ey, _, hby, hyx, hcy, hyr⟩ := H1.out.at_ (i := j) (by omega)
    simp only [Option.some.injEq, Addr.mk.injEq, and_true] at ey
    obtain ⟨rfl, rfl⟩ := ey
    obtain ⟨y0, y1, y2, l3, l4⟩ := y_
    have hwj := wts_at (E := DpRenewal.E) hyx
    rw [DpRenewal.wt_eq] at hwj
    obtain ⟨p3, n3, c3, p4, n4, c4, rfl, b0, b1, b2, h3, h4⟩ := DpRenewal.ex hyr
    have hn3 : n3 ≤ 1048576 := by have h := HM.out; have k := h3.len; omega
    have hn4 : n4 ≤ 1048576 := by have h := HM.out; have k := h4.len; omega
    have HPr : Hid (prev xe1 l1 (j + 1) = Dg.dig xe1 (Rw.ren (y0, y1, y2, l3, l4))) := Lib.hid (prev_succ hyx)
    have HPI := Lib.hid (prev_in xe1 l1 (j + 1))
    rw [HPr.out] at HS HPI
    have HCy := Lib.hid hcy
    have H3 := Lib.hid h3
    have H4 := Lib.hid h4
    have Gb0 := Lib.hid b0
    have Gb1 := Lib.hid b1
    have Gb2 := Lib.hid b2
    have jw : IntKind.i64.wrap (j : Int) = (j : Int) := IntWalk.i64_in _ (by omega)
    have j1 : (0 : Int) ≤ (j : Int) := by omega
    have j2 : (j : Int) < (d : Int) := by omega
    have j3 : (0 : Int) < (j : Int) + 1 := by omega
    have j4 : (j : Int) + 1 < (d : Int) := by omega
    clear hwj hyr hcy hyx h3 h4 b0 b1 b2
    have hu := HU0.out _ HB2.out
    obtain ⟨u0, u1, u2, u3, u4⟩ := hu
    obtain ⟨s0, s1⟩ := DpStrand.bxc (HX.out.below HB2.out)
    have HB3 := HB2
    obtain ⟨v0, v1, v2, v3, v4⟩ := DpRenewal.at_cells (w := w2) (b := b) (q := o + j * 5) fun t v hv => (HB3.out.cell (p := ⟨b, o + j * 5 + t, none⟩) Hbw.out).trans (HCy.out t v hv)
    go_wp2_with fail
    clear u0 u1 u2 u3 u4 s0 s1
    refine (Rx.spec_digest_any xe1 Gbe1.out y0 y1 y2 l3 _ _ _ l4 _ _ _ _ Gb0.out Gb1.out Gb2.out (H3.out.below HB3.out) (H4.out.below HB3.out) hn3 hn4).mono ?_
    rintro e4 w4 ⟨rfl, hb4⟩
    have HB4 := Lib.hid (below_on HB3.out hb4)
    clear hb4 v0 v1 v2 v3 v4
    go_wp2_with fail
    have HC : Hid (∀ w', Qt.Keeps (w4) w' → w'.cell? ⟨w.heap.size, 0, none⟩ = some (.slice p0 n0 c0) ∧ w'.cell? ⟨bq, oq + (j + 1), none⟩ = some (.int .i64 y) ∧ w'.cell? ⟨w.heap.size, 1, none⟩ = some (.slice (some ⟨b, o, none⟩) d c1) ∧ w'.cell? ⟨b, o + (j + 1) * 5, none⟩ = some (.int .i64 m)) := Lib.hid fun w' hw => ⟨(DpStrand.bxc (HX.out.below (below_on HB4.out hw))).1, ((below_on HB4.out hw).cell (p := ⟨bq, oq + (j + 1), none⟩) HQb.out).trans HQ.out, (DpStrand.bxc (HX.out.below (below_on HB4.out hw))).2, (HU0.out _ (below_on HB4.out hw)).1⟩
    refine Qt.region (Qt.Keeps (w4)) (by kernel_rfl) (by kernel_rfl) (Qt.Keeps.drew _) ?_
    repeat (first
      | go_big_quiet_skip
      | (go_big_quiet_want
         refine Qt.val (v := ?_) (fun w hw => ?_) ?_
         rotate_left
         · obtain ⟨s0, q0, s1, u0⟩ := HC.out w hw
           go_simp
           rfl
         simp only [Act.put, List.setIfInBounds_toArray, List.set_cons_zero, List.set_cons_succ]
         go_big_quiet_on)
      | (go_big_quiet_want
         refine Qt.call (v := .int .i64 (Wl.leaf xe1 y (l0.take m) (Dg.dig xe1 (Rw.ren (y0, y1, y2, l3, l4))))) (f := 101) (args := #[.int .i64 xe1, .int .i64 y, .slice p0 m c0, .int .i64 (Dg.dig xe1 (Rw.ren (y0, y1, y2, l3, l4)))]) (fun w hw => ?_) (fun w hw => ?_) ?_
         · go_simp
         · refine (Wl.spec_leaf_any xe1 Gbe1.out y HY.out (l0.take m) _ _ _ (Dg.dig xe1 (Rw.ren (y0, y1, y2, l3, l4))) HPI.out _ (HT.out.below (below_on HB4.out hw)) HMT.out).mono ?_
           rintro e w1 ⟨rfl, hb1⟩
           skip
           exact ⟨rfl, hw.then hb1⟩
         simp only [Act.put, List.setIfInBounds_toArray, List.set_cons_zero, List.set_cons_succ]
         go_big_quiet_on))
    refine wpQuiet_nil ?_
    intro w5 hw5
    have HB5 := Lib.hid (below_on HBV.out (below_on HB4.out hw5))
    clear hw5
    go_wp2_with fail
    go_ret
    exact val_of (by rw [HS.out]; first | done | rfl) HB5.out
end Go.Proofs.YtfojilogcecphaaGreat.La
