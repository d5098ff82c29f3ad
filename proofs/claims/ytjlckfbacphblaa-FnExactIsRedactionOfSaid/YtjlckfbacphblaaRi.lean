/- Contracts of IsRedacted; in the program and in the reference. -/
import Derived.Test.YtjlckfbacphblaaRp
import Derived.Test.YtjlckfbacphblaaDs
import Derived.Test.YtjlckfbacphblaaDe
namespace Go.Proofs.Ytjlckfbacphblaa.Ri
open Go.ChangeShapes Go.WideShapes Go.ChangeAt Go.RowKit Sl St Tn Dm Dk SlRed Rk Rm Rp Ints

theorem Turn.grown {S : Nat → Prop} {w w1 w2 : World} {r : Option Nat} (h : Turn S w w1) (hg : w1.grownBy w2 r) (hr : ∀ g, r = some g → w.heap.size ≤ g) : Turn S w w2 :=
  ⟨hg.os.trans h.os, hg.tape.trans h.tape, hg.output.trans h.output, Nat.le_trans h.size hg.size, fun i hi hs => (hg.block i (Nat.lt_of_lt_of_le hi h.size) (fun e => by have := hr i e.symm; omega)).trans (h.block i hi hs)⟩
open Classical in
noncomputable def tb (D : Rc) (k : Nat) : Bool := decide ((D.ds.getD k []).length = D.ms.length ∧ D.ps.getD k ByteArray.empty = ByteArray.empty ∧ D.ss.getD k 0 = 0)
theorem tb_yes {D : Rc} {k : Nat} (h : (D.ds.getD k []).length = D.ms.length ∧ D.ps.getD k ByteArray.empty = ByteArray.empty ∧ D.ss.getD k 0 = 0) : tb D k = true := by unfold tb; exact decide_eq_true h
theorem tb_no {D : Rc} {k : Nat} (h : ¬ ((D.ds.getD k []).length = D.ms.length ∧ D.ps.getD k ByteArray.empty = ByteArray.empty ∧ D.ss.getD k 0 = 0)) : tb D k = false := by unfold tb; exact decide_eq_false h
theorem tb_says {D : Rc} {k : Nat} (h : tb D k = true) : (D.ds.getD k []).length = D.ms.length ∧ D.ps.getD k ByteArray.empty = ByteArray.empty ∧ D.ss.getD k 0 = 0 := by unfold tb at h; exact of_decide_eq_true h
theorem tb_says_no {D : Rc} {k : Nat} (h : tb D k = false) : ¬ ((D.ds.getD k []).length = D.ms.length ∧ D.ps.getD k ByteArray.empty = ByteArray.empty ∧ D.ss.getD k 0 = 0) := by unfold tb at h; exact of_decide_eq_false h
theorem str_some {x : ByteArray} (h : ¬ x = ByteArray.empty) : (x.toList == ([] : List UInt8)) = false ∧ x.toList.isEmpty = false := by
  have h1 := De.str_ne (x := x) (y := ByteArray.empty) h
  have h2 : ByteArray.empty.toList = [] := by rw [ByteArray.toList_eq]; rfl
  rw [h2] at h1
  exact ⟨h1, by cases hx : x.toList with
    | nil => rw [hx] at h1; simp at h1
    | cons a l => rfl⟩
set_option maxRecDepth 100000 in
set_option maxHeartbeats 4000000 in
theorem tells_any (a : Ra) (D : Rc) (k : Nat) (w : World) (h : RdR w a D) (hk1 : k < a.psn) (hk2 : k < a.ssn) (hk3 : k < a.dsn) : Calls Try.prog 73 #[a.val, .int .i64 k] w (Tells (tb D k) w) := by
  obtain ⟨t, msp, msn, msc, shp, shn, shc, psp, psn, psc, ssp, ssn, ssc, dsp, dsn, dsc⟩ := a
  obtain ⟨dt, dms, dsh, dps, dss, dds⟩ := D
  obtain ⟨e0, r1, r2, r3, r4, r5⟩ := h
  dsimp only at e0 r1 r2 r3 r4 r5 hk1 hk2 hk3
  subst e0
  have HX := Lib.hid (Bx.new w 43 #[.int .i64 t, .slice msp msn msc, .slice shp shn shc, .slice psp psn psc, .slice ssp ssn ssc, .slice dsp dsn dsc])
  have HB := Lib.hid (box1 w (.cells #[.int .i64 t, .slice msp msn msc, .slice shp shn shc, .slice psp psn psc, .slice ssp ssn ssc, .slice dsp dsn dsc] 43))
  obtain ⟨b3, o3, rfl, hb3, hc3⟩ := SlStr.rd_at (r3.below HB.out) hk1
  obtain ⟨b4, o4, rfl, hb4, hc4⟩ := (r4.below HB.out).at_ hk2
  obtain ⟨b5, o5, pk, nk, ck, rfl, hb5, hc5, hrk⟩ := (r5.below HB.out).at_ hk3
  have HK := Lib.hid hrk.len
  have hnk := hrk.le
  have HM := Lib.hid r1.len
  have hml := r1.le
  have hle3 := r3.le
  have hle4 := r4.le
  have hle5 := r5.le
  clear r1 r2 r3 r4 r5 hrk
  generalize hx : dps.getD k ByteArray.empty = x at hc3
  generalize hy : dss.getD k 0 = y at hc4
  have HXk := Lib.hid hx
  have HYk := Lib.hid hy
  clear hx hy
  obtain ⟨x0, x1, x2, x3, x4, x5⟩ := bx6 HX.out
  have i1 : (0 : Int) ≤ (k : Int) := by omega
  have i2 : (k : Int) < (psn : Int) := by omega
  have i3 : (k : Int) < (ssn : Int) := by omega
  have i4 : (k : Int) < (dsn : Int) := by omega
  simp only [Ra.val, Ra.cells]
  by_cases g1 : x = ByteArray.empty
  rotate_left
  · have HT : Hid (tb ⟨t, dms, dsh, dps, dss, dds⟩ k = false) := Lib.hid (tb_no fun h => g1 (by rw [← HXk.out]; exact h.2.1))
    obtain ⟨q1, q2⟩ := str_some g1
    go_enter Try.func73, Try.ntmps73
    go_wp2_with fail
    go_quiet (fail)
    go_wp2_with fail
    go_ret
    exact tells (by rw [HT.out]) (below_drewN HB.out _)
  subst g1
  by_cases g2 : y = 0
  rotate_left
  · have HT : Hid (tb ⟨t, dms, dsh, dps, dss, dds⟩ k = false) := Lib.hid (tb_no fun h => g2 (by rw [← HYk.out]; exact h.2.2))
    have q1 : decide (y = 0) = false := decide_eq_false g2
    go_enter Try.func73, Try.ntmps73
    go_wp2_with fail
    go_quiet (fail)
    go_wp2_with fail
    go_ret
    exact tells (by rw [HT.out]) (below_drewN HB.out _)
  subst g2
  by_cases g3 : nk = msn
  rotate_left
  · have HT : Hid (tb ⟨t, dms, dsh, dps, dss, dds⟩ k = false) := Lib.hid (tb_no fun h => g3 (by rw [← HK.out, ← HM.out]; exact h.1))
    have q1 : decide ((nk : Int) = (msn : Int)) = false := decide_eq_false (by omega)
    go_enter Try.func73, Try.ntmps73
    go_wp2_with fail
    go_quiet (fail)
    go_wp2_with fail
    go_ret
    exact tells (by rw [HT.out]; exact beq_eq_false_iff_ne.2 (by omega)) (below_drewN HB.out _)
  subst g3
  have HT : Hid (tb ⟨t, dms, dsh, dps, dss, dds⟩ k = true) := Lib.hid (tb_yes ⟨by show (dds.getD k []).length = dms.length; rw [HK.out, HM.out], HXk.out, HYk.out⟩)
  go_enter Try.func73, Try.ntmps73
  go_wp2_with fail
  go_quiet (fail)
  go_wp2_with fail
  go_ret
  exact tells (by rw [HT.out]) (below_drewN HB.out _)

/-- after k parts and j salts that are shown, the document of what is shown in the block doc -/
def IWay (D : Rc) (doc k j : Nat) (p : Option Addr) (n c : Nat) (q : Option Addr) (m d : Nat) (w2 wr : World) : Prop :=
  Bx wr doc 27 #[.int .i64 D.t, .slice p n c, .slice q m d] ∧ OwS SlStr.E 9 wr w2.heap.size wr.heap.size p n c (showP D k) ∧ Ow .i64 3 wr w2.heap.size wr.heap.size q m d (showS D j) ∧ Turn (fun i => i = doc) w2 wr ∧ doc < w2.heap.size
section
variable {D : Rc} {doc k j n c m d : Nat} {p q : Option Addr} {w2 wr w3 w4 : World}
theorem IWay.below (h : IWay D doc k j p n c q m d w2 wr) (hb : Below wr.heap.size wr w3) : IWay D doc k j p n c q m d w2 w3 :=
  ⟨h.1.below hb, (h.2.1.below hb).wide (Nat.le_refl _) hb.size (Nat.le_refl _), (h.2.2.1.below hb).wide (Nat.le_refl _) hb.size (Nat.le_refl _), h.2.2.2.1.then hb, h.2.2.2.2⟩
theorem IWay.nextP (h : IWay D doc k j p n c q m d w2 wr) {p4 : Option Addr} {n4 c4 : Nat} (ho : OwS SlStr.E 9 w4 w2.heap.size w4.heap.size p4 n4 c4 (showP D (k + 1))) (hg : wr.grownBy w4 (Value.slice p n c).ownBlock) :
    IWay D doc (k + 1) j p4 n4 c4 q m d w2 (w4.setCell ⟨doc, 1, none⟩ (.slice p4 n4 c4)) := by
  obtain ⟨a1, a2, a3, a4, a5⟩ := h
  have hf := a2.far
  have hs : (w4.setCell ⟨doc, 1, none⟩ (.slice p4 n4 c4)).heap.size = w4.heap.size := by simp [World.setCell]
  have ht : Turn (fun i => i = doc) w4 (w4.setCell ⟨doc, 1, none⟩ (.slice p4 n4 c4)) := (Turn.refl (fun i => i = doc) w4).set rfl _
  have hX := (a1.grown hg (fun e => by have := hf _ e.symm; omega)).set_ 1 (.slice p4 n4 c4)
  have hq := owI_turn a3 (Turn.of_grown hg) fun g e1 e2 => type_ne (own_type a3.1 e1) (own_type a2.1 e2) (by decide)
  exact ⟨hX, (owS_far ho ht fun g e => by left; omega).wide (Nat.le_refl _) (by omega) (Nat.le_refl _), (owI_far hq ht fun g e => by left; omega).wide (Nat.le_refl _) (by have := hg.size; omega) (Nat.le_refl _), (Turn.grown a4 hg fun g e => (hf g e).1).trans ht, a5⟩
theorem IWay.nextS (h : IWay D doc k j p n c q m d w2 wr) {q4 : Option Addr} {m4 d4 : Nat} (ho : Ow .i64 3 w4 w2.heap.size w4.heap.size q4 m4 d4 (showS D (j + 1))) (hg : wr.grownBy w4 (Value.slice q m d).ownBlock) :
    IWay D doc k (j + 1) p n c q4 m4 d4 w2 (w4.setCell ⟨doc, 2, none⟩ (.slice q4 m4 d4)) := by
  obtain ⟨a1, a2, a3, a4, a5⟩ := h
  have hf := a3.far
  have hs : (w4.setCell ⟨doc, 2, none⟩ (.slice q4 m4 d4)).heap.size = w4.heap.size := by simp [World.setCell]
  have ht : Turn (fun i => i = doc) w4 (w4.setCell ⟨doc, 2, none⟩ (.slice q4 m4 d4)) := (Turn.refl (fun i => i = doc) w4).set rfl _
  have hX := (a1.grown hg (fun e => by have := hf _ e.symm; omega)).set_ 2 (.slice q4 m4 d4)
  have hq := owS_turn a2 (Turn.of_grown hg) fun g e1 e2 => type_ne (own_type a2.1 e1) (own_type a3.1 e2) (by decide)
  exact ⟨hX, (owS_far hq ht fun g e => by left; omega).wide (Nat.le_refl _) (by have := hg.size; omega) (Nat.le_refl _), (owI_far ho ht fun g e => by left; omega).wide (Nat.le_refl _) (by omega) (Nat.le_refl _), (Turn.grown a4 hg fun g e => (hf g e).1).trans ht, a5⟩
end
theorem stay_rdP {B : Nat} {w w' : World} {p : Option Addr} {n doc : Nat} {D : Rc} (h : Stay B (fun w => RdP w p n D) w) (ht : Turn (fun i => i = doc) w w') (hd : doc < B) : RdP w' p n D := h w' (ht.mono fun i e => by omega)
set_option maxRecDepth 100000 in
set_option maxHeartbeats 8000000 in
theorem isRed_any (a : Ra) (D : Rc) (w : World) (h : RdR w a D) (hf : size D ≤ 1048576) : Calls Try.prog 25 #[a.val] w (Tells (redOk D) w) := by
  obtain ⟨i0, hi, hz0, hz1, hz2⟩ := info_parts SlStr.info
  obtain ⟨j0, ji, jz0, jz1, jz2⟩ := info_parts SlI.info
  obtain ⟨t, msp, msn, msc, shp, shn, shc, psp, psn, psc, ssp, ssn, ssc, dsp, dsn, dsc⟩ := a
  obtain ⟨dt, dms, dsh, dps, dss, dds⟩ := D
  have H0 := Lib.hid h
  have ht : t = dt := h.1
  subst ht
  have HN := Lib.hid (show dsh.length = shn from h.2.2.1.len)
  have HNp := Lib.hid (show dps.length = psn from h.2.2.2.1.len)
  have HNs := Lib.hid (show dss.length = ssn from h.2.2.2.2.1.len)
  have HNd := Lib.hid (show dds.length = dsn from h.2.2.2.2.2.len)
  have HNm := Lib.hid (show dms.length = msn from h.2.1.len)
  have hle : shn ≤ 1048576 := shn_le h hf
  have hle3 : psn ≤ 9223372036854775807 := h.2.2.2.1.le
  have hle4 : ssn ≤ 9223372036854775807 := h.2.2.2.2.1.le
  have hle5 : dsn ≤ 9223372036854775807 := h.2.2.2.2.2.le
  clear h hf
  have HX := Lib.hid (Bx.new w 43 #[.int .i64 t, .slice msp msn msc, .slice shp shn shc, .slice psp psn psc, .slice ssp ssn ssc, .slice dsp dsn dsc])
  have HB := Lib.hid (box1 w (.cells #[.int .i64 t, .slice msp msn msc, .slice shp shn shc, .slice psp psn psc, .slice ssp ssn ssc, .slice dsp dsn dsc] 43))
  obtain ⟨x0, x1, x2, x3, x4, x5⟩ := bx6 HX.out
  simp only [Ra.val, Ra.cells]
  rcases h1 : inB (shn : Int) 1 6 with _ | _
  · have H1 := Lib.hid h1
    have HO := Lib.hid (redOk_head (D := ⟨t, dms, dsh, dps, dss, dds⟩) (headOk_n (by show inB (dsh.length : Int) 1 6 = false; rw [HN.out]; exact h1)))
    clear h1
    go_enter Try.func25, Try.ntmps25
    go_wp2_with fail
    refine (inRange_any _ _ _ _ H1.out _).mono ?_
    rintro e w1 ⟨rfl, rfl⟩
    go_wp2_with fail
    go_ret
    exact tells (by rw [HO.out]) HB.out
  have H1 := Lib.hid h1
  clear h1
  by_cases h2 : psn = shn
  rotate_left
  · have HO := Lib.hid (redOk_head (D := ⟨t, dms, dsh, dps, dss, dds⟩) (headOk_p (by show ¬ dps.length = dsh.length; rw [HN.out, HNp.out]; exact h2)))
    have h2' : ¬ ((psn : Int) = (shn : Int)) := by omega
    go_enter Try.func25, Try.ntmps25
    go_wp2_with fail
    refine (inRange_any _ _ _ _ H1.out _).mono ?_
    rintro e w1 ⟨rfl, rfl⟩
    go_wp2_with fail
    go_ret
    exact tells (by rw [HO.out]) HB.out
  subst h2
  by_cases h3 : ssn = psn
  rotate_left
  · have HO := Lib.hid (redOk_head (D := ⟨t, dms, dsh, dps, dss, dds⟩) (headOk_s (by show ¬ dss.length = dsh.length; rw [HN.out, HNs.out]; exact h3)))
    have h3' : ¬ ((ssn : Int) = (psn : Int)) := by omega
    go_enter Try.func25, Try.ntmps25
    go_wp2_with fail
    refine (inRange_any _ _ _ _ H1.out _).mono ?_
    rintro e w1 ⟨rfl, rfl⟩
    go_wp2_with fail
    go_ret
    exact tells (by rw [HO.out]) HB.out
  subst h3
  by_cases h4 : dsn = ssn
  rotate_left
  · have HO := Lib.hid (redOk_head (D := ⟨t, dms, dsh, dps, dss, dds⟩) (headOk_d (by show ¬ dds.length = dsh.length; rw [HN.out, HNd.out]; exact h4)))
    have h4' : ¬ ((dsn : Int) = (ssn : Int)) := by omega
    go_enter Try.func25, Try.ntmps25
    go_wp2_with fail
    refine (inRange_any _ _ _ _ H1.out _).mono ?_
    rintro e w1 ⟨rfl, rfl⟩
    go_wp2_with fail
    go_ret
    exact tells (by rw [HO.out]) HB.out
  subst h4
  have hn6 : dsn ≤ 6 := by have := H1.out; unfold inB at this; have := of_decide_eq_true this; omega
  have HH := Lib.hid (headOk_yes (D := ⟨t, dms, dsh, dps, dss, dds⟩) (by show inB (dsh.length : Int) 1 6 = true; rw [HN.out]; exact H1.out) (by show dps.length = dsh.length; rw [HN.out, HNp.out]) (by show dss.length = dsh.length; rw [HN.out, HNs.out]) (by show dds.length = dsh.length; rw [HN.out, HNd.out]))
  go_enter Try.func25, Try.ntmps25
  go_wp2_with fail
  refine (inRange_any _ _ _ _ H1.out _).mono ?_
  rintro e w1 ⟨rfl, rfl⟩
  go_wp2_with fail
  have hD0 := Bx.new (w.alloc (.cells #[.int .i64 t, .slice msp msn msc, .slice shp dsn shc, .slice psp dsn psc, .slice ssp dsn ssc, .slice dsp dsn dsc] 43)) 27 #[.int .i64 t, .slice none 0 0, .slice none 0 0]
  rw [World.size_alloc] at hD0
  have hX0 := HX.out.alloc (.cells #[.int .i64 t, .slice none 0 0, .slice none 0 0] 27)
  have hB0 := HB.out.alloc (by simp) (.cells #[.int .i64 t, .slice none 0 0, .slice none 0 0] 27)
  have hs0 : ((w.alloc (.cells #[.int .i64 t, .slice msp msn msc, .slice shp dsn shc, .slice psp dsn psc, .slice ssp dsn ssc, .slice dsp dsn dsc] 43)).alloc (.cells #[.int .i64 t, .slice none 0 0, .slice none 0 0] 27)).heap.size = w.heap.size + 2 := by simp
  clear x0 x1 x2 x3 x4 x5 HX HB
  generalize (w.alloc (.cells #[.int .i64 t, .slice msp msn msc, .slice shp dsn shc, .slice psp dsn psc, .slice ssp dsn ssc, .slice dsp dsn dsc] 43)).alloc (.cells #[.int .i64 t, .slice none 0 0, .slice none 0 0] 27) = V0 at hD0 hX0 hB0 hs0 ⊢
  refine (parts_any ⟨t, msp, msn, msc, shp, dsn, shc, psp, dsn, psc, ssp, dsn, ssc, dsp, dsn, dsc⟩ ⟨t, dms, dsh, dps, dss, dds⟩ _ (H0.out.below hB0) hle rfl rfl).mono ?_
  rintro e w2 ⟨pq, cq, rfl, hst, hb⟩
  have hs2 := hb.size
  rw [hs0] at hst hs2
  have HX2 := Lib.hid (hX0.below hb)
  have HD2 := Lib.hid (hD0.below hb)
  have HB2 := Lib.hid (below_on hB0 hb)
  have HS := Lib.hid hst
  have HM : Hid (IWay ⟨t, dms, dsh, dps, dss, dds⟩ (w.heap.size + 1) 0 0 none 0 0 none 0 0 w2 w2) := Lib.hid ⟨HD2.out, OwS.nil_ _ _ _ _ (Nat.le_refl _), Ow.nil_ _ _ _ _ (Nat.le_refl _), Turn.refl _ _, by omega⟩
  clear hD0 hX0 hB0 hs0 hst hb
  go_wp2_with fail
  go_loopw [40] (fun i wr => ∃ (k n c m d : Nat) (p q : Option Addr), k ≤ dsn ∧ i = .int .i64 k ∧ Hid (IWay ⟨t, dms, dsh, dps, dss, dds⟩ (w.heap.size + 1) k k p n c q m d w2 wr) ∧ Hid (∀ i, i < k → rowOk ⟨t, dms, dsh, dps, dss, dds⟩ i)) (fun i _ => dsn - (intOf i).toNat)
  case atStart => exact ⟨0, 0, 0, 0, 0, none, none, Nat.zero_le _, rfl, HM, Lib.hid fun i h => by omega⟩
  case round =>
    obtain ⟨k, n, c, m, d, p, q, hk, rfl, HK, HR⟩ := hrel
    have hdoc : w.heap.size + 1 < w2.heap.size := by omega
    have HBr : Hid (Below w.heap.size w wr) := Lib.hid (Turn.on HB2.out (Nat.le_refl _) HK.out.2.2.2.1 (fun i e => by omega))
    have HXr := Lib.hid (bx_turn HX2.out HK.out.2.2.2.1 (show ¬ (w.heap.size = w.heap.size + 1) by omega))
    have hsw := HK.out.2.2.2.1.size
    by_cases hlt : k < dsn
    · obtain ⟨b, o, qv, rfl, hbq, hc, hone⟩ := (stay_rdP HS.out HK.out.2.2.2.1 (by omega)).at_ hlt
      rcases hone with ⟨hsf, rfl⟩ | ⟨hst, g, rfl, hbx⟩
      · rcases htb : tb ⟨t, dms, dsh, dps, dss, dds⟩ k with _ | _
        · have HT := Lib.hid htb
          have HO := Lib.hid (redOk_row (D := ⟨t, dms, dsh, dps, dss, dds⟩) (k := k) (by show k < dsh.length; rw [HN.out]; exact hlt) (fun h2 => by
            rcases h2 with ⟨h3, _⟩ | ⟨_, h3⟩
            · rw [hsf] at h3; cases h3
            · exact tb_says_no htb h3))
          clear htb hsf
          obtain ⟨x0, x1, x2, x3, x4, x5⟩ := bx6 HXr.out
          go_wp2_with fail
          refine (tells_any ⟨t, msp, msn, msc, shp, dsn, shc, psp, dsn, psc, ssp, dsn, ssc, dsp, dsn, dsc⟩ ⟨t, dms, dsh, dps, dss, dds⟩ k _ (H0.out.below HBr.out) hlt hlt hlt).mono ?_
          rintro e w3 ⟨rfl, hb3⟩
          rw [HT.out]
          have HB3 := Lib.hid (below_on HBr.out hb3)
          clear hb3 x0 x1 x2 x3 x4 x5 hc
          go_wp2_with fail
          go_ret
          exact tells (by rw [HO.out]) HB3.out
        · have HT := Lib.hid htb
          have HR2 : Hid (∀ i, i < k + 1 → rowOk ⟨t, dms, dsh, dps, dss, dds⟩ i) := Lib.hid fun i hi => by
            rcases Nat.lt_succ_iff_lt_or_eq.1 hi with h | rfl
            · exact HR.out i h
            · exact Or.inr ⟨hsf, tb_says htb⟩
          have HE1 := Lib.hid (showP_hid (D := ⟨t, dms, dsh, dps, dss, dds⟩) hsf)
          have HE2 := Lib.hid (showS_hid (D := ⟨t, dms, dsh, dps, dss, dds⟩) hsf)
          clear htb hsf
          obtain ⟨x0, x1, x2, x3, x4, x5⟩ := bx6 HXr.out
          go_wp2_with fail
          refine (tells_any ⟨t, msp, msn, msc, shp, dsn, shc, psp, dsn, psc, ssp, dsn, ssc, dsp, dsn, dsc⟩ ⟨t, dms, dsh, dps, dss, dds⟩ k _ (H0.out.below HBr.out) hlt hlt hlt).mono ?_
          rintro e w3 ⟨rfl, hb3⟩
          rw [HT.out]
          have HK3 : Hid (IWay ⟨t, dms, dsh, dps, dss, dds⟩ (w.heap.size + 1) (k + 1) (k + 1) p n c q m d w2 w3) := Lib.hid (by
            have h := HK.out.below hb3
            unfold IWay at h ⊢
            rw [HE1.out, HE2.out]
            exact h)
          clear hb3 x0 x1 x2 x3 x4 x5 hc
          go_wp2_with fail
          go_roundw
          case rel => exact ⟨k + 1, _, _, _, _, _, _, by omega, by go_num, HK3, HR2⟩
          case measure => simp [intOf]; omega
      · obtain ⟨b5, o5, pk, nk, ck, rfl, hb5, hc5, hrk⟩ := (H0.out.2.2.2.2.2.below HBr.out).at_ hlt
        have hnk : nk ≤ 9223372036854775807 := hrk.le
        have hlk : (dds.getD k []).length = nk := hrk.len
        obtain ⟨x0, x1, x2, x3, x4, x5⟩ := bx6 HXr.out
        by_cases hz : nk = 0
        rotate_left
        · have HO := Lib.hid (redOk_row (D := ⟨t, dms, dsh, dps, dss, dds⟩) (k := k) (by show k < dsh.length; rw [HN.out]; exact hlt) (fun h2 => by
            rcases h2 with ⟨_, h3⟩ | ⟨h3, _⟩
            · exact hz (by rw [← hlk]; exact h3)
            · rw [hst] at h3; cases h3))
          have hz' : 0 < nk := by omega
          clear hst hlk hrk hz
          go_wp2_with fail
          go_ret
          exact tells (by rw [HO.out]) HBr.out
        · have HR2 : Hid (∀ i, i < k + 1 → rowOk ⟨t, dms, dsh, dps, dss, dds⟩ i) := Lib.hid fun i hi => by
            rcases Nat.lt_succ_iff_lt_or_eq.1 hi with h | rfl
            · exact HR.out i h
            · exact Or.inl ⟨hst, by rw [← hz]; exact hlk⟩
          have HE1 := Lib.hid (showP_show (D := ⟨t, dms, dsh, dps, dss, dds⟩) hst)
          have HE2 := Lib.hid (showS_show (D := ⟨t, dms, dsh, dps, dss, dds⟩) hst)
          subst hz
          clear hst hlk hrk
          have HY := Lib.hid hbx
          have y0 : wr.cell? ⟨g, 0, none⟩ = some (.string (dps.getD k ByteArray.empty)) := hbx.cell rfl
          have HIn : Hid (inK .i64 (dss.getD k 0)) := Lib.hid (allK_getD H0.out.2.2.2.2.1.all k)
          clear hbx
          have HE1' : Hid (showP ⟨t, dms, dsh, dps, dss, dds⟩ (k + 1) = showP ⟨t, dms, dsh, dps, dss, dds⟩ k ++ [dps.getD k ByteArray.empty]) := Lib.hid HE1.out
          have HE2' : Hid (showS ⟨t, dms, dsh, dps, dss, dds⟩ (k + 1) = showS ⟨t, dms, dsh, dps, dss, dds⟩ k ++ [dss.getD k 0]) := Lib.hid HE2.out
          clear HE1 HE2
          have HY1 : Hid (Bx wr g 91 #[.string (dps.getD k ByteArray.empty), .int .i64 (dss.getD k 0)]) := Lib.hid HY.out
          clear HY
          generalize dps.getD k ByteArray.empty = x at y0 HE1' HY1
          generalize dss.getD k 0 = y at HIn HE2' HY1
          have hne : w.heap.size + 1 < wr.heap.size := by omega
          have hn : n ≤ k := by rw [← HK.out.2.1.len]; exact showP_len _ _
          have hm : m ≤ k := by rw [← HK.out.2.2.1.len, showS_len]; exact showP_len _ _
          obtain ⟨z0, z1, z2⟩ := bx3 HK.out.1
          have f1 := HK.out.1.free 1
          have z1a := (HK.out.1.alloc (.cells #[.string x] 9)).drew1.cell (j := 1) rfl
          go_wp2_with fail
          go_region_law (first
            | (refine step_appS rfl (.tmp 59) (.tmp 64) 24 rfl i0 _ 16 Try.underlying24 hi hz0 hz1 hz2 rfl rfl (HK.out.2.1.alloc _).drew1 (some ⟨wr.heap.size, 0, none⟩) 1 1 [x] rfl (lit_own SlStr.E 9 wr 0 [x] #[.string (x)] 1 rfl rfl (by unfold maxLen; omega) (Nat.zero_le _)).rd.drew1 (by first | (simp; done) | (simp; omega)) (by omega) (by omega) ?_; intro p4 c4 w4 how4 hg4; have HO4 := Lib.hid how4; have hgb := Dt.grown_pre (below_drewN (box1 wr (.cells #[.string (x)] 9)) 1) hg4; have HG4 := Lib.hid hgb; have HX4 := Lib.hid (HK.out.1.grown hgb (fun e => by have := HK.out.2.1.far _ e.symm; omega)); obtain ⟨v0, v1, v2⟩ := bx3 HX4.out; have v3 := HX4.out.free 1; clear how4 hg4 hgb))
          all_goals
            have hN := HK.out.nextP (by rw [HE1'.out]; exact HO4.out) HG4.out
            have hgd : g ≠ w.heap.size + 1 := fun e => by
              subst e
              exact type_ne ⟨_, HK.out.1⟩ ⟨_, HY1.out⟩ (by decide)
            have hb4 := (HY1.out.grown HG4.out (fun e => type_ne (own_type HK.out.2.1.1 e.symm) ⟨_, HY1.out⟩ (by decide))).far (q := ⟨w.heap.size + 1, 1, none⟩) hgd (.slice p4 (n + 1) c4)
            have hs4 : wr.heap.size ≤ (w4.setCell ⟨w.heap.size + 1, 1, none⟩ (.slice p4 (n + 1) c4)).heap.size := by have := HG4.out.size; simpa [World.setCell] using this
            clear v0 v1 v2 v3 HX4 HG4 HO4 z0 z1 z2 f1 z1a x0 x1 x2 x3 x4 x5 hc hc5
            obtain ⟨W4, hW4⟩ : ∃ W4, w4.setCell ⟨w.heap.size + 1, 1, none⟩ (.slice p4 (n + 1) c4) = W4 := ⟨_, rfl⟩
            rw [hW4] at hN hb4 hs4 ⊢
            clear hW4
            have HK4 := Lib.hid hN
            have HY4 := Lib.hid hb4
            clear hN hb4
            have y4 := HY4.out.cell (j := 1) rfl
            obtain ⟨z0, z1, z2⟩ := bx3 HK4.out.1
            have f2 := HK4.out.1.free 2
            have z2a := (HK4.out.1.alloc (.cells #[.int .i64 y] 3)).drew1.cell (j := 2) rfl
            go_wp2_with fail
            go_region_law (first
              | (refine Ds.step_appI rfl (.tmp 68) (.tmp 73) 25 rfl j0 _ 8 Try.underlying25 ji jz0 jz1 jz2 rfl rfl ((HK4.out.2.2.1.alloc _).drewN 1) W4.heap.size 1 y rfl (by go_simp) HIn.out (by first | (simp; done) | (simp; omega)) (by omega) (by omega) ?_; intro p5 c5 w5 how5 hg5; have HO5 := Lib.hid how5; have hgb := Dt.grown_pre (below_drewN (box1 W4 (.cells #[.int .i64 y] 3)) 1) hg5; have HG5 := Lib.hid hgb; have HX5 := Lib.hid (HK4.out.1.grown hgb (fun e => by have := HK4.out.2.2.1.far _ e.symm; omega)); obtain ⟨v0, v1, v2⟩ := bx3 HX5.out; have v3 := HX5.out.free 2; clear how5 hg5 hgb))
            all_goals
              have HN5 := Lib.hid (HK4.out.nextS (by rw [HE2'.out]; exact HO5.out) HG5.out)
              clear v0 v1 v2 v3 z0 z1 z2 f2 z2a y4
              go_wp2_with fail
              go_roundw
              case rel => exact ⟨k + 1, _, _, _, _, _, _, by omega, by go_num, HN5, HR2⟩
              case measure => simp [intOf]; omega
    · obtain rfl : k = dsn := by omega
      have HAll := Lib.hid (redOk_all (D := ⟨t, dms, dsh, dps, dss, dds⟩) HH.out (fun i hi => HR.out i (by rw [← HN.out]; exact hi)))
      have HTl : Hid (tailOk ⟨t, dms, dsh, dps, dss, dds⟩ = (docOk (t, showP ⟨t, dms, dsh, dps, dss, dds⟩ k, showS ⟨t, dms, dsh, dps, dss, dds⟩ k) || (decide ((showP ⟨t, dms, dsh, dps, dss, dds⟩ k).length = 0) && inB t 0 999))) := Lib.hid (by unfold tailOk; dsimp only; rw [HN.out])
      have HLn := Lib.hid HK.out.2.1.len
      obtain ⟨x0, x1, x2, x3, x4, x5⟩ := bx6 HXr.out
      obtain ⟨z0, z1, z2⟩ := bx3 HK.out.1
      rcases hα : docOk (t, showP ⟨t, dms, dsh, dps, dss, dds⟩ k, showS ⟨t, dms, dsh, dps, dss, dds⟩ k) with _ | _
      · have HA := Lib.hid hα
        clear hα
        go_wp2_with fail
        refine (isDoc_any t _ _ _ _ _ _ (showP ⟨t, dms, dsh, dps, dss, dds⟩ k) (showS ⟨t, dms, dsh, dps, dss, dds⟩ k) _ HK.out.2.1.rd HK.out.2.2.1.rd).mono ?_
        rintro e w3 ⟨rfl, hb3⟩
        rw [HA.out]
        have HB3 := Lib.hid (below_on HBr.out hb3)
        have HX3 := Lib.hid (HXr.out.below hb3)
        have HD3 := Lib.hid (HK.out.1.below hb3)
        clear x0 x1 x2 x3 x4 x5 z0 z1 z2 hb3
        obtain ⟨x0, x1, x2, x3, x4, x5⟩ := bx6 HX3.out
        obtain ⟨z0, z1, z2⟩ := bx3 HD3.out
        by_cases hn0 : n = 0
        · subst hn0
          go_wp2_with fail
          refine (title_any t _).mono ?_
          rintro e w4 ⟨rfl, rfl⟩
          rcases hβ : inB t 0 999 with _ | _
          all_goals
            have HBt := Lib.hid hβ
            clear hβ
            go_wp2_with fail
            go_ret
            exact tells (by rw [HAll.out, HTl.out, HA.out, HLn.out, HBt.out]; rfl) HB3.out
        · have hn0' : ¬ ((n : Int) = 0) := by omega
          go_wp2_with fail
          go_ret
          exact tells (by rw [HAll.out, HTl.out, HA.out, HLn.out, decide_eq_false hn0]; rfl) HB3.out
      · have HA := Lib.hid hα
        clear hα
        go_wp2_with fail
        refine (isDoc_any t _ _ _ _ _ _ (showP ⟨t, dms, dsh, dps, dss, dds⟩ k) (showS ⟨t, dms, dsh, dps, dss, dds⟩ k) _ HK.out.2.1.rd HK.out.2.2.1.rd).mono ?_
        rintro e w3 ⟨rfl, hb3⟩
        rw [HA.out]
        have HB3 := Lib.hid (below_on HBr.out hb3)
        clear x0 x1 x2 x3 x4 x5 z0 z1 z2 hb3
        go_wp2_with fail
        go_ret
        exact tells (by rw [HAll.out, HTl.out, HA.out]; rfl) HB3.out
end Go.Proofs.Ytjlckfbacphblaa.Ri
