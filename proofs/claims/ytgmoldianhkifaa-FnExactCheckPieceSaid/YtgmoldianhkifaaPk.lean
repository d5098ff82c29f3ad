/- Whether a piece was made from a statement, with the right mark; in the program and in the reference. -/
import Derived.Test.YtgmoldianhkifaaPoAll
import Derived.Test.YtgmoldianhkifaaPrs
import Derived.Test.YtgmoldianhkifaaKo
namespace Go.Proofs.Ytgmoldianhkifaa.Pk
open Go.ChangeShapes Go.WideShapes Go.ChangeAt Go.RowKit Sl St Ed Dz Kd Pr0 Fnd Kn
def made (k : Int) (zs : List Int) : Bool := !decide (tag k zs = 0)
def chkP (ks : List I5) (k : Int) (zs : List Int) (m : Int) : Bool := made k zs && checkM ks k zs m
theorem made_no {k : Int} {zs : List Int} (h : tag k zs = 0) : made k zs = false := by simp [made, h]
theorem made_yes {k : Int} {zs : List Int} (h : ¬ tag k zs = 0) : made k zs = true := by simp [made, h]
set_option maxRecDepth 100000 in
set_option maxHeartbeats 4000000 in
theorem check_any (ks : List I5) (pk : Option Addr) (nk ck : Nat) (k : Int) (p : Option Addr) (n c : Nat) (m : Int) (zs : List Int) (hkk : InI k) (hm : InI m) (hn : n ≤ 10000000) {S : Nat → Prop} (w : World) (hk : RdD (flat SlKey.E SlKey.InR) S w pk nk ks) (hr : Rd .i64 w p n zs) : Calls Try.prog 16 #[.slice pk nk ck, .agg #[.int .i64 k, .slice p n c, .int .i64 m]] w (Dz.Val (.bool (chkP ks k zs m)) w) := by
  have hb := box1 w (.cells #[.int .i64 k, .slice p n c, .int .i64 m] 31)
  have HBV := Lib.hid hb
  have HX := Lib.hid (Bx.new w 31 #[.int .i64 k, .slice p n c, .int .i64 m])
  have HR := Lib.hid ((RdD.ofInts (S := fun _ => True) hr (fun _ _ _ _ => trivial)).below hb)
  have HK := Lib.hid (hk.below hb)
  have HMI := Lib.hid hm
  have HKI := Lib.hid hkk
  clear hb hr hk hm hkk
  obtain ⟨v0, v1, v2⟩ := DpPiece.bxc HX.out
  rcases tag_cases k zs m with ⟨ht, hs⟩ | ⟨ht, hs⟩ | ⟨ht, hs⟩ | ⟨ht, hs⟩ | ⟨ht, hs⟩ | ⟨ht, hs⟩
  · have HS := Lib.hid hs
    have HC : Hid (chkP ks k zs m = false) := Lib.hid (by unfold chkP; rw [made_no ht]; rfl)
    clear hs ht
    go_enter Try.func16, Try.ntmps16
    go_wp2_with fail
    generalize (w.alloc (.cells #[.int .i64 k, .slice p n c, .int .i64 m] 31)) = V at HBV HX HR HK ⊢
    refine (Prs.stmt_any k _ _ _ m zs HMI.out V HR.out.ints).mono ?_
    rintro e w1 ⟨rfl, hb⟩
    rw [HS.out]
    have HB1 := Lib.hid hb
    clear hb v0 v1 v2
    obtain ⟨v0, v1, v2⟩ := DpPiece.bxc (HX.out.below HB1.out)
    have ha := nilNeq
    go_wp2_with fail
    go_ret
    exact Dz.val_of (by rw [HC.out]; first | done | rfl) (below_on HBV.out HB1.out)
  · have HS := Lib.hid hs
    have HC : Hid (chkP ks k zs m = checkM ks k zs m) := Lib.hid (by unfold chkP; rw [made_yes (by rw [ht]; decide)]; exact Bool.true_and _)
    clear hs ht
    go_enter Try.func16, Try.ntmps16
    go_wp2_with fail
    generalize (w.alloc (.cells #[.int .i64 k, .slice p n c, .int .i64 m] 31)) = V at HBV HX HR HK ⊢
    refine (Prs.stmt_any k _ _ _ m zs HMI.out V HR.out.ints).mono ?_
    rintro e w1 ⟨rfl, hb⟩
    rw [HS.out]
    have HB1 := Lib.hid hb
    clear hb v0 v1 v2
    obtain ⟨v0, v1, v2⟩ := DpPiece.bxc (HX.out.below HB1.out)
    have ha := ne_Cert (.agg #[.int .i64 (zs.getD 1 0), .int .i64 (zs.getD 2 0), .int .i64 (zs.getD 3 0), .int .i64 (zs.getD 4 0), .int .i64 (zs.getD 5 0), .int .i64 (zs.getD 6 0), .int .i64 m])
    generalize zs.getD 1 0 = z1 at ha ⊢
    generalize zs.getD 2 0 = z2 at ha ⊢
    generalize zs.getD 3 0 = z3 at ha ⊢
    generalize zs.getD 4 0 = z4 at ha ⊢
    generalize zs.getD 5 0 = z5 at ha ⊢
    generalize zs.getD 6 0 = z6 at ha ⊢
    go_wp2_with fail
    refine (Ko.checkMark_any pk nk ck ks HK.out.allP k HKI.out p n c zs m _ (HK.out.below HB1.out).rdS (HR.out.below HB1.out).ints hn).mono ?_
    rintro e w2 ⟨rfl, hb⟩
    have HB2 := Lib.hid (below_on HB1.out hb)
    clear hb v0 v1 v2
    go_wp2_with fail
    go_ret
    exact Dz.val_of (by rw [HC.out]; first | done | rfl) (below_on HBV.out HB2.out)
  · have HS := Lib.hid hs
    have HC : Hid (chkP ks k zs m = checkM ks k zs m) := Lib.hid (by unfold chkP; rw [made_yes (by rw [ht]; decide)]; exact Bool.true_and _)
    clear hs ht
    go_enter Try.func16, Try.ntmps16
    go_wp2_with fail
    generalize (w.alloc (.cells #[.int .i64 k, .slice p n c, .int .i64 m] 31)) = V at HBV HX HR HK ⊢
    refine (Prs.stmt_any k _ _ _ m zs HMI.out V HR.out.ints).mono ?_
    rintro e w1 ⟨rfl, hb⟩
    rw [HS.out]
    have HB1 := Lib.hid hb
    clear hb v0 v1 v2
    obtain ⟨v0, v1, v2⟩ := DpPiece.bxc (HX.out.below HB1.out)
    have ha := ne_Status (.agg #[.int .i64 (zs.getD 1 0), .int .i64 (zs.getD 2 0), .int .i64 (zs.getD 3 0), .int .i64 (zs.getD 4 0), .int .i64 m])
    generalize zs.getD 1 0 = z1 at ha ⊢
    generalize zs.getD 2 0 = z2 at ha ⊢
    generalize zs.getD 3 0 = z3 at ha ⊢
    generalize zs.getD 4 0 = z4 at ha ⊢
    go_wp2_with fail
    refine (Ko.checkMark_any pk nk ck ks HK.out.allP k HKI.out p n c zs m _ (HK.out.below HB1.out).rdS (HR.out.below HB1.out).ints hn).mono ?_
    rintro e w2 ⟨rfl, hb⟩
    have HB2 := Lib.hid (below_on HB1.out hb)
    clear hb v0 v1 v2
    go_wp2_with fail
    go_ret
    exact Dz.val_of (by rw [HC.out]; first | done | rfl) (below_on HBV.out HB2.out)
  · have HS := Lib.hid hs
    have HC : Hid (chkP ks k zs m = checkM ks k zs m) := Lib.hid (by unfold chkP; rw [made_yes (by rw [ht]; decide)]; exact Bool.true_and _)
    clear hs ht
    go_enter Try.func16, Try.ntmps16
    go_wp2_with fail
    generalize (w.alloc (.cells #[.int .i64 k, .slice p n c, .int .i64 m] 31)) = V at HBV HX HR HK ⊢
    refine (Prs.stmt_any k _ _ _ m zs HMI.out V HR.out.ints).mono ?_
    rintro e w1 ⟨rfl, hb⟩
    rw [HS.out]
    have HB1 := Lib.hid hb
    clear hb v0 v1 v2
    obtain ⟨v0, v1, v2⟩ := DpPiece.bxc (HX.out.below HB1.out)
    have ha := ne_Stamp (.agg #[.int .i64 (zs.getD 1 0), .int .i64 (zs.getD 2 0), .int .i64 (zs.getD 3 0), .int .i64 (zs.getD 4 0), .int .i64 m, .int .i64 k])
    generalize zs.getD 1 0 = z1 at ha ⊢
    generalize zs.getD 2 0 = z2 at ha ⊢
    generalize zs.getD 3 0 = z3 at ha ⊢
    generalize zs.getD 4 0 = z4 at ha ⊢
    go_wp2_with fail
    refine (Ko.checkMark_any pk nk ck ks HK.out.allP k HKI.out p n c zs m _ (HK.out.below HB1.out).rdS (HR.out.below HB1.out).ints hn).mono ?_
    rintro e w2 ⟨rfl, hb⟩
    have HB2 := Lib.hid (below_on HB1.out hb)
    clear hb v0 v1 v2
    go_wp2_with fail
    go_ret
    exact Dz.val_of (by rw [HC.out]; first | done | rfl) (below_on HBV.out HB2.out)
  · have HS := Lib.hid hs
    have HC : Hid (chkP ks k zs m = checkM ks k zs m) := Lib.hid (by unfold chkP; rw [made_yes (by rw [ht]; decide)]; exact Bool.true_and _)
    clear hs ht
    go_enter Try.func16, Try.ntmps16
    go_wp2_with fail
    generalize (w.alloc (.cells #[.int .i64 k, .slice p n c, .int .i64 m] 31)) = V at HBV HX HR HK ⊢
    refine (Prs.stmt_any k _ _ _ m zs HMI.out V HR.out.ints).mono ?_
    rintro e w1 ⟨rfl, hb⟩
    rw [HS.out]
    have HB1 := Lib.hid hb
    clear hb v0 v1 v2
    obtain ⟨v0, v1, v2⟩ := DpPiece.bxc (HX.out.below HB1.out)
    have ha := ne_Sign (.agg #[.int .i64 (zs.getD 1 0), .int .i64 (zs.getD 2 0), .int .i64 (zs.getD 3 0), .int .i64 (zs.getD 4 0), .int .i64 (zs.getD 5 0), .int .i64 (zs.getD 6 0), .int .i64 (zs.getD 7 0), .int .i64 (zs.getD 8 0), .int .i64 m])
    generalize zs.getD 1 0 = z1 at ha ⊢
    generalize zs.getD 2 0 = z2 at ha ⊢
    generalize zs.getD 3 0 = z3 at ha ⊢
    generalize zs.getD 4 0 = z4 at ha ⊢
    generalize zs.getD 5 0 = z5 at ha ⊢
    generalize zs.getD 6 0 = z6 at ha ⊢
    generalize zs.getD 7 0 = z7 at ha ⊢
    generalize zs.getD 8 0 = z8 at ha ⊢
    go_wp2_with fail
    refine (Ko.checkMark_any pk nk ck ks HK.out.allP k HKI.out p n c zs m _ (HK.out.below HB1.out).rdS (HR.out.below HB1.out).ints hn).mono ?_
    rintro e w2 ⟨rfl, hb⟩
    have HB2 := Lib.hid (below_on HB1.out hb)
    clear hb v0 v1 v2
    go_wp2_with fail
    go_ret
    exact Dz.val_of (by rw [HC.out]; first | done | rfl) (below_on HBV.out HB2.out)
  · have HS := Lib.hid hs
    have HC : Hid (chkP ks k zs m = checkM ks k zs m) := Lib.hid (by unfold chkP; rw [made_yes (by rw [ht]; decide)]; exact Bool.true_and _)
    clear hs ht
    go_enter Try.func16, Try.ntmps16
    go_wp2_with fail
    generalize (w.alloc (.cells #[.int .i64 k, .slice p n c, .int .i64 m] 31)) = V at HBV HX HR HK ⊢
    refine (Prs.stmt_any k _ _ _ m zs HMI.out V HR.out.ints).mono ?_
    rintro e w1 ⟨rfl, hb⟩
    rw [HS.out]
    have HB1 := Lib.hid hb
    clear hb v0 v1 v2
    obtain ⟨v0, v1, v2⟩ := DpPiece.bxc (HX.out.below HB1.out)
    have ha := ne_Mandate (.agg #[.int .i64 (zs.getD 1 0), .int .i64 (zs.getD 2 0), .int .i64 (zs.getD 3 0), .int .i64 (zs.getD 4 0), .int .i64 (zs.getD 5 0), .int .i64 m])
    generalize zs.getD 1 0 = z1 at ha ⊢
    generalize zs.getD 2 0 = z2 at ha ⊢
    generalize zs.getD 3 0 = z3 at ha ⊢
    generalize zs.getD 4 0 = z4 at ha ⊢
    generalize zs.getD 5 0 = z5 at ha ⊢
    go_wp2_with fail
    refine (Ko.checkMark_any pk nk ck ks HK.out.allP k HKI.out p n c zs m _ (HK.out.below HB1.out).rdS (HR.out.below HB1.out).ints hn).mono ?_
    rintro e w2 ⟨rfl, hb⟩
    have HB2 := Lib.hid (below_on HB1.out hb)
    clear hb v0 v1 v2
    go_wp2_with fail
    go_ret
    exact Dz.val_of (by rw [HC.out]; first | done | rfl) (below_on HBV.out HB2.out)
theorem out_Cert {k m : Int} {zs : List Int} {y : Int × Int × Int × Int × Int × Int × Int} {b : Bool} (h : PoCert.out k zs m = (y, b)) : b = decide (tag k zs = 101) := by
  unfold PoCert.out at h
  split at h <;> next g => cases h; simp [g]
theorem out_Status {k m : Int} {zs : List Int} {y : Int × Int × Int × Int × Int} {b : Bool} (h : PoStatus.out k zs m = (y, b)) : b = decide (tag k zs = 102) := by
  unfold PoStatus.out at h
  split at h <;> next g => cases h; simp [g]
theorem out_Stamp {k m : Int} {zs : List Int} {y : Int × Int × Int × Int × Int} {b : Bool} (h : PoStamp.out k zs m = (y, b)) : b = decide (tag k zs = 103) := by
  unfold PoStamp.out at h
  split at h <;> next g => cases h; simp [g]
theorem out_Sign {k m : Int} {zs : List Int} {y : Int × Int × Int × Int × Int × Int × Int × Int × Int} {b : Bool} (h : PoSign.out k zs m = (y, b)) : b = decide (tag k zs = 104) := by
  unfold PoSign.out at h
  split at h <;> next g => cases h; simp [g]
theorem out_Mandate {k m : Int} {zs : List Int} {y : Int × Int × Int × Int × Int × Int} {b : Bool} (h : PoMandate.out k zs m = (y, b)) : b = decide (tag k zs = 105) := by
  unfold PoMandate.out at h
  split at h <;> next g => cases h; simp [g]
theorem made_of {k : Int} {zs : List Int} {b1 b2 b3 b4 b5 : Bool} (h1 : b1 = decide (tag k zs = 101)) (h2 : b2 = decide (tag k zs = 102)) (h3 : b3 = decide (tag k zs = 103)) (h4 : b4 = decide (tag k zs = 104)) (h5 : b5 = decide (tag k zs = 105)) : made k zs = (b1 || (b2 || (b3 || (b4 || b5)))) := by
  subst h1 h2 h3 h4 h5
  unfold made
  rcases tag_cases k zs 0 with ⟨h, _⟩ | ⟨h, _⟩ | ⟨h, _⟩ | ⟨h, _⟩ | ⟨h, _⟩ | ⟨h, _⟩ <;> rw [h] <;> rfl
set_option maxRecDepth 100000 in
set_option maxHeartbeats 8000000 in
theorem shape_any (k : Int) (p : Option Addr) (n c : Nat) (m : Int) (zs : List Int) (w : World) (hr : Rd .i64 w p n zs) : Calls Try.prog 50 #[.agg #[.int .i64 k, .slice p n c, .int .i64 m]] w (Dz.Val (.bool (made k zs)) w) := by
  have hb := box1 w (.cells #[.int .i64 k, .slice p n c, .int .i64 m] 31)
  have HB0 := Lib.hid hb
  have HX := Lib.hid (Bx.new w 31 #[.int .i64 k, .slice p n c, .int .i64 m])
  have HR := Lib.hid ((RdD.ofInts (S := fun _ => True) hr (fun _ _ _ _ => trivial)).below hb)
  clear hb hr
  rcases h1 : PoCert.out k zs m with ⟨⟨y0_0, y0_1, y0_2, y0_3, y0_4, y0_5, y0_6⟩, b1⟩
  rcases h2 : PoStatus.out k zs m with ⟨⟨y1_0, y1_1, y1_2, y1_3, y1_4⟩, b2⟩
  rcases h3 : PoStamp.out k zs m with ⟨⟨y2_0, y2_1, y2_2, y2_3, y2_4⟩, b3⟩
  rcases h4 : PoSign.out k zs m with ⟨⟨y3_0, y3_1, y3_2, y3_3, y3_4, y3_5, y3_6, y3_7, y3_8⟩, b4⟩
  rcases h5 : PoMandate.out k zs m with ⟨⟨y4_0, y4_1, y4_2, y4_3, y4_4, y4_5⟩, b5⟩
  have HV := Lib.hid (made_of (out_Cert h1) (out_Status h2) (out_Stamp h3) (out_Sign h4) (out_Mandate h5))
  have H1 := Lib.hid h1
  have H2 := Lib.hid h2
  have H3 := Lib.hid h3
  have H4 := Lib.hid h4
  have H5 := Lib.hid h5
  clear h1 h2 h3 h4 h5
  obtain ⟨v0, v1, v2⟩ := DpPiece.bxc HX.out
  go_enter Try.func50, Try.ntmps50
  go_wp2_with fail
  generalize (w.alloc (.cells #[.int .i64 k, .slice p n c, .int .i64 m] 31)) = W0 at HB0 HX HR ⊢
  refine (PoCert.spec_any k _ _ _ m zs y0_0 y0_1 y0_2 y0_3 y0_4 y0_5 y0_6 b1 H1.out _ HR.out.ints).mono ?_
  rintro e w1 ⟨rfl, hb⟩
  have hbz := box1 w1 (.cells #[.int .i64 y0_0, .int .i64 y0_1, .int .i64 y0_2, .int .i64 y0_3, .int .i64 y0_4, .int .i64 y0_5, .int .i64 y0_6] 37)
  replace HX := Lib.hid ((HX.out.below hb).below hbz)
  replace HR := Lib.hid ((HR.out.below hb).below hbz)
  have HB1 := Lib.hid (below_on (below_on HB0.out hb) hbz)
  clear hb hbz v0 v1 v2 HB0 H1
  obtain ⟨v0, v1, v2⟩ := DpPiece.bxc HX.out
  go_wp2_with fail
  generalize (w1.alloc (.cells #[.int .i64 y0_0, .int .i64 y0_1, .int .i64 y0_2, .int .i64 y0_3, .int .i64 y0_4, .int .i64 y0_5, .int .i64 y0_6] 37)) = W1 at HX HR HB1 ⊢
  refine (PoStatus.spec_any k _ _ _ m zs y1_0 y1_1 y1_2 y1_3 y1_4 b2 H2.out _ HR.out.ints).mono ?_
  rintro e w2 ⟨rfl, hb⟩
  have hbz := box1 w2 (.cells #[.int .i64 y1_0, .int .i64 y1_1, .int .i64 y1_2, .int .i64 y1_3, .int .i64 y1_4] 43)
  replace HX := Lib.hid ((HX.out.below hb).below hbz)
  replace HR := Lib.hid ((HR.out.below hb).below hbz)
  have HB2 := Lib.hid (below_on (below_on HB1.out hb) hbz)
  clear hb hbz v0 v1 v2 HB1 H2
  obtain ⟨v0, v1, v2⟩ := DpPiece.bxc HX.out
  go_wp2_with fail
  generalize (w2.alloc (.cells #[.int .i64 y1_0, .int .i64 y1_1, .int .i64 y1_2, .int .i64 y1_3, .int .i64 y1_4] 43)) = W2 at HX HR HB2 ⊢
  refine (PoStamp.spec_any k _ _ _ m zs y2_0 y2_1 y2_2 y2_3 y2_4 b3 H3.out _ HR.out.ints).mono ?_
  rintro e w3 ⟨rfl, hb⟩
  have hbz := box1 w3 (.cells #[.int .i64 y2_0, .int .i64 y2_1, .int .i64 y2_2, .int .i64 y2_3, .int .i64 y2_4] 48)
  replace HX := Lib.hid ((HX.out.below hb).below hbz)
  replace HR := Lib.hid ((HR.out.below hb).below hbz)
  have HB3 := Lib.hid (below_on (below_on HB2.out hb) hbz)
  clear hb hbz v0 v1 v2 HB2 H3
  obtain ⟨v0, v1, v2⟩ := DpPiece.bxc HX.out
  go_wp2_with fail
  generalize (w3.alloc (.cells #[.int .i64 y2_0, .int .i64 y2_1, .int .i64 y2_2, .int .i64 y2_3, .int .i64 y2_4] 48)) = W3 at HX HR HB3 ⊢
  refine (PoSign.spec_any k _ _ _ m zs y3_0 y3_1 y3_2 y3_3 y3_4 y3_5 y3_6 y3_7 y3_8 b4 H4.out _ HR.out.ints).mono ?_
  rintro e w4 ⟨rfl, hb⟩
  have hbz := box1 w4 (.cells #[.int .i64 y3_0, .int .i64 y3_1, .int .i64 y3_2, .int .i64 y3_3, .int .i64 y3_4, .int .i64 y3_5, .int .i64 y3_6, .int .i64 y3_7, .int .i64 y3_8] 53)
  replace HX := Lib.hid ((HX.out.below hb).below hbz)
  replace HR := Lib.hid ((HR.out.below hb).below hbz)
  have HB4 := Lib.hid (below_on (below_on HB3.out hb) hbz)
  clear hb hbz v0 v1 v2 HB3 H4
  obtain ⟨v0, v1, v2⟩ := DpPiece.bxc HX.out
  go_wp2_with fail
  generalize (w4.alloc (.cells #[.int .i64 y3_0, .int .i64 y3_1, .int .i64 y3_2, .int .i64 y3_3, .int .i64 y3_4, .int .i64 y3_5, .int .i64 y3_6, .int .i64 y3_7, .int .i64 y3_8] 53)) = W4 at HX HR HB4 ⊢
  refine (PoMandate.spec_any k _ _ _ m zs y4_0 y4_1 y4_2 y4_3 y4_4 y4_5 b5 H5.out _ HR.out.ints).mono ?_
  rintro e w5 ⟨rfl, hb⟩
  have HB5 := Lib.hid (below_on (below_on HB4.out hb) (box1 w5 (.cells #[.int .i64 y4_0, .int .i64 y4_1, .int .i64 y4_2, .int .i64 y4_3, .int .i64 y4_4, .int .i64 y4_5] 58)))
  clear hb v0 v1 v2 HB4 H5
  cases b1
  rotate_left
  · go_wp2_with fail
    go_ret
    exact Dz.val_of (by rw [HV.out]; first | done | rfl) HB5.out
  cases b2
  rotate_left
  · go_wp2_with fail
    go_ret
    exact Dz.val_of (by rw [HV.out]; first | done | rfl) HB5.out
  cases b3
  rotate_left
  · go_wp2_with fail
    go_ret
    exact Dz.val_of (by rw [HV.out]; first | done | rfl) HB5.out
  cases b4
  rotate_left
  · go_wp2_with fail
    go_ret
    exact Dz.val_of (by rw [HV.out]; first | done | rfl) HB5.out
  cases b5
  all_goals
    go_wp2_with fail
    go_ret
    exact Dz.val_of (by rw [HV.out]; first | done | rfl) HB5.out
set_option maxRecDepth 100000 in
set_option maxHeartbeats 4000000 in
theorem spec_check_any (ks : List I5) (pk : Option Addr) (nk ck : Nat) (k : Int) (p : Option Addr) (n c : Nat) (m : Int) (zs : List Int) (hn : n ≤ 10000000) {S : Nat → Prop} (w : World) (hk : RdD (flat SlKey.E SlKey.InR) S w pk nk ks) (hr : Rd .i64 w p n zs) : Calls Try.prog 13 #[.slice pk nk ck, .agg #[.int .i64 k, .slice p n c, .int .i64 m]] w (Dz.Val (.bool (chkP ks k zs m)) w) := by
  have hb := box1 w (.cells #[.int .i64 k, .slice p n c, .int .i64 m] 31)
  have HBV := Lib.hid hb
  have HX := Lib.hid (Bx.new w 31 #[.int .i64 k, .slice p n c, .int .i64 m])
  have HR := Lib.hid ((RdD.ofInts (S := fun _ => True) hr (fun _ _ _ _ => trivial)).below hb)
  have HK := Lib.hid (hk.below hb)
  have HC : Hid (chkP ks k zs m = (made k zs && checkM ks k zs m)) := Lib.hid rfl
  clear hb hr hk
  obtain ⟨v0, v1, v2⟩ := DpPiece.bxc HX.out
  obtain ⟨β, hβ⟩ : ∃ z, made k zs = z := ⟨_, rfl⟩
  rw [hβ] at HC
  have HM := Lib.hid hβ
  clear hβ
  go_enter Try.func13, Try.ntmps13
  go_wp2_with fail
  generalize (w.alloc (.cells #[.int .i64 k, .slice p n c, .int .i64 m] 31)) = V at HBV HX HR HK ⊢
  refine (shape_any k _ _ _ m zs V HR.out.ints).mono ?_
  rintro e w1 ⟨rfl, hb⟩
  rw [HM.out]
  have HB1 := Lib.hid hb
  clear hb v0 v1 v2
  obtain ⟨v0, v1, v2⟩ := DpPiece.bxc (HX.out.below HB1.out)
  cases β
  · go_wp2_with fail
    go_ret
    exact Dz.val_of (by rw [HC.out]; first | done | rfl) (below_on HBV.out HB1.out)
  · go_wp2_with fail
    refine (Ko.spec_checkMark_any pk nk ck ks HK.out.allP k p n c zs m _ (HK.out.below HB1.out).rdS (HR.out.below HB1.out).ints hn).mono ?_
    rintro e w2 ⟨rfl, hb⟩
    have HB2 := Lib.hid (below_on HB1.out hb)
    clear hb v0 v1 v2
    go_wp2_with fail
    go_ret
    exact Dz.val_of (by rw [HC.out]; first | done | rfl) (below_on HBV.out HB2.out)
end Go.Proofs.Ytgmoldianhkifaa.Pk
