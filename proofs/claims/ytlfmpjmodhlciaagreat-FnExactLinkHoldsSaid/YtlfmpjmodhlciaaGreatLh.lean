/- LinkHolds: whether what came after a renewal came in time: in the program and in the reference. -/
import Derived.Test.YtlfmpjmodhlciaaGreatFmA
import Derived.Test.YtlfmpjmodhlciaaGreatDpFrame
import Derived.Test.YtlfmpjmodhlciaaGreatDpStrand
import Derived.Test.YtlfmpjmodhlciaaGreatQt
import Derived.Test.YtlfmpjmodhlciaaGreatRsp
import Derived.Outline
namespace Go.Proofs.YtlfmpjmodhlciaaGreat.Lh
open Go.ChangeShapes Go.WideShapes Go.ChangeAt Go.RowKit Sl St Ed Dz Fnd Fm0
/-- when a renewal breaks -/
def brkR (ks : List I5) (us : List I3) (ms : List Mn.Me) (r : DpRenewal.A) : Int := firstM ks us (Mn.brk ms) r.2.1 r.2.2.2.2
/-- the span of the times of a renewal, and whether it has one -/
def spanR (us : List I3) (L : Int) (r : DpRenewal.A) : (Int × Int) × Bool := Rsp.rsp us r.2.2.2.2 L
def lh (ks : List I5) (us : List I3) (ms : List Mn.Me) (L now : Int) (ch : List DpRenewal.A) (k : Nat) : Bool := match ch[k]? with
  | none => false
  | some r => match ch[k + 1]? with
    | none => decide (now < brkR ks us ms r)
    | some r2 => (spanR us L r2).2 && decide ((spanR us L r2).1.2 < brkR ks us ms r)
/-- of any index -/
def lhI (ks : List I5) (us : List I3) (ms : List Mn.Me) (L now : Int) (ch : List DpRenewal.A) (k : Int) : Bool := if 0 ≤ k then lh ks us ms L now ch k.toNat else false
section
variable {ks : List I5} {us : List I3} {ms : List Mn.Me} {L now : Int} {ch : List DpRenewal.A}
theorem lhI_out {k : Int} (h : ¬ (0 ≤ k ∧ k < (ch.length : Int))) : lhI ks us ms L now ch k = false := by
  unfold lhI
  by_cases h0 : 0 ≤ k
  · rw [if_pos h0]
    unfold lh
    rw [List.getElem?_eq_none (by omega)]
  · rw [if_neg h0]
theorem lhI_nat (k : Nat) : lhI ks us ms L now ch (k : Int) = lh ks us ms L now ch k := by
  unfold lhI
  rw [if_pos (by omega), Int.toNat_natCast]
theorem lh_last {k : Nat} {r : DpRenewal.A} (h : ch[k]? = some r) (hk : k + 1 = ch.length) : lh ks us ms L now ch k = decide (now < brkR ks us ms r) := by
  unfold lh
  rw [h, List.getElem?_eq_none (by omega)]
theorem lh_at {k : Nat} {r r2 : DpRenewal.A} (h : ch[k]? = some r) (h2 : ch[k + 1]? = some r2) : lh ks us ms L now ch k = ((spanR us L r2).2 && decide ((spanR us L r2).1.2 < brkR ks us ms r)) := by
  unfold lh
  rw [h, h2]
end
theorem keep1 {w : World} {b q : Nat} {l : List Value} {x : Obj} (hb : b < w.heap.size) (h : ∀ j v, l[j]? = some v → w.cell? ⟨b, q + j, none⟩ = some v) : ∀ j v, l[j]? = some v → (w.alloc x).cell? ⟨b, q + j, none⟩ = some v := fun j v hv => ((box1 w x).cell (p := ⟨b, q + j, none⟩) hb).trans (h j v hv)
theorem far5 {w : World} {g b q r : Nat} {c1 c3 s1 d0 d1 d2 d3 d4 : Value} {u v : Value} (h0 : g ≠ r) (h1 : g + 1 ≠ r) (hb : b ≠ r) (h : (w.cell? ⟨g, 1, none⟩ = some c1 ∧ w.cell? ⟨g, 3, none⟩ = some c3 ∧ w.cell? ⟨g + 1, 1, none⟩ = some s1) ∧ w.cell? ⟨b, q, none⟩ = some d0 ∧ w.cell? ⟨b, q + 1, none⟩ = some d1 ∧ w.cell? ⟨b, q + 2, none⟩ = some d2 ∧ w.cell? ⟨b, q + 3, none⟩ = some d3 ∧ w.cell? ⟨b, q + 4, none⟩ = some d4) : (((w.setCell ⟨r, 0, none⟩ u).setCell ⟨r, 1, none⟩ v).cell? ⟨g, 1, none⟩ = some c1 ∧ ((w.setCell ⟨r, 0, none⟩ u).setCell ⟨r, 1, none⟩ v).cell? ⟨g, 3, none⟩ = some c3 ∧ ((w.setCell ⟨r, 0, none⟩ u).setCell ⟨r, 1, none⟩ v).cell? ⟨g + 1, 1, none⟩ = some s1) ∧ ((w.setCell ⟨r, 0, none⟩ u).setCell ⟨r, 1, none⟩ v).cell? ⟨b, q, none⟩ = some d0 ∧ ((w.setCell ⟨r, 0, none⟩ u).setCell ⟨r, 1, none⟩ v).cell? ⟨b, q + 1, none⟩ = some d1 ∧ ((w.setCell ⟨r, 0, none⟩ u).setCell ⟨r, 1, none⟩ v).cell? ⟨b, q + 2, none⟩ = some d2 ∧ ((w.setCell ⟨r, 0, none⟩ u).setCell ⟨r, 1, none⟩ v).cell? ⟨b, q + 3, none⟩ = some d3 ∧ ((w.setCell ⟨r, 0, none⟩ u).setCell ⟨r, 1, none⟩ v).cell? ⟨b, q + 4, none⟩ = some d4 := ⟨⟨Ap.far2 h.1.1 h0 u v, Ap.far2 h.1.2.1 h0 u v, Ap.far2 h.1.2.2 h1 u v⟩, Ap.far2 h.2.1 hb u v, Ap.far2 h.2.2.1 hb u v, Ap.far2 h.2.2.2.1 hb u v, Ap.far2 h.2.2.2.2.1 hb u v, Ap.far2 h.2.2.2.2.2 hb u v⟩
theorem bel2 {w V : World} {B : Nat} (h : Below B w V) (hB : B ≤ w.heap.size) (x : Obj) : Below B w (V.alloc x) := h.alloc (Nat.le_trans hB h.size) _
theorem len4 {xs : List DpRenewal.A} {k : Nat} {x0 x1 x2 : Int} {l3 : List (Int × Bool)} {l4 : List I5} (h : xs[k]? = some (x0, x1, x2, l3, l4)) (hm : wts DpRenewal.E xs ≤ 1048576) : l4.length ≤ 1048576 := by
  have h1 := wts_at (E := DpRenewal.E) h
  rw [DpRenewal.wt_eq] at h1
  omega
theorem fr2 {w' : World} {g : Nat} {TF TS : TypeId} {v0 v1 v2 v3 v4 s0 s1 : Value} (h : Bx w' g TF #[v0, v1, v2, v3, v4]) (h2 : Bx w' (g + 1) TS #[s0, s1]) : w'.cell? ⟨g, 1, none⟩ = some v1 ∧ w'.cell? ⟨g, 3, none⟩ = some v3 ∧ w'.cell? ⟨g + 1, 1, none⟩ = some s1 := ⟨h.cell rfl, h.cell rfl, h2.cell rfl⟩
set_option maxRecDepth 100000 in
set_option maxHeartbeats 8000000 in
theorem link_any (ks : List I5) (pk : Option Addr) (nk ck : Nat) (us : List I3) (pa : Option Addr) (na ca : Nat) (ms : List Mn.Me) (pm : Option Addr) (nm cm : Nat) (L now : Int) (p0 : Option Addr) (n0 c0 : Nat) (l1 : List DpRenewal.A) (p1 : Option Addr) (n1 c1 : Nat) (k : Int) {SK SA SM S1 : Nat → Prop} (w : World) (hL : InI L) (hk : RdD (flat SlKey.E SlKey.InR) SK w pk nk ks) (ha : RdD (flat SlAuthority.E SlAuthority.InR) SA w pa na us) (hm : RdD (flat SlMethod.E SlMethod.InR) SM w pm nm ms) (h1 : RdD DpRenewal.E S1 w p1 n1 l1) (hw : wts DpRenewal.E l1 ≤ 1048576) : Calls Tryz.prog 13 #[.agg #[.slice pk nk ck, .slice pa na ca, .slice pm nm cm, .int .i64 L, .int .i64 now], .agg #[.slice p0 n0 c0, .slice p1 n1 c1], .int .i64 k] w (Dz.Val (.bool (lhI ks us ms L now l1 k)) w) := by
  have hb : Below w.heap.size w ((w.alloc (.cells #[.slice pk nk ck, .slice pa na ca, .slice pm nm cm, .int .i64 L, .int .i64 now] 38)).alloc (.cells #[.slice p0 n0 c0, .slice p1 n1 c1] 43)) := (box1 w _).alloc (by simp) _
  have bx1 := (Bx.new w 38 #[.slice pk nk ck, .slice pa na ca, .slice pm nm cm, .int .i64 L, .int .i64 now]).alloc (.cells #[.slice p0 n0 c0, .slice p1 n1 c1] 43)
  have bx2 := Bx.new (w.alloc (.cells #[.slice pk nk ck, .slice pa na ca, .slice pm nm cm, .int .i64 L, .int .i64 now] 38)) 43 #[.slice p0 n0 c0, .slice p1 n1 c1]
  rw [World.size_alloc] at bx2
  have HBV := Lib.hid hb
  have HG := Lib.hid bx1
  have HX := Lib.hid bx2
  have HK := Lib.hid (hk.below hb)
  have HA := Lib.hid (ha.below hb)
  have HM := Lib.hid (hm.below hb)
  have H1 := Lib.hid (h1.below hb)
  have HLR : Hid (-9223372036854775808 ≤ L ∧ L ≤ 9223372036854775807) := Lib.hid hL
  have HLEN := Lib.hid h1.len
  have hle := h1.le
  have hww : IntKind.i64.wrap ((n1 : Int) - 1) = (n1 : Int) - 1 := IntWalk.i64_in _ (by omega)
  clear hb bx1 bx2 hk ha hm h1 hL
  obtain ⟨s0, s1⟩ := DpStrand.bxc HX.out
  by_cases hin : 0 ≤ k ∧ k < (n1 : Int)
  case neg =>
    have HS : Hid (lhI ks us ms L now l1 k = false) := Lib.hid (lhI_out (by rw [HLEN.out]; exact hin))
    have HD : Hid (decide (0 ≤ k ∧ k ≤ (n1 : Int) - 1) = false) := Lib.hid (decide_eq_false (by omega))
    clear hin
    go_enter Tryz.func13, Tryz.ntmps13
    go_wp2_with fail
    refine (Ints.inRange_any k 0 ((n1 : Int) - 1) false HD.out _).mono ?_
    rintro e w1 ⟨rfl, rfl⟩
    go_wp2_with fail
    go_ret
    exact Dz.val_of (by rw [HS.out]; first | done | rfl) HBV.out
  case pos =>
    obtain ⟨j, rfl⟩ : ∃ j : Nat, k = (j : Int) := ⟨k.toNat, by omega⟩
    have hj : j < n1 := by omega
    have HD : Hid (decide (0 ≤ (j : Int) ∧ (j : Int) ≤ (n1 : Int) - 1) = true) := Lib.hid (decide_eq_true (by omega))
    obtain ⟨b, o, x_e, cs_e, rfl, _, hbwe, hxe, hce, hrde⟩ := H1.out.at_ hj
    obtain ⟨xe0, xe1, xe2, le3, le4⟩ := x_e
    obtain ⟨pe3, ne3, ce3, pe4, ne4, ce4, rfl, be0, be1, be2, he3, he4⟩ := DpRenewal.ex hrde
    have HXe := Lib.hid hxe
    have HCe := Lib.hid hce
    have HBe := Lib.hid hbwe
    have He3 := Lib.hid he3
    have He4 := Lib.hid he4
    have Gbe1 := Lib.hid be1
    have hne4 : ne4 ≤ 1048576 := by have := len4 hxe hw; rw [he4.len] at this; exact this
    obtain ⟨E, hE⟩ : ∃ z, firstM ks us (Mn.brk ms) xe1 le4 = z := ⟨_, rfl⟩
    have HE := Lib.hid hE
    have HR : Hid (brkR ks us ms (xe0, xe1, xe2, le3, le4) = E) := Lib.hid hE
    clear hE hce hxe hrde be0 be1 be2 he3 he4 hin hbwe
    have i1 : (0 : Int) ≤ (j : Int) := by omega
    have i2 : (j : Int) < (n1 : Int) := by omega
    go_enter Tryz.func13, Tryz.ntmps13
    go_wp2_with fail
    refine (Ints.inRange_any (j : Int) 0 ((n1 : Int) - 1) true HD.out _).mono ?_
    rintro e w1 ⟨rfl, rfl⟩
    clear HD
    go_wp2_with fail
    generalize ((w.alloc (.cells #[.slice pk nk ck, .slice pa na ca, .slice pm nm cm, .int .i64 L, .int .i64 now] 38)).alloc (.cells #[.slice p0 n0 c0, .slice (some ⟨b, o, none⟩) n1 c1] 43)) = V at HBV HG HX HK HA HM H1 HCe HBe He3 He4 s0 s1 ⊢
    clear s0 s1
    have HC : Hid (∀ w', Qt.Keeps (V) w' → w'.cell? ⟨w.heap.size, 0, none⟩ = some (.slice pk nk ck) ∧ w'.cell? ⟨w.heap.size, 1, none⟩ = some (.slice pa na ca) ∧ w'.cell? ⟨w.heap.size, 2, none⟩ = some (.slice pm nm cm) ∧ w'.cell? ⟨w.heap.size + 1, 1, none⟩ = some (.slice (some ⟨b, o, none⟩) n1 c1) ∧ w'.cell? ⟨b, o + j * 5, none⟩ = some (.int .i64 xe0) ∧ w'.cell? ⟨b, o + j * 5 + 1, none⟩ = some (.int .i64 xe1) ∧ w'.cell? ⟨b, o + j * 5 + 2, none⟩ = some (.int .i64 xe2) ∧ w'.cell? ⟨b, o + j * 5 + 3, none⟩ = some (.slice pe3 ne3 ce3) ∧ w'.cell? ⟨b, o + j * 5 + 4, none⟩ = some (.slice pe4 ne4 ce4)) := Lib.hid fun w' hw => let g := DpFrame.bxc (HG.out.below hw); let h := DpStrand.bxc (HX.out.below hw); let u := DpRenewal.at_cells (fun jj v hv => (hw.cell (p := ⟨b, o + j * 5 + jj, none⟩) HBe.out).trans (HCe.out jj v hv)); ⟨g.1, g.2.1, g.2.2.1, h.2, u.1, u.2.1, u.2.2.1, u.2.2.2.1, u.2.2.2.2⟩
    refine Qt.region (Qt.Keeps (V)) (by kernel_rfl) (by kernel_rfl) (Qt.Keeps.drew _) ?_
    repeat (first
      | go_big_quiet_skip
      | (go_big_quiet_want
         refine Qt.val (v := ?_) (fun w hw => ?_) ?_
         rotate_left
         · obtain ⟨g0, g1, g2, s1, u0, u1, u2, u3, u4⟩ := HC.out w hw
           go_simp
           rfl
         simp only [Act.put, List.setIfInBounds_toArray, List.set_cons_zero, List.set_cons_succ]
         go_big_quiet_on)
      | (go_big_quiet_want
         refine Qt.call (v := .int .i64 E) (f := 43) (args := #[.slice pk nk ck, .slice pa na ca, .slice pm nm cm, .agg #[.int .i64 xe0, .int .i64 xe1, .int .i64 xe2, .slice pe3 ne3 ce3, .slice pe4 ne4 ce4]]) (fun w hw => ?_) (fun w hw => ?_) ?_
         · go_simp
         · refine (Fm2B.break_any ks _ _ _ us _ _ _ ms _ _ _ xe0 xe1 xe2 le3 _ _ _ le4 _ _ _ Gbe1.out _ (HK.out.below hw) (HA.out.below hw) (HM.out.below hw) (He3.out.below hw) (He4.out.below hw) hne4).mono ?_
           rintro e w1 ⟨rfl, hb1⟩
           rw [HE.out]
           exact ⟨rfl, hw.then hb1⟩
         simp only [Act.put, List.setIfInBounds_toArray, List.set_cons_zero, List.set_cons_succ]
         go_big_quiet_on))
    refine wpQuiet_nil ?_
    intro w2 hw2
    replace HBV := Lib.hid (below_on HBV.out hw2)
    replace HG := Lib.hid (HG.out.below hw2)
    replace HX := Lib.hid (HX.out.below hw2)
    replace HA := Lib.hid (HA.out.below hw2)
    replace H1 := Lib.hid (H1.out.below hw2)
    clear hw2 HK HM He3 He4 HCe HBe
    obtain ⟨g0, g1, g2, g3, g4⟩ := DpFrame.bxc HG.out
    obtain ⟨s0, s1⟩ := DpStrand.bxc HX.out
    by_cases hlast : j + 1 = n1
    · have HS : Hid (lhI ks us ms L now l1 (j : Int) = decide (now < E)) := Lib.hid (by rw [lhI_nat, lh_last HXe.out (by rw [HLEN.out]; exact hlast), HR.out])
      have e1 : ((j : Int) == (n1 : Int) - 1) = true := beq_iff_eq.2 (by omega)
      go_wp2_with fail
      go_ret
      exact Dz.val_of (by rw [HS.out]; first | done | rfl) HBV.out
    · have hj1 : j + 1 < n1 := by omega
      have e1 : ((j : Int) == (n1 : Int) - 1) = false := beq_eq_false_iff_ne.2 (by omega)
      obtain ⟨b', o', x_f, cs_f, hpe, _, hbwf, hxf, hcf, hrdf⟩ := H1.out.at_ hj1
      cases hpe
      obtain ⟨xf0, xf1, xf2, lf3, lf4⟩ := x_f
      obtain ⟨pf3, nf3, cf3, pf4, nf4, cf4, rfl, _, _, _, hf3, hf4⟩ := DpRenewal.ex hrdf
      have hnf4 : nf4 ≤ 1048576 := by have := len4 hxf hw; rw [hf4.len] at this; exact this
      rcases hsp : Rsp.rsp us lf4 L with ⟨⟨ya, yb⟩, ok⟩
      have HSP := Lib.hid hsp
      have HS : Hid (lhI ks us ms L now l1 (j : Int) = (ok && decide (yb < E))) := Lib.hid (by rw [lhI_nat, lh_at HXe.out hxf, HR.out]; show ((Rsp.rsp us lf4 L).2 && decide ((Rsp.rsp us lf4 L).1.2 < E)) = _; rw [hsp])
      have HCf := Lib.hid hcf
      have HBf := Lib.hid hbwf
      have Hf4 := Lib.hid hf4
      have jw : IntKind.i64.wrap ((j : Int) + 1) = (j : Int) + 1 := IntWalk.i64_in _ (by omega)
      have i3 : (0 : Int) ≤ (j : Int) + 1 := by omega
      have i4 : (j : Int) + 1 < (n1 : Int) := by omega
      have hto : ((j : Int) + 1).toNat = j + 1 := by omega
      clear hcf hbwf hf3 hf4 hsp hxf hrdf
      go_wp2_with fail
      clear g0 g1 g2 g3 g4 s0 s1
      have hgt : w.heap.size + 1 < w2.heap.size := HX.out.lt
      have HSZ : Hid (w.heap.size ≤ w2.heap.size) := Lib.hid (by omega)
      have HBVa := Lib.hid (below_drewN (bel2 HBV.out (Nat.le_refl _) (.cells #[.int .i64 0, .int .i64 0] 76)) 1)
      have HGa := Lib.hid (HG.out.alloc (.cells #[.int .i64 0, .int .i64 0] 76)).drew1
      have HXa := Lib.hid (HX.out.alloc (.cells #[.int .i64 0, .int .i64 0] 76)).drew1
      have HYa := Lib.hid (Bx.new w2 76 #[.int .i64 0, .int .i64 0]).drew1
      have HAa := Lib.hid (HA.out.below (box1 w2 (.cells #[.int .i64 0, .int .i64 0] 76))).drew1
      have Hf4a := Lib.hid (Hf4.out.below (box1 w2 (.cells #[.int .i64 0, .int .i64 0] 76))).drew1
      have HCfa : Hid (∀ jj v, [.int .i64 xf0, .int .i64 xf1, .int .i64 xf2, .slice pf3 nf3 cf3, .slice pf4 nf4 cf4][jj]? = some v → (w2.alloc (.cells #[.int .i64 0, .int .i64 0] 76)).drew.cell? ⟨b, o + (j + 1) * 5 + jj, none⟩ = some v) := Lib.hid (keep1 HBf.out HCf.out)
      have HBfa : Hid (b < (w2.alloc (.cells #[.int .i64 0, .int .i64 0] 76)).drew.heap.size) := Lib.hid (Nat.lt_of_lt_of_le HBf.out (box1 w2 _).size)
      replace HBV := Lib.hid (below_drewN HBV.out 1)
      replace HG := Lib.hid HG.out.drew1
      replace HX := Lib.hid HX.out.drew1
      replace HA := Lib.hid HA.out.drew1
      replace Hf4 := Lib.hid Hf4.out.drew1
      replace HCf : Hid (∀ jj v, [.int .i64 xf0, .int .i64 xf1, .int .i64 xf2, .slice pf3 nf3 cf3, .slice pf4 nf4 cf4][jj]? = some v → w2.drew.cell? ⟨b, o + (j + 1) * 5 + jj, none⟩ = some v) := Lib.hid HCf.out
      have HBf' : Hid (b < w2.drew.heap.size) := Lib.hid HBf.out
      have hne0 : w.heap.size ≠ w2.heap.size := by omega
      have hne1 : w.heap.size + 1 ≠ w2.heap.size := by omega
      have hneb : b ≠ w2.heap.size := Nat.ne_of_lt HBf.out
      go_region_held3 (fun w' => (w'.cell? ⟨w.heap.size, 1, none⟩ = some (.slice pa na ca) ∧ w'.cell? ⟨w.heap.size, 3, none⟩ = some (.int .i64 L) ∧ w'.cell? ⟨w.heap.size + 1, 1, none⟩ = some (.slice (some ⟨b, o, none⟩) n1 c1)) ∧ w'.cell? ⟨b, o + (j + 1) * 5, none⟩ = some (.int .i64 xf0) ∧ w'.cell? ⟨b, o + (j + 1) * 5 + 1, none⟩ = some (.int .i64 xf1) ∧ w'.cell? ⟨b, o + (j + 1) * 5 + 2, none⟩ = some (.int .i64 xf2) ∧ w'.cell? ⟨b, o + (j + 1) * 5 + 3, none⟩ = some (.slice pf3 nf3 cf3) ∧ w'.cell? ⟨b, o + (j + 1) * 5 + 4, none⟩ = some (.slice pf4 nf4 cf4)) (first
          | with_reducible exact ⟨fr2 HG.out HX.out, DpRenewal.at_cells HCf.out⟩
          | with_reducible exact ⟨fr2 HGa.out HXa.out, DpRenewal.at_cells HCfa.out⟩
          | with_reducible exact ⟨fr2 HG3.out HX3.out, DpRenewal.at_cells HCf3.out⟩
          | with_reducible exact ⟨fr2 (HG3.out.alloc _) (HX3.out.alloc _), DpRenewal.at_cells (keep1 HBf3.out HCf3.out)⟩
          | with_reducible exact far5 hne0 hne1 hneb ⟨fr2 HG3.out HX3.out, DpRenewal.at_cells HCf3.out⟩
          | fail) (first
        | (go_at_call 44; (with_reducible refine (Rsp.span_any _ _ _ us xf0 xf1 xf2 _ _ _ _ _ _ lf4 L HLR.out ya yb ok HSP.out w2.drew HA.out.rdS Hf4.out.rdS hnf4).mono ?_); rintro e w3 ⟨rfl, hb⟩; have HBV3 := Lib.hid (below_on HBV.out hb); have HG3 := Lib.hid (HG.out.below hb); have HX3 := Lib.hid (HX.out.below hb); have HCf3 : Hid (∀ jj v, [.int .i64 xf0, .int .i64 xf1, .int .i64 xf2, .slice pf3 nf3 cf3, .slice pf4 nf4 cf4][jj]? = some v → w3.cell? ⟨b, o + (j + 1) * 5 + jj, none⟩ = some v) := Lib.hid (fun jj v hv => (hb.cell (p := ⟨b, o + (j + 1) * 5 + jj, none⟩) HBf'.out).trans (HCf.out jj v hv)); have HBf3 : Hid (b < w3.heap.size) := Lib.hid (Nat.lt_of_lt_of_le HBf'.out hb.size); clear hb)
        | (go_at_call 44; (with_reducible refine (Rsp.span_any _ _ _ us xf0 xf1 xf2 _ _ _ _ _ _ lf4 L HLR.out ya yb ok HSP.out (w2.alloc (.cells #[.int .i64 0, .int .i64 0] 76)).drew HAa.out.rdS Hf4a.out.rdS hnf4).mono ?_); rintro e w3 ⟨rfl, hb⟩; have HBV3 := Lib.hid (below_on HBVa.out hb); have HG3 := Lib.hid (HGa.out.below hb); have HX3 := Lib.hid (HXa.out.below hb); have HY3 := Lib.hid (HYa.out.below hb); have HCf3 : Hid (∀ jj v, [.int .i64 xf0, .int .i64 xf1, .int .i64 xf2, .slice pf3 nf3 cf3, .slice pf4 nf4 cf4][jj]? = some v → w3.cell? ⟨b, o + (j + 1) * 5 + jj, none⟩ = some v) := Lib.hid (fun jj v hv => (hb.cell (p := ⟨b, o + (j + 1) * 5 + jj, none⟩) HBfa.out).trans (HCfa.out jj v hv)); have HBf3 : Hid (b < w3.heap.size) := Lib.hid (Nat.lt_of_lt_of_le HBfa.out hb.size); obtain ⟨q0, q1, q2, q3⟩ := HY3.out.two; clear hb)
        | fail)
      all_goals
        have HF := Lib.hid HBV3.out
        cases ok
        · have HS' : Hid (lhI ks us ms L now l1 (j : Int) = false) := HS
          go_wp2_with fail
          go_ret
          exact Dz.val_of (by rw [HS'.out]; first | done | rfl) (by first | exact bel2 HF.out (Nat.le_refl _) _ | exact (HF.out.setCell (p := ⟨w2.heap.size, 0, none⟩) HSZ.out _).setCell (p := ⟨w2.heap.size, 1, none⟩) HSZ.out _)
        · have HS' : Hid (lhI ks us ms L now l1 (j : Int) = decide (yb < E)) := Lib.hid (by rw [HS.out, Bool.true_and])
          go_wp2_with fail
          go_ret
          exact Dz.val_of (by rw [HS'.out]; first | done | rfl) (by first | exact bel2 HF.out (Nat.le_refl _) _ | exact (HF.out.setCell (p := ⟨w2.heap.size, 0, none⟩) HSZ.out _).setCell (p := ⟨w2.heap.size, 1, none⟩) HSZ.out _)
set_option maxRecDepth 100000 in
set_option maxHeartbeats 8000000 in
theorem spec_link_any (ks : List I5) (pk : Option Addr) (nk ck : Nat) (us : List I3) (pa : Option Addr) (na ca : Nat) (ms : List Mn.Me) (pm : Option Addr) (nm cm : Nat) (L now : Int) (p0 : Option Addr) (n0 c0 : Nat) (l1 : List DpRenewal.A) (p1 : Option Addr) (n1 c1 : Nat) (k : Int) {SK SA SM S1 : Nat → Prop} (w : World) (hL : InI L) (hk : RdD (flat SlKey.E SlKey.InR) SK w pk nk ks) (ha : RdD (flat SlAuthority.E SlAuthority.InR) SA w pa na us) (hm : RdD (flat SlMethod.E SlMethod.InR) SM w pm nm ms) (h1 : RdD DpRenewal.E S1 w p1 n1 l1) (hw : wts DpRenewal.E l1 ≤ 1048576) : Calls Tryz.prog 10 #[.agg #[.slice pk nk ck, .slice pa na ca, .slice pm nm cm, .int .i64 L, .int .i64 now], .agg #[.slice p0 n0 c0, .slice p1 n1 c1], .int .i64 k] w (Dz.Val (.bool (lhI ks us ms L now l1 k)) w) := by
  have hb : Below w.heap.size w ((w.alloc (.cells #[.slice pk nk ck, .slice pa na ca, .slice pm nm cm, .int .i64 L, .int .i64 now] 38)).alloc (.cells #[.slice p0 n0 c0, .slice p1 n1 c1] 43)) := (box1 w _).alloc (by simp) _
  have bx1 := (Bx.new w 38 #[.slice pk nk ck, .slice pa na ca, .slice pm nm cm, .int .i64 L, .int .i64 now]).alloc (.cells #[.slice p0 n0 c0, .slice p1 n1 c1] 43)
  have bx2 := Bx.new (w.alloc (.cells #[.slice pk nk ck, .slice pa na ca, .slice pm nm cm, .int .i64 L, .int .i64 now] 38)) 43 #[.slice p0 n0 c0, .slice p1 n1 c1]
  rw [World.size_alloc] at bx2
  have HBV := Lib.hid hb
  have HG := Lib.hid bx1
  have HX := Lib.hid bx2
  have HK := Lib.hid (hk.below hb)
  have HA := Lib.hid (ha.below hb)
  have HM := Lib.hid (hm.below hb)
  have H1 := Lib.hid (h1.below hb)
  have HLR : Hid (-9223372036854775808 ≤ L ∧ L ≤ 9223372036854775807) := Lib.hid hL
  have HLEN := Lib.hid h1.len
  have hle := h1.le
  have hww : IntKind.i64.wrap ((n1 : Int) - 1) = (n1 : Int) - 1 := IntWalk.i64_in _ (by omega)
  clear hb bx1 bx2 hk ha hm h1 hL
  obtain ⟨s0, s1⟩ := DpStrand.bxc HX.out
  by_cases hin : 0 ≤ k ∧ k < (n1 : Int)
  case neg =>
    have HS : Hid (lhI ks us ms L now l1 k = false) := Lib.hid (lhI_out (by rw [HLEN.out]; exact hin))
    have HD : Hid (decide (0 ≤ k ∧ k ≤ (n1 : Int) - 1) = false) := Lib.hid (decide_eq_false (by omega))
    clear hin
    go_enter Tryz.func10, Tryz.ntmps10
    go_wp2_with fail
    refine (Ints.l1In_any k 0 ((n1 : Int) - 1) false HD.out _).mono ?_
    rintro e w1 ⟨rfl, rfl⟩
    go_wp2_with fail
    go_ret
    exact Dz.val_of (by rw [HS.out]; first | done | rfl) HBV.out
  case pos =>
    obtain ⟨j, rfl⟩ : ∃ j : Nat, k = (j : Int) := ⟨k.toNat, by omega⟩
    have hj : j < n1 := by omega
    have HD : Hid (decide (0 ≤ (j : Int) ∧ (j : Int) ≤ (n1 : Int) - 1) = true) := Lib.hid (decide_eq_true (by omega))
    obtain ⟨b, o, x_e, cs_e, rfl, _, hbwe, hxe, hce, hrde⟩ := H1.out.at_ hj
    obtain ⟨xe0, xe1, xe2, le3, le4⟩ := x_e
    obtain ⟨pe3, ne3, ce3, pe4, ne4, ce4, rfl, be0, be1, be2, he3, he4⟩ := DpRenewal.ex hrde
    have HXe := Lib.hid hxe
    have HCe := Lib.hid hce
    have HBe := Lib.hid hbwe
    have He3 := Lib.hid he3
    have He4 := Lib.hid he4
    have Gbe1 := Lib.hid be1
    have hne4 : ne4 ≤ 1048576 := by have := len4 hxe hw; rw [he4.len] at this; exact this
    obtain ⟨E, hE⟩ : ∃ z, firstM ks us (Mn.brk ms) xe1 le4 = z := ⟨_, rfl⟩
    have HE := Lib.hid hE
    have HR : Hid (brkR ks us ms (xe0, xe1, xe2, le3, le4) = E) := Lib.hid hE
    clear hE hce hxe hrde be0 be1 be2 he3 he4 hin hbwe
    have i1 : (0 : Int) ≤ (j : Int) := by omega
    have i2 : (j : Int) < (n1 : Int) := by omega
    go_enter Tryz.func10, Tryz.ntmps10
    go_wp2_with fail
    refine (Ints.l1In_any (j : Int) 0 ((n1 : Int) - 1) true HD.out _).mono ?_
    rintro e w1 ⟨rfl, rfl⟩
    clear HD
    go_wp2_with fail
    generalize ((w.alloc (.cells #[.slice pk nk ck, .slice pa na ca, .slice pm nm cm, .int .i64 L, .int .i64 now] 38)).alloc (.cells #[.slice p0 n0 c0, .slice (some ⟨b, o, none⟩) n1 c1] 43)) = V at HBV HG HX HK HA HM H1 HCe HBe He3 He4 s0 s1 ⊢
    clear s0 s1
    have HC : Hid (∀ w', Qt.Keeps (V) w' → w'.cell? ⟨w.heap.size, 0, none⟩ = some (.slice pk nk ck) ∧ w'.cell? ⟨w.heap.size, 1, none⟩ = some (.slice pa na ca) ∧ w'.cell? ⟨w.heap.size, 2, none⟩ = some (.slice pm nm cm) ∧ w'.cell? ⟨w.heap.size + 1, 1, none⟩ = some (.slice (some ⟨b, o, none⟩) n1 c1) ∧ w'.cell? ⟨b, o + j * 5, none⟩ = some (.int .i64 xe0) ∧ w'.cell? ⟨b, o + j * 5 + 1, none⟩ = some (.int .i64 xe1) ∧ w'.cell? ⟨b, o + j * 5 + 2, none⟩ = some (.int .i64 xe2) ∧ w'.cell? ⟨b, o + j * 5 + 3, none⟩ = some (.slice pe3 ne3 ce3) ∧ w'.cell? ⟨b, o + j * 5 + 4, none⟩ = some (.slice pe4 ne4 ce4)) := Lib.hid fun w' hw => let g := DpFrame.bxc (HG.out.below hw); let h := DpStrand.bxc (HX.out.below hw); let u := DpRenewal.at_cells (fun jj v hv => (hw.cell (p := ⟨b, o + j * 5 + jj, none⟩) HBe.out).trans (HCe.out jj v hv)); ⟨g.1, g.2.1, g.2.2.1, h.2, u.1, u.2.1, u.2.2.1, u.2.2.2.1, u.2.2.2.2⟩
    refine Qt.region (Qt.Keeps (V)) (by kernel_rfl) (by kernel_rfl) (Qt.Keeps.drew _) ?_
    repeat (first
      | go_big_quiet_skip
      | (go_big_quiet_want
         refine Qt.val (v := ?_) (fun w hw => ?_) ?_
         rotate_left
         · obtain ⟨g0, g1, g2, s1, u0, u1, u2, u3, u4⟩ := HC.out w hw
           go_simp
           rfl
         simp only [Act.put, List.setIfInBounds_toArray, List.set_cons_zero, List.set_cons_succ]
         go_big_quiet_on)
      | (go_big_quiet_want
         refine Qt.call (v := .int .i64 E) (f := 35) (args := #[.slice pk nk ck, .slice pa na ca, .slice pm nm cm, .agg #[.int .i64 xe0, .int .i64 xe1, .int .i64 xe2, .slice pe3 ne3 ce3, .slice pe4 ne4 ce4]]) (fun w hw => ?_) (fun w hw => ?_) ?_
         · go_simp
         · refine (Fm3.spec_break_any ks _ _ _ us _ _ _ ms _ _ _ xe0 xe1 xe2 le3 _ _ _ le4 _ _ _ _ (HK.out.below hw) (HA.out.below hw) (HM.out.below hw) (He3.out.below hw) (He4.out.below hw)).mono ?_
           rintro e w1 ⟨rfl, hb1⟩
           rw [HE.out]
           exact ⟨rfl, hw.then hb1⟩
         simp only [Act.put, List.setIfInBounds_toArray, List.set_cons_zero, List.set_cons_succ]
         go_big_quiet_on))
    refine wpQuiet_nil ?_
    intro w2 hw2
    replace HBV := Lib.hid (below_on HBV.out hw2)
    replace HG := Lib.hid (HG.out.below hw2)
    replace HX := Lib.hid (HX.out.below hw2)
    replace HA := Lib.hid (HA.out.below hw2)
    replace H1 := Lib.hid (H1.out.below hw2)
    clear hw2 HK HM He3 He4 HCe HBe
    obtain ⟨g0, g1, g2, g3, g4⟩ := DpFrame.bxc HG.out
    obtain ⟨s0, s1⟩ := DpStrand.bxc HX.out
    by_cases hlast : j + 1 = n1
    · have HS : Hid (lhI ks us ms L now l1 (j : Int) = decide (now < E)) := Lib.hid (by rw [lhI_nat, lh_last HXe.out (by rw [HLEN.out]; exact hlast), HR.out])
      have e1 : ((j : Int) == (n1 : Int) - 1) = true := beq_iff_eq.2 (by omega)
      go_wp2_with fail
      go_ret
      exact Dz.val_of (by rw [HS.out]; first | done | rfl) HBV.out
    · have hj1 : j + 1 < n1 := by omega
      have e1 : ((j : Int) == (n1 : Int) - 1) = false := beq_eq_false_iff_ne.2 (by omega)
      obtain ⟨b', o', x_f, cs_f, hpe, _, hbwf, hxf, hcf, hrdf⟩ := H1.out.at_ hj1
      cases hpe
      obtain ⟨xf0, xf1, xf2, lf3, lf4⟩ := x_f
      obtain ⟨pf3, nf3, cf3, pf4, nf4, cf4, rfl, _, _, _, hf3, hf4⟩ := DpRenewal.ex hrdf
      have hnf4 : nf4 ≤ 1048576 := by have := len4 hxf hw; rw [hf4.len] at this; exact this
      rcases hsp : Rsp.rsp us lf4 L with ⟨⟨ya, yb⟩, ok⟩
      have HSP := Lib.hid hsp
      have HS : Hid (lhI ks us ms L now l1 (j : Int) = (ok && decide (yb < E))) := Lib.hid (by rw [lhI_nat, lh_at HXe.out hxf, HR.out]; show ((Rsp.rsp us lf4 L).2 && decide ((Rsp.rsp us lf4 L).1.2 < E)) = _; rw [hsp])
      have HCf := Lib.hid hcf
      have HBf := Lib.hid hbwf
      have Hf4 := Lib.hid hf4
      have jw : IntKind.i64.wrap ((j : Int) + 1) = (j : Int) + 1 := IntWalk.i64_in _ (by omega)
      have i3 : (0 : Int) ≤ (j : Int) + 1 := by omega
      have i4 : (j : Int) + 1 < (n1 : Int) := by omega
      have hto : ((j : Int) + 1).toNat = j + 1 := by omega
      clear hcf hbwf hf3 hf4 hsp hxf hrdf
      go_wp2_with fail
      clear g0 g1 g2 g3 g4 s0 s1
      have hgt : w.heap.size + 1 < w2.heap.size := HX.out.lt
      have HSZ : Hid (w.heap.size ≤ w2.heap.size) := Lib.hid (by omega)
      have HBVa := Lib.hid (below_drewN (bel2 HBV.out (Nat.le_refl _) (.cells #[.int .i64 0, .int .i64 0] 76)) 1)
      have HGa := Lib.hid (HG.out.alloc (.cells #[.int .i64 0, .int .i64 0] 76)).drew1
      have HXa := Lib.hid (HX.out.alloc (.cells #[.int .i64 0, .int .i64 0] 76)).drew1
      have HYa := Lib.hid (Bx.new w2 76 #[.int .i64 0, .int .i64 0]).drew1
      have HAa := Lib.hid (HA.out.below (box1 w2 (.cells #[.int .i64 0, .int .i64 0] 76))).drew1
      have Hf4a := Lib.hid (Hf4.out.below (box1 w2 (.cells #[.int .i64 0, .int .i64 0] 76))).drew1
      have HCfa : Hid (∀ jj v, [.int .i64 xf0, .int .i64 xf1, .int .i64 xf2, .slice pf3 nf3 cf3, .slice pf4 nf4 cf4][jj]? = some v → (w2.alloc (.cells #[.int .i64 0, .int .i64 0] 76)).drew.cell? ⟨b, o + (j + 1) * 5 + jj, none⟩ = some v) := Lib.hid (keep1 HBf.out HCf.out)
      have HBfa : Hid (b < (w2.alloc (.cells #[.int .i64 0, .int .i64 0] 76)).drew.heap.size) := Lib.hid (Nat.lt_of_lt_of_le HBf.out (box1 w2 _).size)
      replace HBV := Lib.hid (below_drewN HBV.out 1)
      replace HG := Lib.hid HG.out.drew1
      replace HX := Lib.hid HX.out.drew1
      replace HA := Lib.hid HA.out.drew1
      replace Hf4 := Lib.hid Hf4.out.drew1
      replace HCf : Hid (∀ jj v, [.int .i64 xf0, .int .i64 xf1, .int .i64 xf2, .slice pf3 nf3 cf3, .slice pf4 nf4 cf4][jj]? = some v → w2.drew.cell? ⟨b, o + (j + 1) * 5 + jj, none⟩ = some v) := Lib.hid HCf.out
      have HBf' : Hid (b < w2.drew.heap.size) := Lib.hid HBf.out
      have hne0 : w.heap.size ≠ w2.heap.size := by omega
      have hne1 : w.heap.size + 1 ≠ w2.heap.size := by omega
      have hneb : b ≠ w2.heap.size := Nat.ne_of_lt HBf.out
      go_region_held3 (fun w' => (w'.cell? ⟨w.heap.size, 1, none⟩ = some (.slice pa na ca) ∧ w'.cell? ⟨w.heap.size, 3, none⟩ = some (.int .i64 L) ∧ w'.cell? ⟨w.heap.size + 1, 1, none⟩ = some (.slice (some ⟨b, o, none⟩) n1 c1)) ∧ w'.cell? ⟨b, o + (j + 1) * 5, none⟩ = some (.int .i64 xf0) ∧ w'.cell? ⟨b, o + (j + 1) * 5 + 1, none⟩ = some (.int .i64 xf1) ∧ w'.cell? ⟨b, o + (j + 1) * 5 + 2, none⟩ = some (.int .i64 xf2) ∧ w'.cell? ⟨b, o + (j + 1) * 5 + 3, none⟩ = some (.slice pf3 nf3 cf3) ∧ w'.cell? ⟨b, o + (j + 1) * 5 + 4, none⟩ = some (.slice pf4 nf4 cf4)) (first
          | with_reducible exact ⟨fr2 HG.out HX.out, DpRenewal.at_cells HCf.out⟩
          | with_reducible exact ⟨fr2 HGa.out HXa.out, DpRenewal.at_cells HCfa.out⟩
          | with_reducible exact ⟨fr2 HG3.out HX3.out, DpRenewal.at_cells HCf3.out⟩
          | with_reducible exact ⟨fr2 (HG3.out.alloc _) (HX3.out.alloc _), DpRenewal.at_cells (keep1 HBf3.out HCf3.out)⟩
          | with_reducible exact far5 hne0 hne1 hneb ⟨fr2 HG3.out HX3.out, DpRenewal.at_cells HCf3.out⟩
          | fail) (first
        | (go_at_call 36; (with_reducible refine (Rsp.spec_span_any _ _ _ us xf0 xf1 xf2 _ _ _ _ _ _ lf4 L HLR.out ya yb ok HSP.out w2.drew HA.out.rdS Hf4.out.rdS hnf4).mono ?_); rintro e w3 ⟨rfl, hb⟩; have HBV3 := Lib.hid (below_on HBV.out hb); have HG3 := Lib.hid (HG.out.below hb); have HX3 := Lib.hid (HX.out.below hb); have HCf3 : Hid (∀ jj v, [.int .i64 xf0, .int .i64 xf1, .int .i64 xf2, .slice pf3 nf3 cf3, .slice pf4 nf4 cf4][jj]? = some v → w3.cell? ⟨b, o + (j + 1) * 5 + jj, none⟩ = some v) := Lib.hid (fun jj v hv => (hb.cell (p := ⟨b, o + (j + 1) * 5 + jj, none⟩) HBf'.out).trans (HCf.out jj v hv)); have HBf3 : Hid (b < w3.heap.size) := Lib.hid (Nat.lt_of_lt_of_le HBf'.out hb.size); clear hb)
        | (go_at_call 36; (with_reducible refine (Rsp.spec_span_any _ _ _ us xf0 xf1 xf2 _ _ _ _ _ _ lf4 L HLR.out ya yb ok HSP.out (w2.alloc (.cells #[.int .i64 0, .int .i64 0] 76)).drew HAa.out.rdS Hf4a.out.rdS hnf4).mono ?_); rintro e w3 ⟨rfl, hb⟩; have HBV3 := Lib.hid (below_on HBVa.out hb); have HG3 := Lib.hid (HGa.out.below hb); have HX3 := Lib.hid (HXa.out.below hb); have HY3 := Lib.hid (HYa.out.below hb); have HCf3 : Hid (∀ jj v, [.int .i64 xf0, .int .i64 xf1, .int .i64 xf2, .slice pf3 nf3 cf3, .slice pf4 nf4 cf4][jj]? = some v → w3.cell? ⟨b, o + (j + 1) * 5 + jj, none⟩ = some v) := Lib.hid (fun jj v hv => (hb.cell (p := ⟨b, o + (j + 1) * 5 + jj, none⟩) HBfa.out).trans (HCfa.out jj v hv)); have HBf3 : Hid (b < w3.heap.size) := Lib.hid (Nat.lt_of_lt_of_le HBfa.out hb.size); obtain ⟨q0, q1, q2, q3⟩ := HY3.out.two; clear hb)
        | fail)
      all_goals
        have HF := Lib.hid HBV3.out
        cases ok
        · have HS' : Hid (lhI ks us ms L now l1 (j : Int) = false) := HS
          go_wp2_with fail
          go_ret
          exact Dz.val_of (by rw [HS'.out]; first | done | rfl) (by first | exact bel2 HF.out (Nat.le_refl _) _ | exact (HF.out.setCell (p := ⟨w2.heap.size, 0, none⟩) HSZ.out _).setCell (p := ⟨w2.heap.size, 1, none⟩) HSZ.out _)
        · have HS' : Hid (lhI ks us ms L now l1 (j : Int) = decide (yb < E)) := Lib.hid (by rw [HS.out, Bool.true_and])
          go_wp2_with fail
          go_ret
          exact Dz.val_of (by rw [HS'.out]; first | done | rfl) (by first | exact bel2 HF.out (Nat.le_refl _) _ | exact (HF.out.setCell (p := ⟨w2.heap.size, 0, none⟩) HSZ.out _).setCell (p := ⟨w2.heap.size, 1, none⟩) HSZ.out _)
end Go.Proofs.YtlfmpjmodhlciaaGreat.Lh
