/- The first renewal that does not cover what it has to; in the program and in the reference. -/
import Derived.Test.YtnkpioaaabnlcaaLa
import Derived.Test.YtnkpioaaabnlcaaCr
import Derived.Test.YtnkpioaaabnlcaaQt
import Derived.LoopTactic
import Derived.Outline
namespace Go.Proofs.Ytnkpioaaabnlcaa.Ff
open Go.ChangeShapes Go.WideShapes Go.ChangeAt Go.RowKit Sl St Ed Dz Fnd La
section
variable (ks : List I5) (us : List I3) (ps : List DpPiece.A) (ch : List DpRenewal.A) (docs : List Int)
noncomputable def badAt (k : Nat) : Bool := match ch[k]? with | some r => !(Cr1.chk ks us r (leafAt ps ch docs k)) | none => false
noncomputable def fault : Int := match firstN (badAt ks us ps ch docs) (List.range ch.length) with | some k => (k : Int) | none => (ch.length : Int)
variable {ks us ps ch docs}
def Good (k : Nat) : Prop := ∀ j, j < k → badAt ks us ps ch docs j = false
end
section
variable {ks : List I5} {us : List I3} {ps : List DpPiece.A} {ch : List DpRenewal.A} {docs : List Int}
theorem good_zero : Good (ks := ks) (us := us) (ps := ps) (ch := ch) (docs := docs) 0 := fun _ h => absurd h (Nat.not_lt_zero _)
theorem good_next {k : Nat} {r : DpRenewal.A} (h : Good (ks := ks) (us := us) (ps := ps) (ch := ch) (docs := docs) k) (hx : ch[k]? = some r) (hc : Cr1.chk ks us r (leafAt ps ch docs k) = true) : Good (ks := ks) (us := us) (ps := ps) (ch := ch) (docs := docs) (k + 1) := fun j hj => by
  rcases Nat.lt_or_ge j k with h1 | h1
  · exact h j h1
  · obtain rfl : j = k := by omega
    unfold badAt
    rw [hx]
    simp only [hc, Bool.not_true]
theorem rng {n j : Nat} (h : j < n) : (List.range n).getD j 0 = j := by rw [List.getD_eq_getElem?_getD, List.getElem?_range h]; rfl
theorem fault_at {k : Nat} {r : DpRenewal.A} (h : Good (ks := ks) (us := us) (ps := ps) (ch := ch) (docs := docs) k) (hx : ch[k]? = some r) (hc : Cr1.chk ks us r (leafAt ps ch docs k) = false) : fault ks us ps ch docs = k := by
  have hk := (List.getElem?_eq_some_iff.1 hx).1
  have hb : badAt ks us ps ch docs k = true := by
    unfold badAt
    rw [hx]
    simp only [hc, Bool.not_false]
  unfold fault
  rcases firstN_cases (badAt ks us ps ch docs) 0 (List.range ch.length) with ⟨j, hj, he, hp, hq⟩ | ⟨_, hn⟩
  · rw [he]
    rw [List.length_range] at hj
    rw [rng hj] at hp
    rcases Nat.lt_trichotomy j k with g | g | g
    · rw [h j g] at hp
      cases hp
    · rw [g]
    · have := hq k g
      rw [rng hk, hb] at this
      cases this
  · have := hn k (by rw [List.length_range]; exact hk)
    rw [rng hk, hb] at this
    cases this
theorem fault_none {n : Nat} (hn : ch.length = n) (h : Good (ks := ks) (us := us) (ps := ps) (ch := ch) (docs := docs) n) : fault ks us ps ch docs = n := by
  unfold fault
  rcases firstN_cases (badAt ks us ps ch docs) 0 (List.range ch.length) with ⟨j, hj, he, hp, hq⟩ | ⟨he, _⟩
  · rw [List.length_range] at hj
    rw [rng hj, h j (by omega)] at hp
    cases hp
  · rw [he, hn]
end
set_option maxRecDepth 100000 in
set_option maxHeartbeats 8000000 in
theorem fault_any (ks : List I5) (pk : Option Addr) (nk ck : Nat) (us : List I3) (pa : Option Addr) (na ca : Nat) (l0 : List DpPiece.A) (p0 : Option Addr) (n0 c0 : Nat) (l1 : List DpRenewal.A) (p1 : Option Addr) (n1 c1 : Nat) (docs : List Int) (q : Option Addr) (d e : Nat) {SK SA S0 S1 T : Nat → Prop} (w : World) (hk : RdD (flat SlKey.E SlKey.InR) SK w pk nk ks) (ha : RdD (flat SlAuthority.E SlAuthority.InR) SA w pa na us) (h0 : RdD DpPiece.E S0 w p0 n0 l0) (h1 : RdD DpRenewal.E S1 w p1 n1 l1) (hd : RdD int T w q d docs) (hc0 : n0 ≤ c0) (hm : DpStrand.E.wt (l0, l1) ≤ 1048576) : Calls Try.prog 25 #[.slice pk nk ck, .slice pa na ca, .agg #[.slice p0 n0 c0, .slice p1 n1 c1], .slice q d e] w (Val (.int .i64 (fault ks us l0 l1 docs)) w) := by
  have hb := box1 w (.cells #[.slice p0 n0 c0, .slice p1 n1 c1] 32)
  have HBV := Lib.hid hb
  have HX := Lib.hid (Bx.new w 32 #[.slice p0 n0 c0, .slice p1 n1 c1])
  have HK := Lib.hid (hk.below hb)
  have HA := Lib.hid (ha.below hb)
  have H0 := Lib.hid (h0.below hb)
  have H1 := Lib.hid (h1.below hb)
  have HD := Lib.hid (hd.below hb)
  have L1 := Lib.hid h1.len
  have hle1 := h1.le
  have HM := Lib.hid hm
  have HCAP := Lib.hid hc0
  clear hb hk ha h0 h1 hd hm hc0
  go_enter Try.func25, Try.ntmps25
  go_wp2_with fail
  generalize (w.alloc (.cells #[.slice p0 n0 c0, .slice p1 n1 c1] 32)) = V at HBV HX HK HA H0 H1 HD ⊢
  go_loopw [14] (fun i wr => ∃ k : Nat, k ≤ n1 ∧ i = .int .i64 k ∧ Hid (Good (ks := ks) (us := us) (ps := l0) (ch := l1) (docs := docs) k) ∧ Hid (Below V.heap.size V wr)) (fun i _ => n1 - (intOf i).toNat)
  case atStart => exact ⟨0, Nat.zero_le _, rfl, Lib.hid good_zero, Lib.hid (Below.refl _ _)⟩
  case round =>
    obtain ⟨k, hk, rfl, HG, HB⟩ := hrel
    obtain ⟨s0, s1⟩ := DpStrand.bxc (HX.out.below HB.out)
    by_cases hlt : k < n1
    · skip
      obtain ⟨b, o, x_e, cs_e, rfl, _, hbwe, hxe, hce, hrde⟩ := H1.out.at_ hlt
      obtain ⟨xe0, xe1, xe2, le3, le4⟩ := x_e
      obtain ⟨pe3, ne3, ce3, pe4, ne4, ce4, rfl, be0, be1, be2, he3, he4⟩ := DpRenewal.ex hrde
      have hcce : ∀ jj v, [.int .i64 xe0, .int .i64 xe1, .int .i64 xe2, .slice pe3 ne3 ce3, .slice pe4 ne4 ce4][jj]? = some v → wr.cell? ⟨b, o + k * 5 + jj, none⟩ = some v := fun jj v hv => (HB.out.cell (p := ⟨b, o + k * 5 + jj, none⟩) hbwe).trans (hce jj v hv)
      have HXe := Lib.hid hxe
      have HCe := Lib.hid hcce
      have He3 := Lib.hid (he3.below HB.out)
      have hne3 := he3.le
      have He4 := Lib.hid (he4.below HB.out)
      have hne4 := he4.le
      have Gbe0 := Lib.hid be0
      have Gbe1 := Lib.hid be1
      have Gbe2 := Lib.hid be2
      obtain ⟨u0, u1, u2, u3, u4⟩ := DpRenewal.at_cells hcce
      clear hcce hce hxe hrde be0 be1 be2 he3 he4
      have i1 : (0 : Int) ≤ (k : Int) := by omega
      have i2 : (k : Int) < (n1 : Int) := by omega
      obtain ⟨L, hL⟩ : ∃ z, leafAt l0 l1 docs k = z := ⟨_, rfl⟩
      have HLI : Hid (InI L) := Lib.hid (by rw [← hL]; exact leafAt_in _)
      obtain ⟨β, hβ⟩ : ∃ z, Cr1.chk ks us (xe0, xe1, xe2, le3, le4) L = z := ⟨_, rfl⟩
      have HCK : Hid (Cr1.chk ks us (xe0, xe1, xe2, le3, le4) (leafAt l0 l1 docs k) = β) := Lib.hid (by rw [hL]; exact hβ)
      have HL := Lib.hid hL
      have HBE := Lib.hid hβ
      clear hL hβ
      have HR2 := Lib.hid (Bx.new wr 55 #[.int .i64 xe0, .int .i64 xe1, .int .i64 xe2, .slice pe3 ne3 ce3, .slice pe4 ne4 ce4])
      have HB3 := Lib.hid (HB.out.alloc HB.out.size (.cells #[.int .i64 xe0, .int .i64 xe1, .int .i64 xe2, .slice pe3 ne3 ce3, .slice pe4 ne4 ce4] 55))
      have HQ := Lib.hid (box1 wr (.cells #[.int .i64 xe0, .int .i64 xe1, .int .i64 xe2, .slice pe3 ne3 ce3, .slice pe4 ne4 ce4] 55))
      go_wp2_with fail
      generalize (wr.alloc (.cells #[.int .i64 xe0, .int .i64 xe1, .int .i64 xe2, .slice pe3 ne3 ce3, .slice pe4 ne4 ce4] 55)) = W3 at HR2 HB3 HQ ⊢
      clear u0 u1 u2 u3 u4 s0 s1
      have HC : Hid (∀ w', Qt.Keeps (W3) w' → w'.cell? ⟨w.heap.size, 0, none⟩ = some (.slice p0 n0 c0) ∧ w'.cell? ⟨w.heap.size, 1, none⟩ = some (.slice (some ⟨b, o, none⟩) n1 c1) ∧ w'.cell? ⟨wr.heap.size, 0, none⟩ = some (.int .i64 xe0) ∧ w'.cell? ⟨wr.heap.size, 1, none⟩ = some (.int .i64 xe1) ∧ w'.cell? ⟨wr.heap.size, 2, none⟩ = some (.int .i64 xe2) ∧ w'.cell? ⟨wr.heap.size, 3, none⟩ = some (.slice pe3 ne3 ce3) ∧ w'.cell? ⟨wr.heap.size, 4, none⟩ = some (.slice pe4 ne4 ce4)) := Lib.hid fun w' hw => let h := DpRenewal.bxc (HR2.out.below hw); let g := DpStrand.bxc (HX.out.below (below_on HB3.out hw)); ⟨g.1, g.2, h.1, h.2.1, h.2.2.1, h.2.2.2.1, h.2.2.2.2⟩
      refine Qt.region (Qt.Keeps (W3)) (by kernel_rfl) (by kernel_rfl) (Qt.Keeps.drew _) ?_
      repeat (first
        | go_big_quiet_skip
        | (go_big_quiet_want
           refine Qt.val (v := ?_) (fun w hw => ?_) ?_
           rotate_left
           · obtain ⟨s0, s1, t0, t1, t2, t3, t4⟩ := HC.out w hw
             go_simp
             rfl
           simp only [Act.put, List.setIfInBounds_toArray, List.set_cons_zero, List.set_cons_succ]
           go_big_quiet_on)
        | (go_big_quiet_want
           refine Qt.call (v := .int .i64 L) (f := 10) (args := #[.agg #[.slice p0 n0 c0, .slice (some ⟨b, o, none⟩) n1 c1], .slice q d e, .int .i64 k]) (fun w hw => ?_) (fun w hw => ?_) ?_
           · go_simp
           · refine (La.leafAt_any l0 _ _ _ l1 _ _ _ docs _ _ _ k _ (H0.out.below (below_on HB3.out hw)) (H1.out.below (below_on HB3.out hw)) (HD.out.below (below_on HB3.out hw)) HCAP.out HM.out).mono ?_
             rintro e w1 ⟨rfl, hb1⟩
             rw [HL.out]
             exact ⟨rfl, hw.then hb1⟩
           simp only [Act.put, List.setIfInBounds_toArray, List.set_cons_zero, List.set_cons_succ]
           go_big_quiet_on)
        | (go_big_quiet_want
           refine Qt.call (v := .bool β) (f := 20) (args := #[.slice pk nk ck, .slice pa na ca, .agg #[.int .i64 xe0, .int .i64 xe1, .int .i64 xe2, .slice pe3 ne3 ce3, .slice pe4 ne4 ce4], .int .i64 L]) (fun w hw => ?_) (fun w hw => ?_) ?_
           · go_simp
           · refine (Cr2.check_any ks _ _ _ us _ _ _ xe0 xe1 xe2 le3 _ _ _ le4 _ _ _ L Gbe1.out HLI.out _ (HK.out.below (below_on HB3.out hw)) (HA.out.below (below_on HB3.out hw)) ((He3.out.below HQ.out).below hw) ((He4.out.below HQ.out).below hw)).mono ?_
             rintro e w1 ⟨rfl, hb1⟩
             rw [HBE.out]
             exact ⟨rfl, hw.then hb1⟩
           simp only [Act.put, List.setIfInBounds_toArray, List.set_cons_zero, List.set_cons_succ]
           go_big_quiet_on))
      refine wpQuiet_nil ?_
      intro w5 hw5
      have HB5 := Lib.hid (below_on HB3.out hw5)
      clear hw5
      cases β
      · have HS := Lib.hid (fault_at HG.out HXe.out HCK.out)
        go_wp2_with fail
        go_ret
        exact val_of (by rw [HS.out]; first | done | rfl) (HBV.out.trans (HB5.out.mono HBV.out.size))
      · have HG2 := Lib.hid (good_next HG.out HXe.out HCK.out)
        go_wp2_with fail
        go_roundw
        case rel => exact ⟨k + 1, by omega, by go_num, HG2, HB5⟩
        case measure => simp [intOf]; omega
    · obtain rfl : k = n1 := by omega
      have HS := Lib.hid (fault_none L1.out HG.out)
      go_wp2_with fail
      go_ret
      exact val_of (by rw [HS.out]; first | done | rfl) (HBV.out.trans (HB.out.mono HBV.out.size))
set_option maxRecDepth 100000 in
set_option maxHeartbeats 8000000 in
theorem spec_fault_any (ks : List I5) (pk : Option Addr) (nk ck : Nat) (us : List I3) (pa : Option Addr) (na ca : Nat) (l0 : List DpPiece.A) (p0 : Option Addr) (n0 c0 : Nat) (l1 : List DpRenewal.A) (p1 : Option Addr) (n1 c1 : Nat) (docs : List Int) (q : Option Addr) (d e : Nat) {SK SA S0 S1 T : Nat → Prop} (w : World) (hk : RdD (flat SlKey.E SlKey.InR) SK w pk nk ks) (ha : RdD (flat SlAuthority.E SlAuthority.InR) SA w pa na us) (h0 : RdD DpPiece.E S0 w p0 n0 l0) (h1 : RdD DpRenewal.E S1 w p1 n1 l1) (hd : RdD int T w q d docs) (hc0 : n0 ≤ c0) (hm : DpStrand.E.wt (l0, l1) ≤ 1048576) : Calls Try.prog 24 #[.slice pk nk ck, .slice pa na ca, .agg #[.slice p0 n0 c0, .slice p1 n1 c1], .slice q d e] w (Val (.int .i64 (fault ks us l0 l1 docs)) w) := by
  have hb := box1 w (.cells #[.slice p0 n0 c0, .slice p1 n1 c1] 32)
  have HBV := Lib.hid hb
  have HX := Lib.hid (Bx.new w 32 #[.slice p0 n0 c0, .slice p1 n1 c1])
  have HK := Lib.hid (hk.below hb)
  have HA := Lib.hid (ha.below hb)
  have H0 := Lib.hid (h0.below hb)
  have H1 := Lib.hid (h1.below hb)
  have HD := Lib.hid (hd.below hb)
  have L1 := Lib.hid h1.len
  have hle1 := h1.le
  have HM := Lib.hid hm
  have HCAP := Lib.hid hc0
  clear hb hk ha h0 h1 hd hm hc0
  go_enter Try.func24, Try.ntmps24
  go_wp2_with fail
  generalize (w.alloc (.cells #[.slice p0 n0 c0, .slice p1 n1 c1] 32)) = V at HBV HX HK HA H0 H1 HD ⊢
  go_loopw [9] (fun i wr => ∃ k : Nat, k ≤ n1 ∧ i = .int .i64 k ∧ Hid (Good (ks := ks) (us := us) (ps := l0) (ch := l1) (docs := docs) k) ∧ Hid (Below V.heap.size V wr)) (fun i _ => n1 - (intOf i).toNat)
  case atStart => exact ⟨0, Nat.zero_le _, rfl, Lib.hid good_zero, Lib.hid (Below.refl _ _)⟩
  case round =>
    obtain ⟨k, hk, rfl, HG, HB⟩ := hrel
    obtain ⟨s0, s1⟩ := DpStrand.bxc (HX.out.below HB.out)
    by_cases hlt : k < n1
    · skip
      obtain ⟨b, o, x_e, cs_e, rfl, _, hbwe, hxe, hce, hrde⟩ := H1.out.at_ hlt
      obtain ⟨xe0, xe1, xe2, le3, le4⟩ := x_e
      obtain ⟨pe3, ne3, ce3, pe4, ne4, ce4, rfl, be0, be1, be2, he3, he4⟩ := DpRenewal.ex hrde
      have hcce : ∀ jj v, [.int .i64 xe0, .int .i64 xe1, .int .i64 xe2, .slice pe3 ne3 ce3, .slice pe4 ne4 ce4][jj]? = some v → wr.cell? ⟨b, o + k * 5 + jj, none⟩ = some v := fun jj v hv => (HB.out.cell (p := ⟨b, o + k * 5 + jj, none⟩) hbwe).trans (hce jj v hv)
      have HXe := Lib.hid hxe
      have HCe := Lib.hid hcce
      have He3 := Lib.hid (he3.below HB.out)
      have hne3 := he3.le
      have He4 := Lib.hid (he4.below HB.out)
      have hne4 := he4.le
      have Gbe0 := Lib.hid be0
      have Gbe1 := Lib.hid be1
      have Gbe2 := Lib.hid be2
      obtain ⟨u0, u1, u2, u3, u4⟩ := DpRenewal.at_cells hcce
      clear hcce hce hxe hrde be0 be1 be2 he3 he4
      have i1 : (0 : Int) ≤ (k : Int) := by omega
      have i2 : (k : Int) < (n1 : Int) := by omega
      obtain ⟨L, hL⟩ : ∃ z, leafAt l0 l1 docs k = z := ⟨_, rfl⟩
      have HLI : Hid (InI L) := Lib.hid (by rw [← hL]; exact leafAt_in _)
      obtain ⟨β, hβ⟩ : ∃ z, Cr1.chk ks us (xe0, xe1, xe2, le3, le4) L = z := ⟨_, rfl⟩
      have HCK : Hid (Cr1.chk ks us (xe0, xe1, xe2, le3, le4) (leafAt l0 l1 docs k) = β) := Lib.hid (by rw [hL]; exact hβ)
      have HL := Lib.hid hL
      have HBE := Lib.hid hβ
      clear hL hβ
      have HU := Lib.hid (And.intro hbwe HCe.out)
      clear u0 u1 u2 u3 u4
      go_wp2_with fail
      clear s0 s1
      have HC : Hid (∀ w', Qt.Keeps (wr) w' → w'.cell? ⟨w.heap.size, 0, none⟩ = some (.slice p0 n0 c0) ∧ w'.cell? ⟨w.heap.size, 1, none⟩ = some (.slice (some ⟨b, o, none⟩) n1 c1) ∧ w'.cell? ⟨b, o + k * 5, none⟩ = some (.int .i64 xe0) ∧ w'.cell? ⟨b, o + k * 5 + 1, none⟩ = some (.int .i64 xe1) ∧ w'.cell? ⟨b, o + k * 5 + 2, none⟩ = some (.int .i64 xe2) ∧ w'.cell? ⟨b, o + k * 5 + 3, none⟩ = some (.slice pe3 ne3 ce3) ∧ w'.cell? ⟨b, o + k * 5 + 4, none⟩ = some (.slice pe4 ne4 ce4)) := Lib.hid fun w' hw => let h := DpRenewal.at_cells (w := w') (b := b) (q := o + k * 5) fun t v hv => (hw.cell (p := ⟨b, o + k * 5 + t, none⟩) (Nat.lt_of_lt_of_le hbwe HB.out.size)).trans (HCe.out t v hv); let g := DpStrand.bxc (HX.out.below (below_on HB.out hw)); ⟨g.1, g.2, h.1, h.2.1, h.2.2.1, h.2.2.2.1, h.2.2.2.2⟩
      refine Qt.region (Qt.Keeps (wr)) (by kernel_rfl) (by kernel_rfl) (Qt.Keeps.drew _) ?_
      repeat (first
        | go_big_quiet_skip
        | (go_big_quiet_want
           refine Qt.val (v := ?_) (fun w hw => ?_) ?_
           rotate_left
           · obtain ⟨s0, s1, t0, t1, t2, t3, t4⟩ := HC.out w hw
             go_simp
             rfl
           simp only [Act.put, List.setIfInBounds_toArray, List.set_cons_zero, List.set_cons_succ]
           go_big_quiet_on)
        | (go_big_quiet_want
           refine Qt.call (v := .int .i64 L) (f := 7) (args := #[.agg #[.slice p0 n0 c0, .slice (some ⟨b, o, none⟩) n1 c1], .slice q d e, .int .i64 k]) (fun w hw => ?_) (fun w hw => ?_) ?_
           · go_simp
           · refine (La.spec_leafAt_any l0 _ _ _ l1 _ _ _ docs _ _ _ k _ (H0.out.below (below_on HB.out hw)) (H1.out.below (below_on HB.out hw)) (HD.out.below (below_on HB.out hw)) HCAP.out HM.out).mono ?_
             rintro e w1 ⟨rfl, hb1⟩
             rw [HL.out]
             exact ⟨rfl, hw.then hb1⟩
           simp only [Act.put, List.setIfInBounds_toArray, List.set_cons_zero, List.set_cons_succ]
           go_big_quiet_on)
        | (go_big_quiet_want
           refine Qt.call (v := .bool β) (f := 16) (args := #[.slice pk nk ck, .slice pa na ca, .agg #[.int .i64 xe0, .int .i64 xe1, .int .i64 xe2, .slice pe3 ne3 ce3, .slice pe4 ne4 ce4], .int .i64 L]) (fun w hw => ?_) (fun w hw => ?_) ?_
           · go_simp
           · refine (Cr3.spec_check_any ks _ _ _ us _ _ _ xe0 xe1 xe2 le3 _ _ _ le4 _ _ _ L Gbe1.out HLI.out _ (HK.out.below (below_on HB.out hw)) (HA.out.below (below_on HB.out hw)) (He3.out.below hw) (He4.out.below hw)).mono ?_
             rintro e w1 ⟨rfl, hb1⟩
             rw [HBE.out]
             exact ⟨rfl, hw.then hb1⟩
           simp only [Act.put, List.setIfInBounds_toArray, List.set_cons_zero, List.set_cons_succ]
           go_big_quiet_on))
      refine wpQuiet_nil ?_
      intro w5 hw5
      have HB5 := Lib.hid (below_on HB.out hw5)
      clear hw5
      cases β
      · have HS := Lib.hid (fault_at HG.out HXe.out HCK.out)
        go_wp2_with fail
        go_ret
        exact val_of (by rw [HS.out]; first | done | rfl) (HBV.out.trans (HB5.out.mono HBV.out.size))
      · have HG2 := Lib.hid (good_next HG.out HXe.out HCK.out)
        go_wp2_with fail
        go_roundw
        case rel => exact ⟨k + 1, by omega, by go_num, HG2, HB5⟩
        case measure => simp [intOf]; omega
    · obtain rfl : k = n1 := by omega
      have HS := Lib.hid (fault_none L1.out HG.out)
      go_wp2_with fail
      go_ret
      exact val_of (by rw [HS.out]; first | done | rfl) (HBV.out.trans (HB.out.mono HBV.out.size))
end Go.Proofs.Ytnkpioaaabnlcaa.Ff
