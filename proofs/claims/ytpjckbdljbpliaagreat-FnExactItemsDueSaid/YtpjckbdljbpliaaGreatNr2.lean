/- The last renewal of an item; whether an item needs renewal, whether it is safe now: in the reference. -/
import Derived.Test.YtpjckbdljbpliaaGreatFmA
import Derived.Test.YtpjckbdljbpliaaGreatNr1
import Derived.Test.YtpjckbdljbpliaaGreatDpItem
import Derived.Test.YtpjckbdljbpliaaGreatDpFrame
import Derived.Test.YtpjckbdljbpliaaGreatQt
import Derived.Outline
namespace Go.Proofs.YtpjckbdljbpliaaGreat.Nr2
open Go.ChangeShapes Go.WideShapes Go.ChangeAt Go.RowKit Sl St Ed Dz Fnd Fm0 Nr1
set_option maxRecDepth 100000 in
set_option maxHeartbeats 8000000 in
theorem spec_last_any (ks : List I5) (pk : Option Addr) (nk ck : Nat) (us : List I3) (pa : Option Addr) (na ca : Nat) (ms : List Mn.Me) (pm : Option Addr) (nm cm : Nat) (f3 now : Int) (x0 : Int) (x1 : Int) (x2 : Int) (p3 : Option Addr) (n3 c3 : Nat) (p4 : Option Addr) (n4 c4 : Nat) (x5 : Int) (x6 : Int) (x7 : Int) (x8 : Int) (x9 : Int) (x10 : Int) (x11 : Int) (x12 : Int) (x13 : Int) (p14 : Option Addr) (n14 c14 : Nat) (l15 : List DpRenewal.A) (p15 : Option Addr) (n15 c15 : Nat) {SK SA SM S15 : Nat → Prop} (w : World) (hk : RdD (flat SlKey.E SlKey.InR) SK w pk nk ks) (ha : RdD (flat SlAuthority.E SlAuthority.InR) SA w pa na us) (hm : RdD (flat SlMethod.E SlMethod.InR) SM w pm nm ms) (h15 : RdD DpRenewal.E S15 w p15 n15 l15) (hw : wts DpRenewal.E l15 ≤ 1048576) : Calls Tryz.prog 56 #[.agg #[.slice pk nk ck, .slice pa na ca, .slice pm nm cm, .int .i64 f3, .int .i64 now], .agg #[.int .i64 x0, .int .i64 x1, .int .i64 x2, .slice p3 n3 c3, .slice p4 n4 c4, .int .i64 x5, .int .i64 x6, .int .i64 x7, .int .i64 x8, .int .i64 x9, .int .i64 x10, .int .i64 x11, .int .i64 x12, .int .i64 x13, .slice p14 n14 c14, .slice p15 n15 c15]] w (Dz.Val (.int .i64 (lastEnd ks us ms l15)) w) := by
  have hb : Below w.heap.size w ((w.alloc (.cells #[.slice pk nk ck, .slice pa na ca, .slice pm nm cm, .int .i64 f3, .int .i64 now] 38)).alloc (.cells #[.int .i64 x0, .int .i64 x1, .int .i64 x2, .slice p3 n3 c3, .slice p4 n4 c4, .int .i64 x5, .int .i64 x6, .int .i64 x7, .int .i64 x8, .int .i64 x9, .int .i64 x10, .int .i64 x11, .int .i64 x12, .int .i64 x13, .slice p14 n14 c14, .slice p15 n15 c15] 80)) := (box1 w _).alloc (by simp) _
  have bx1 := (Bx.new w 38 #[.slice pk nk ck, .slice pa na ca, .slice pm nm cm, .int .i64 f3, .int .i64 now]).alloc (.cells #[.int .i64 x0, .int .i64 x1, .int .i64 x2, .slice p3 n3 c3, .slice p4 n4 c4, .int .i64 x5, .int .i64 x6, .int .i64 x7, .int .i64 x8, .int .i64 x9, .int .i64 x10, .int .i64 x11, .int .i64 x12, .int .i64 x13, .slice p14 n14 c14, .slice p15 n15 c15] 80)
  have bx2 := Bx.new (w.alloc (.cells #[.slice pk nk ck, .slice pa na ca, .slice pm nm cm, .int .i64 f3, .int .i64 now] 38)) 80 #[.int .i64 x0, .int .i64 x1, .int .i64 x2, .slice p3 n3 c3, .slice p4 n4 c4, .int .i64 x5, .int .i64 x6, .int .i64 x7, .int .i64 x8, .int .i64 x9, .int .i64 x10, .int .i64 x11, .int .i64 x12, .int .i64 x13, .slice p14 n14 c14, .slice p15 n15 c15]
  rw [World.size_alloc] at bx2
  have HBV := Lib.hid hb
  have HG := Lib.hid bx1
  have HX := Lib.hid bx2
  have HK := Lib.hid (hk.below hb)
  have HA := Lib.hid (ha.below hb)
  have HM := Lib.hid (hm.below hb)
  have H15 := Lib.hid (h15.below hb)
  have hle := h15.le
  have HWT := Lib.hid hw
  clear hb bx1 bx2 hk ha hm h15
  cases n15 with
  | zero =>
    have HS : Hid (lastEnd ks us ms l15 = 0) := Lib.hid (end_nil H15.out.len)
    obtain ⟨i0, i1, i2, i3, i4, i5, i6, i7, i8, i9, i10, i11, i12, i13, i14, i15⟩ := DpItem.bxc HX.out
    go_enter Tryz.func56, Tryz.ntmps56
    go_wp2_with fail
    go_ret
    exact Dz.val_of (by rw [HS.out]; first | done | rfl) HBV.out
  | succ m =>
    obtain ⟨b, o, y0, y1, y2, k3, q3, m3, d3, k4, q4, m4, d4, rfl, hbb, hx, hc, hy1, h3, h4, hm4⟩ := getAt H15.out hw
    have hl := H15.out.len
    have HC := Lib.hid hc
    have HBB := Lib.hid hbb
    have HY1 := Lib.hid hy1
    have H3 := Lib.hid h3
    have H4 := Lib.hid h4
    obtain ⟨E, hE⟩ : ∃ z, firstM ks us (ends ms) y1 k4 = z := ⟨_, rfl⟩
    have HL : Hid (lastEnd ks us ms l15 = E) := Lib.hid (by rw [end_at hl hx, hE])
    have HS : Hid (lastEnd ks us ms l15 = E) := Lib.hid (by rw [HL.out])
    have HE := Lib.hid hE
    have i1 : (0 : Int) ≤ (m : Int) := by omega
    have i2 : (m : Int) < (m : Int) + 1 := by omega
    have jw : IntKind.i64.wrap (m : Int) = (m : Int) := IntWalk.i64_in _ (by omega)
    have e1 : ((m : Int) + 1 == 0) = false := beq_eq_false_iff_ne.2 (by omega)
    have e3 : decide ((0 : Int) < (m : Int) + 1) = true := decide_eq_true (by omega)
    clear hc hbb hx hy1 h3 h4 hl hE
    obtain ⟨i0, i1, i2, i3, i4, i5, i6, i7, i8, i9, i10, i11, i12, i13, i14, i15⟩ := DpItem.bxc HX.out
    go_enter Tryz.func56, Tryz.ntmps56
    go_wp2_with fail
    generalize ((w.alloc (.cells #[.slice pk nk ck, .slice pa na ca, .slice pm nm cm, .int .i64 f3, .int .i64 now] 38)).alloc (.cells #[.int .i64 x0, .int .i64 x1, .int .i64 x2, .slice p3 n3 c3, .slice p4 n4 c4, .int .i64 x5, .int .i64 x6, .int .i64 x7, .int .i64 x8, .int .i64 x9, .int .i64 x10, .int .i64 x11, .int .i64 x12, .int .i64 x13, .slice p14 n14 c14, .slice (some ⟨b, o, none⟩) (m + 1) c15] 80)) = V at HBV HG HX HK HA HM H15 HC HBB H3 H4 ⊢
    clear i0 i1 i2 i3 i4 i5 i6 i7 i8 i9 i10 i11 i12 i13 i14 i15
    have HC : Hid (∀ w', Qt.Keeps (V) w' → w'.cell? ⟨w.heap.size, 0, none⟩ = some (.slice pk nk ck) ∧ w'.cell? ⟨w.heap.size, 1, none⟩ = some (.slice pa na ca) ∧ w'.cell? ⟨w.heap.size, 2, none⟩ = some (.slice pm nm cm) ∧ w'.cell? ⟨w.heap.size, 3, none⟩ = some (.int .i64 f3) ∧ w'.cell? ⟨w.heap.size, 4, none⟩ = some (.int .i64 now) ∧ w'.cell? ⟨w.heap.size + 1, 15, none⟩ = some (.slice (some ⟨b, o, none⟩) (m + 1) c15) ∧ w'.cell? ⟨b, o + m * 5, none⟩ = some (.int .i64 y0) ∧ w'.cell? ⟨b, o + m * 5 + 1, none⟩ = some (.int .i64 y1) ∧ w'.cell? ⟨b, o + m * 5 + 2, none⟩ = some (.int .i64 y2) ∧ w'.cell? ⟨b, o + m * 5 + 3, none⟩ = some (.slice q3 m3 d3) ∧ w'.cell? ⟨b, o + m * 5 + 4, none⟩ = some (.slice q4 m4 d4)) := Lib.hid fun w' hw => let g := DpFrame.bxc (HG.out.below hw); let r := DpRenewal.at_cells (w := w') (b := b) (q := o + m * 5) fun t v hv => (hw.cell (p := ⟨b, o + m * 5 + t, none⟩) HBB.out).trans (HC.out t v hv); ⟨g.1, g.2.1, g.2.2.1, g.2.2.2.1, g.2.2.2.2, (HX.out.below hw).cell (j := 15) rfl, r.1, r.2.1, r.2.2.1, r.2.2.2.1, r.2.2.2.2⟩
    refine Qt.region (Qt.Keeps (V)) (by kernel_rfl) (by kernel_rfl) (Qt.Keeps.drew _) ?_
    repeat (first
      | go_big_quiet_skip
      | (go_big_quiet_want
         refine Qt.val (v := ?_) (fun w hw => ?_) ?_
         rotate_left
         · obtain ⟨g0, g1, g2, g3, g4, c15, r0, r1, r2, r3, r4⟩ := HC.out w hw
           go_simp
           rfl
         simp only [Act.put, List.setIfInBounds_toArray, List.set_cons_zero, List.set_cons_succ]
         go_big_quiet_on)
      | (go_big_quiet_want
         refine Qt.call (v := .int .i64 E) (f := 78) (args := #[.agg #[.slice pk nk ck, .slice pa na ca, .slice pm nm cm, .int .i64 f3, .int .i64 now], .agg #[.int .i64 y0, .int .i64 y1, .int .i64 y2, .slice q3 m3 d3, .slice q4 m4 d4]]) (fun w hw => ?_) (fun w hw => ?_) ?_
         · go_simp
         · refine (Fm3.spec_ends_any ks _ _ _ us _ _ _ ms _ _ _ f3 now y0 y1 y2 k3 _ _ _ k4 _ _ _ _ (HK.out.below hw) (HA.out.below hw) (HM.out.below hw) (H3.out.below hw) (H4.out.below hw)).mono ?_
           rintro e w1 ⟨rfl, hb1⟩
           rw [HE.out]
           exact ⟨rfl, hw.then hb1⟩
         simp only [Act.put, List.setIfInBounds_toArray, List.set_cons_zero, List.set_cons_succ]
         go_big_quiet_on))
    refine wpQuiet_nil ?_
    intro w3 hw3
    have HB3 := Lib.hid (below_on HBV.out hw3)
    clear hw3
    go_wp2_with fail
    go_ret
    exact Dz.val_of (by rw [HS.out]; first | done | rfl) HB3.out
set_option maxRecDepth 100000 in
set_option maxHeartbeats 8000000 in
theorem spec_needs_any (ks : List I5) (pk : Option Addr) (nk ck : Nat) (us : List I3) (pa : Option Addr) (na ca : Nat) (ms : List Mn.Me) (pm : Option Addr) (nm cm : Nat) (f3 now : Int) (x0 : Int) (x1 : Int) (x2 : Int) (p3 : Option Addr) (n3 c3 : Nat) (p4 : Option Addr) (n4 c4 : Nat) (x5 : Int) (x6 : Int) (x7 : Int) (x8 : Int) (x9 : Int) (x10 : Int) (x11 : Int) (x12 : Int) (x13 : Int) (p14 : Option Addr) (n14 c14 : Nat) (l15 : List DpRenewal.A) (p15 : Option Addr) (n15 c15 : Nat) (margin : Int) {SK SA SM S15 : Nat → Prop} (w : World) (hk : RdD (flat SlKey.E SlKey.InR) SK w pk nk ks) (ha : RdD (flat SlAuthority.E SlAuthority.InR) SA w pa na us) (hm : RdD (flat SlMethod.E SlMethod.InR) SM w pm nm ms) (h15 : RdD DpRenewal.E S15 w p15 n15 l15) (hw : wts DpRenewal.E l15 ≤ 1048576) : Calls Tryz.prog 28 #[.agg #[.slice pk nk ck, .slice pa na ca, .slice pm nm cm, .int .i64 f3, .int .i64 now], .agg #[.int .i64 x0, .int .i64 x1, .int .i64 x2, .slice p3 n3 c3, .slice p4 n4 c4, .int .i64 x5, .int .i64 x6, .int .i64 x7, .int .i64 x8, .int .i64 x9, .int .i64 x10, .int .i64 x11, .int .i64 x12, .int .i64 x13, .slice p14 n14 c14, .slice p15 n15 c15], .int .i64 margin] w (Dz.Val (.bool (needs ks us ms now margin l15)) w) := by
  have hb : Below w.heap.size w ((w.alloc (.cells #[.slice pk nk ck, .slice pa na ca, .slice pm nm cm, .int .i64 f3, .int .i64 now] 38)).alloc (.cells #[.int .i64 x0, .int .i64 x1, .int .i64 x2, .slice p3 n3 c3, .slice p4 n4 c4, .int .i64 x5, .int .i64 x6, .int .i64 x7, .int .i64 x8, .int .i64 x9, .int .i64 x10, .int .i64 x11, .int .i64 x12, .int .i64 x13, .slice p14 n14 c14, .slice p15 n15 c15] 80)) := (box1 w _).alloc (by simp) _
  have bx1 := (Bx.new w 38 #[.slice pk nk ck, .slice pa na ca, .slice pm nm cm, .int .i64 f3, .int .i64 now]).alloc (.cells #[.int .i64 x0, .int .i64 x1, .int .i64 x2, .slice p3 n3 c3, .slice p4 n4 c4, .int .i64 x5, .int .i64 x6, .int .i64 x7, .int .i64 x8, .int .i64 x9, .int .i64 x10, .int .i64 x11, .int .i64 x12, .int .i64 x13, .slice p14 n14 c14, .slice p15 n15 c15] 80)
  have bx2 := Bx.new (w.alloc (.cells #[.slice pk nk ck, .slice pa na ca, .slice pm nm cm, .int .i64 f3, .int .i64 now] 38)) 80 #[.int .i64 x0, .int .i64 x1, .int .i64 x2, .slice p3 n3 c3, .slice p4 n4 c4, .int .i64 x5, .int .i64 x6, .int .i64 x7, .int .i64 x8, .int .i64 x9, .int .i64 x10, .int .i64 x11, .int .i64 x12, .int .i64 x13, .slice p14 n14 c14, .slice p15 n15 c15]
  rw [World.size_alloc] at bx2
  have HBV := Lib.hid hb
  have HG := Lib.hid bx1
  have HX := Lib.hid bx2
  have HK := Lib.hid (hk.below hb)
  have HA := Lib.hid (ha.below hb)
  have HM := Lib.hid (hm.below hb)
  have H15 := Lib.hid (h15.below hb)
  have hle := h15.le
  have HWT := Lib.hid hw
  clear hb bx1 bx2 hk ha hm h15
  cases n15 with
  | zero =>
    have HS : Hid (needs ks us ms now margin l15 = true) := Lib.hid (if_pos H15.out.len)
    obtain ⟨i0, i1, i2, i3, i4, i5, i6, i7, i8, i9, i10, i11, i12, i13, i14, i15⟩ := DpItem.bxc HX.out
    go_enter Tryz.func28, Tryz.ntmps28
    go_wp2_with fail
    generalize ((w.alloc (.cells #[.slice pk nk ck, .slice pa na ca, .slice pm nm cm, .int .i64 f3, .int .i64 now] 38)).alloc (.cells #[.int .i64 x0, .int .i64 x1, .int .i64 x2, .slice p3 n3 c3, .slice p4 n4 c4, .int .i64 x5, .int .i64 x6, .int .i64 x7, .int .i64 x8, .int .i64 x9, .int .i64 x10, .int .i64 x11, .int .i64 x12, .int .i64 x13, .slice p14 n14 c14, .slice p15 0 c15] 80)) = V at HBV HG HX HK HA HM H15 ⊢
    have HC : Hid (∀ w', Qt.Keeps (V) w' → w'.cell? ⟨w.heap.size + 1, 15, none⟩ = some (.slice p15 0 c15)) := Lib.hid fun w' hw => (HX.out.below hw).cell (j := 15) rfl
    refine Qt.region (Qt.Keeps (V)) (by kernel_rfl) (by kernel_rfl) (Qt.Keeps.drew _) ?_
    repeat (first
      | go_big_quiet_skip
      | (go_big_quiet_want
         refine Qt.val (v := ?_) (fun w hw => ?_) ?_
         rotate_left
         · have c15 := HC.out w hw
           go_simp
           rfl
         simp only [Act.put, List.setIfInBounds_toArray, List.set_cons_zero, List.set_cons_succ]
         go_big_quiet_on))
    refine wpQuiet_nil ?_
    intro w3 hw3
    have HB3 := Lib.hid (below_on HBV.out hw3)
    clear hw3
    go_wp2_with fail
    go_ret
    exact Dz.val_of (by rw [HS.out]; first | done | rfl) HB3.out
  | succ m =>
    obtain ⟨b, o, y0, y1, y2, k3, q3, m3, d3, k4, q4, m4, d4, rfl, hbb, hx, hc, hy1, h3, h4, hm4⟩ := getAt H15.out hw
    have hl := H15.out.len
    have HC := Lib.hid hc
    have HBB := Lib.hid hbb
    have HY1 := Lib.hid hy1
    have H3 := Lib.hid h3
    have H4 := Lib.hid h4
    obtain ⟨E, hE⟩ : ∃ z, firstM ks us (ends ms) y1 k4 = z := ⟨_, rfl⟩
    have HL : Hid (lastEnd ks us ms l15 = E) := Lib.hid (by rw [end_at hl hx, hE])
    have HS : Hid (needs ks us ms now margin l15 = decide (IntKind.i64.wrap (E - now) ≤ margin)) := Lib.hid (by unfold needs; rw [if_neg (by omega)]; rw [HL.out])
    have HE := Lib.hid hE
    have i1 : (0 : Int) ≤ (m : Int) := by omega
    have i2 : (m : Int) < (m : Int) + 1 := by omega
    have jw : IntKind.i64.wrap (m : Int) = (m : Int) := IntWalk.i64_in _ (by omega)
    have e1 : ((m : Int) + 1 == 0) = false := beq_eq_false_iff_ne.2 (by omega)
    have e3 : decide ((0 : Int) < (m : Int) + 1) = true := decide_eq_true (by omega)
    clear hc hbb hx hy1 h3 h4 hl hE
    obtain ⟨i0, i1, i2, i3, i4, i5, i6, i7, i8, i9, i10, i11, i12, i13, i14, i15⟩ := DpItem.bxc HX.out
    go_enter Tryz.func28, Tryz.ntmps28
    go_wp2_with fail
    generalize ((w.alloc (.cells #[.slice pk nk ck, .slice pa na ca, .slice pm nm cm, .int .i64 f3, .int .i64 now] 38)).alloc (.cells #[.int .i64 x0, .int .i64 x1, .int .i64 x2, .slice p3 n3 c3, .slice p4 n4 c4, .int .i64 x5, .int .i64 x6, .int .i64 x7, .int .i64 x8, .int .i64 x9, .int .i64 x10, .int .i64 x11, .int .i64 x12, .int .i64 x13, .slice p14 n14 c14, .slice (some ⟨b, o, none⟩) (m + 1) c15] 80)) = V at HBV HG HX HK HA HM H15 HC HBB H3 H4 ⊢
    clear i0 i1 i2 i3 i4 i5 i6 i7 i8 i9 i10 i11 i12 i13 i14 i15
    have HC : Hid (∀ w', Qt.Keeps (V) w' → w'.cell? ⟨w.heap.size, 0, none⟩ = some (.slice pk nk ck) ∧ w'.cell? ⟨w.heap.size, 1, none⟩ = some (.slice pa na ca) ∧ w'.cell? ⟨w.heap.size, 2, none⟩ = some (.slice pm nm cm) ∧ w'.cell? ⟨w.heap.size, 3, none⟩ = some (.int .i64 f3) ∧ w'.cell? ⟨w.heap.size, 4, none⟩ = some (.int .i64 now) ∧ w'.cell? ⟨w.heap.size + 1, 0, none⟩ = some (.int .i64 x0) ∧ w'.cell? ⟨w.heap.size + 1, 1, none⟩ = some (.int .i64 x1) ∧ w'.cell? ⟨w.heap.size + 1, 2, none⟩ = some (.int .i64 x2) ∧ w'.cell? ⟨w.heap.size + 1, 3, none⟩ = some (.slice p3 n3 c3) ∧ w'.cell? ⟨w.heap.size + 1, 4, none⟩ = some (.slice p4 n4 c4) ∧ w'.cell? ⟨w.heap.size + 1, 5, none⟩ = some (.int .i64 x5) ∧ w'.cell? ⟨w.heap.size + 1, 6, none⟩ = some (.int .i64 x6) ∧ w'.cell? ⟨w.heap.size + 1, 7, none⟩ = some (.int .i64 x7) ∧ w'.cell? ⟨w.heap.size + 1, 8, none⟩ = some (.int .i64 x8) ∧ w'.cell? ⟨w.heap.size + 1, 9, none⟩ = some (.int .i64 x9) ∧ w'.cell? ⟨w.heap.size + 1, 10, none⟩ = some (.int .i64 x10) ∧ w'.cell? ⟨w.heap.size + 1, 11, none⟩ = some (.int .i64 x11) ∧ w'.cell? ⟨w.heap.size + 1, 12, none⟩ = some (.int .i64 x12) ∧ w'.cell? ⟨w.heap.size + 1, 13, none⟩ = some (.int .i64 x13) ∧ w'.cell? ⟨w.heap.size + 1, 14, none⟩ = some (.slice p14 n14 c14) ∧ w'.cell? ⟨w.heap.size + 1, 15, none⟩ = some (.slice (some ⟨b, o, none⟩) (m + 1) c15)) := Lib.hid fun w' hw => let g := DpFrame.bxc (HG.out.below hw); let r := DpItem.bxc (HX.out.below hw); ⟨g.1, g.2.1, g.2.2.1, g.2.2.2.1, g.2.2.2.2, r⟩
    refine Qt.region (Qt.Keeps (V)) (by kernel_rfl) (by kernel_rfl) (Qt.Keeps.drew _) ?_
    repeat (first
      | go_big_quiet_skip
      | (go_big_quiet_want
         refine Qt.val (v := ?_) (fun w hw => ?_) ?_
         rotate_left
         · obtain ⟨g0, g1, g2, g3, g4, i0, i1, i2, i3, i4, i5, i6, i7, i8, i9, i10, i11, i12, i13, i14, i15⟩ := HC.out w hw
           go_simp
           rfl
         simp only [Act.put, List.setIfInBounds_toArray, List.set_cons_zero, List.set_cons_succ]
         go_big_quiet_on)
      | (go_big_quiet_want
         refine Qt.call (v := .int .i64 E) (f := 56) (args := #[.agg #[.slice pk nk ck, .slice pa na ca, .slice pm nm cm, .int .i64 f3, .int .i64 now], .agg #[.int .i64 x0, .int .i64 x1, .int .i64 x2, .slice p3 n3 c3, .slice p4 n4 c4, .int .i64 x5, .int .i64 x6, .int .i64 x7, .int .i64 x8, .int .i64 x9, .int .i64 x10, .int .i64 x11, .int .i64 x12, .int .i64 x13, .slice p14 n14 c14, .slice (some ⟨b, o, none⟩) (m + 1) c15]]) (fun w hw => ?_) (fun w hw => ?_) ?_
         · go_simp
         · refine (spec_last_any ks _ _ _ us _ _ _ ms _ _ _ f3 now _ _ _ _ _ _ _ _ _ _ _ _ _ _ _ _ _ _ _ _ _ l15 _ _ _ _ (HK.out.below hw) (HA.out.below hw) (HM.out.below hw) (H15.out.below hw) HWT.out).mono ?_
           rintro e w1 ⟨rfl, hb1⟩
           rw [HL.out]
           exact ⟨rfl, hw.then hb1⟩
         simp only [Act.put, List.setIfInBounds_toArray, List.set_cons_zero, List.set_cons_succ]
         go_big_quiet_on))
    refine wpQuiet_nil ?_
    intro w3 hw3
    have HB3 := Lib.hid (below_on HBV.out hw3)
    clear hw3
    go_wp2_with fail
    go_ret
    exact Dz.val_of (by rw [HS.out]; first | done | rfl) HB3.out
end Go.Proofs.YtpjckbdljbpliaaGreat.Nr2
