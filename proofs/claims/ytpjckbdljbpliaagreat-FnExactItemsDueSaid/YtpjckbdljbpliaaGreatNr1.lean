/- The last renewal of an item; whether an item needs renewal, whether it is safe now: of no program, and in the program. -/
import Derived.Test.YtpjckbdljbpliaaGreatFmA
import Derived.Test.YtpjckbdljbpliaaGreatFm2E
import Derived.Test.YtpjckbdljbpliaaGreatDpItem
import Derived.Test.YtpjckbdljbpliaaGreatDpFrame
import Derived.Test.YtpjckbdljbpliaaGreatQt
import Derived.Outline
namespace Go.Proofs.YtpjckbdljbpliaaGreat.Nr1
open Go.ChangeShapes Go.WideShapes Go.ChangeAt Go.RowKit Sl St Ed Dz Fnd Fm0
def lastEnd (ks : List I5) (us : List I3) (ms : List Mn.Me) (ch : List DpRenewal.A) : Int := match ch[ch.length - 1]? with | some r => firstM ks us (ends ms) r.2.1 r.2.2.2.2 | none => 0
def lastBrk (ks : List I5) (us : List I3) (ms : List Mn.Me) (ch : List DpRenewal.A) : Int := match ch[ch.length - 1]? with | some r => firstM ks us (Mn.brk ms) r.2.1 r.2.2.2.2 | none => 0
def needs (ks : List I5) (us : List I3) (ms : List Mn.Me) (now margin : Int) (ch : List DpRenewal.A) : Bool := if ch.length = 0 then true else decide (IntKind.i64.wrap (lastEnd ks us ms ch - now) ≤ margin)
def safe (ks : List I5) (us : List I3) (ms : List Mn.Me) (now : Int) (ch : List DpRenewal.A) : Bool := if ch.length = 0 then false else decide (now < lastBrk ks us ms ch)
section
variable {ks : List I5} {us : List I3} {ms : List Mn.Me} {ch : List DpRenewal.A}
theorem end_nil (h : ch.length = 0) : lastEnd ks us ms ch = 0 := by unfold lastEnd; rw [List.getElem?_eq_none (by omega)]
theorem end_at {m : Nat} {r : DpRenewal.A} (hl : ch.length = m + 1) (h : ch[m]? = some r) : lastEnd ks us ms ch = firstM ks us (ends ms) r.2.1 r.2.2.2.2 := by unfold lastEnd; rw [hl, Nat.add_sub_cancel, h]
theorem brk_at {m : Nat} {r : DpRenewal.A} (hl : ch.length = m + 1) (h : ch[m]? = some r) : lastBrk ks us ms ch = firstM ks us (Mn.brk ms) r.2.1 r.2.2.2.2 := by unfold lastBrk; rw [hl, Nat.add_sub_cancel, h]
end
theorem getAt {w : World} {S : Nat → Prop} {p : Option Addr} {m : Nat} {l : List DpRenewal.A} (h : RdD DpRenewal.E S w p (m + 1) l) (hw : wts DpRenewal.E l ≤ 1048576) : ∃ b o y0 y1 y2 k3 q3 m3 d3 k4 q4 m4 d4, p = some ⟨b, o, none⟩ ∧ b < w.heap.size ∧ l[m]? = some (y0, y1, y2, k3, k4) ∧ (∀ j v, [.int .i64 y0, .int .i64 y1, .int .i64 y2, .slice q3 m3 d3, .slice q4 m4 d4][j]? = some v → w.cell? ⟨b, o + m * 5 + j, none⟩ = some v) ∧ InI y1 ∧ RdD (flat SlStep.E SlStep.InR) S w q3 m3 k3 ∧ RdD (flat SlStamp.E SlStamp.InR) S w q4 m4 k4 ∧ m4 ≤ 1048576 := by
  obtain ⟨b, o, ⟨y0, y1, y2, k3, k4⟩, cs, rfl, _, hb, hx, hc, hr⟩ := h.at_ (Nat.lt_succ_self m)
  obtain ⟨q3, m3, d3, q4, m4, d4, rfl, _, b1, _, h3, h4⟩ := DpRenewal.ex hr
  have hwj := wts_at (E := DpRenewal.E) hx
  rw [DpRenewal.wt_eq] at hwj
  have := h4.len
  exact ⟨b, o, y0, y1, y2, k3, q3, m3, d3, k4, q4, m4, d4, rfl, hb, hx, hc, b1, h3, h4, by omega⟩
set_option maxRecDepth 100000 in
set_option maxHeartbeats 4000000 in
theorem last_none (x0 : Int) (x1 : Int) (x2 : Int) (p3 : Option Addr) (n3 c3 : Nat) (p4 : Option Addr) (n4 c4 : Nat) (x5 : Int) (x6 : Int) (x7 : Int) (x8 : Int) (x9 : Int) (x10 : Int) (x11 : Int) (x12 : Int) (x13 : Int) (p14 : Option Addr) (n14 c14 : Nat) (p15 : Option Addr) (c15 : Nat) (w : World) : Calls Tryz.prog 61 #[.agg #[.int .i64 x0, .int .i64 x1, .int .i64 x2, .slice p3 n3 c3, .slice p4 n4 c4, .int .i64 x5, .int .i64 x6, .int .i64 x7, .int .i64 x8, .int .i64 x9, .int .i64 x10, .int .i64 x11, .int .i64 x12, .int .i64 x13, .slice p14 n14 c14, .slice p15 0 c15]] w (Dz.Val (.tuple #[.agg #[.int .i64 0, .int .i64 0, .int .i64 0, .slice none 0 0, .slice none 0 0], .bool false]) w) := by
  have HB := Lib.hid ((box1 w (.cells #[.int .i64 x0, .int .i64 x1, .int .i64 x2, .slice p3 n3 c3, .slice p4 n4 c4, .int .i64 x5, .int .i64 x6, .int .i64 x7, .int .i64 x8, .int .i64 x9, .int .i64 x10, .int .i64 x11, .int .i64 x12, .int .i64 x13, .slice p14 n14 c14, .slice p15 0 c15] 80)).alloc (by simp) (.cells #[.int .i64 0, .int .i64 0, .int .i64 0, .slice none 0 0, .slice none 0 0] 131))
  have HX := Lib.hid ((Bx.new w 80 #[.int .i64 x0, .int .i64 x1, .int .i64 x2, .slice p3 n3 c3, .slice p4 n4 c4, .int .i64 x5, .int .i64 x6, .int .i64 x7, .int .i64 x8, .int .i64 x9, .int .i64 x10, .int .i64 x11, .int .i64 x12, .int .i64 x13, .slice p14 n14 c14, .slice p15 0 c15]).alloc (.cells #[.int .i64 0, .int .i64 0, .int .i64 0, .slice none 0 0, .slice none 0 0] 131))
  have hz := Bx.new (w.alloc (.cells #[.int .i64 x0, .int .i64 x1, .int .i64 x2, .slice p3 n3 c3, .slice p4 n4 c4, .int .i64 x5, .int .i64 x6, .int .i64 x7, .int .i64 x8, .int .i64 x9, .int .i64 x10, .int .i64 x11, .int .i64 x12, .int .i64 x13, .slice p14 n14 c14, .slice p15 0 c15] 80)) 131 #[.int .i64 0, .int .i64 0, .int .i64 0, .slice none 0 0, .slice none 0 0]
  rw [World.size_alloc] at hz
  have HZ := Lib.hid hz
  clear hz
  obtain ⟨i0, i1, i2, i3, i4, i5, i6, i7, i8, i9, i10, i11, i12, i13, i14, i15⟩ := DpItem.bxc HX.out
  obtain ⟨z0, z1, z2, z3, z4⟩ := DpRenewal.bxc HZ.out
  have f0 := HZ.out.free 0
  have f1 := HZ.out.free 1
  have f2 := HZ.out.free 2
  have f3 := HZ.out.free 3
  have f4 := HZ.out.free 4
  go_enter Tryz.func61, Tryz.ntmps61
  go_wp2_with fail
  exact bodyPost_ret (v := .tuple #[.agg #[.int .i64 0, .int .i64 0, .int .i64 0, .slice none 0 0, .slice none 0 0], .bool false]) (by simp [results, Tryz.results61, go_sem, z0, z1, z2, z3, z4]) rfl ⟨rfl, by first | exact HB.out | exact (box1 w _).alloc (by simp) _ | exact (((((HB.out.setCell (p := ⟨w.heap.size + 1, 0, none⟩) (by simp) (.int .i64 0)).setCell (p := ⟨w.heap.size + 1, 1, none⟩) (by simp) (.int .i64 0)).setCell (p := ⟨w.heap.size + 1, 2, none⟩) (by simp) (.int .i64 0)).setCell (p := ⟨w.heap.size + 1, 3, none⟩) (by simp) (.slice none 0 0)).setCell (p := ⟨w.heap.size + 1, 4, none⟩) (by simp) (.slice none 0 0))⟩
set_option maxRecDepth 100000 in
set_option maxHeartbeats 4000000 in
theorem last_some (x0 : Int) (x1 : Int) (x2 : Int) (p3 : Option Addr) (n3 c3 : Nat) (p4 : Option Addr) (n4 c4 : Nat) (x5 : Int) (x6 : Int) (x7 : Int) (x8 : Int) (x9 : Int) (x10 : Int) (x11 : Int) (x12 : Int) (x13 : Int) (p14 : Option Addr) (n14 c14 : Nat) (b o m c15 : Nat) (y0 y1 y2 : Int) (q3 : Option Addr) (m3 d3 : Nat) (q4 : Option Addr) (m4 d4 : Nat) (w : World) (hm : m + 1 ≤ 9223372036854775807) (hb : b < w.heap.size) (hc : ∀ j v, [.int .i64 y0, .int .i64 y1, .int .i64 y2, .slice q3 m3 d3, .slice q4 m4 d4][j]? = some v → w.cell? ⟨b, o + m * 5 + j, none⟩ = some v) : Calls Tryz.prog 61 #[.agg #[.int .i64 x0, .int .i64 x1, .int .i64 x2, .slice p3 n3 c3, .slice p4 n4 c4, .int .i64 x5, .int .i64 x6, .int .i64 x7, .int .i64 x8, .int .i64 x9, .int .i64 x10, .int .i64 x11, .int .i64 x12, .int .i64 x13, .slice p14 n14 c14, .slice (some ⟨b, o, none⟩) (m + 1) c15]] w (Dz.Val (.tuple #[.agg #[.int .i64 y0, .int .i64 y1, .int .i64 y2, .slice q3 m3 d3, .slice q4 m4 d4], .bool true]) w) := by
  have HB := Lib.hid ((box1 w (.cells #[.int .i64 x0, .int .i64 x1, .int .i64 x2, .slice p3 n3 c3, .slice p4 n4 c4, .int .i64 x5, .int .i64 x6, .int .i64 x7, .int .i64 x8, .int .i64 x9, .int .i64 x10, .int .i64 x11, .int .i64 x12, .int .i64 x13, .slice p14 n14 c14, .slice (some ⟨b, o, none⟩) (m + 1) c15] 80)).alloc (by simp) (.cells #[.int .i64 0, .int .i64 0, .int .i64 0, .slice none 0 0, .slice none 0 0] 131))
  have HX := Lib.hid ((Bx.new w 80 #[.int .i64 x0, .int .i64 x1, .int .i64 x2, .slice p3 n3 c3, .slice p4 n4 c4, .int .i64 x5, .int .i64 x6, .int .i64 x7, .int .i64 x8, .int .i64 x9, .int .i64 x10, .int .i64 x11, .int .i64 x12, .int .i64 x13, .slice p14 n14 c14, .slice (some ⟨b, o, none⟩) (m + 1) c15]).alloc (.cells #[.int .i64 0, .int .i64 0, .int .i64 0, .slice none 0 0, .slice none 0 0] 131))
  have hz := Bx.new (w.alloc (.cells #[.int .i64 x0, .int .i64 x1, .int .i64 x2, .slice p3 n3 c3, .slice p4 n4 c4, .int .i64 x5, .int .i64 x6, .int .i64 x7, .int .i64 x8, .int .i64 x9, .int .i64 x10, .int .i64 x11, .int .i64 x12, .int .i64 x13, .slice p14 n14 c14, .slice (some ⟨b, o, none⟩) (m + 1) c15] 80)) 131 #[.int .i64 0, .int .i64 0, .int .i64 0, .slice none 0 0, .slice none 0 0]
  rw [World.size_alloc] at hz
  have HZ := Lib.hid hz
  clear hz
  have HC := Lib.hid hc
  have HBB := Lib.hid hb
  have i1 : (0 : Int) ≤ (m : Int) := by omega
  have i2 : (m : Int) < (m : Int) + 1 := by omega
  have jw : IntKind.i64.wrap (m : Int) = (m : Int) := IntWalk.i64_in _ (by omega)
  have e1 : ((m : Int) + 1 == 0) = false := beq_eq_false_iff_ne.2 (by omega)
  have e2 : (((m + 1 : Nat) : Int) == 0) = false := beq_eq_false_iff_ne.2 (by omega)
  clear hc hb
  obtain ⟨i0, i1, i2, i3, i4, i5, i6, i7, i8, i9, i10, i11, i12, i13, i14, i15⟩ := DpItem.bxc HX.out
  obtain ⟨z0, z1, z2, z3, z4⟩ := DpRenewal.bxc HZ.out
  have f0 := HZ.out.free 0
  have f1 := HZ.out.free 1
  have f2 := HZ.out.free 2
  have f3 := HZ.out.free 3
  have f4 := HZ.out.free 4
  have hcc : ∀ j v, [.int .i64 y0, .int .i64 y1, .int .i64 y2, .slice q3 m3 d3, .slice q4 m4 d4][j]? = some v → ((w.alloc (.cells #[.int .i64 x0, .int .i64 x1, .int .i64 x2, .slice p3 n3 c3, .slice p4 n4 c4, .int .i64 x5, .int .i64 x6, .int .i64 x7, .int .i64 x8, .int .i64 x9, .int .i64 x10, .int .i64 x11, .int .i64 x12, .int .i64 x13, .slice p14 n14 c14, .slice (some ⟨b, o, none⟩) (m + 1) c15] 80)).alloc (.cells #[.int .i64 0, .int .i64 0, .int .i64 0, .slice none 0 0, .slice none 0 0] 131)).cell? ⟨b, o + m * 5 + j, none⟩ = some v := fun j v hv => (HB.out.cell (p := ⟨b, o + m * 5 + j, none⟩) HBB.out).trans (HC.out j v hv)
  obtain ⟨u0, u1, u2, u3, u4⟩ := DpRenewal.at_cells hcc
  clear hcc
  go_enter Tryz.func61, Tryz.ntmps61
  go_wp2_with fail
  exact bodyPost_ret (v := .tuple #[.agg #[.int .i64 y0, .int .i64 y1, .int .i64 y2, .slice q3 m3 d3, .slice q4 m4 d4], .bool true]) (by simp [results, Tryz.results61, go_sem]) rfl ⟨rfl, by first | exact HB.out | exact (box1 w _).alloc (by simp) _ | exact (((((HB.out.setCell (p := ⟨w.heap.size + 1, 0, none⟩) (by simp) (.int .i64 y0)).setCell (p := ⟨w.heap.size + 1, 1, none⟩) (by simp) (.int .i64 y1)).setCell (p := ⟨w.heap.size + 1, 2, none⟩) (by simp) (.int .i64 y2)).setCell (p := ⟨w.heap.size + 1, 3, none⟩) (by simp) (.slice q3 m3 d3)).setCell (p := ⟨w.heap.size + 1, 4, none⟩) (by simp) (.slice q4 m4 d4))⟩
set_option maxRecDepth 100000 in
set_option maxHeartbeats 8000000 in
theorem needs_any (ks : List I5) (pk : Option Addr) (nk ck : Nat) (us : List I3) (pa : Option Addr) (na ca : Nat) (ms : List Mn.Me) (pm : Option Addr) (nm cm : Nat) (f3 now : Int) (x0 : Int) (x1 : Int) (x2 : Int) (p3 : Option Addr) (n3 c3 : Nat) (p4 : Option Addr) (n4 c4 : Nat) (x5 : Int) (x6 : Int) (x7 : Int) (x8 : Int) (x9 : Int) (x10 : Int) (x11 : Int) (x12 : Int) (x13 : Int) (p14 : Option Addr) (n14 c14 : Nat) (l15 : List DpRenewal.A) (p15 : Option Addr) (n15 c15 : Nat) (margin : Int) {SK SA SM S15 : Nat → Prop} (w : World) (hk : RdD (flat SlKey.E SlKey.InR) SK w pk nk ks) (ha : RdD (flat SlAuthority.E SlAuthority.InR) SA w pa na us) (hm : RdD (flat SlMethod.E SlMethod.InR) SM w pm nm ms) (h15 : RdD DpRenewal.E S15 w p15 n15 l15) (hw : wts DpRenewal.E l15 ≤ 1048576) : Calls Tryz.prog 33 #[.agg #[.slice pk nk ck, .slice pa na ca, .slice pm nm cm, .int .i64 f3, .int .i64 now], .agg #[.int .i64 x0, .int .i64 x1, .int .i64 x2, .slice p3 n3 c3, .slice p4 n4 c4, .int .i64 x5, .int .i64 x6, .int .i64 x7, .int .i64 x8, .int .i64 x9, .int .i64 x10, .int .i64 x11, .int .i64 x12, .int .i64 x13, .slice p14 n14 c14, .slice p15 n15 c15], .int .i64 margin] w (Dz.Val (.bool (needs ks us ms now margin l15)) w) := by
  have hb : Below w.heap.size w ((w.alloc (.cells #[.slice pk nk ck, .slice pa na ca, .slice pm nm cm, .int .i64 f3, .int .i64 now] 38)).alloc (.cells #[.int .i64 x0, .int .i64 x1, .int .i64 x2, .slice p3 n3 c3, .slice p4 n4 c4, .int .i64 x5, .int .i64 x6, .int .i64 x7, .int .i64 x8, .int .i64 x9, .int .i64 x10, .int .i64 x11, .int .i64 x12, .int .i64 x13, .slice p14 n14 c14, .slice p15 n15 c15] 80)) := (box1 w _).alloc (by simp) _
  have bx1 := (Bx.new w 38 #[.slice pk nk ck, .slice pa na ca, .slice pm nm cm, .int .i64 f3, .int .i64 now]).alloc (.cells #[.int .i64 x0, .int .i64 x1, .int .i64 x2, .slice p3 n3 c3, .slice p4 n4 c4, .int .i64 x5, .int .i64 x6, .int .i64 x7, .int .i64 x8, .int .i64 x9, .int .i64 x10, .int .i64 x11, .int .i64 x12, .int .i64 x13, .slice p14 n14 c14, .slice p15 n15 c15] 80)
  have bx2 := Bx.new (w.alloc (.cells #[.slice pk nk ck, .slice pa na ca, .slice pm nm cm, .int .i64 f3, .int .i64 now] 38)) 80 #[.int .i64 x0, .int .i64 x1, .int .i64 x2, .slice p3 n3 c3, .slice p4 n4 c4, .int .i64 x5, .int .i64 x6, .int .i64 x7, .int .i64 x8, .int .i64 x9, .int .i64 x10, .int .i64 x11, .int .i64 x12, .int .i64 x13, .slice p14 n14 c14, .slice p15 n15 c15]
  rw [World.size_alloc] at bx2
  have HBV := Lib.hid hb
  have HG := Lib.hid bx1
  have HX := Lib.hid bx2
  have HK := Lib.hid (hk.below hb)
  have HA := Lib.hid (ha.below hb)
  have HM := Lib.hid (hm.below hb)
  have H15 := Lib.hid (h15.below hb)
  have hle := h15.le
  clear hb bx1 bx2 hk ha hm h15
  cases n15 with
  | zero =>
    have HS : Hid (needs ks us ms now margin l15 = true) := Lib.hid (if_pos H15.out.len)
    obtain ⟨i0, i1, i2, i3, i4, i5, i6, i7, i8, i9, i10, i11, i12, i13, i14, i15⟩ := DpItem.bxc HX.out
    go_enter Tryz.func33, Tryz.ntmps33
    go_wp2_with fail
    generalize ((w.alloc (.cells #[.slice pk nk ck, .slice pa na ca, .slice pm nm cm, .int .i64 f3, .int .i64 now] 38)).alloc (.cells #[.int .i64 x0, .int .i64 x1, .int .i64 x2, .slice p3 n3 c3, .slice p4 n4 c4, .int .i64 x5, .int .i64 x6, .int .i64 x7, .int .i64 x8, .int .i64 x9, .int .i64 x10, .int .i64 x11, .int .i64 x12, .int .i64 x13, .slice p14 n14 c14, .slice p15 0 c15] 80)) = V at HBV HG HX HK HA HM H15 ⊢
    refine (last_none _ _ _ _ _ _ _ _ _ _ _ _ _ _ _ _ _ _ _ _ _ _ _ V).mono ?_
    rintro e w1 ⟨rfl, hb⟩
    have HB1 := Lib.hid hb
    have HR := Lib.hid (Bx.new w1 131 #[.int .i64 0, .int .i64 0, .int .i64 0, .slice none 0 0, .slice none 0 0])
    have HB2 := Lib.hid (HB1.out.alloc HB1.out.size (.cells #[.int .i64 0, .int .i64 0, .int .i64 0, .slice none 0 0, .slice none 0 0] 131))
    clear hb i0 i1 i2 i3 i4 i5 i6 i7 i8 i9 i10 i11 i12 i13 i14 i15
    go_wp2_with fail
    generalize (w1.alloc (.cells #[.int .i64 0, .int .i64 0, .int .i64 0, .slice none 0 0, .slice none 0 0] 131)) = V2 at HR HB2 ⊢
    refine Qt.region (Qt.Keeps (V2)) (by kernel_rfl) (by kernel_rfl) (Qt.Keeps.drew _) ?_
    repeat (first
      | go_big_quiet_skip
      | (go_big_quiet_want
         refine Qt.val (v := ?_) (fun w hw => ?_) ?_
         rotate_left
         · go_simp
           rfl
         simp only [Act.put, List.setIfInBounds_toArray, List.set_cons_zero, List.set_cons_succ]
         go_big_quiet_on))
    refine wpQuiet_nil ?_
    intro w3 hw3
    have HB3 := Lib.hid (below_on HBV.out (below_on HB2.out hw3))
    clear hw3
    go_wp2_with fail
    go_ret
    exact Dz.val_of (by rw [HS.out]; first | done | rfl) HB3.out
  | succ m =>
    obtain ⟨b, o, y0, y1, y2, k3, q3, m3, d3, k4, q4, m4, d4, rfl, hbb, hx, hc, hy1, h3, h4, hm4⟩ := getAt H15.out hw
    have hl := H15.out.len
    have HC := Lib.hid hc
    have HBB := Lib.hid hbb
    have HY1 := Lib.hid hy1
    have H3 := Lib.hid h3
    have H4 := Lib.hid h4
    obtain ⟨E, hE⟩ : ∃ z, firstM ks us (ends ms) y1 k4 = z := ⟨_, rfl⟩
    have HS : Hid (needs ks us ms now margin l15 = decide (IntKind.i64.wrap (E - now) ≤ margin)) := Lib.hid (by unfold needs; rw [if_neg (by omega), end_at hl hx, hE])
    have HE := Lib.hid hE
    clear hc hbb hx hy1 h3 h4 hl hE
    obtain ⟨i0, i1, i2, i3, i4, i5, i6, i7, i8, i9, i10, i11, i12, i13, i14, i15⟩ := DpItem.bxc HX.out
    go_enter Tryz.func33, Tryz.ntmps33
    go_wp2_with fail
    generalize ((w.alloc (.cells #[.slice pk nk ck, .slice pa na ca, .slice pm nm cm, .int .i64 f3, .int .i64 now] 38)).alloc (.cells #[.int .i64 x0, .int .i64 x1, .int .i64 x2, .slice p3 n3 c3, .slice p4 n4 c4, .int .i64 x5, .int .i64 x6, .int .i64 x7, .int .i64 x8, .int .i64 x9, .int .i64 x10, .int .i64 x11, .int .i64 x12, .int .i64 x13, .slice p14 n14 c14, .slice (some ⟨b, o, none⟩) (m + 1) c15] 80)) = V at HBV HG HX HK HA HM H15 HC HBB H3 H4 ⊢
    refine (last_some _ _ _ _ _ _ _ _ _ _ _ _ _ _ _ _ _ _ _ _ _ b o m _ y0 y1 y2 q3 m3 d3 q4 m4 d4 V hle HBB.out HC.out).mono ?_
    rintro e w1 ⟨rfl, hb⟩
    have HB1 := Lib.hid hb
    have HR := Lib.hid (Bx.new w1 131 #[.int .i64 y0, .int .i64 y1, .int .i64 y2, .slice q3 m3 d3, .slice q4 m4 d4])
    have HB2 := Lib.hid (HB1.out.alloc HB1.out.size (.cells #[.int .i64 y0, .int .i64 y1, .int .i64 y2, .slice q3 m3 d3, .slice q4 m4 d4] 131))
    clear hb i0 i1 i2 i3 i4 i5 i6 i7 i8 i9 i10 i11 i12 i13 i14 i15
    go_wp2_with fail
    generalize (w1.alloc (.cells #[.int .i64 y0, .int .i64 y1, .int .i64 y2, .slice q3 m3 d3, .slice q4 m4 d4] 131)) = V2 at HR HB2 ⊢
    have HC : Hid (∀ w', Qt.Keeps (V2) w' → w'.cell? ⟨w.heap.size, 0, none⟩ = some (.slice pk nk ck) ∧ w'.cell? ⟨w.heap.size, 1, none⟩ = some (.slice pa na ca) ∧ w'.cell? ⟨w.heap.size, 2, none⟩ = some (.slice pm nm cm) ∧ w'.cell? ⟨w.heap.size, 3, none⟩ = some (.int .i64 f3) ∧ w'.cell? ⟨w.heap.size, 4, none⟩ = some (.int .i64 now) ∧ w'.cell? ⟨w1.heap.size, 0, none⟩ = some (.int .i64 y0) ∧ w'.cell? ⟨w1.heap.size, 1, none⟩ = some (.int .i64 y1) ∧ w'.cell? ⟨w1.heap.size, 2, none⟩ = some (.int .i64 y2) ∧ w'.cell? ⟨w1.heap.size, 3, none⟩ = some (.slice q3 m3 d3) ∧ w'.cell? ⟨w1.heap.size, 4, none⟩ = some (.slice q4 m4 d4)) := Lib.hid fun w' hw => let g := DpFrame.bxc (HG.out.below (below_on HB2.out hw)); let r := DpRenewal.bxc (HR.out.below hw); ⟨g.1, g.2.1, g.2.2.1, g.2.2.2.1, g.2.2.2.2, r.1, r.2.1, r.2.2.1, r.2.2.2.1, r.2.2.2.2⟩
    refine Qt.region (Qt.Keeps (V2)) (by kernel_rfl) (by kernel_rfl) (Qt.Keeps.drew _) ?_
    repeat (first
      | go_big_quiet_skip
      | (go_big_quiet_want
         refine Qt.val (v := ?_) (fun w hw => ?_) ?_
         rotate_left
         · obtain ⟨g0, g1, g2, g3, g4, r0, r1, r2, r3, r4⟩ := HC.out w hw
           go_simp
           rfl
         simp only [Act.put, List.setIfInBounds_toArray, List.set_cons_zero, List.set_cons_succ]
         go_big_quiet_on)
      | (go_big_quiet_want
         refine Qt.call (v := .int .i64 E) (f := 62) (args := #[.agg #[.slice pk nk ck, .slice pa na ca, .slice pm nm cm, .int .i64 f3, .int .i64 now], .agg #[.int .i64 y0, .int .i64 y1, .int .i64 y2, .slice q3 m3 d3, .slice q4 m4 d4]]) (fun w hw => ?_) (fun w hw => ?_) ?_
         · go_simp
         · refine (Fm2E.ends_any ks _ _ _ us _ _ _ ms _ _ _ f3 now y0 y1 y2 k3 _ _ _ k4 _ _ _ HY1.out _ (HK.out.below (below_on HB2.out hw)) (HA.out.below (below_on HB2.out hw)) (HM.out.below (below_on HB2.out hw)) (H3.out.below (below_on HB2.out hw)) (H4.out.below (below_on HB2.out hw)) hm4).mono ?_
           rintro e w1 ⟨rfl, hb1⟩
           rw [HE.out]
           exact ⟨rfl, hw.then hb1⟩
         simp only [Act.put, List.setIfInBounds_toArray, List.set_cons_zero, List.set_cons_succ]
         go_big_quiet_on))
    refine wpQuiet_nil ?_
    intro w3 hw3
    have HB3 := Lib.hid (below_on HBV.out (below_on HB2.out hw3))
    clear hw3
    go_wp2_with fail
    go_ret
    exact Dz.val_of (by rw [HS.out]; first | done | rfl) HB3.out
end Go.Proofs.YtpjckbdljbpliaaGreat.Nr1
