/- Contracts of the laws' helpers over Strand: opened, measured, copied, compared; by value and in slices. -/
import Derived.Test.YtpjckbdljbpliaaEd
import Derived.Test.YtpjckbdljbpliaaDz
import Derived.Test.YtpjckbdljbpliaaSlI
import Derived.Test.YtpjckbdljbpliaaDpPiece
import Derived.Test.YtpjckbdljbpliaaDpRenewal
import Derived.OpenShut
import Derived.Deep.Fields
import Derived.Deep.RegionHeld3
import Derived.LoopTactic
import Derived.Outline
namespace Go.Proofs.Ytpjckbdljbpliaa.DpStrand
open Go.ChangeShapes Go.WideShapes Go.ChangeAt Go.RowKit Sl St Ed Dz
abbrev A := (List DpPiece.A) × (List DpRenewal.A)
def E : Ent A := pair (sl DpPiece.E) (sl DpRenewal.E)
theorem C_eq : E.C = 2 := rfl
theorem exk {S : Nat → Prop} {w : World} {cs : List Value} {l0 : List DpPiece.A} {l1 : List DpRenewal.A} (h : E.rd S w cs (l0, l1)) : ∃ (p0 : Option Addr) (n0 c0 : Nat) (p1 : Option Addr) (n1 c1 : Nat), cs = [.slice p0 n0 c0, .slice p1 n1 c1] ∧ RdD DpPiece.E S w p0 n0 l0 ∧ RdD DpRenewal.E S w p1 n1 l1 ∧ n0 ≤ c0 ∧ n1 ≤ c1 := by
  obtain ⟨d0, e0, rfl, ⟨p0, n0, c0, rfl, k0, h0⟩, p1, n1, c1, rfl, k1, h1⟩ := h
  exact ⟨p0, n0, c0, p1, n1, c1, rfl, h0, h1, k0, k1⟩
theorem ex {S : Nat → Prop} {w : World} {cs : List Value} {l0 : List DpPiece.A} {l1 : List DpRenewal.A} (h : E.rd S w cs (l0, l1)) : ∃ (p0 : Option Addr) (n0 c0 : Nat) (p1 : Option Addr) (n1 c1 : Nat), cs = [.slice p0 n0 c0, .slice p1 n1 c1] ∧ RdD DpPiece.E S w p0 n0 l0 ∧ RdD DpRenewal.E S w p1 n1 l1 := by
  obtain ⟨p0, n0, c0, p1, n1, c1, e, h0, h1, _⟩ := exk h
  exact ⟨p0, n0, c0, p1, n1, c1, e, h0, h1⟩
theorem mk {S : Nat → Prop} {w : World} {l0 : List DpPiece.A} {l1 : List DpRenewal.A} {p0 : Option Addr} {n0 c0 : Nat} {p1 : Option Addr} {n1 c1 : Nat} (h0 : RdD DpPiece.E S w p0 n0 l0) (h1 : RdD DpRenewal.E S w p1 n1 l1) (k0 : n0 ≤ c0) (k1 : n1 ≤ c1) : E.rd S w [.slice p0 n0 c0, .slice p1 n1 c1] (l0, l1) :=
  ⟨[.slice p0 n0 c0], [.slice p1 n1 c1], rfl, ⟨p0, n0, c0, rfl, k0, h0⟩, ⟨p1, n1, c1, rfl, k1, h1⟩⟩
theorem bxc {w : World} {g : Nat} {T : TypeId} {y0 : Value} {y1 : Value} (h : Bx w g T #[y0, y1]) : w.cell? ⟨g, 0, none⟩ = some y0 ∧ w.cell? ⟨g, 1, none⟩ = some y1 := ⟨h.cell rfl, h.cell rfl⟩
theorem wt_eq (l0 : List DpPiece.A) (l1 : List DpRenewal.A) : E.wt (l0, l1) = (l0.length + wts DpPiece.E l0) + (l1.length + wts DpRenewal.E l1) := by
  show (l0.length + wts DpPiece.E l0) + ((l1.length + wts DpRenewal.E l1)) = _
  omega
section
variable {H : Type} {enc : TypeId × Value → H} {W : World}
set_option maxRecDepth 100000 in
theorem open_cells {fuel : Nat} {cs : List Value} {X : DataW H × List MemPlace} (hl : cs.length = 2) (h : DataW.trod enc Try.prog W 0 (fun _ => true) true fuel 50 cs = some X) : ∃ x, E.rd (fun _ => True) W cs x := by
  have hi : ∃ f0 f1 : Field, Try.prog.underlying 50 = some (.struct #[f0, f1]) ∧ f0.offset = 0 ∧ f1.offset = 1 ∧ f0.type = 22 ∧ f1.type = 48 ∧ Try.prog.cellsOf 22 = 1 ∧ Try.prog.cellsOf 48 = 1 := ⟨_, _, Try.underlying50, by kernel_rfl, by kernel_rfl, by kernel_rfl, by kernel_rfl, by kernel_rfl, by kernel_rfl⟩
  obtain ⟨f0, f1, hs, o0, o1, t0, t1, z0, z1⟩ := hi
  obtain ⟨ys, n, _, _, _, hlen, hf⟩ := DataW.trod_struct hs h
  match ys, hlen with
  | [y0, y1], _ =>
    have r0 := hf 0 f0 rfl
    have r1 := hf 1 f1 rfl
    simp only [List.getElem?_cons_zero, List.getElem?_cons_succ] at r0 r1
    rw [o0, t0, z0] at r0
    rw [o1, t1, z1] at r1
    obtain ⟨v0, q0⟩ : ∃ x, Ent.rd (sl DpPiece.E) (fun _ => True) W ((cs.drop 0).take 1) x := o_sl Try.underlying22 (by kernel_rfl) (fun hl h => DpPiece.open_cells hl h) r0
    obtain ⟨v1, q1⟩ : ∃ x, Ent.rd (sl DpRenewal.E) (fun _ => True) W ((cs.drop 1).take 1) x := o_sl Try.underlying48 (by kernel_rfl) (fun hl h => DpRenewal.open_cells hl h) r1
    exact ⟨_, rd_first (rd_next (o := 0) (o' := 1) rfl rfl q0 (rd_last (o := 1) (by simp [hl]) q1))⟩
set_option maxRecDepth 100000 in
theorem open_valk {base : Nat} {v : Value} {d : DataW H} {pl : List MemPlace} (h : DataW.Trod enc Try.prog W 0 (fun _ => true) true 50 v d pl) (hk : Value.okWide Try.prog W .any base 50 v) : ∃ (l0 : List DpPiece.A) (l1 : List DpRenewal.A) (p0 : Option Addr) (n0 c0 : Nat) (p1 : Option Addr) (n1 c1 : Nat), v = .agg #[.slice p0 n0 c0, .slice p1 n1 c1] ∧ RdD DpPiece.E (fun _ => True) W p0 n0 l0 ∧ RdD DpRenewal.E (fun _ => True) W p1 n1 l1 ∧ n0 ≤ c0 ∧ n1 ≤ c1 := by
  have hu : ∃ fs, Try.prog.underlying 50 = some (.struct fs) ∧ Try.prog.cellsOf 50 = 2 := ⟨_, Try.underlying50, by kernel_rfl⟩
  obtain ⟨fs, hs, hC⟩ := hu
  obtain ⟨cs, rfl, hsz⟩ := okWide_struct hs hk
  obtain ⟨fuel, hf⟩ := h
  simp only [Value.cells] at hf
  obtain ⟨x, hx⟩ := open_cells (by rw [Array.length_toList, hsz, hC]) hf
  obtain ⟨l0, l1⟩ := x
  obtain ⟨p0, n0, c0, p1, n1, c1, hc, h0, h1, k0, k1⟩ := exk hx
  exact ⟨l0, l1, p0, n0, c0, p1, n1, c1, congrArg Value.agg (Array.ext' hc), h0, h1, k0, k1⟩
set_option maxRecDepth 100000 in
theorem open_val {base : Nat} {v : Value} {d : DataW H} {pl : List MemPlace} (h : DataW.Trod enc Try.prog W 0 (fun _ => true) true 50 v d pl) (hk : Value.okWide Try.prog W .any base 50 v) : ∃ (l0 : List DpPiece.A) (l1 : List DpRenewal.A) (p0 : Option Addr) (n0 c0 : Nat) (p1 : Option Addr) (n1 c1 : Nat), v = .agg #[.slice p0 n0 c0, .slice p1 n1 c1] ∧ RdD DpPiece.E (fun _ => True) W p0 n0 l0 ∧ RdD DpRenewal.E (fun _ => True) W p1 n1 l1 := by
  have hu : ∃ fs, Try.prog.underlying 50 = some (.struct fs) ∧ Try.prog.cellsOf 50 = 2 := ⟨_, Try.underlying50, by kernel_rfl⟩
  obtain ⟨fs, hs, hC⟩ := hu
  obtain ⟨cs, rfl, hsz⟩ := okWide_struct hs hk
  obtain ⟨fuel, hf⟩ := h
  simp only [Value.cells] at hf
  obtain ⟨x, hx⟩ := open_cells (by rw [Array.length_toList, hsz, hC]) hf
  obtain ⟨l0, l1⟩ := x
  obtain ⟨p0, n0, c0, p1, n1, c1, hc, h0, h1⟩ := ex hx
  exact ⟨l0, l1, p0, n0, c0, p1, n1, c1, congrArg Value.agg (Array.ext' hc), h0, h1⟩
end
set_option maxRecDepth 100000 in
set_option maxHeartbeats 4000000 in
theorem toK_any (l0 : List DpPiece.A) (p0 : Option Addr) (n0 c0 : Nat) (l1 : List DpRenewal.A) (p1 : Option Addr) (n1 c1 : Nat) {S0 S1 : Nat → Prop} (w : World) (h0 : RdD DpPiece.E S0 w p0 n0 l0) (h1 : RdD DpRenewal.E S1 w p1 n1 l1) (hm : E.wt (l0, l1) ≤ 1048576) : Calls Try.prog 46 #[.agg #[.slice p0 n0 c0, .slice p1 n1 c1]] w fun e w' => ∃ (p0' : Option Addr) (c0' : Nat) (p1' : Option Addr) (c1' : Nat), e = .returned (.agg #[.slice p0' n0 c0', .slice p1' n1 c1']) ∧ RdD DpPiece.E (fun b => w.heap.size ≤ b) w' p0' n0 l0 ∧ RdD DpRenewal.E (fun b => w.heap.size ≤ b) w' p1' n1 l1 ∧ n0 ≤ c0' ∧ n1 ≤ c1' ∧ Below w.heap.size w w' := by
  rw [wt_eq] at hm
  have k0 := h0.len
  have k1 := h1.len
  have m0 : n0 + wts DpPiece.E l0 ≤ 1048576 := by omega
  have m1 : n1 + wts DpRenewal.E l1 ≤ 1048576 := by omega
  have HP0 := Lib.hid h0
  have HP1 := Lib.hid h1
  clear hm h0 k0 h1 k1
  have b0 := ((Bx.new w 50 #[.slice p0 n0 c0, .slice p1 n1 c1]).alloc (.cells #[.slice none 0 0, .slice none 0 0] 59)).alloc (.cells #[.slice none 0 0, .slice none 0 0] 59)
  have b1 := (Bx.new (w.alloc (.cells #[.slice p0 n0 c0, .slice p1 n1 c1] 50)) 59 #[.slice none 0 0, .slice none 0 0]).alloc (.cells #[.slice none 0 0, .slice none 0 0] 59)
  have b2 := Bx.new ((w.alloc (.cells #[.slice p0 n0 c0, .slice p1 n1 c1] 50)).alloc (.cells #[.slice none 0 0, .slice none 0 0] 59)) 59 #[.slice none 0 0, .slice none 0 0]
  rw [World.size_alloc] at b1
  rw [World.size_alloc, World.size_alloc] at b2
  have HA := Lib.hid b0
  have HR := Lib.hid b1
  have HO := Lib.hid b2
  have HB : Hid (Below w.heap.size w (((w.alloc (.cells #[.slice p0 n0 c0, .slice p1 n1 c1] 50)).alloc (.cells #[.slice none 0 0, .slice none 0 0] 59)).alloc (.cells #[.slice none 0 0, .slice none 0 0] 59))) := Lib.hid ((((Below.refl w.heap.size w).alloc (Nat.le_refl _) _).alloc (by simp) _).alloc (by simp; omega) _)
  have HSZ : Hid (w.heap.size + 3 ≤ (((w.alloc (.cells #[.slice p0 n0 c0, .slice p1 n1 c1] 50)).alloc (.cells #[.slice none 0 0, .slice none 0 0] 59)).alloc (.cells #[.slice none 0 0, .slice none 0 0] 59)).heap.size) := Lib.hid (by simp)
  clear b0 b1 b2
  go_enter Try.func46, Try.ntmps46
  go_wp2_with fail
  generalize (((w.alloc (.cells #[.slice p0 n0 c0, .slice p1 n1 c1] 50)).alloc (.cells #[.slice none 0 0, .slice none 0 0] 59)).alloc (.cells #[.slice none 0 0, .slice none 0 0] 59)) = V at HA HR HO HB HSZ ⊢
  obtain ⟨a0, a1⟩ := bxc HA.out
  refine (DpPiece.toSK_any _ _ _ _ _ (HP0.out.below HB.out) m0).mono ?_
  rintro e w1 ⟨p0', c0', rfl, ho, hk, hb⟩
  have HK0 := Lib.hid hk
  clear hk
  have HQ0 : Hid (RdD DpPiece.E (fun b => w.heap.size + 3 ≤ b) w1 p0' n0 l0) := Lib.hid (ho.mono fun b hb => Nat.le_trans HSZ.out hb)
  clear ho
  clear a0 a1
  replace HA := Lib.hid (HA.out.below hb)
  replace HR := Lib.hid (HR.out.below hb)
  replace HO := Lib.hid (HO.out.below hb)
  replace HB := Lib.hid (below_on HB.out hb)
  replace HSZ := Lib.hid (Nat.le_trans HSZ.out hb.size)
  clear hb
  obtain ⟨a0, a1⟩ := bxc HA.out
  obtain ⟨q0, q1⟩ := bxc HO.out
  have g0 := HO.out.free 0
  go_wp2_with fail
  have ho := (HO.out.set_ 0 (.slice p0' n0 c0'))
  simp only [List.setIfInBounds_toArray, List.set_cons_zero] at ho
  replace HO := Lib.hid ho
  clear ho a0 a1 q0 q1 g0
  replace HA := Lib.hid (HA.out.far (q := ⟨w.heap.size + 1 + 1, 0, none⟩) (by show w.heap.size ≠ w.heap.size + 1 + 1; omega) (.slice p0' n0 c0'))
  replace HR := Lib.hid (HR.out.far (q := ⟨w.heap.size + 1 + 1, 0, none⟩) (by show w.heap.size + 1 ≠ w.heap.size + 1 + 1; omega) (.slice p0' n0 c0'))
  replace HQ0 := Lib.hid (HQ0.out.far (q := ⟨w.heap.size + 1 + 1, 0, none⟩) (by show ¬ (w.heap.size + 3 ≤ w.heap.size + 1 + 1); omega) (.slice p0' n0 c0'))
  replace HB := Lib.hid (HB.out.setCell (p := ⟨w.heap.size + 1 + 1, 0, none⟩) (by show w.heap.size ≤ w.heap.size + 1 + 1; omega) (.slice p0' n0 c0'))
  replace HSZ : Hid (w.heap.size + 3 ≤ (w1.setCell ⟨w.heap.size + 1 + 1, 0, none⟩ (.slice p0' n0 c0')).heap.size) := Lib.hid (by simpa [World.setCell] using HSZ.out)
  generalize (w1.setCell ⟨w.heap.size + 1 + 1, 0, none⟩ (.slice p0' n0 c0')) = V1 at HA HR HO HB HSZ HQ0 ⊢
  obtain ⟨a0, a1⟩ := bxc HA.out
  refine (DpRenewal.toSK_any _ _ _ _ _ (HP1.out.below HB.out) m1).mono ?_
  rintro e w2 ⟨p1', c1', rfl, ho, hk, hb⟩
  have HK1 := Lib.hid hk
  clear hk
  have HQ1 : Hid (RdD DpRenewal.E (fun b => w.heap.size + 3 ≤ b) w2 p1' n1 l1) := Lib.hid (ho.mono fun b hb => Nat.le_trans HSZ.out hb)
  clear ho
  clear a0 a1
  replace HA := Lib.hid (HA.out.below hb)
  replace HR := Lib.hid (HR.out.below hb)
  replace HO := Lib.hid (HO.out.below hb)
  replace HQ0 := Lib.hid (HQ0.out.below hb)
  replace HB := Lib.hid (below_on HB.out hb)
  replace HSZ := Lib.hid (Nat.le_trans HSZ.out hb.size)
  clear hb
  obtain ⟨a0, a1⟩ := bxc HA.out
  obtain ⟨q0, q1⟩ := bxc HO.out
  have g1 := HO.out.free 1
  obtain ⟨r0, r1⟩ := bxc HR.out
  have s0 := HR.out.free 0
  have s1 := HR.out.free 1
  go_wp2_with fail
  exact bodyPost_ret (v := .agg #[.slice p0' n0 c0', .slice p1' n1 c1']) (by simp [results, Try.results46, go_sem, r0, r1]) rfl ⟨p0', c0', p1', c1', rfl, (((((HQ0.out.far (q := ⟨w.heap.size + 1 + 1, 1, none⟩) (by show ¬ (w.heap.size + 3 ≤ w.heap.size + 1 + 1); omega) (.slice p1' n1 c1')).far (q := ⟨w.heap.size + 1, 0, none⟩) (by show ¬ (w.heap.size + 3 ≤ w.heap.size + 1); omega) (.slice p0' n0 c0')).far (q := ⟨w.heap.size + 1, 1, none⟩) (by show ¬ (w.heap.size + 3 ≤ w.heap.size + 1); omega) (.slice p1' n1 c1'))).mono fun b hb => by omega), (((((HQ1.out.far (q := ⟨w.heap.size + 1 + 1, 1, none⟩) (by show ¬ (w.heap.size + 3 ≤ w.heap.size + 1 + 1); omega) (.slice p1' n1 c1')).far (q := ⟨w.heap.size + 1, 0, none⟩) (by show ¬ (w.heap.size + 3 ≤ w.heap.size + 1); omega) (.slice p0' n0 c0')).far (q := ⟨w.heap.size + 1, 1, none⟩) (by show ¬ (w.heap.size + 3 ≤ w.heap.size + 1); omega) (.slice p1' n1 c1'))).mono fun b hb => by omega), HK0.out, HK1.out, (((HB.out.setCell (p := ⟨w.heap.size + 1 + 1, 1, none⟩) (by show w.heap.size ≤ w.heap.size + 1 + 1; omega) (.slice p1' n1 c1')).setCell (p := ⟨w.heap.size + 1, 0, none⟩) (by show w.heap.size ≤ w.heap.size + 1; omega) (.slice p0' n0 c0')).setCell (p := ⟨w.heap.size + 1, 1, none⟩) (by show w.heap.size ≤ w.heap.size + 1; omega) (.slice p1' n1 c1'))⟩
theorem to_any (l0 : List DpPiece.A) (p0 : Option Addr) (n0 c0 : Nat) (l1 : List DpRenewal.A) (p1 : Option Addr) (n1 c1 : Nat) {S0 S1 : Nat → Prop} (w : World) (h0 : RdD DpPiece.E S0 w p0 n0 l0) (h1 : RdD DpRenewal.E S1 w p1 n1 l1) (hm : E.wt (l0, l1) ≤ 1048576) : Calls Try.prog 46 #[.agg #[.slice p0 n0 c0, .slice p1 n1 c1]] w fun e w' => ∃ (p0' : Option Addr) (c0' : Nat) (p1' : Option Addr) (c1' : Nat), e = .returned (.agg #[.slice p0' n0 c0', .slice p1' n1 c1']) ∧ RdD DpPiece.E (fun b => w.heap.size ≤ b) w' p0' n0 l0 ∧ RdD DpRenewal.E (fun b => w.heap.size ≤ b) w' p1' n1 l1 ∧ Below w.heap.size w w' := by
  refine (toK_any l0 p0 n0 c0 l1 p1 n1 c1 w h0 h1 hm).mono ?_
  rintro e w' ⟨p0', c0', p1', c1', he, o0, o1, _, _, hb⟩
  exact ⟨p0', c0', p1', c1', he, o0, o1, hb⟩
set_option maxRecDepth 100000 in
set_option maxHeartbeats 4000000 in
theorem eq_any (l0 : List DpPiece.A) (p0 p0' : Option Addr) (n0 c0 c0' : Nat) (l1 : List DpRenewal.A) (p1 p1' : Option Addr) (n1 c1 c1' : Nat) {S0 S0' S1 S1' : Nat → Prop} (w : World) (h0 : RdD DpPiece.E S0 w p0 n0 l0) (h0' : RdD DpPiece.E S0' w p0' n0 l0) (h1 : RdD DpRenewal.E S1 w p1 n1 l1) (h1' : RdD DpRenewal.E S1' w p1' n1 l1) : Calls Try.prog 51 #[.agg #[.slice p0 n0 c0, .slice p1 n1 c1], .agg #[.slice p0' n0 c0', .slice p1' n1 c1']] w (Yes w) := by
  have HP0 := Lib.hid h0
  have HP0' := Lib.hid h0'
  have HP1 := Lib.hid h1
  have HP1' := Lib.hid h1'
  clear h0 h0' h1 h1'
  have HB := Lib.hid ((box1 w (.cells #[.slice p0 n0 c0, .slice p1 n1 c1] 59)).alloc (by simp) (.cells #[.slice p0' n0 c0', .slice p1' n1 c1'] 59))
  have HX := Lib.hid ((Bx.new w 59 #[.slice p0 n0 c0, .slice p1 n1 c1]).alloc (.cells #[.slice p0' n0 c0', .slice p1' n1 c1'] 59))
  have hy := Bx.new (w.alloc (.cells #[.slice p0 n0 c0, .slice p1 n1 c1] 59)) 59 #[.slice p0' n0 c0', .slice p1' n1 c1']
  rw [World.size_alloc] at hy
  have HY := Lib.hid hy
  clear hy
  go_enter Try.func51, Try.ntmps51
  go_wp2_with fail
  refine (DpPiece.eqS_any _ _ _ _ _ _ _ (HP0.out.below HB.out) (HP0'.out.below HB.out)).mono ?_
  rintro e w1 ⟨rfl, hb⟩
  replace HB := Lib.hid (below_on HB.out hb)
  replace HX := Lib.hid (HX.out.below hb)
  replace HY := Lib.hid (HY.out.below hb)
  clear hb
  obtain ⟨x0_, x1_⟩ := bxc HX.out
  obtain ⟨y0_, y1_⟩ := bxc HY.out
  go_wp2_with fail
  refine (DpRenewal.eqS_any _ _ _ _ _ _ _ (HP1.out.below HB.out) (HP1'.out.below HB.out)).mono ?_
  rintro e w2 ⟨rfl, hb⟩
  clear x0_ y0_ x1_ y1_
  replace HB := Lib.hid (below_on HB.out hb)
  replace HX := Lib.hid (HX.out.below hb)
  replace HY := Lib.hid (HY.out.below hb)
  clear hb
  obtain ⟨x0_, x1_⟩ := bxc HX.out
  obtain ⟨y0_, y1_⟩ := bxc HY.out
  go_wp2_with fail
  go_ret
  exact ⟨rfl, HB.out⟩
set_option maxRecDepth 100000 in
set_option maxHeartbeats 4000000 in
theorem sz_fits (l0 : List DpPiece.A) (p0 : Option Addr) (n0 c0 : Nat) (l1 : List DpRenewal.A) (p1 : Option Addr) (n1 c1 : Nat) {S0 S1 : Nat → Prop} (m : Nat) (left : Int) (w : World) (hm : E.wt (l0, l1) = m) (h0 : RdD DpPiece.E S0 w p0 n0 l0) (h1 : RdD DpRenewal.E S1 w p1 n1 l1) (g1 : left ≤ 1048576) (g2 : m ≤ left) : Calls Try.prog 42 #[.agg #[.slice p0 n0 c0, .slice p1 n1 c1], .int .i64 left] w (Val (.int .i64 (left - m)) w) := by
  rw [wt_eq] at hm
  have k0 := h0.len
  have e0 := h0.le
  have HP0 := Lib.hid h0
  have k1 := h1.len
  have e1 := h1.le
  have HP1 := Lib.hid h1
  have m0 : (n0 + wts DpPiece.E l0) = (n0 + wts DpPiece.E l0) := rfl
  have m1 : (n1 + wts DpRenewal.E l1) = (n1 + wts DpRenewal.E l1) := rfl
  have ht : (n0 + wts DpPiece.E l0) + (n1 + wts DpRenewal.E l1) = m := by omega
  clear hm h0 k0 h1 k1 m0 m1 
  subst ht
  have HB := Lib.hid (box1 w (.cells #[.slice p0 n0 c0, .slice p1 n1 c1] 50))
  have HX := Lib.hid (Bx.new w 50 #[.slice p0 n0 c0, .slice p1 n1 c1])
  go_enter Try.func42, Try.ntmps42
  go_wp2_with fail
  refine (DpPiece.szS_fits _ _ _ _ _ _ (HP0.out.below HB.out) (by omega) (by omega)).mono ?_
  rintro e w1 ⟨rfl, hb⟩
  replace HB := Lib.hid (below_on HB.out hb)
  replace HX := Lib.hid (HX.out.below hb)
  clear hb
  obtain ⟨x0_, x1_⟩ := bxc HX.out
  go_wp2_with fail
  refine (DpRenewal.szS_fits _ _ _ _ _ _ (HP1.out.below HB.out) (by omega) (by omega)).mono ?_
  rintro e w2 ⟨rfl, hb⟩
  clear x0_ x1_
  replace HB := Lib.hid (below_on HB.out hb)
  replace HX := Lib.hid (HX.out.below hb)
  clear hb
  go_wp2_with fail
  go_ret
  refine val_of ?_ HB.out
  show Value.int .i64 (left - ((((n0 + wts DpPiece.E l0)) : Nat) : Int) - ((((n1 + wts DpRenewal.E l1)) : Nat) : Int)) = _
  first | rfl | (congr 1; omega)
set_option maxRecDepth 100000 in
set_option maxHeartbeats 4000000 in
theorem sz_big (l0 : List DpPiece.A) (p0 : Option Addr) (n0 c0 : Nat) (l1 : List DpRenewal.A) (p1 : Option Addr) (n1 c1 : Nat) {S0 S1 : Nat → Prop} (m : Nat) (left : Int) (w : World) (hm : E.wt (l0, l1) = m) (h0 : RdD DpPiece.E S0 w p0 n0 l0) (h1 : RdD DpRenewal.E S1 w p1 n1 l1) (g0 : 0 ≤ left) (g1 : left ≤ 1048576) (g2 : left < m) : Calls Try.prog 42 #[.agg #[.slice p0 n0 c0, .slice p1 n1 c1], .int .i64 left] w (Val (.int .i64 (-1)) w) := by
  rw [wt_eq] at hm
  have k0 := h0.len
  have e0 := h0.le
  have HP0 := Lib.hid h0
  have k1 := h1.len
  have e1 := h1.le
  have HP1 := Lib.hid h1
  have m0 : (n0 + wts DpPiece.E l0) = (n0 + wts DpPiece.E l0) := rfl
  have m1 : (n1 + wts DpRenewal.E l1) = (n1 + wts DpRenewal.E l1) := rfl
  have ht : (n0 + wts DpPiece.E l0) + (n1 + wts DpRenewal.E l1) = m := by omega
  clear hm h0 k0 h1 k1 m0 m1 
  subst ht
  have G := Lib.hid g2
  clear g2
  have HB := Lib.hid (box1 w (.cells #[.slice p0 n0 c0, .slice p1 n1 c1] 50))
  have HX := Lib.hid (Bx.new w 50 #[.slice p0 n0 c0, .slice p1 n1 c1])
  by_cases hc0 : left < (((n0 + wts DpPiece.E l0) : Nat) : Int)
  · go_enter Try.func42, Try.ntmps42
    go_wp2_with fail
    refine (DpPiece.szS_big _ _ _ _ _ _ (HP0.out.below HB.out) (by omega) (by omega) (by have := G.out; omega)).mono ?_
    rintro e w1 ⟨rfl, hb⟩
    replace HB := Lib.hid (below_on HB.out hb)
    replace HX := Lib.hid (HX.out.below hb)
    clear hb
    go_wp2_with fail
    go_ret
    exact ⟨rfl, HB.out⟩
  go_enter Try.func42, Try.ntmps42
  go_wp2_with fail
  refine (DpPiece.szS_fits _ _ _ _ _ _ (HP0.out.below HB.out) (by omega) (by omega)).mono ?_
  rintro e w1 ⟨rfl, hb⟩
  replace HB := Lib.hid (below_on HB.out hb)
  replace HX := Lib.hid (HX.out.below hb)
  clear hb
  obtain ⟨x0_, x1_⟩ := bxc HX.out
  go_wp2_with fail
  refine (DpRenewal.szS_big _ _ _ _ _ _ (HP1.out.below HB.out) (by omega) (by omega) (by have := G.out; omega)).mono ?_
  rintro e w2 ⟨rfl, hb⟩
  clear x0_ x1_
  replace HB := Lib.hid (below_on HB.out hb)
  replace HX := Lib.hid (HX.out.below hb)
  clear hb
  go_wp2_with fail
  go_ret
  exact ⟨rfl, HB.out⟩
theorem at_cells {w : World} {b q : Nat} {v0 : Value} {v1 : Value} (h : ∀ j v, [v0, v1][j]? = some v → w.cell? ⟨b, q + j, none⟩ = some v) : w.cell? ⟨b, q, none⟩ = some v0 ∧ w.cell? ⟨b, q + 1, none⟩ = some v1 := ⟨h 0 _ rfl, h 1 _ rfl⟩
theorem info : (Try.prog.info? 59).map (fun i => (i.zero, i.size, i.bytes)) = some (some (.agg #[.slice none 0 0, .slice none 0 0]), 2, 48) := by kernel_rfl
end Go.Proofs.Ytpjckbdljbpliaa.DpStrand
