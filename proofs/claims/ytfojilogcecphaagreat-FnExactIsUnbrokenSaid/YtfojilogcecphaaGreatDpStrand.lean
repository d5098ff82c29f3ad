/- Contracts of the laws' helpers over Strand: opened, measured, copied, compared; by value and in slices. -/
import Derived.Test.YtfojilogcecphaaGreatEd
import Derived.Test.YtfojilogcecphaaGreatDz
import Derived.Test.YtfojilogcecphaaGreatSlI
import Derived.Test.YtfojilogcecphaaGreatDpPiece
import Derived.Test.YtfojilogcecphaaGreatDpRenewal
import Derived.OpenShut
import Derived.Deep.Fields
import Derived.Deep.RegionHeld3
import Derived.LoopTactic
import Derived.Outline
namespace Go.Proofs.YtfojilogcecphaaGreat.DpStrand
open Go.ChangeShapes Go.WideShapes Go.ChangeAt Go.RowKit Sl St Ed Dz
abbrev A := (List DpPiece.A) × (List DpRenewal.A)
def E : Ent A := pair (sl DpPiece.E) (sl DpRenewal.E)
theorem C_eq : E.C = 2 := rfl
theorem exk {S : Nat → Prop} {w : World} {cs : List Value} {l0 : List DpPiece.A} {l1 : List DpRenewal.A} (h : E.rd S w cs (l0, l1)) : ∃ (p0 : Option Addr) (n0 c0 : Nat) (p1 : Option Addr) (n1 c1 : Nat), cs = [.slice p0 n0 c0, .slice p1 n1 c1] ∧ RdD DpPiece.E S w p0 n0 l0 ∧ RdD DpRenewal.E S w p1 n1 l1 ∧ n0 ≤ c0 ∧ n1 ≤ c1 := by
  obtain ⟨d0, e0, rfl, ⟨p0, n0, c0, rfl, k0, h0⟩, p1, n1, c1, rfl, k1, h1⟩ := h
  exact ⟨p0, n0, c0, p1, n1, c1, rfl, h0, h1, k0, k1⟩
theorem ex {S : Nat → Prop} {w : World} {cs : List Value} {l0 : List DpPiece.A} {l1 : List DpRenewal.A} (h : E.rd S w cs (l0, l1)) : ∃ (p0 : Option Addr) (n0 c0 : Nat) (p1 : Option Addr) (n1 c1 : Nat), cs = [.slice p0 n0 c0, .slice p1 n1 c1] ∧ RdD DpPiece.E S w p0 n0 l0 ∧ RdD DpRenewal.E S w p1 n1 l1 := by
  obtain ⟨p0, n0, c0, p1, n1, c1, e, h0, h1, _⟩ := exk h
  exact ⟨p0, n0, c0, p1, n1, c1, e, h0, h1⟩
theorem mk {S : Nat → Prop} {w : World} {l0 : List DpPiece.A} {l1 : List DpRenewal.A} {p0 : Option Addr} {n0 c0 : Nat} {p1 : Option Addr} {n1 c1 : Nat} (h0 : RdD DpPiece.E S w p0 n0 l0) (h1 : RdD DpRenewal.E S w p1 n1 l1) (k0 : n0 ≤ c0) (k1 : n1 ≤ c1) : E.rd S w [.slice p0 n0 c0, .slice p1 n1 c1] (l0, l1) :=
  ⟨[.slice p0 n0 c0], [.slice p1 n1 c1], rfl, ⟨p0, n0, c0, rfl, k0, h0⟩, ⟨p1, n1, c1, rfl, k1, h1⟩⟩
theorem bxc {w : World} {g : Nat} {T : TypeId} {y0 : Value} {y1 : Value} (h : Bx w g T #[y0, y1]) : w.cell? ⟨g, 0, none⟩ = some y0 ∧ w.cell? ⟨g, 1, none⟩ = some y1 := ⟨h.cell rfl, h.cell rfl⟩
theorem wt_eq (l0 : List DpPiece.A) (l1 : List DpRenewal.A) : E.wt (l0, l1) = (l0.length + wts DpPiece.E l0) + (l1.length + wts DpRenewal.E l1) := by
  show (l0.length + wts DpPiece.E l0) + ((l1.length + wts DpRenewal.E l1)) = _
  omega
section
variable {H : Type} {enc : TypeId × Value → H} {W : World}
set_option maxRecDepth 100000 in
theorem open_cells {fuel : Nat} {cs : List Value} {X : DataW H × List MemPlace} (hl : cs.length = 2) (h : DataW.trod enc Tryz.prog W 0 (fun _ => true) true fuel 30 cs = some X) : ∃ x, E.rd (fun _ => True) W cs x := by
  have hi : ∃ f0 f1 : Field, Tryz.prog.underlying 30 = some (.struct #[f0, f1]) ∧ f0.offset = 0 ∧ f1.offset = 1 ∧ f0.type = 27 ∧ f1.type = 28 ∧ Tryz.prog.cellsOf 27 = 1 ∧ Tryz.prog.cellsOf 28 = 1 := ⟨_, _, Tryz.underlying30, by kernel_rfl, by kernel_rfl, by kernel_rfl, by kernel_rfl, by kernel_rfl, by kernel_rfl⟩
  obtain ⟨f0, f1, hs, o0, o1, t0, t1, z0, z1⟩ := hi
  obtain ⟨ys, n, _, _, _, hlen, hf⟩ := DataW.trod_struct hs h
  match ys, hlen with
  | [y0, y1], _ =>
    have r0 := hf 0 f0 rfl
    have r1 := hf 1 f1 rfl
    simp only [List.getElem?_cons_zero, List.getElem?_cons_succ] at r0 r1
    rw [o0, t0, z0] at r0
    rw [o1, t1, z1] at r1
    obtain ⟨v0, q0⟩ : ∃ x, Ent.rd (sl DpPiece.E) (fun _ => True) W ((cs.drop 0).take 1) x := o_sl Tryz.underlying27 (by kernel_rfl) (fun hl h => DpPiece.open_cells hl h) r0
    obtain ⟨v1, q1⟩ : ∃ x, Ent.rd (sl DpRenewal.E) (fun _ => True) W ((cs.drop 1).take 1) x := o_sl Tryz.underlying28 (by kernel_rfl) (fun hl h => DpRenewal.open_cells hl h) r1
    exact ⟨_, rd_first (rd_next (o := 0) (o' := 1) rfl rfl q0 (rd_last (o := 1) (by simp [hl]) q1))⟩
set_option maxRecDepth 100000 in
theorem open_valk {base : Nat} {v : Value} {d : DataW H} {pl : List MemPlace} (h : DataW.Trod enc Tryz.prog W 0 (fun _ => true) true 30 v d pl) (hk : Value.okWide Tryz.prog W .any base 30 v) : ∃ (l0 : List DpPiece.A) (l1 : List DpRenewal.A) (p0 : Option Addr) (n0 c0 : Nat) (p1 : Option Addr) (n1 c1 : Nat), v = .agg #[.slice p0 n0 c0, .slice p1 n1 c1] ∧ RdD DpPiece.E (fun _ => True) W p0 n0 l0 ∧ RdD DpRenewal.E (fun _ => True) W p1 n1 l1 ∧ n0 ≤ c0 ∧ n1 ≤ c1 := by
  have hu : ∃ fs, Tryz.prog.underlying 30 = some (.struct fs) ∧ Tryz.prog.cellsOf 30 = 2 := ⟨_, Tryz.underlying30, by kernel_rfl⟩
  obtain ⟨fs, hs, hC⟩ := hu
  obtain ⟨cs, rfl, hsz⟩ := okWide_struct hs hk
  obtain ⟨fuel, hf⟩ := h
  simp only [Value.cells] at hf
  obtain ⟨x, hx⟩ := open_cells (by rw [Array.length_toList, hsz, hC]) hf
  obtain ⟨l0, l1⟩ := x
  obtain ⟨p0, n0, c0, p1, n1, c1, hc, h0, h1, k0, k1⟩ := exk hx
  exact ⟨l0, l1, p0, n0, c0, p1, n1, c1, congrArg Value.agg (Array.ext' hc), h0, h1, k0, k1⟩
set_option maxRecDepth 100000 in
theorem open_val {base : Nat} {v : Value} {d : DataW H} {pl : List MemPlace} (h : DataW.Trod enc Tryz.prog W 0 (fun _ => true) true 30 v d pl) (hk : Value.okWide Tryz.prog W .any base 30 v) : ∃ (l0 : List DpPiece.A) (l1 : List DpRenewal.A) (p0 : Option Addr) (n0 c0 : Nat) (p1 : Option Addr) (n1 c1 : Nat), v = .agg #[.slice p0 n0 c0, .slice p1 n1 c1] ∧ RdD DpPiece.E (fun _ => True) W p0 n0 l0 ∧ RdD DpRenewal.E (fun _ => True) W p1 n1 l1 := by
  have hu : ∃ fs, Tryz.prog.underlying 30 = some (.struct fs) ∧ Tryz.prog.cellsOf 30 = 2 := ⟨_, Tryz.underlying30, by kernel_rfl⟩
  obtain ⟨fs, hs, hC⟩ := hu
  obtain ⟨cs, rfl, hsz⟩ := okWide_struct hs hk
  obtain ⟨fuel, hf⟩ := h
  simp only [Value.cells] at hf
  obtain ⟨x, hx⟩ := open_cells (by rw [Array.length_toList, hsz, hC]) hf
  obtain ⟨l0, l1⟩ := x
  obtain ⟨p0, n0, c0, p1, n1, c1, hc, h0, h1⟩ := ex hx
  exact ⟨l0, l1, p0, n0, c0, p1, n1, c1, congrArg Value.agg (Array.ext' hc), h0, h1⟩
end
set_option maxRecDepth 100000 in
set_option maxHeartbeats 4000000 in
theorem toK_any (l0 : List DpPiece.A) (p0 : Option Addr) (n0 c0 : Nat) (l1 : List DpRenewal.A) (p1 : Option Addr) (n1 c1 : Nat) {S0 S1 : Nat → Prop} (w : World) (h0 : RdD DpPiece.E S0 w p0 n0 l0) (h1 : RdD DpRenewal.E S1 w p1 n1 l1) (hm : E.wt (l0, l1) ≤ 1048576) : Calls Tryz.prog 12 #[.agg #[.slice p0 n0 c0, .slice p1 n1 c1]] w fun e w' => ∃ (p0' : Option Addr) (c0' : Nat) (p1' : Option Addr) (c1' : Nat), e = .returned (.agg #[.slice p0' n0 c0', .slice p1' n1 c1']) ∧ RdD DpPiece.E (fun b => w.heap.size ≤ b) w' p0' n0 l0 ∧ RdD DpRenewal.E (fun b => w.heap.size ≤ b) w' p1' n1 l1 ∧ n0 ≤ c0' ∧ n1 ≤ c1' ∧ Below w.heap.size w w' := by
  rw [wt_eq] at hm
  have k0 := h0.len
  have k1 := h1.len
  have m0 : n0 + wts DpPiece.E l0 ≤ 1048576 := by omega
  have m1 : n1 + wts DpRenewal.E l1 ≤ 1048576 := by omega
  have HP0 := Lib.hid h0
  have HP1 := Lib.hid h1
  clear hm h0 k0 h1 k1
  have b0 := ((Bx.new w 30 #[.slice p0 n0 c0, .slice p1 n1 c1]).alloc (.cells #[.slice none 0 0, .slice none 0 0] 44)).alloc (.cells #[.slice none 0 0, .slice none 0 0] 44)
  have b1 := (Bx.new (w.alloc (.cells #[.slice p0 n0 c0, .slice p1 n1 c1] 30)) 44 #[.slice none 0 0, .slice none 0 0]).alloc (.cells #[.slice none 0 0, .slice none 0 0] 44)
  have b2 := Bx.new ((w.alloc (.cells #[.slice p0 n0 c0, .slice p1 n1 c1] 30)).alloc (.cells #[.slice none 0 0, .slice none 0 0] 44)) 44 #[.slice none 0 0, .slice none 0 0]
  rw [World.size_alloc] at b1
  rw [World.size_alloc, World.size_alloc] at b2
  have HA := Lib.hid b0
  have HR := Lib.hid b1
  have HO := Lib.hid b2
  have HB : Hid (Below w.heap.size w (((w.alloc (.cells #[.slice p0 n0 c0, .slice p1 n1 c1] 30)).alloc (.cells #[.slice none 0 0, .slice none 0 0] 44)).alloc (.cells #[.slice none 0 0, .slice none 0 0] 44))) := Lib.hid ((((Below.refl w.heap.size w).alloc (Nat.le_refl _) _).alloc (by simp) _).alloc (by simp; omega) _)
  have HSZ : Hid (w.heap.size + 3 ≤ (((w.alloc (.cells #[.slice p0 n0 c0, .slice p1 n1 c1] 30)).alloc (.cells #[.slice none 0 0, .slice none 0 0] 44)).alloc (.cells #[.slice none 0 0, .slice none 0 0] 44)).heap.size) := Lib.hid (by simp)
  clear b0 b1 b2
  go_enter Tryz.func12, Tryz.ntmps12
  go_wp2_with fail
  generalize (((w.alloc (.cells #[.slice p0 n0 c0, .slice p1 n1 c1] 30)).alloc (.cells #[.slice none 0 0, .slice none 0 0] 44)).alloc (.cells #[.slice none 0 0, .slice none 0 0] 44)) = V at HA HR HO HB HSZ ⊢
  obtain ⟨a0, a1⟩ := bxc HA.out
  refine (DpPiece.toSK_any _ _ _ _ _ (HP0.out.below HB.out) m0).mono ?_
  rintro e w1 ⟨p0', c0', rfl, ho, hk, hb⟩
  have HK0 := Lib.hid hk
  clear hk
  have HQ0 : Hid (RdD DpPiece.E (fun b => w.heap.size + 3 ≤ b) w1 p0' n0 l0) := Lib.hid (ho.mono fun b hb => Nat.le_trans HSZ.out hb)
  clear ho
  clear a0 a1
  replace HA := Lib.hid (HA.out.below hb)
  replace HR := Lib.hid (HR.out.below hb)
  replace HO := Lib.hid (HO.out.below hb)
  replace HB := Lib.hid (below_on HB.out hb)
  replace HSZ := Lib.hid (Nat.le_trans HSZ.out hb.size)
  clear hb
  obtain ⟨a0, a1⟩ := bxc HA.out
  obtain ⟨q0, q1⟩ := bxc HO.out
  have g0 := HO.out.free 0
  go_wp2_with fail
  have ho := (HO.out.set_ 0 (.slice p0' n0 c0'))
  simp only [List.setIfInBounds_toArray, List.set_cons_zero] at ho
  replace HO := Lib.hid ho
  clear ho a0 a1 q0 q1 g0
  replace HA := Lib.hid (HA.out.far (q := ⟨w.heap.size + 1 + 1, 0, none⟩) (by show w.heap.size ≠ w.heap.size + 1 + 1; omega) (.slice p0' n0 c0'))
  replace HR := Lib.hid (HR.out.far (q := ⟨w.heap.size + 1 + 1, 0, none⟩) (by show w.heap.size + 1 ≠ w.heap.size + 1 + 1; omega) (.slice p0' n0 c0'))
  replace HQ0 := Lib.hid (HQ0.out.far (q := ⟨w.heap.size + 1 + 1, 0, none⟩) (by show ¬ (w.heap.size + 3 ≤ w.heap.size + 1 + 1); omega) (.slice p0' n0 c0'))
  replace HB := Lib.hid (HB.out.setCell (p := ⟨w.heap.size + 1 + 1, 0, none⟩) (by show w.heap.size ≤ w.heap.size + 1 + 1; omega) (.slice p0' n0 c0'))
  replace HSZ : Hid (w.heap.size + 3 ≤ (w1.setCell ⟨w.heap.size + 1 + 1, 0, none⟩ (.slice p0' n0 c0')).heap.size) := Lib.hid (by simpa [World.setCell] using HSZ.out)
  generalize (w1.setCell ⟨w.heap.size + 1 + 1, 0, none⟩ (.slice p0' n0 c0')) = V1 at HA HR HO HB HSZ HQ0 ⊢
  obtain ⟨a0, a1⟩ := bxc HA.out
  refine (DpRenewal.toSK_any _ _ _ _ _ (HP1.out.below HB.out) m1).mono ?_
  rintro e w2 ⟨p1', c1', rfl, ho, hk, hb⟩
  have HK1 := Lib.hid hk
  clear hk
  have HQ1 : Hid (RdD DpRenewal.E (fun b => w.heap.size + 3 ≤ b) w2 p1' n1 l1) := Lib.hid (ho.mono fun b hb => Nat.le_trans HSZ.out hb)
  clear ho
  clear a0 a1
  replace HA := Lib.hid (HA.out.below hb)
  replace HR := Lib.hid (HR.out.below hb)
  replace HO := Lib.hid (HO.out.below hb)
  replace HQ0 := Lib.hid (HQ0.out.below hb)
  replace HB := Lib.hid (below_on HB.out hb)
  replace HSZ := Lib.hid (Nat.le_trans HSZ.out hb.size)
  clear hb
  obtain ⟨a0, a1⟩ := bxc HA.out
  obtain ⟨q0, q1⟩ := bxc HO.out
  have g1 := HO.out.free 1
  obtain ⟨r0, r1⟩ := bxc HR.out
  have s0 := HR.out.free 0
  have s1 := HR.out.free 1
  go_wp2_with fail
  exact bodyPost_ret (v := .agg #[.slice p0' n0 c0', .slice p1' n1 c1']) (by simp [results, Tryz.results12, go_sem, r0, r1]) rfl ⟨p0', c0', p1', c1', rfl, (((((HQ0.out.far (q := ⟨w.heap.size + 1 + 1, 1, none⟩) (by show ¬ (w.heap.size + 3 ≤ w.heap.size + 1 + 1); omega) (.slice p1' n1 c1')).far (q := ⟨w.heap.size + 1, 0, none⟩) (by show ¬ (w.heap.size + 3 ≤ w.heap.size + 1); omega) (.slice p0' n0 c0')).far (q := ⟨w.heap.size + 1, 1, none⟩) (by show ¬ (w.heap.size + 3 ≤ w.heap.size + 1); omega) (.slice p1' n1 c1'))).mono fun b hb => by omega), (((((HQ1.out.far (q := ⟨w.heap.size + 1 + 1, 1, none⟩) (by show ¬ (w.heap.size + 3 ≤ w.heap.size + 1 + 1); omega) (.slice p1' n1 c1')).far (q := ⟨w.heap.size + 1, 0, none⟩) (by show ¬ (w.heap.size + 3 ≤ w.heap.size + 1); omega) (.slice p0' n0 c0')).far (q := ⟨w.heap.size + 1, 1, none⟩) (by show ¬ (w.heap.size + 3 ≤ w.heap.size + 1); omega) (.slice p1' n1 c1'))).mono fun b hb => by omega), HK0.out, HK1.out, (((HB.out.setCell (p := ⟨w.heap.size + 1 + 1, 1, none⟩) (by show w.heap.size ≤ w.heap.size + 1 + 1; omega) (.slice p1' n1 c1')).setCell (p := ⟨w.heap.size + 1, 0, none⟩) (by show w.heap.size ≤ w.heap.size + 1; omega) (.slice p0' n0 c0')).setCell (p := ⟨w.heap.size + 1, 1, none⟩) (by show w.heap.size ≤ w.heap.size + 1; omega) (.slice p1' n1 c1'))⟩
theorem to_any (l0 : List DpPiece.A) (p0 : Option Addr) (n0 c0 : Nat) (l1 : List DpRenewal.A) (p1 : Option Addr) (n1 c1 : Nat) {S0 S1 : Nat → Prop} (w : World) (h0 : RdD DpPiece.E S0 w p0 n0 l0) (h1 : RdD DpRenewal.E S1 w p1 n1 l1) (hm : E.wt (l0, l1) ≤ 1048576) : Calls Tryz.prog 12 #[.agg #[.slice p0 n0 c0, .slice p1 n1 c1]] w fun e w' => ∃ (p0' : Option Addr) (c0' : Nat) (p1' : Option Addr) (c1' : Nat), e = .returned (.agg #[.slice p0' n0 c0', .slice p1' n1 c1']) ∧ RdD DpPiece.E (fun b => w.heap.size ≤ b) w' p0' n0 l0 ∧ RdD DpRenewal.E (fun b => w.heap.size ≤ b) w' p1' n1 l1 ∧ Below w.heap.size w w' := by
  refine (toK_any l0 p0 n0 c0 l1 p1 n1 c1 w h0 h1 hm).mono ?_
  rintro e w' ⟨p0', c0', p1', c1', he, o0, o1, _, _, hb⟩
  exact ⟨p0', c0', p1', c1', he, o0, o1, hb⟩
set_option maxRecDepth 100000 in
set_option maxHeartbeats 4000000 in
theorem eq_any (l0 : List DpPiece.A) (p0 p0' : Option Addr) (n0 c0 c0' : Nat) (l1 : List DpRenewal.A) (p1 p1' : Option Addr) (n1 c1 c1' : Nat) {S0 S0' S1 S1' : Nat → Prop} (w : World) (h0 : RdD DpPiece.E S0 w p0 n0 l0) (h0' : RdD DpPiece.E S0' w p0' n0 l0) (h1 : RdD DpRenewal.E S1 w p1 n1 l1) (h1' : RdD DpRenewal.E S1' w p1' n1 l1) : Calls Tryz.prog 16 #[.agg #[.slice p0 n0 c0, .slice p1 n1 c1], .agg #[.slice p0' n0 c0', .slice p1' n1 c1']] w (Yes w) := by
  have HP0 := Lib.hid h0
  have HP0' := Lib.hid h0'
  have HP1 := Lib.hid h1
  have HP1' := Lib.hid h1'
  clear h0 h0' h1 h1'
  have HB := Lib.hid ((box1 w (.cells #[.slice p0 n0 c0, .slice p1 n1 c1] 44)).alloc (by simp) (.cells #[.slice p0' n0 c0', .slice p1' n1 c1'] 44))
  have HX := Lib.hid ((Bx.new w 44 #[.slice p0 n0 c0, .slice p1 n1 c1]).alloc (.cells #[.slice p0' n0 c0', .slice p1' n1 c1'] 44))
  have hy := Bx.new (w.alloc (.cells #[.slice p0 n0 c0, .slice p1 n1 c1] 44)) 44 #[.slice p0' n0 c0', .slice p1' n1 c1']
  rw [World.size_alloc] at hy
  have HY := Lib.hid hy
  clear hy
  go_enter Tryz.func16, Tryz.ntmps16
  go_wp2_with fail
  refine (DpPiece.eqS_any _ _ _ _ _ _ _ (HP0.out.below HB.out) (HP0'.out.below HB.out)).mono ?_
  rintro e w1 ⟨rfl, hb⟩
  replace HB := Lib.hid (below_on HB.out hb)
  replace HX := Lib.hid (HX.out.below hb)
  replace HY := Lib.hid (HY.out.below hb)
  clear hb
  obtain ⟨x0_, x1_⟩ := bxc HX.out
  obtain ⟨y0_, y1_⟩ := bxc HY.out
  go_wp2_with fail
  refine (DpRenewal.eqS_any _ _ _ _ _ _ _ (HP1.out.below HB.out) (HP1'.out.below HB.out)).mono ?_
  rintro e w2 ⟨rfl, hb⟩
  clear x0_ y0_ x1_ y1_
  replace HB := Lib.hid (below_on HB.out hb)
  replace HX := Lib.hid (HX.out.below hb)
  replace HY := Lib.hid (HY.out.below hb)
  clear hb
  obtain ⟨x0_, x1_⟩ := bxc HX.out
  obtain ⟨y0_, y1_⟩ := bxc HY.out
  go_wp2_with fail
  go_ret
  exact ⟨rfl, HB.out⟩
set_option maxRecDepth 100000 in
set_option maxHeartbeats 4000000 in
theorem sz_fits (l0 : List DpPiece.A) (p0 : Option Addr) (n0 c0 : Nat) (l1 : List DpRenewal.A) (p1 : Option Addr) (n1 c1 : Nat) {S0 S1 : Nat → Prop} (m : Nat) (left : Int) (w : World) (hm : E.wt (l0, l1) = m) (h0 : RdD DpPiece.E S0 w p0 n0 l0) (h1 : RdD DpRenewal.E S1 w p1 n1 l1) (g1 : left ≤ 1048576) (g2 : m ≤ left) : Calls Tryz.prog 9 #[.agg #[.slice p0 n0 c0, .slice p1 n1 c1], .int .i64 left] w (Val (.int .i64 (left - m)) w) := by
  rw [wt_eq] at hm
  have k0 := h0.len
  have e0 := h0.le
  have HP0 := Lib.hid h0
  have k1 := h1.len
  have e1 := h1.le
  have HP1 := Lib.hid h1
  have m0 : (n0 + wts DpPiece.E l0) = (n0 + wts DpPiece.E l0) := rfl
  have m1 : (n1 + wts DpRenewal.E l1) = (n1 + wts DpRenewal.E l1) := rfl
  have ht : (n0 + wts DpPiece.E l0) + (n1 + wts DpRenewal.E l1) = m := by omega
  clear hm h0 k0 h1 k1 m0 m1 
  subst ht
  have HB := Lib.hid (box1 w (.cells #[.slice p0 n0 c0, .slice p1 n1 c1] 30))
  have HX := Lib.hid (Bx.new w 30 #[.slice p0 n0 c0, .slice p1 n1 c1])
  go_enter Tryz.func9, Tryz.ntmps9
  go_wp2_with fail
  refine (DpPiece.szS_fits _ _ _ _ _ _ (HP0.out.below HB.out) (by omega) (by omega)).mono ?_
  rintro e w1 ⟨rfl, hb⟩
  replace HB := Lib.hid (below_on HB.out hb)
  replace HX := Lib.hid (HX.out.below hb)
  clear hb
  obtain ⟨x0_, x1_⟩ := bxc HX.out
  go_wp2_with fail
  refine (DpRenewal.szS_fits _ _ _ _ _ _ (HP1.out.below HB.out) (by omega) (by omega)).mono ?_
  rintro e w2 ⟨rfl, hb⟩
  clear x0_ x1_
  replace HB := Lib.hid (below_on HB.out hb)
  replace HX := Lib.hid (HX.out.below hb)
  clear hb
  go_wp2_with fail
  go_ret
  refine val_of ?_ HB.out
  show Value.int .i64 (left - ((((n0 + wts DpPiece.E l0)) : Nat) : Int) - ((((n1 + wts DpRenewal.E l1)) : Nat) : Int)) = _
  first | rfl | (congr 1; omega)
set_option maxRecDepth 100000 in
set_option maxHeartbeats 4000000 in
theorem sz_big (l0 : List DpPiece.A) (p0 : Option Addr) (n0 c0 : Nat) (l1 : List DpRenewal.A) (p1 : Option Addr) (n1 c1 : Nat) {S0 S1 : Nat → Prop} (m : Nat) (left : Int) (w : World) (hm : E.wt (l0, l1) = m) (h0 : RdD DpPiece.E S0 w p0 n0 l0) (h1 : RdD DpRenewal.E S1 w p1 n1 l1) (g0 : 0 ≤ left) (g1 : left ≤ 1048576) (g2 : left < m) : Calls Tryz.prog 9 #[.agg #[.slice p0 n0 c0, .slice p1 n1 c1], .int .i64 left] w (Val (.int .i64 (-1)) w) := by
  rw [wt_eq] at hm
  have k0 := h0.len
  have e0 := h0.le
  have HP0 := Lib.hid h0
  have k1 := h1.len
  have e1 := h1.le
  have HP1 := Lib.hid h1
  have m0 : (n0 + wts DpPiece.E l0) = (n0 + wts DpPiece.E l0) := rfl
  have m1 : (n1 + wts DpRenewal.E l1) = (n1 + wts DpRenewal.E l1) := rfl
  have ht : (n0 + wts DpPiece.E l0) + (n1 + wts DpRenewal.E l1) = m := by omega
  clear hm h0 k0 h1 k1 m0 m1 
  subst ht
  have G := Lib.hid g2
  clear g2
  have HB := Lib.hid (box1 w (.cells #[.slice p0 n0 c0, .slice p1 n1 c1] 30))
  have HX := Lib.hid (Bx.new w 30 #[.slice p0 n0 c0, .slice p1 n1 c1])
  by_cases hc0 : left < (((n0 + wts DpPiece.E l0) : Nat) : Int)
  · go_enter Tryz.func9, Tryz.ntmps9
    go_wp2_with fail
    refine (DpPiece.szS_big _ _ _ _ _ _ (HP0.out.below HB.out) (by omega) (by omega) (by have := G.out; omega)).mono ?_
    rintro e w1 ⟨rfl, hb⟩
    replace HB := Lib.hid (below_on HB.out hb)
    replace HX := Lib.hid (HX.out.below hb)
    clear hb
    go_wp2_with fail
    go_ret
    exact ⟨rfl, HB.out⟩
  go_enter Tryz.func9, Tryz.ntmps9
  go_wp2_with fail
  refine (DpPiece.szS_fits _ _ _ _ _ _ (HP0.out.below HB.out) (by omega) (by omega)).mono ?_
  rintro e w1 ⟨rfl, hb⟩
  replace HB := Lib.hid (below_on HB.out hb)
  replace HX := Lib.hid (HX.out.below hb)
  clear hb
  obtain ⟨x0_, x1_⟩ := bxc HX.out
  go_wp2_with fail
  refine (DpRenewal.szS_big _ _ _ _ _ _ (HP1.out.below HB.out) (by omega) (by omega) (by have := G.out; omega)).mono ?_
  rintro e w2 ⟨rfl, hb⟩
  clear x0_ x1_
  replace HB := Lib.hid (below_on HB.out hb)
  replace HX := Lib.hid (HX.out.below hb)
  clear hb
  go_wp2_with fail
  go_ret
  exact ⟨rfl, HB.out⟩
theorem at_cells {w : World} {b q : Nat} {v0 : Value} {v1 : Value} (h : ∀ j v, [v0, v1][j]? = some v → w.cell? ⟨b, q + j, none⟩ = some v) : w.cell? ⟨b, q, none⟩ = some v0 ∧ w.cell? ⟨b, q + 1, none⟩ = some v1 := ⟨h 0 _ rfl, h 1 _ rfl⟩
theorem info : (Tryz.prog.info? 44).map (fun i => (i.zero, i.size, i.bytes)) = some (some (.agg #[.slice none 0 0, .slice none 0 0]), 2, 48) := by kernel_rfl
set_option maxRecDepth 100000 in
set_option maxHeartbeats 4000000 in
theorem toSK_any (p : Option Addr) (n c : Nat) (xs : List A) {S : Nat → Prop} (w : World) (hr : RdD E S w p n xs) (hm : n + wts E xs ≤ 1048576) : Calls Tryz.prog 61 #[.slice p n c] w fun e w' => ∃ (q : Option Addr) (d : Nat), e = .returned (.slice q n d) ∧ RdD E (fun b => w.heap.size ≤ b) w' q n xs ∧ n ≤ d ∧ Below w.heap.size w w' := by
  obtain ⟨i0, hi, hz0, hz1, hz2⟩ := info_parts info
  have HR := Lib.hid hr
  have hn : n ≤ 1048576 := by omega
  have HM0 := Lib.hid hm
  clear hr hm
  go_enter Tryz.func61, Tryz.ntmps61
  go_wp2_with (refine wpList_make_full _ rfl _ _ 70 rfl w.heap.size 44 i0 _ 2 Tryz.underlying70 hi hz0 hz1 .i64 .i64 _ _ n rfl rfl rfl rfl (by rw [hz2]; omega) (by unfold maxLen; omega) (Nat.le_refl _) ?_; intro w1 hown1 hg1)
  have HM := Lib.hid (MidD.start (E := E) (z := [.slice none 0 0, .slice none 0 0]) (xs := xs) (.agg #[.slice none 0 0, .slice none 0 0]) rfl rfl (by intro u hu; simp only [List.mem_cons, List.not_mem_nil, or_false] at hu; rcases hu with rfl | rfl <;> rfl) hown1 hg1)
  clear hown1 hg1
  go_loopw [4] (fun i wr => ∃ k : Nat, k ≤ n ∧ i = .int .i64 k ∧ Hid (MidD E 44 [.slice none 0 0, .slice none 0 0] xs n k w wr)) (fun i _ => n - (intOf i).toNat)
  case atStart => exact ⟨0, Nat.zero_le _, rfl, HM⟩
  case round =>
    obtain ⟨k, hk, rfl, HK⟩ := hrel
    by_cases hlt : k < n
    · obtain ⟨b, o, x, cs, rfl, _, hbw, hx, hc, hrd⟩ := HR.out.at_ hlt
      obtain ⟨l0, l1⟩ := x
      obtain ⟨p0, n0, c0, p1, n1, c1, rfl, h0, h1⟩ := ex hrd
      have hB := HK.out.below
      have hwt : E.wt (l0, l1) ≤ 1048576 := by have h1 := wts_at (E := E) hx; have h2 := HM0.out; omega
      have hcc : ∀ j v, [.slice p0 n0 c0, .slice p1 n1 c1][j]? = some v → wr.cell? ⟨b, o + k * 2 + j, none⟩ = some v := fun j v hv => (hB.cell (p := ⟨b, o + k * 2 + j, none⟩) hbw).trans (hc j v hv)
      have HX := Lib.hid hx
      have HW := Lib.hid hwt
      have Hh0 := Lib.hid h0
      have Hh1 := Lib.hid h1
      have HBB := Lib.hid hB
      obtain ⟨u0, u1⟩ := at_cells hcc
      clear hc hcc hrd hx hwt hB h0 h1
      go_wp2_with fail
      refine (toK_any _ _ _ _ _ _ _ _ _ (Hh0.out.below HBB.out) (Hh1.out.below HBB.out) HW.out).mono ?_
      rintro e w2 ⟨p0', c0', p1', c1', rfl, ho0, ho1, hk0, hk1, hb2⟩
      obtain ⟨hz, hf⟩ := HK.out.cells hlt
      have d0 : w2.cell? ⟨w.heap.size, k * 2, none⟩ = some (.slice none 0 0) := (hb2.cell (p := ⟨w.heap.size, k * 2 + 0, none⟩) HK.out.lt).trans (hz 0 _ rfl)
      have d1 : w2.cell? ⟨w.heap.size, k * 2 + 1, none⟩ = some (.slice none 0 0) := (hb2.cell (p := ⟨w.heap.size, k * 2 + 1, none⟩) HK.out.lt).trans (hz 1 _ rfl)
      have f0 : w2.frozen? ⟨w.heap.size, k * 2, none⟩ = false := (hb2.frozen (p := ⟨w.heap.size, k * 2 + 0, none⟩) HK.out.lt).trans (hf _)
      have f1 : w2.frozen? ⟨w.heap.size, k * 2 + 1, none⟩ = false := (hb2.frozen (p := ⟨w.heap.size, k * 2 + 1, none⟩) HK.out.lt).trans (hf _)
      have HM2 := Lib.hid (HK.out.next hb2 hlt HX.out (mk (c0 := c0') (c1 := c1') ho0 ho1 hk0 hk1))
      clear hz hf hb2 ho0 hk0 ho1 hk1 u0 u1
      go_wp2_with fail
      go_roundw
      case rel => exact ⟨k + 1, by omega, by go_num, HM2⟩
      case measure => simp [intOf]; omega
    · obtain rfl : k = n := by omega
      have HD := Lib.hid (HK.out.done HR.out.len (by unfold maxLen; omega))
      go_wp2_with fail
      go_ret
      exact ⟨_, _, rfl, HD.out.1, Nat.le_refl _, HD.out.2⟩
theorem toS_any (p : Option Addr) (n c : Nat) (xs : List A) {S : Nat → Prop} (w : World) (hr : RdD E S w p n xs) (hm : n + wts E xs ≤ 1048576) : Calls Tryz.prog 61 #[.slice p n c] w fun e w' => ∃ (q : Option Addr) (d : Nat), e = .returned (.slice q n d) ∧ RdD E (fun b => w.heap.size ≤ b) w' q n xs ∧ Below w.heap.size w w' := by
  refine (toSK_any p n c xs w hr hm).mono ?_
  rintro e w' ⟨q, d, he, ho, _, hb⟩
  exact ⟨q, d, he, ho, hb⟩
set_option maxRecDepth 100000 in
set_option maxHeartbeats 8000000 in
theorem eqS_any (p p' : Option Addr) (n c c' : Nat) (xs : List A) {S S' : Nat → Prop} (w : World) (hr : RdD E S w p n xs) (hr' : RdD E S' w p' n xs) : Calls Tryz.prog 65 #[.slice p n c, .slice p' n c'] w (Yes w) := by
  have HR := Lib.hid hr
  have HR' := Lib.hid hr'
  have hle := hr.le
  clear hr hr'
  go_enter Tryz.func65, Tryz.ntmps65
  go_wp2_with fail
  go_loopw [5] (fun i wr => ∃ k : Nat, k ≤ n ∧ i = .int .i64 k ∧ Hid (Below w.heap.size w wr)) (fun i _ => n - (intOf i).toNat)
  case atStart => exact ⟨0, Nat.zero_le _, rfl, Below.refl _ _⟩
  case round =>
    obtain ⟨k, hk, rfl, HB⟩ := hrel
    by_cases hlt : k < n
    · obtain ⟨b, o, x, cs, rfl, _, hbw, hx, hc, hrd⟩ := HR.out.at_ hlt
      obtain ⟨b', o', x', cs', rfl, _, hbw', hx', hc', hrd'⟩ := HR'.out.at_ hlt
      rw [hx] at hx'
      obtain rfl := Option.some.inj hx'
      clear hx hx'
      obtain ⟨l0, l1⟩ := x
      obtain ⟨p0, n0, c0, p1, n1, c1, rfl, h0, h1⟩ := ex hrd
      obtain ⟨p0', n0', c0', p1', n1', c1', rfl, h0', h1'⟩ := ex hrd'
      obtain rfl : n0 = n0' := h0.len.symm.trans h0'.len
      obtain rfl : n1 = n1' := h1.len.symm.trans h1'.len
      have hcc : ∀ j v, [.slice p0 n0 c0, .slice p1 n1 c1][j]? = some v → wr.cell? ⟨b, o + k * 2 + j, none⟩ = some v := fun j v hv => (HB.out.cell (p := ⟨b, o + k * 2 + j, none⟩) hbw).trans (hc j v hv)
      have hcc' : ∀ j v, [.slice p0' n0 c0', .slice p1' n1 c1'][j]? = some v → wr.cell? ⟨b', o' + k * 2 + j, none⟩ = some v := fun j v hv => (HB.out.cell (p := ⟨b', o' + k * 2 + j, none⟩) hbw').trans (hc' j v hv)
      have H0 := Lib.hid (h0.below HB.out)
      have H0' := Lib.hid (h0'.below HB.out)
      have H1 := Lib.hid (h1.below HB.out)
      have H1' := Lib.hid (h1'.below HB.out)
      have HC := Lib.hid hcc
      have HC' := Lib.hid hcc'
      have hlb : b < wr.heap.size := Nat.lt_of_lt_of_le hbw HB.out.size
      have hlb' : b' < wr.heap.size := Nat.lt_of_lt_of_le hbw' HB.out.size
      have HH := Lib.hid (And.intro (at_cells hcc) (at_cells hcc'))
      obtain ⟨⟨u0, u1⟩, v0, v1⟩ := HH.out
      clear hc hc' hrd hrd' hcc hcc' h0 h1 h0' h1'
      have i1 : (0 : Int) ≤ (k : Int) := by omega
      have i2 : (k : Int) < (n : Int) := by omega
      go_wp2_with fail
      go_region_held3 (fun w' => (w'.cell? ⟨b, o + k * 2, none⟩ = some (.slice p0 n0 c0) ∧ w'.cell? ⟨b, o + k * 2 + 1, none⟩ = some (.slice p1 n1 c1)) ∧ w'.cell? ⟨b', o' + k * 2, none⟩ = some (.slice p0' n0 c0') ∧ w'.cell? ⟨b', o' + k * 2 + 1, none⟩ = some (.slice p1' n1 c1')) (first | exact HH.out | exact HH2.out | go_keep) (first | (go_at_call 16; (with_reducible refine (eq_any _ _ _ _ _ _ _ _ _ _ _ _ _ H0.out.drew1 H0'.out.drew1 H1.out.drew1 H1'.out.drew1).mono ?_); rintro e w2 ⟨rfl, hb2⟩; have HH2 := Lib.hid (And.intro (at_cells (q := o + k * 2) fun j v hv => (hb2.cell (p := ⟨b, o + k * 2 + j, none⟩) hlb).trans (HC.out j v hv)) (at_cells (q := o' + k * 2) fun j v hv => (hb2.cell (p := ⟨b', o' + k * 2 + j, none⟩) hlb').trans (HC'.out j v hv))); have HB2 := Lib.hid (below_on (below_drewN HB.out 1) hb2); clear hb2))
      go_wp2_with fail
      go_roundw
      case rel => exact ⟨k + 1, by omega, by go_num, HB2⟩
      case measure => simp [intOf]; omega
    · obtain rfl : k = n := by omega
      go_wp2_with fail
      go_ret
      exact ⟨rfl, HB.out⟩
set_option maxRecDepth 100000 in
set_option maxHeartbeats 4000000 in
theorem szS_fits (p : Option Addr) (n c : Nat) (xs : List A) {S : Nat → Prop} (left : Int) (w : World) (hr : RdD E S w p n xs) (h1 : left ≤ 1048576) (h : (n + wts E xs : Nat) ≤ left) : Calls Tryz.prog 59 #[.slice p n c, .int .i64 left] w (Val (.int .i64 (left - (n + wts E xs : Nat))) w) := by
  have HR := Lib.hid hr
  have hle := hr.le
  have HL := Lib.hid hr.len
  have HT := Lib.hid h
  clear hr
  clear h
  have hn : (n : Int) ≤ left := by have := HT.out; omega
  go_enter Tryz.func59, Tryz.ntmps59
  go_wp2_with fail
  go_loopw [1, 5] (fun v i wr => ∃ k t : Nat, k ≤ n ∧ i = .int .i64 k ∧ v = .int .i64 (left - n - t) ∧ (n : Int) + t ≤ left ∧ Hid (t = wts E (xs.take k)) ∧ Hid (Below w.heap.size w wr)) (fun _ i _ => n - (intOf i).toNat)
  case atStart => exact ⟨0, 0, Nat.zero_le _, rfl, by congr 1; omega, by omega, Lib.hid rfl, Below.refl _ _⟩
  case round =>
    obtain ⟨k, t, hk, rfl, rfl, ht, HT2, HB⟩ := hrel
    by_cases hlt : k < n
    · obtain ⟨b, o, x, cs, rfl, _, hbw, hx, hc, hrd⟩ := HR.out.at_ hlt
      have hnx := wts_take (E := E) hx
      have hall := wts_le (E := E) xs (k + 1)
      obtain ⟨l0, l1⟩ := x
      obtain ⟨p0, n0, c0, p1, n1, c1, rfl, h0, h1⟩ := ex hrd
      generalize hm : E.wt (l0, l1) = m at hnx
      have hcc : ∀ j v, [.slice p0 n0 c0, .slice p1 n1 c1][j]? = some v → wr.cell? ⟨b, o + k * 2 + j, none⟩ = some v := fun j v hv => (HB.out.cell (p := ⟨b, o + k * 2 + j, none⟩) hbw).trans (hc j v hv)
      have H0 := Lib.hid (h0.below HB.out)
      have H1 := Lib.hid (h1.below HB.out)
      have HW := Lib.hid hm
      obtain ⟨u0, u1⟩ := at_cells hcc
      have HN : Hid (t + m = wts E (xs.take (k + 1))) := Lib.hid (by rw [hnx, HT2.out])
      have hfit : (n : Int) + t + m ≤ left := by have h1 := HT.out; have h2 := HT2.out; omega
      clear hc hcc hrd hx hnx hall hm h0 h1
      go_wp2_with fail
      refine (sz_fits _ _ _ _ _ _ _ _ _ _ _ HW.out H0.out H1.out (by omega) (by omega)).mono ?_
      rintro e w2 ⟨rfl, hb2⟩
      have HB2 := Lib.hid (below_on HB.out hb2)
      clear hb2 u0 u1
      go_wp2_with fail
      go_roundw
      case rel => exact ⟨k + 1, t + m, by omega, by go_num, by congr 1; omega, by omega, HN, HB2⟩
      case measure => simp [intOf]; omega
    · obtain rfl : k = n := by omega
      have hall := wts_all (E := E) xs HL.out
      have HV : Hid (Value.int .i64 (left - k - t) = .int .i64 (left - (k + wts E xs : Nat))) := Lib.hid (by have h2 := HT2.out; rw [hall] at h2; congr 1; omega)
      clear hall
      go_wp2_with fail
      go_ret
      exact val_of HV.out HB.out
set_option maxRecDepth 100000 in
set_option maxHeartbeats 4000000 in
theorem szS_big (p : Option Addr) (n c : Nat) (xs : List A) {S : Nat → Prop} (left : Int) (w : World) (hr : RdD E S w p n xs) (h0 : 0 ≤ left) (h1 : left ≤ 1048576) (h : left < (n + wts E xs : Nat)) : Calls Tryz.prog 59 #[.slice p n c, .int .i64 left] w (Val (.int .i64 (-1)) w) := by
  have HR := Lib.hid hr
  have hle := hr.le
  have HL := Lib.hid hr.len
  have HT := Lib.hid h
  clear hr
  by_cases hbig : left < n
  · go_enter Tryz.func59, Tryz.ntmps59
    go_wp2_with fail
    go_ret
    exact ⟨rfl, Below.refl _ _⟩
  clear h
  go_enter Tryz.func59, Tryz.ntmps59
  go_wp2_with fail
  go_loopw [1, 5] (fun v i wr => ∃ k t : Nat, k ≤ n ∧ i = .int .i64 k ∧ v = .int .i64 (left - n - t) ∧ (n : Int) + t ≤ left ∧ Hid (t = wts E (xs.take k)) ∧ Hid (Below w.heap.size w wr)) (fun _ i _ => n - (intOf i).toNat)
  case atStart => exact ⟨0, 0, Nat.zero_le _, rfl, by congr 1; omega, by omega, Lib.hid rfl, Below.refl _ _⟩
  case round =>
    obtain ⟨k, t, hk, rfl, rfl, ht, HT2, HB⟩ := hrel
    by_cases hlt : k < n
    · obtain ⟨b, o, x, cs, rfl, _, hbw, hx, hc, hrd⟩ := HR.out.at_ hlt
      have hnx := wts_take (E := E) hx
      have hall := wts_le (E := E) xs (k + 1)
      obtain ⟨l0, l1⟩ := x
      obtain ⟨p0, n0, c0, p1, n1, c1, rfl, h0, h1⟩ := ex hrd
      generalize hm : E.wt (l0, l1) = m at hnx
      have hcc : ∀ j v, [.slice p0 n0 c0, .slice p1 n1 c1][j]? = some v → wr.cell? ⟨b, o + k * 2 + j, none⟩ = some v := fun j v hv => (HB.out.cell (p := ⟨b, o + k * 2 + j, none⟩) hbw).trans (hc j v hv)
      have H0 := Lib.hid (h0.below HB.out)
      have H1 := Lib.hid (h1.below HB.out)
      have HW := Lib.hid hm
      obtain ⟨u0, u1⟩ := at_cells hcc
      have HN : Hid (t + m = wts E (xs.take (k + 1))) := Lib.hid (by rw [hnx, HT2.out])
      by_cases hfit : (n : Int) + t + m ≤ left
      · skip
        clear hc hcc hrd hx hnx hall hm h0 h1
        go_wp2_with fail
        refine (sz_fits _ _ _ _ _ _ _ _ _ _ _ HW.out H0.out H1.out (by omega) (by omega)).mono ?_
        rintro e w2 ⟨rfl, hb2⟩
        have HB2 := Lib.hid (below_on HB.out hb2)
        clear hb2 u0 u1
        go_wp2_with fail
        go_roundw
        case rel => exact ⟨k + 1, t + m, by omega, by go_num, by congr 1; omega, by omega, HN, HB2⟩
        case measure => simp [intOf]; omega
      · skip
        clear hc hcc hrd hx hnx hall hm h0 h1
        go_wp2_with fail
        refine (sz_big _ _ _ _ _ _ _ _ _ _ _ HW.out H0.out H1.out (by omega) (by omega) (by omega)).mono ?_
        rintro e w2 ⟨rfl, hb2⟩
        have HB2 := Lib.hid (below_on HB.out hb2)
        clear hb2 u0 u1
        go_wp2_with fail
        go_ret
        exact ⟨rfl, HB2.out⟩
    · obtain rfl : k = n := by omega
      have hall := wts_all (E := E) xs HL.out
      exact absurd HT.out (by have h2 := HT2.out; rw [hall] at h2; omega)
theorem szM_fits (p : Option Addr) (n c : Nat) (xs : List A) {S : Nat → Prop} (m : Nat) (left : Int) (w : World) (hm : n + wts E xs = m) (hr : RdD E S w p n xs) (h1 : left ≤ 1048576) (h : m ≤ left) : Calls Tryz.prog 59 #[.slice p n c, .int .i64 left] w (Val (.int .i64 (left - m)) w) := by
  subst hm
  exact szS_fits p n c xs left w hr h1 h
theorem szM_big (p : Option Addr) (n c : Nat) (xs : List A) {S : Nat → Prop} (m : Nat) (left : Int) (w : World) (hm : n + wts E xs = m) (hr : RdD E S w p n xs) (h0 : 0 ≤ left) (h1 : left ≤ 1048576) (h : left < m) : Calls Tryz.prog 59 #[.slice p n c, .int .i64 left] w (Val (.int .i64 (-1)) w) := by
  subst hm
  exact szS_big p n c xs left w hr h0 h1 h
end Go.Proofs.YtfojilogcecphaaGreat.DpStrand
