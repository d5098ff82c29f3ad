/- Contracts of the laws' helpers over Renewal: opened, measured, copied, compared; by value and in slices. -/
import Derived.Test.YtfojilogcecphaaGreatEd
import Derived.Test.YtfojilogcecphaaGreatDz
import Derived.Test.YtfojilogcecphaaGreatSlI
import Derived.Test.YtfojilogcecphaaGreatSlI
import Derived.Test.YtfojilogcecphaaGreatSlStep
import Derived.Test.YtfojilogcecphaaGreatSlStamp
import Derived.OpenShut
import Derived.Deep.Fields
import Derived.Deep.RegionHeld3
import Derived.LoopTactic
import Derived.Outline
namespace Go.Proofs.YtfojilogcecphaaGreat.DpRenewal
open Go.ChangeShapes Go.WideShapes Go.ChangeAt Go.RowKit Sl St Ed Dz
abbrev A := Int × Int × Int × (List (Int × Bool)) × (List (Int × Int × Int × Int × Int))
def E : Ent A := pair int (pair int (pair int (pair (sl (flat SlStep.E SlStep.InR)) (sl (flat SlStamp.E SlStamp.InR)))))
theorem C_eq : E.C = 5 := rfl
theorem exk {S : Nat → Prop} {w : World} {cs : List Value} {x0 : Int} {x1 : Int} {x2 : Int} {l3 : List (Int × Bool)} {l4 : List (Int × Int × Int × Int × Int)} (h : E.rd S w cs (x0, x1, x2, l3, l4)) : ∃ (p3 : Option Addr) (n3 c3 : Nat) (p4 : Option Addr) (n4 c4 : Nat), cs = [.int .i64 x0, .int .i64 x1, .int .i64 x2, .slice p3 n3 c3, .slice p4 n4 c4] ∧ InI x0 ∧ InI x1 ∧ InI x2 ∧ RdD (flat SlStep.E SlStep.InR) S w p3 n3 l3 ∧ RdD (flat SlStamp.E SlStamp.InR) S w p4 n4 l4 ∧ n3 ≤ c3 ∧ n4 ≤ c4 := by
  obtain ⟨d0, e0, rfl, ⟨rfl, b0⟩, d1, e1, rfl, ⟨rfl, b1⟩, d2, e2, rfl, ⟨rfl, b2⟩, d3, e3, rfl, ⟨p3, n3, c3, rfl, k3, h3⟩, p4, n4, c4, rfl, k4, h4⟩ := h
  exact ⟨p3, n3, c3, p4, n4, c4, rfl, b0, b1, b2, h3, h4, k3, k4⟩
theorem ex {S : Nat → Prop} {w : World} {cs : List Value} {x0 : Int} {x1 : Int} {x2 : Int} {l3 : List (Int × Bool)} {l4 : List (Int × Int × Int × Int × Int)} (h : E.rd S w cs (x0, x1, x2, l3, l4)) : ∃ (p3 : Option Addr) (n3 c3 : Nat) (p4 : Option Addr) (n4 c4 : Nat), cs = [.int .i64 x0, .int .i64 x1, .int .i64 x2, .slice p3 n3 c3, .slice p4 n4 c4] ∧ InI x0 ∧ InI x1 ∧ InI x2 ∧ RdD (flat SlStep.E SlStep.InR) S w p3 n3 l3 ∧ RdD (flat SlStamp.E SlStamp.InR) S w p4 n4 l4 := by
  obtain ⟨p3, n3, c3, p4, n4, c4, e, b0, b1, b2, h3, h4, _⟩ := exk h
  exact ⟨p3, n3, c3, p4, n4, c4, e, b0, b1, b2, h3, h4⟩
theorem mk {S : Nat → Prop} {w : World} {x0 : Int} {x1 : Int} {x2 : Int} {l3 : List (Int × Bool)} {l4 : List (Int × Int × Int × Int × Int)} {p3 : Option Addr} {n3 c3 : Nat} {p4 : Option Addr} {n4 c4 : Nat} (b0 : InI x0) (b1 : InI x1) (b2 : InI x2) (h3 : RdD (flat SlStep.E SlStep.InR) S w p3 n3 l3) (h4 : RdD (flat SlStamp.E SlStamp.InR) S w p4 n4 l4) (k3 : n3 ≤ c3) (k4 : n4 ≤ c4) : E.rd S w [.int .i64 x0, .int .i64 x1, .int .i64 x2, .slice p3 n3 c3, .slice p4 n4 c4] (x0, x1, x2, l3, l4) :=
  ⟨[.int .i64 x0], [.int .i64 x1, .int .i64 x2, .slice p3 n3 c3, .slice p4 n4 c4], rfl, ⟨rfl, b0⟩, [.int .i64 x1], [.int .i64 x2, .slice p3 n3 c3, .slice p4 n4 c4], rfl, ⟨rfl, b1⟩, [.int .i64 x2], [.slice p3 n3 c3, .slice p4 n4 c4], rfl, ⟨rfl, b2⟩, [.slice p3 n3 c3], [.slice p4 n4 c4], rfl, ⟨p3, n3, c3, rfl, k3, h3⟩, ⟨p4, n4, c4, rfl, k4, h4⟩⟩
theorem bxc {w : World} {g : Nat} {T : TypeId} {y0 : Value} {y1 : Value} {y2 : Value} {y3 : Value} {y4 : Value} (h : Bx w g T #[y0, y1, y2, y3, y4]) : w.cell? ⟨g, 0, none⟩ = some y0 ∧ w.cell? ⟨g, 1, none⟩ = some y1 ∧ w.cell? ⟨g, 2, none⟩ = some y2 ∧ w.cell? ⟨g, 3, none⟩ = some y3 ∧ w.cell? ⟨g, 4, none⟩ = some y4 := ⟨h.cell rfl, h.cell rfl, h.cell rfl, h.cell rfl, h.cell rfl⟩
theorem wt_eq (x0 : Int) (x1 : Int) (x2 : Int) (l3 : List (Int × Bool)) (l4 : List (Int × Int × Int × Int × Int)) : E.wt (x0, x1, x2, l3, l4) = (l3.length + wts (flat SlStep.E SlStep.InR) l3) + (l4.length + wts (flat SlStamp.E SlStamp.InR) l4) := by
  show 0 + (0 + (0 + ((l3.length + wts (flat SlStep.E SlStep.InR) l3) + ((l4.length + wts (flat SlStamp.E SlStamp.InR) l4))))) = _
  omega
section
variable {H : Type} {enc : TypeId × Value → H} {W : World}
set_option maxRecDepth 100000 in
theorem open_cells {fuel : Nat} {cs : List Value} {X : DataW H × List MemPlace} (hl : cs.length = 5) (h : DataW.trod enc Tryz.prog W 0 (fun _ => true) true fuel 125 cs = some X) : ∃ x, E.rd (fun _ => True) W cs x := by
  have hi : ∃ f0 f1 f2 f3 f4 : Field, Tryz.prog.underlying 125 = some (.struct #[f0, f1, f2, f3, f4]) ∧ f0.offset = 0 ∧ f1.offset = 1 ∧ f2.offset = 2 ∧ f3.offset = 3 ∧ f4.offset = 4 ∧ f0.type = 3 ∧ f1.type = 3 ∧ f2.type = 3 ∧ f3.type = 122 ∧ f4.type = 123 ∧ Tryz.prog.cellsOf 3 = 1 ∧ Tryz.prog.cellsOf 122 = 1 ∧ Tryz.prog.cellsOf 123 = 1 := ⟨_, _, _, _, _, Tryz.underlying125, by kernel_rfl, by kernel_rfl, by kernel_rfl, by kernel_rfl, by kernel_rfl, by kernel_rfl, by kernel_rfl, by kernel_rfl, by kernel_rfl, by kernel_rfl, by kernel_rfl, by kernel_rfl, by kernel_rfl⟩
  obtain ⟨f0, f1, f2, f3, f4, hs, o0, o1, o2, o3, o4, t0, t1, t2, t3, t4, z0, z1, z2⟩ := hi
  obtain ⟨ys, n, _, _, _, hlen, hf⟩ := DataW.trod_struct hs h
  match ys, hlen with
  | [y0, y1, y2, y3, y4], _ =>
    have r0 := hf 0 f0 rfl
    have r1 := hf 1 f1 rfl
    have r2 := hf 2 f2 rfl
    have r3 := hf 3 f3 rfl
    have r4 := hf 4 f4 rfl
    simp only [List.getElem?_cons_zero, List.getElem?_cons_succ] at r0 r1 r2 r3 r4
    rw [o0, t0, z0] at r0
    rw [o1, t1, z0] at r1
    rw [o2, t2, z0] at r2
    rw [o3, t3, z1] at r3
    rw [o4, t4, z2] at r4
    obtain ⟨v0, q0⟩ : ∃ x, Ent.rd int (fun _ => True) W ((cs.drop 0).take 1) x := o_int Tryz.underlying3 r0
    obtain ⟨v1, q1⟩ : ∃ x, Ent.rd int (fun _ => True) W ((cs.drop 1).take 1) x := o_int Tryz.underlying3 r1
    obtain ⟨v2, q2⟩ : ∃ x, Ent.rd int (fun _ => True) W ((cs.drop 2).take 1) x := o_int Tryz.underlying3 r2
    obtain ⟨v3, q3⟩ : ∃ x, Ent.rd (sl (flat SlStep.E SlStep.InR)) (fun _ => True) W ((cs.drop 3).take 1) x := o_sl Tryz.underlying122 (by kernel_rfl) (fun hl h => SlStep.open_el hl h) r3
    obtain ⟨v4, q4⟩ : ∃ x, Ent.rd (sl (flat SlStamp.E SlStamp.InR)) (fun _ => True) W ((cs.drop 4).take 1) x := o_sl Tryz.underlying123 (by kernel_rfl) (fun hl h => o_flat Tryz.underlying182 (by kernel_rfl) (by kernel_rfl) SlStamp.mk SlStamp.of_mk (fun f hr => ⟨hr 0 (by decide), hr 1 (by decide), hr 2 (by decide), hr 3 (by decide), hr 4 (by decide)⟩) hl h) r4
    exact ⟨_, rd_first (rd_next (o := 0) (o' := 1) rfl rfl q0 (rd_next (o := 1) (o' := 2) rfl rfl q1 (rd_next (o := 2) (o' := 3) rfl rfl q2 (rd_next (o := 3) (o' := 4) rfl rfl q3 (rd_last (o := 4) (by simp [hl]) q4)))))⟩
set_option maxRecDepth 100000 in
theorem open_valk {base : Nat} {v : Value} {d : DataW H} {pl : List MemPlace} (h : DataW.Trod enc Tryz.prog W 0 (fun _ => true) true 125 v d pl) (hk : Value.okWide Tryz.prog W .any base 125 v) : ∃ (x0 : Int) (x1 : Int) (x2 : Int) (l3 : List (Int × Bool)) (l4 : List (Int × Int × Int × Int × Int)) (p3 : Option Addr) (n3 c3 : Nat) (p4 : Option Addr) (n4 c4 : Nat), v = .agg #[.int .i64 x0, .int .i64 x1, .int .i64 x2, .slice p3 n3 c3, .slice p4 n4 c4] ∧ InI x0 ∧ InI x1 ∧ InI x2 ∧ RdD (flat SlStep.E SlStep.InR) (fun _ => True) W p3 n3 l3 ∧ RdD (flat SlStamp.E SlStamp.InR) (fun _ => True) W p4 n4 l4 ∧ n3 ≤ c3 ∧ n4 ≤ c4 := by
  have hu : ∃ fs, Tryz.prog.underlying 125 = some (.struct fs) ∧ Tryz.prog.cellsOf 125 = 5 := ⟨_, Tryz.underlying125, by kernel_rfl⟩
  obtain ⟨fs, hs, hC⟩ := hu
  obtain ⟨cs, rfl, hsz⟩ := okWide_struct hs hk
  obtain ⟨fuel, hf⟩ := h
  simp only [Value.cells] at hf
  obtain ⟨x, hx⟩ := open_cells (by rw [Array.length_toList, hsz, hC]) hf
  obtain ⟨x0, x1, x2, l3, l4⟩ := x
  obtain ⟨p3, n3, c3, p4, n4, c4, hc, b0, b1, b2, h3, h4, k3, k4⟩ := exk hx
  exact ⟨x0, x1, x2, l3, l4, p3, n3, c3, p4, n4, c4, congrArg Value.agg (Array.ext' hc), b0, b1, b2, h3, h4, k3, k4⟩
set_option maxRecDepth 100000 in
theorem open_val {base : Nat} {v : Value} {d : DataW H} {pl : List MemPlace} (h : DataW.Trod enc Tryz.prog W 0 (fun _ => true) true 125 v d pl) (hk : Value.okWide Tryz.prog W .any base 125 v) : ∃ (x0 : Int) (x1 : Int) (x2 : Int) (l3 : List (Int × Bool)) (l4 : List (Int × Int × Int × Int × Int)) (p3 : Option Addr) (n3 c3 : Nat) (p4 : Option Addr) (n4 c4 : Nat), v = .agg #[.int .i64 x0, .int .i64 x1, .int .i64 x2, .slice p3 n3 c3, .slice p4 n4 c4] ∧ InI x0 ∧ InI x1 ∧ InI x2 ∧ RdD (flat SlStep.E SlStep.InR) (fun _ => True) W p3 n3 l3 ∧ RdD (flat SlStamp.E SlStamp.InR) (fun _ => True) W p4 n4 l4 := by
  have hu : ∃ fs, Tryz.prog.underlying 125 = some (.struct fs) ∧ Tryz.prog.cellsOf 125 = 5 := ⟨_, Tryz.underlying125, by kernel_rfl⟩
  obtain ⟨fs, hs, hC⟩ := hu
  obtain ⟨cs, rfl, hsz⟩ := okWide_struct hs hk
  obtain ⟨fuel, hf⟩ := h
  simp only [Value.cells] at hf
  obtain ⟨x, hx⟩ := open_cells (by rw [Array.length_toList, hsz, hC]) hf
  obtain ⟨x0, x1, x2, l3, l4⟩ := x
  obtain ⟨p3, n3, c3, p4, n4, c4, hc, b0, b1, b2, h3, h4⟩ := ex hx
  exact ⟨x0, x1, x2, l3, l4, p3, n3, c3, p4, n4, c4, congrArg Value.agg (Array.ext' hc), b0, b1, b2, h3, h4⟩
end
set_option maxRecDepth 100000 in
set_option maxHeartbeats 4000000 in
theorem toK_any (x0 : Int) (x1 : Int) (x2 : Int) (l3 : List (Int × Bool)) (p3 : Option Addr) (n3 c3 : Nat) (l4 : List (Int × Int × Int × Int × Int)) (p4 : Option Addr) (n4 c4 : Nat) {S3 S4 : Nat → Prop} (w : World) (h3 : RdD (flat SlStep.E SlStep.InR) S3 w p3 n3 l3) (h4 : RdD (flat SlStamp.E SlStamp.InR) S4 w p4 n4 l4) (hm : E.wt (x0, x1, x2, l3, l4) ≤ 1048576) : Calls Tryz.prog 74 #[.agg #[.int .i64 x0, .int .i64 x1, .int .i64 x2, .slice p3 n3 c3, .slice p4 n4 c4]] w fun e w' => ∃ (p3' : Option Addr) (c3' : Nat) (p4' : Option Addr) (c4' : Nat), e = .returned (.agg #[.int .i64 x0, .int .i64 x1, .int .i64 x2, .slice p3' n3 c3', .slice p4' n4 c4']) ∧ RdD (flat SlStep.E SlStep.InR) (fun b => w.heap.size ≤ b) w' p3' n3 l3 ∧ RdD (flat SlStamp.E SlStamp.InR) (fun b => w.heap.size ≤ b) w' p4' n4 l4 ∧ n3 ≤ c3' ∧ n4 ≤ c4' ∧ Below w.heap.size w w' := by
  rw [wt_eq] at hm
  have k3 := h3.len
  have k4 := h4.len
  have m3 : n3 + wts (flat SlStep.E SlStep.InR) l3 ≤ 1048576 := by omega
  have m4 : n4 + wts (flat SlStamp.E SlStamp.InR) l4 ≤ 1048576 := by omega
  have HP3 := Lib.hid h3
  have HP4 := Lib.hid h4
  clear hm h3 k3 h4 k4
  have b0 := ((Bx.new w 125 #[.int .i64 x0, .int .i64 x1, .int .i64 x2, .slice p3 n3 c3, .slice p4 n4 c4]).alloc (.cells #[.int .i64 0, .int .i64 0, .int .i64 0, .slice none 0 0, .slice none 0 0] 103)).alloc (.cells #[.int .i64 x0, .int .i64 x1, .int .i64 x2, .slice none 0 0, .slice none 0 0] 103)
  have b1 := (Bx.new (w.alloc (.cells #[.int .i64 x0, .int .i64 x1, .int .i64 x2, .slice p3 n3 c3, .slice p4 n4 c4] 125)) 103 #[.int .i64 0, .int .i64 0, .int .i64 0, .slice none 0 0, .slice none 0 0]).alloc (.cells #[.int .i64 x0, .int .i64 x1, .int .i64 x2, .slice none 0 0, .slice none 0 0] 103)
  have b2 := Bx.new ((w.alloc (.cells #[.int .i64 x0, .int .i64 x1, .int .i64 x2, .slice p3 n3 c3, .slice p4 n4 c4] 125)).alloc (.cells #[.int .i64 0, .int .i64 0, .int .i64 0, .slice none 0 0, .slice none 0 0] 103)) 103 #[.int .i64 x0, .int .i64 x1, .int .i64 x2, .slice none 0 0, .slice none 0 0]
  rw [World.size_alloc] at b1
  rw [World.size_alloc, World.size_alloc] at b2
  have HA := Lib.hid b0
  have HR := Lib.hid b1
  have HO := Lib.hid b2
  have HB : Hid (Below w.heap.size w (((w.alloc (.cells #[.int .i64 x0, .int .i64 x1, .int .i64 x2, .slice p3 n3 c3, .slice p4 n4 c4] 125)).alloc (.cells #[.int .i64 0, .int .i64 0, .int .i64 0, .slice none 0 0, .slice none 0 0] 103)).alloc (.cells #[.int .i64 x0, .int .i64 x1, .int .i64 x2, .slice none 0 0, .slice none 0 0] 103))) := Lib.hid ((((Below.refl w.heap.size w).alloc (Nat.le_refl _) _).alloc (by simp) _).alloc (by simp; omega) _)
  have HSZ : Hid (w.heap.size + 3 ≤ (((w.alloc (.cells #[.int .i64 x0, .int .i64 x1, .int .i64 x2, .slice p3 n3 c3, .slice p4 n4 c4] 125)).alloc (.cells #[.int .i64 0, .int .i64 0, .int .i64 0, .slice none 0 0, .slice none 0 0] 103)).alloc (.cells #[.int .i64 x0, .int .i64 x1, .int .i64 x2, .slice none 0 0, .slice none 0 0] 103)).heap.size) := Lib.hid (by simp)
  clear b0 b1 b2
  go_enter Tryz.func74, Tryz.ntmps74
  go_wp2_with fail
  generalize (((w.alloc (.cells #[.int .i64 x0, .int .i64 x1, .int .i64 x2, .slice p3 n3 c3, .slice p4 n4 c4] 125)).alloc (.cells #[.int .i64 0, .int .i64 0, .int .i64 0, .slice none 0 0, .slice none 0 0] 103)).alloc (.cells #[.int .i64 x0, .int .i64 x1, .int .i64 x2, .slice none 0 0, .slice none 0 0] 103)) = V at HA HR HO HB HSZ ⊢
  obtain ⟨a0, a1, a2, a3, a4⟩ := bxc HA.out
  refine (SlStep.to_any _ _ _ _ _ (HP3.out.below HB.out).rdS (by omega)).mono ?_
  rintro e w1 ⟨p3', n3', c3', rfl, ho, hb⟩
  obtain rfl : n3 = n3' := HP3.out.len.symm.trans ho.len
  have HK3 := Lib.hid (Ed.cap_owS ho)
  have HQ3 : Hid (RdD (flat SlStep.E SlStep.InR) (fun b => w.heap.size + 3 ≤ b) w1 p3' n3 l3) := Lib.hid ((RdD.ofOwS ho HP3.out.allP).mono fun b hb => Nat.le_trans HSZ.out hb)
  clear ho
  clear a0 a1 a2 a3 a4
  replace HA := Lib.hid (HA.out.below hb)
  replace HR := Lib.hid (HR.out.below hb)
  replace HO := Lib.hid (HO.out.below hb)
  replace HB := Lib.hid (below_on HB.out hb)
  replace HSZ := Lib.hid (Nat.le_trans HSZ.out hb.size)
  clear hb
  obtain ⟨a0, a1, a2, a3, a4⟩ := bxc HA.out
  obtain ⟨q0, q1, q2, q3, q4⟩ := bxc HO.out
  have g3 := HO.out.free 3
  go_wp2_with fail
  have ho := (HO.out.set_ 3 (.slice p3' n3 c3'))
  simp only [List.setIfInBounds_toArray, List.set_cons_zero, List.set_cons_succ] at ho
  replace HO := Lib.hid ho
  clear ho a0 a1 a2 a3 a4 q0 q1 q2 q3 q4 g3
  replace HA := Lib.hid (HA.out.far (q := ⟨w.heap.size + 1 + 1, 3, none⟩) (by show w.heap.size ≠ w.heap.size + 1 + 1; omega) (.slice p3' n3 c3'))
  replace HR := Lib.hid (HR.out.far (q := ⟨w.heap.size + 1 + 1, 3, none⟩) (by show w.heap.size + 1 ≠ w.heap.size + 1 + 1; omega) (.slice p3' n3 c3'))
  replace HQ3 := Lib.hid (HQ3.out.far (q := ⟨w.heap.size + 1 + 1, 3, none⟩) (by show ¬ (w.heap.size + 3 ≤ w.heap.size + 1 + 1); omega) (.slice p3' n3 c3'))
  replace HB := Lib.hid (HB.out.setCell (p := ⟨w.heap.size + 1 + 1, 3, none⟩) (by show w.heap.size ≤ w.heap.size + 1 + 1; omega) (.slice p3' n3 c3'))
  replace HSZ : Hid (w.heap.size + 3 ≤ (w1.setCell ⟨w.heap.size + 1 + 1, 3, none⟩ (.slice p3' n3 c3')).heap.size) := Lib.hid (by simpa [World.setCell] using HSZ.out)
  generalize (w1.setCell ⟨w.heap.size + 1 + 1, 3, none⟩ (.slice p3' n3 c3')) = V1 at HA HR HO HB HSZ HQ3 ⊢
  obtain ⟨a0, a1, a2, a3, a4⟩ := bxc HA.out
  refine (SlStamp.to_any _ _ _ _ _ (HP4.out.below HB.out).rdS (by omega)).mono ?_
  rintro e w2 ⟨p4', n4', c4', rfl, ho, hb⟩
  obtain rfl : n4 = n4' := HP4.out.len.symm.trans ho.len
  have HK4 := Lib.hid (Ed.cap_owS ho)
  have HQ4 : Hid (RdD (flat SlStamp.E SlStamp.InR) (fun b => w.heap.size + 3 ≤ b) w2 p4' n4 l4) := Lib.hid ((RdD.ofOwS ho HP4.out.allP).mono fun b hb => Nat.le_trans HSZ.out hb)
  clear ho
  clear a0 a1 a2 a3 a4
  replace HA := Lib.hid (HA.out.below hb)
  replace HR := Lib.hid (HR.out.below hb)
  replace HO := Lib.hid (HO.out.below hb)
  replace HQ3 := Lib.hid (HQ3.out.below hb)
  replace HB := Lib.hid (below_on HB.out hb)
  replace HSZ := Lib.hid (Nat.le_trans HSZ.out hb.size)
  clear hb
  obtain ⟨a0, a1, a2, a3, a4⟩ := bxc HA.out
  obtain ⟨q0, q1, q2, q3, q4⟩ := bxc HO.out
  have g4 := HO.out.free 4
  obtain ⟨r0, r1, r2, r3, r4⟩ := bxc HR.out
  have s0 := HR.out.free 0
  have s1 := HR.out.free 1
  have s2 := HR.out.free 2
  have s3 := HR.out.free 3
  have s4 := HR.out.free 4
  go_wp2_with fail
  exact bodyPost_ret (v := .agg #[.int .i64 x0, .int .i64 x1, .int .i64 x2, .slice p3' n3 c3', .slice p4' n4 c4']) (by simp [results, Tryz.results74, go_sem, r0, r1, r2, r3, r4]) rfl ⟨p3', c3', p4', c4', rfl, ((((((((HQ3.out.far (q := ⟨w.heap.size + 1 + 1, 4, none⟩) (by show ¬ (w.heap.size + 3 ≤ w.heap.size + 1 + 1); omega) (.slice p4' n4 c4')).far (q := ⟨w.heap.size + 1, 0, none⟩) (by show ¬ (w.heap.size + 3 ≤ w.heap.size + 1); omega) (.int .i64 x0)).far (q := ⟨w.heap.size + 1, 1, none⟩) (by show ¬ (w.heap.size + 3 ≤ w.heap.size + 1); omega) (.int .i64 x1)).far (q := ⟨w.heap.size + 1, 2, none⟩) (by show ¬ (w.heap.size + 3 ≤ w.heap.size + 1); omega) (.int .i64 x2)).far (q := ⟨w.heap.size + 1, 3, none⟩) (by show ¬ (w.heap.size + 3 ≤ w.heap.size + 1); omega) (.slice p3' n3 c3')).far (q := ⟨w.heap.size + 1, 4, none⟩) (by show ¬ (w.heap.size + 3 ≤ w.heap.size + 1); omega) (.slice p4' n4 c4'))).mono fun b hb => by omega), ((((((((HQ4.out.far (q := ⟨w.heap.size + 1 + 1, 4, none⟩) (by show ¬ (w.heap.size + 3 ≤ w.heap.size + 1 + 1); omega) (.slice p4' n4 c4')).far (q := ⟨w.heap.size + 1, 0, none⟩) (by show ¬ (w.heap.size + 3 ≤ w.heap.size + 1); omega) (.int .i64 x0)).far (q := ⟨w.heap.size + 1, 1, none⟩) (by show ¬ (w.heap.size + 3 ≤ w.heap.size + 1); omega) (.int .i64 x1)).far (q := ⟨w.heap.size + 1, 2, none⟩) (by show ¬ (w.heap.size + 3 ≤ w.heap.size + 1); omega) (.int .i64 x2)).far (q := ⟨w.heap.size + 1, 3, none⟩) (by show ¬ (w.heap.size + 3 ≤ w.heap.size + 1); omega) (.slice p3' n3 c3')).far (q := ⟨w.heap.size + 1, 4, none⟩) (by show ¬ (w.heap.size + 3 ≤ w.heap.size + 1); omega) (.slice p4' n4 c4'))).mono fun b hb => by omega), HK3.out, HK4.out, ((((((HB.out.setCell (p := ⟨w.heap.size + 1 + 1, 4, none⟩) (by show w.heap.size ≤ w.heap.size + 1 + 1; omega) (.slice p4' n4 c4')).setCell (p := ⟨w.heap.size + 1, 0, none⟩) (by show w.heap.size ≤ w.heap.size + 1; omega) (.int .i64 x0)).setCell (p := ⟨w.heap.size + 1, 1, none⟩) (by show w.heap.size ≤ w.heap.size + 1; omega) (.int .i64 x1)).setCell (p := ⟨w.heap.size + 1, 2, none⟩) (by show w.heap.size ≤ w.heap.size + 1; omega) (.int .i64 x2)).setCell (p := ⟨w.heap.size + 1, 3, none⟩) (by show w.heap.size ≤ w.heap.size + 1; omega) (.slice p3' n3 c3')).setCell (p := ⟨w.heap.size + 1, 4, none⟩) (by show w.heap.size ≤ w.heap.size + 1; omega) (.slice p4' n4 c4'))⟩
theorem to_any (x0 : Int) (x1 : Int) (x2 : Int) (l3 : List (Int × Bool)) (p3 : Option Addr) (n3 c3 : Nat) (l4 : List (Int × Int × Int × Int × Int)) (p4 : Option Addr) (n4 c4 : Nat) {S3 S4 : Nat → Prop} (w : World) (h3 : RdD (flat SlStep.E SlStep.InR) S3 w p3 n3 l3) (h4 : RdD (flat SlStamp.E SlStamp.InR) S4 w p4 n4 l4) (hm : E.wt (x0, x1, x2, l3, l4) ≤ 1048576) : Calls Tryz.prog 74 #[.agg #[.int .i64 x0, .int .i64 x1, .int .i64 x2, .slice p3 n3 c3, .slice p4 n4 c4]] w fun e w' => ∃ (p3' : Option Addr) (c3' : Nat) (p4' : Option Addr) (c4' : Nat), e = .returned (.agg #[.int .i64 x0, .int .i64 x1, .int .i64 x2, .slice p3' n3 c3', .slice p4' n4 c4']) ∧ RdD (flat SlStep.E SlStep.InR) (fun b => w.heap.size ≤ b) w' p3' n3 l3 ∧ RdD (flat SlStamp.E SlStamp.InR) (fun b => w.heap.size ≤ b) w' p4' n4 l4 ∧ Below w.heap.size w w' := by
  refine (toK_any x0 x1 x2 l3 p3 n3 c3 l4 p4 n4 c4 w h3 h4 hm).mono ?_
  rintro e w' ⟨p3', c3', p4', c4', he, o3, o4, _, _, hb⟩
  exact ⟨p3', c3', p4', c4', he, o3, o4, hb⟩
set_option maxRecDepth 100000 in
set_option maxHeartbeats 4000000 in
theorem eq_any (x0 : Int) (x1 : Int) (x2 : Int) (l3 : List (Int × Bool)) (p3 p3' : Option Addr) (n3 c3 c3' : Nat) (l4 : List (Int × Int × Int × Int × Int)) (p4 p4' : Option Addr) (n4 c4 c4' : Nat) {S3 S3' S4 S4' : Nat → Prop} (w : World) (h3 : RdD (flat SlStep.E SlStep.InR) S3 w p3 n3 l3) (h3' : RdD (flat SlStep.E SlStep.InR) S3' w p3' n3 l3) (h4 : RdD (flat SlStamp.E SlStamp.InR) S4 w p4 n4 l4) (h4' : RdD (flat SlStamp.E SlStamp.InR) S4' w p4' n4 l4) : Calls Tryz.prog 85 #[.agg #[.int .i64 x0, .int .i64 x1, .int .i64 x2, .slice p3 n3 c3, .slice p4 n4 c4], .agg #[.int .i64 x0, .int .i64 x1, .int .i64 x2, .slice p3' n3 c3', .slice p4' n4 c4']] w (Yes w) := by
  have HP3 := Lib.hid h3
  have HP3' := Lib.hid h3'
  have HP4 := Lib.hid h4
  have HP4' := Lib.hid h4'
  clear h3 h3' h4 h4'
  have HB := Lib.hid ((box1 w (.cells #[.int .i64 x0, .int .i64 x1, .int .i64 x2, .slice p3 n3 c3, .slice p4 n4 c4] 103)).alloc (by simp) (.cells #[.int .i64 x0, .int .i64 x1, .int .i64 x2, .slice p3' n3 c3', .slice p4' n4 c4'] 103))
  have HX := Lib.hid ((Bx.new w 103 #[.int .i64 x0, .int .i64 x1, .int .i64 x2, .slice p3 n3 c3, .slice p4 n4 c4]).alloc (.cells #[.int .i64 x0, .int .i64 x1, .int .i64 x2, .slice p3' n3 c3', .slice p4' n4 c4'] 103))
  have hy := Bx.new (w.alloc (.cells #[.int .i64 x0, .int .i64 x1, .int .i64 x2, .slice p3 n3 c3, .slice p4 n4 c4] 103)) 103 #[.int .i64 x0, .int .i64 x1, .int .i64 x2, .slice p3' n3 c3', .slice p4' n4 c4']
  rw [World.size_alloc] at hy
  have HY := Lib.hid hy
  clear hy
  go_enter Tryz.func85, Tryz.ntmps85
  go_wp2_with fail
  refine (SlStep.eq_any _ _ _ _ _ _ _ (HP3.out.below HB.out).rdS (HP3'.out.below HB.out).rdS).mono ?_
  rintro e w1 ⟨rfl, hb⟩
  replace HB := Lib.hid (below_on HB.out hb)
  replace HX := Lib.hid (HX.out.below hb)
  replace HY := Lib.hid (HY.out.below hb)
  clear hb
  obtain ⟨x0_, x1_, x2_, x3_, x4_⟩ := bxc HX.out
  obtain ⟨y0_, y1_, y2_, y3_, y4_⟩ := bxc HY.out
  go_wp2_with fail
  refine (SlStamp.eq_any _ _ _ _ _ _ _ (HP4.out.below HB.out).rdS (HP4'.out.below HB.out).rdS).mono ?_
  rintro e w2 ⟨rfl, hb⟩
  clear x0_ y0_ x1_ y1_ x2_ y2_ x3_ y3_ x4_ y4_
  replace HB := Lib.hid (below_on HB.out hb)
  replace HX := Lib.hid (HX.out.below hb)
  replace HY := Lib.hid (HY.out.below hb)
  clear hb
  obtain ⟨x0_, x1_, x2_, x3_, x4_⟩ := bxc HX.out
  obtain ⟨y0_, y1_, y2_, y3_, y4_⟩ := bxc HY.out
  go_wp2_with fail
  go_ret
  exact ⟨rfl, HB.out⟩
set_option maxRecDepth 100000 in
set_option maxHeartbeats 4000000 in
theorem sz_fits (x0 : Int) (x1 : Int) (x2 : Int) (l3 : List (Int × Bool)) (p3 : Option Addr) (n3 c3 : Nat) (l4 : List (Int × Int × Int × Int × Int)) (p4 : Option Addr) (n4 c4 : Nat) {S3 S4 : Nat → Prop} (m : Nat) (left : Int) (w : World) (hm : E.wt (x0, x1, x2, l3, l4) = m) (h3 : RdD (flat SlStep.E SlStep.InR) S3 w p3 n3 l3) (h4 : RdD (flat SlStamp.E SlStamp.InR) S4 w p4 n4 l4) (g1 : left ≤ 1048576) (g2 : m ≤ left) : Calls Tryz.prog 67 #[.agg #[.int .i64 x0, .int .i64 x1, .int .i64 x2, .slice p3 n3 c3, .slice p4 n4 c4], .int .i64 left] w (Val (.int .i64 (left - m)) w) := by
  rw [wt_eq] at hm
  have k3 := h3.len
  have e3 := h3.le
  have HP3 := Lib.hid h3
  have k4 := h4.len
  have e4 := h4.le
  have HP4 := Lib.hid h4
  have m0 : n3 = n3 := rfl
  have m1 : n4 = n4 := rfl
  have z3 := wts_zero (E := (flat SlStep.E SlStep.InR)) (fun _ => rfl) l3
  have z4 := wts_zero (E := (flat SlStamp.E SlStamp.InR)) (fun _ => rfl) l4
  have ht : n3 + n4 = m := by omega
  clear hm h3 k3 h4 k4 m0 m1 z3 z4
  subst ht
  have HB := Lib.hid (box1 w (.cells #[.int .i64 x0, .int .i64 x1, .int .i64 x2, .slice p3 n3 c3, .slice p4 n4 c4] 125))
  have HX := Lib.hid (Bx.new w 125 #[.int .i64 x0, .int .i64 x1, .int .i64 x2, .slice p3 n3 c3, .slice p4 n4 c4])
  go_enter Tryz.func67, Tryz.ntmps67
  go_wp2_with fail
  refine (SlStep.sz_fits _ _ _ _ _ (by omega) (by omega)).mono ?_
  rintro e w1 ⟨rfl, rfl⟩
  obtain ⟨x0_, x1_, x2_, x3_, x4_⟩ := bxc HX.out
  go_wp2_with fail
  refine (SlStamp.sz_fits _ _ _ _ _ (by omega) (by omega)).mono ?_
  rintro e w2 ⟨rfl, rfl⟩
  clear x0_ x1_ x2_ x3_ x4_
  go_wp2_with fail
  go_ret
  refine val_of ?_ HB.out
  show Value.int .i64 (left - (((n3) : Nat) : Int) - (((n4) : Nat) : Int)) = _
  first | rfl | (congr 1; omega)
set_option maxRecDepth 100000 in
set_option maxHeartbeats 4000000 in
theorem sz_big (x0 : Int) (x1 : Int) (x2 : Int) (l3 : List (Int × Bool)) (p3 : Option Addr) (n3 c3 : Nat) (l4 : List (Int × Int × Int × Int × Int)) (p4 : Option Addr) (n4 c4 : Nat) {S3 S4 : Nat → Prop} (m : Nat) (left : Int) (w : World) (hm : E.wt (x0, x1, x2, l3, l4) = m) (h3 : RdD (flat SlStep.E SlStep.InR) S3 w p3 n3 l3) (h4 : RdD (flat SlStamp.E SlStamp.InR) S4 w p4 n4 l4) (g0 : 0 ≤ left) (g1 : left ≤ 1048576) (g2 : left < m) : Calls Tryz.prog 67 #[.agg #[.int .i64 x0, .int .i64 x1, .int .i64 x2, .slice p3 n3 c3, .slice p4 n4 c4], .int .i64 left] w (Val (.int .i64 (-1)) w) := by
  rw [wt_eq] at hm
  have k3 := h3.len
  have e3 := h3.le
  have HP3 := Lib.hid h3
  have k4 := h4.len
  have e4 := h4.le
  have HP4 := Lib.hid h4
  have m0 : n3 = n3 := rfl
  have m1 : n4 = n4 := rfl
  have z3 := wts_zero (E := (flat SlStep.E SlStep.InR)) (fun _ => rfl) l3
  have z4 := wts_zero (E := (flat SlStamp.E SlStamp.InR)) (fun _ => rfl) l4
  have ht : n3 + n4 = m := by omega
  clear hm h3 k3 h4 k4 m0 m1 z3 z4
  subst ht
  have G := Lib.hid g2
  clear g2
  have HB := Lib.hid (box1 w (.cells #[.int .i64 x0, .int .i64 x1, .int .i64 x2, .slice p3 n3 c3, .slice p4 n4 c4] 125))
  have HX := Lib.hid (Bx.new w 125 #[.int .i64 x0, .int .i64 x1, .int .i64 x2, .slice p3 n3 c3, .slice p4 n4 c4])
  by_cases hc0 : left < ((n3 : Nat) : Int)
  · go_enter Tryz.func67, Tryz.ntmps67
    go_wp2_with fail
    refine (SlStep.sz_big _ _ _ _ _ (by omega) (by omega) (by have := G.out; omega) e3).mono ?_
    rintro e w1 ⟨rfl, rfl⟩
    go_wp2_with fail
    go_ret
    exact ⟨rfl, HB.out⟩
  go_enter Tryz.func67, Tryz.ntmps67
  go_wp2_with fail
  refine (SlStep.sz_fits _ _ _ _ _ (by omega) (by omega)).mono ?_
  rintro e w1 ⟨rfl, rfl⟩
  obtain ⟨x0_, x1_, x2_, x3_, x4_⟩ := bxc HX.out
  go_wp2_with fail
  refine (SlStamp.sz_big _ _ _ _ _ (by omega) (by omega) (by have := G.out; omega) e4).mono ?_
  rintro e w2 ⟨rfl, rfl⟩
  clear x0_ x1_ x2_ x3_ x4_
  go_wp2_with fail
  go_ret
  exact ⟨rfl, HB.out⟩
theorem at_cells {w : World} {b q : Nat} {v0 : Value} {v1 : Value} {v2 : Value} {v3 : Value} {v4 : Value} (h : ∀ j v, [v0, v1, v2, v3, v4][j]? = some v → w.cell? ⟨b, q + j, none⟩ = some v) : w.cell? ⟨b, q, none⟩ = some v0 ∧ w.cell? ⟨b, q + 1, none⟩ = some v1 ∧ w.cell? ⟨b, q + 2, none⟩ = some v2 ∧ w.cell? ⟨b, q + 3, none⟩ = some v3 ∧ w.cell? ⟨b, q + 4, none⟩ = some v4 := ⟨h 0 _ rfl, h 1 _ rfl, h 2 _ rfl, h 3 _ rfl, h 4 _ rfl⟩
theorem info : (Tryz.prog.info? 103).map (fun i => (i.zero, i.size, i.bytes)) = some (some (.agg #[.int .i64 0, .int .i64 0, .int .i64 0, .slice none 0 0, .slice none 0 0]), 5, 72) := by kernel_rfl
set_option maxRecDepth 100000 in
set_option maxHeartbeats 4000000 in
theorem toSK_any (p : Option Addr) (n c : Nat) (xs : List A) {S : Nat → Prop} (w : World) (hr : RdD E S w p n xs) (hm : n + wts E xs ≤ 1048576) : Calls Tryz.prog 45 #[.slice p n c] w fun e w' => ∃ (q : Option Addr) (d : Nat), e = .returned (.slice q n d) ∧ RdD E (fun b => w.heap.size ≤ b) w' q n xs ∧ n ≤ d ∧ Below w.heap.size w w' := by
  obtain ⟨i0, hi, hz0, hz1, hz2⟩ := info_parts info
  have HR := Lib.hid hr
  have hn : n ≤ 1048576 := by omega
  have HM0 := Lib.hid hm
  clear hr hm
  go_enter Tryz.func45, Tryz.ntmps45
  go_wp2_with (refine wpList_make_full _ rfl _ _ 42 rfl w.heap.size 103 i0 _ 5 Tryz.underlying42 hi hz0 hz1 .i64 .i64 _ _ n rfl rfl rfl rfl (by rw [hz2]; omega) (by unfold maxLen; omega) (Nat.le_refl _) ?_; intro w1 hown1 hg1)
  have HM := Lib.hid (MidD.start (E := E) (z := [.int .i64 0, .int .i64 0, .int .i64 0, .slice none 0 0, .slice none 0 0]) (xs := xs) (.agg #[.int .i64 0, .int .i64 0, .int .i64 0, .slice none 0 0, .slice none 0 0]) rfl rfl (by intro u hu; simp only [List.mem_cons, List.not_mem_nil, or_false] at hu; rcases hu with rfl | rfl | rfl | rfl | rfl <;> rfl) hown1 hg1)
  clear hown1 hg1
  go_loopw [4] (fun i wr => ∃ k : Nat, k ≤ n ∧ i = .int .i64 k ∧ Hid (MidD E 103 [.int .i64 0, .int .i64 0, .int .i64 0, .slice none 0 0, .slice none 0 0] xs n k w wr)) (fun i _ => n - (intOf i).toNat)
  case atStart => exact ⟨0, Nat.zero_le _, rfl, HM⟩
  case round =>
    obtain ⟨k, hk, rfl, HK⟩ := hrel
    by_cases hlt : k < n
    · obtain ⟨b, o, x, cs, rfl, _, hbw, hx, hc, hrd⟩ := HR.out.at_ hlt
      obtain ⟨x0, x1, x2, l3, l4⟩ := x
      obtain ⟨p3, n3, c3, p4, n4, c4, rfl, b0, b1, b2, h3, h4⟩ := ex hrd
      have hB := HK.out.below
      have hwt : E.wt (x0, x1, x2, l3, l4) ≤ 1048576 := by have h1 := wts_at (E := E) hx; have h2 := HM0.out; omega
      have hcc : ∀ j v, [.int .i64 x0, .int .i64 x1, .int .i64 x2, .slice p3 n3 c3, .slice p4 n4 c4][j]? = some v → wr.cell? ⟨b, o + k * 5 + j, none⟩ = some v := fun j v hv => (hB.cell (p := ⟨b, o + k * 5 + j, none⟩) hbw).trans (hc j v hv)
      have HX := Lib.hid hx
      have HW := Lib.hid hwt
      have Hb0 := Lib.hid b0
      have Hb1 := Lib.hid b1
      have Hb2 := Lib.hid b2
      have Hh3 := Lib.hid h3
      have Hh4 := Lib.hid h4
      have HBB := Lib.hid hB
      obtain ⟨u0, u1, u2, u3, u4⟩ := at_cells hcc
      clear hc hcc hrd hx hwt hB b0 b1 b2 h3 h4
      go_wp2_with fail
      refine (toK_any _ _ _ _ _ _ _ _ _ _ _ _ (Hh3.out.below HBB.out) (Hh4.out.below HBB.out) HW.out).mono ?_
      rintro e w2 ⟨p3', c3', p4', c4', rfl, ho3, ho4, hk3, hk4, hb2⟩
      obtain ⟨hz, hf⟩ := HK.out.cells hlt
      have d0 : w2.cell? ⟨w.heap.size, k * 5, none⟩ = some (.int .i64 0) := (hb2.cell (p := ⟨w.heap.size, k * 5 + 0, none⟩) HK.out.lt).trans (hz 0 _ rfl)
      have d1 : w2.cell? ⟨w.heap.size, k * 5 + 1, none⟩ = some (.int .i64 0) := (hb2.cell (p := ⟨w.heap.size, k * 5 + 1, none⟩) HK.out.lt).trans (hz 1 _ rfl)
      have d2 : w2.cell? ⟨w.heap.size, k * 5 + 2, none⟩ = some (.int .i64 0) := (hb2.cell (p := ⟨w.heap.size, k * 5 + 2, none⟩) HK.out.lt).trans (hz 2 _ rfl)
      have d3 : w2.cell? ⟨w.heap.size, k * 5 + 3, none⟩ = some (.slice none 0 0) := (hb2.cell (p := ⟨w.heap.size, k * 5 + 3, none⟩) HK.out.lt).trans (hz 3 _ rfl)
      have d4 : w2.cell? ⟨w.heap.size, k * 5 + 4, none⟩ = some (.slice none 0 0) := (hb2.cell (p := ⟨w.heap.size, k * 5 + 4, none⟩) HK.out.lt).trans (hz 4 _ rfl)
      have f0 : w2.frozen? ⟨w.heap.size, k * 5, none⟩ = false := (hb2.frozen (p := ⟨w.heap.size, k * 5 + 0, none⟩) HK.out.lt).trans (hf _)
      have f1 : w2.frozen? ⟨w.heap.size, k * 5 + 1, none⟩ = false := (hb2.frozen (p := ⟨w.heap.size, k * 5 + 1, none⟩) HK.out.lt).trans (hf _)
      have f2 : w2.frozen? ⟨w.heap.size, k * 5 + 2, none⟩ = false := (hb2.frozen (p := ⟨w.heap.size, k * 5 + 2, none⟩) HK.out.lt).trans (hf _)
      have f3 : w2.frozen? ⟨w.heap.size, k * 5 + 3, none⟩ = false := (hb2.frozen (p := ⟨w.heap.size, k * 5 + 3, none⟩) HK.out.lt).trans (hf _)
      have f4 : w2.frozen? ⟨w.heap.size, k * 5 + 4, none⟩ = false := (hb2.frozen (p := ⟨w.heap.size, k * 5 + 4, none⟩) HK.out.lt).trans (hf _)
      have HM2 := Lib.hid (HK.out.next hb2 hlt HX.out (mk (c3 := c3') (c4 := c4') Hb0.out Hb1.out Hb2.out ho3 ho4 hk3 hk4))
      clear hz hf hb2 ho3 hk3 ho4 hk4 u0 u1 u2 u3 u4
      go_wp2_with fail
      go_roundw
      case rel => exact ⟨k + 1, by omega, by go_num, HM2⟩
      case measure => simp [intOf]; omega
    · obtain rfl : k = n := by omega
      have HD := Lib.hid (HK.out.done HR.out.len (by unfold maxLen; omega))
      go_wp2_with fail
      go_ret
      exact ⟨_, _, rfl, HD.out.1, Nat.le_refl _, HD.out.2⟩
theorem toS_any (p : Option Addr) (n c : Nat) (xs : List A) {S : Nat → Prop} (w : World) (hr : RdD E S w p n xs) (hm : n + wts E xs ≤ 1048576) : Calls Tryz.prog 45 #[.slice p n c] w fun e w' => ∃ (q : Option Addr) (d : Nat), e = .returned (.slice q n d) ∧ RdD E (fun b => w.heap.size ≤ b) w' q n xs ∧ Below w.heap.size w w' := by
  refine (toSK_any p n c xs w hr hm).mono ?_
  rintro e w' ⟨q, d, he, ho, _, hb⟩
  exact ⟨q, d, he, ho, hb⟩
set_option maxRecDepth 100000 in
set_option maxHeartbeats 8000000 in
theorem eqS_any (p p' : Option Addr) (n c c' : Nat) (xs : List A) {S S' : Nat → Prop} (w : World) (hr : RdD E S w p n xs) (hr' : RdD E S' w p' n xs) : Calls Tryz.prog 52 #[.slice p n c, .slice p' n c'] w (Yes w) := by
  have HR := Lib.hid hr
  have HR' := Lib.hid hr'
  have hle := hr.le
  clear hr hr'
  go_enter Tryz.func52, Tryz.ntmps52
  go_wp2_with fail
  go_loopw [5] (fun i wr => ∃ k : Nat, k ≤ n ∧ i = .int .i64 k ∧ Hid (Below w.heap.size w wr)) (fun i _ => n - (intOf i).toNat)
  case atStart => exact ⟨0, Nat.zero_le _, rfl, Below.refl _ _⟩
  case round =>
    obtain ⟨k, hk, rfl, HB⟩ := hrel
    by_cases hlt : k < n
    · obtain ⟨b, o, x, cs, rfl, _, hbw, hx, hc, hrd⟩ := HR.out.at_ hlt
      obtain ⟨b', o', x', cs', rfl, _, hbw', hx', hc', hrd'⟩ := HR'.out.at_ hlt
      rw [hx] at hx'
      obtain rfl := Option.some.inj hx'
      clear hx hx'
      obtain ⟨x0, x1, x2, l3, l4⟩ := x
      obtain ⟨p3, n3, c3, p4, n4, c4, rfl, b0, b1, b2, h3, h4⟩ := ex hrd
      obtain ⟨p3', n3', c3', p4', n4', c4', rfl, _, _, _, h3', h4'⟩ := ex hrd'
      obtain rfl : n3 = n3' := h3.len.symm.trans h3'.len
      obtain rfl : n4 = n4' := h4.len.symm.trans h4'.len
      have hcc : ∀ j v, [.int .i64 x0, .int .i64 x1, .int .i64 x2, .slice p3 n3 c3, .slice p4 n4 c4][j]? = some v → wr.cell? ⟨b, o + k * 5 + j, none⟩ = some v := fun j v hv => (HB.out.cell (p := ⟨b, o + k * 5 + j, none⟩) hbw).trans (hc j v hv)
      have hcc' : ∀ j v, [.int .i64 x0, .int .i64 x1, .int .i64 x2, .slice p3' n3 c3', .slice p4' n4 c4'][j]? = some v → wr.cell? ⟨b', o' + k * 5 + j, none⟩ = some v := fun j v hv => (HB.out.cell (p := ⟨b', o' + k * 5 + j, none⟩) hbw').trans (hc' j v hv)
      have H3 := Lib.hid (h3.below HB.out)
      have H3' := Lib.hid (h3'.below HB.out)
      have H4 := Lib.hid (h4.below HB.out)
      have H4' := Lib.hid (h4'.below HB.out)
      have HC := Lib.hid hcc
      have HC' := Lib.hid hcc'
      have hlb : b < wr.heap.size := Nat.lt_of_lt_of_le hbw HB.out.size
      have hlb' : b' < wr.heap.size := Nat.lt_of_lt_of_le hbw' HB.out.size
      have HH := Lib.hid (And.intro (at_cells hcc) (at_cells hcc'))
      obtain ⟨⟨u0, u1, u2, u3, u4⟩, v0, v1, v2, v3, v4⟩ := HH.out
      clear hc hc' hrd hrd' hcc hcc' b0 b1 b2 h3 h4 h3' h4'
      have i1 : (0 : Int) ≤ (k : Int) := by omega
      have i2 : (k : Int) < (n : Int) := by omega
      go_wp2_with fail
      go_region_held3 (fun w' => (w'.cell? ⟨b, o + k * 5, none⟩ = some (.int .i64 x0) ∧ w'.cell? ⟨b, o + k * 5 + 1, none⟩ = some (.int .i64 x1) ∧ w'.cell? ⟨b, o + k * 5 + 2, none⟩ = some (.int .i64 x2) ∧ w'.cell? ⟨b, o + k * 5 + 3, none⟩ = some (.slice p3 n3 c3) ∧ w'.cell? ⟨b, o + k * 5 + 4, none⟩ = some (.slice p4 n4 c4)) ∧ w'.cell? ⟨b', o' + k * 5, none⟩ = some (.int .i64 x0) ∧ w'.cell? ⟨b', o' + k * 5 + 1, none⟩ = some (.int .i64 x1) ∧ w'.cell? ⟨b', o' + k * 5 + 2, none⟩ = some (.int .i64 x2) ∧ w'.cell? ⟨b', o' + k * 5 + 3, none⟩ = some (.slice p3' n3 c3') ∧ w'.cell? ⟨b', o' + k * 5 + 4, none⟩ = some (.slice p4' n4 c4')) (first | exact HH.out | exact HH2.out | go_keep) (first | (go_at_call 85; (with_reducible refine (eq_any _ _ _ _ _ _ _ _ _ _ _ _ _ _ _ _ H3.out.drew1 H3'.out.drew1 H4.out.drew1 H4'.out.drew1).mono ?_); rintro e w2 ⟨rfl, hb2⟩; have HH2 := Lib.hid (And.intro (at_cells (q := o + k * 5) fun j v hv => (hb2.cell (p := ⟨b, o + k * 5 + j, none⟩) hlb).trans (HC.out j v hv)) (at_cells (q := o' + k * 5) fun j v hv => (hb2.cell (p := ⟨b', o' + k * 5 + j, none⟩) hlb').trans (HC'.out j v hv))); have HB2 := Lib.hid (below_on (below_drewN HB.out 1) hb2); clear hb2))
      go_wp2_with fail
      go_roundw
      case rel => exact ⟨k + 1, by omega, by go_num, HB2⟩
      case measure => simp [intOf]; omega
    · obtain rfl : k = n := by omega
      go_wp2_with fail
      go_ret
      exact ⟨rfl, HB.out⟩
set_option maxRecDepth 100000 in
set_option maxHeartbeats 4000000 in
theorem szS_fits (p : Option Addr) (n c : Nat) (xs : List A) {S : Nat → Prop} (left : Int) (w : World) (hr : RdD E S w p n xs) (h1 : left ≤ 1048576) (h : (n + wts E xs : Nat) ≤ left) : Calls Tryz.prog 39 #[.slice p n c, .int .i64 left] w (Val (.int .i64 (left - (n + wts E xs : Nat))) w) := by
  have HR := Lib.hid hr
  have hle := hr.le
  have HL := Lib.hid hr.len
  have HT := Lib.hid h
  clear hr
  clear h
  have hn : (n : Int) ≤ left := by have := HT.out; omega
  go_enter Tryz.func39, Tryz.ntmps39
  go_wp2_with fail
  go_loopw [1, 5] (fun v i wr => ∃ k t : Nat, k ≤ n ∧ i = .int .i64 k ∧ v = .int .i64 (left - n - t) ∧ (n : Int) + t ≤ left ∧ Hid (t = wts E (xs.take k)) ∧ Hid (Below w.heap.size w wr)) (fun _ i _ => n - (intOf i).toNat)
  case atStart => exact ⟨0, 0, Nat.zero_le _, rfl, by congr 1; omega, by omega, Lib.hid rfl, Below.refl _ _⟩
  case round =>
    obtain ⟨k, t, hk, rfl, rfl, ht, HT2, HB⟩ := hrel
    by_cases hlt : k < n
    · obtain ⟨b, o, x, cs, rfl, _, hbw, hx, hc, hrd⟩ := HR.out.at_ hlt
      have hnx := wts_take (E := E) hx
      have hall := wts_le (E := E) xs (k + 1)
      obtain ⟨x0, x1, x2, l3, l4⟩ := x
      obtain ⟨p3, n3, c3, p4, n4, c4, rfl, b0, b1, b2, h3, h4⟩ := ex hrd
      generalize hm : E.wt (x0, x1, x2, l3, l4) = m at hnx
      have hcc : ∀ j v, [.int .i64 x0, .int .i64 x1, .int .i64 x2, .slice p3 n3 c3, .slice p4 n4 c4][j]? = some v → wr.cell? ⟨b, o + k * 5 + j, none⟩ = some v := fun j v hv => (HB.out.cell (p := ⟨b, o + k * 5 + j, none⟩) hbw).trans (hc j v hv)
      have H3 := Lib.hid (h3.below HB.out)
      have H4 := Lib.hid (h4.below HB.out)
      have HW := Lib.hid hm
      obtain ⟨u0, u1, u2, u3, u4⟩ := at_cells hcc
      have HN : Hid (t + m = wts E (xs.take (k + 1))) := Lib.hid (by rw [hnx, HT2.out])
      have hfit : (n : Int) + t + m ≤ left := by have h1 := HT.out; have h2 := HT2.out; omega
      clear hc hcc hrd hx hnx hall hm b0 b1 b2 h3 h4
      go_wp2_with fail
      refine (sz_fits _ _ _ _ _ _ _ _ _ _ _ _ _ _ HW.out H3.out H4.out (by omega) (by omega)).mono ?_
      rintro e w2 ⟨rfl, hb2⟩
      have HB2 := Lib.hid (below_on HB.out hb2)
      clear hb2 u0 u1 u2 u3 u4
      go_wp2_with fail
      go_roundw
      case rel => exact ⟨k + 1, t + m, by omega, by go_num, by congr 1; omega, by omega, HN, HB2⟩
      case measure => simp [intOf]; omega
    · obtain rfl : k = n := by omega
      have hall := wts_all (E := E) xs HL.out
      have HV : Hid (Value.int .i64 (left - k - t) = .int .i64 (left - (k + wts E xs : Nat))) := Lib.hid (by have h2 := HT2.out; rw [hall] at h2; congr 1; omega)
      clear hall
      go_wp2_with fail
      go_ret
      exact val_of HV.out HB.out
set_option maxRecDepth 100000 in
set_option maxHeartbeats 4000000 in
theorem szS_big (p : Option Addr) (n c : Nat) (xs : List A) {S : Nat → Prop} (left : Int) (w : World) (hr : RdD E S w p n xs) (h0 : 0 ≤ left) (h1 : left ≤ 1048576) (h : left < (n + wts E xs : Nat)) : Calls Tryz.prog 39 #[.slice p n c, .int .i64 left] w (Val (.int .i64 (-1)) w) := by
  have HR := Lib.hid hr
  have hle := hr.le
  have HL := Lib.hid hr.len
  have HT := Lib.hid h
  clear hr
  by_cases hbig : left < n
  · go_enter Tryz.func39, Tryz.ntmps39
    go_wp2_with fail
    go_ret
    exact ⟨rfl, Below.refl _ _⟩
  clear h
  go_enter Tryz.func39, Tryz.ntmps39
  go_wp2_with fail
  go_loopw [1, 5] (fun v i wr => ∃ k t : Nat, k ≤ n ∧ i = .int .i64 k ∧ v = .int .i64 (left - n - t) ∧ (n : Int) + t ≤ left ∧ Hid (t = wts E (xs.take k)) ∧ Hid (Below w.heap.size w wr)) (fun _ i _ => n - (intOf i).toNat)
  case atStart => exact ⟨0, 0, Nat.zero_le _, rfl, by congr 1; omega, by omega, Lib.hid rfl, Below.refl _ _⟩
  case round =>
    obtain ⟨k, t, hk, rfl, rfl, ht, HT2, HB⟩ := hrel
    by_cases hlt : k < n
    · obtain ⟨b, o, x, cs, rfl, _, hbw, hx, hc, hrd⟩ := HR.out.at_ hlt
      have hnx := wts_take (E := E) hx
      have hall := wts_le (E := E) xs (k + 1)
      obtain ⟨x0, x1, x2, l3, l4⟩ := x
      obtain ⟨p3, n3, c3, p4, n4, c4, rfl, b0, b1, b2, h3, h4⟩ := ex hrd
      generalize hm : E.wt (x0, x1, x2, l3, l4) = m at hnx
      have hcc : ∀ j v, [.int .i64 x0, .int .i64 x1, .int .i64 x2, .slice p3 n3 c3, .slice p4 n4 c4][j]? = some v → wr.cell? ⟨b, o + k * 5 + j, none⟩ = some v := fun j v hv => (HB.out.cell (p := ⟨b, o + k * 5 + j, none⟩) hbw).trans (hc j v hv)
      have H3 := Lib.hid (h3.below HB.out)
      have H4 := Lib.hid (h4.below HB.out)
      have HW := Lib.hid hm
      obtain ⟨u0, u1, u2, u3, u4⟩ := at_cells hcc
      have HN : Hid (t + m = wts E (xs.take (k + 1))) := Lib.hid (by rw [hnx, HT2.out])
      by_cases hfit : (n : Int) + t + m ≤ left
      · skip
        clear hc hcc hrd hx hnx hall hm b0 b1 b2 h3 h4
        go_wp2_with fail
        refine (sz_fits _ _ _ _ _ _ _ _ _ _ _ _ _ _ HW.out H3.out H4.out (by omega) (by omega)).mono ?_
        rintro e w2 ⟨rfl, hb2⟩
        have HB2 := Lib.hid (below_on HB.out hb2)
        clear hb2 u0 u1 u2 u3 u4
        go_wp2_with fail
        go_roundw
        case rel => exact ⟨k + 1, t + m, by omega, by go_num, by congr 1; omega, by omega, HN, HB2⟩
        case measure => simp [intOf]; omega
      · skip
        clear hc hcc hrd hx hnx hall hm b0 b1 b2 h3 h4
        go_wp2_with fail
        refine (sz_big _ _ _ _ _ _ _ _ _ _ _ _ _ _ HW.out H3.out H4.out (by omega) (by omega) (by omega)).mono ?_
        rintro e w2 ⟨rfl, hb2⟩
        have HB2 := Lib.hid (below_on HB.out hb2)
        clear hb2 u0 u1 u2 u3 u4
        go_wp2_with fail
        go_ret
        exact ⟨rfl, HB2.out⟩
    · obtain rfl : k = n := by omega
      have hall := wts_all (E := E) xs HL.out
      exact absurd HT.out (by have h2 := HT2.out; rw [hall] at h2; omega)
theorem szM_fits (p : Option Addr) (n c : Nat) (xs : List A) {S : Nat → Prop} (m : Nat) (left : Int) (w : World) (hm : n + wts E xs = m) (hr : RdD E S w p n xs) (h1 : left ≤ 1048576) (h : m ≤ left) : Calls Tryz.prog 39 #[.slice p n c, .int .i64 left] w (Val (.int .i64 (left - m)) w) := by
  subst hm
  exact szS_fits p n c xs left w hr h1 h
theorem szM_big (p : Option Addr) (n c : Nat) (xs : List A) {S : Nat → Prop} (m : Nat) (left : Int) (w : World) (hm : n + wts E xs = m) (hr : RdD E S w p n xs) (h0 : 0 ≤ left) (h1 : left ≤ 1048576) (h : left < m) : Calls Tryz.prog 39 #[.slice p n c, .int .i64 left] w (Val (.int .i64 (-1)) w) := by
  subst hm
  exact szS_big p n c xs left w hr h0 h1 h
end Go.Proofs.YtfojilogcecphaaGreat.DpRenewal
