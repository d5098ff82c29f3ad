/- Contracts of the laws' helpers over Item: opened, measured, copied, compared; by value and in slices. -/
import Derived.Test.YtpjckbdljbpliaaEd
import Derived.Test.YtpjckbdljbpliaaDz
import Derived.Test.YtpjckbdljbpliaaSlI
import Derived.Test.YtpjckbdljbpliaaSlI
import Derived.Test.YtpjckbdljbpliaaDpDocument
import Derived.Test.YtpjckbdljbpliaaSlSignature
import Derived.Test.YtpjckbdljbpliaaDpStrand
import Derived.OpenShut
import Derived.Deep.Fields
import Derived.Deep.RegionHeld3
import Derived.LoopTactic
import Derived.Outline
namespace Go.Proofs.Ytpjckbdljbpliaa.DpItem
open Go.ChangeShapes Go.WideShapes Go.ChangeAt Go.RowKit Sl St Ed Dz
abbrev A := Int × Int × DpDocument.A × (Int × Int × Int × Int × Int × Int × Int × Int × Int) × DpStrand.A
def E : Ent A := pair int (pair int (pair DpDocument.E (pair (flat SlSignature.E SlSignature.InR) DpStrand.E)))
theorem C_eq : E.C = 16 := rfl
theorem exk {S : Nat → Prop} {w : World} {cs : List Value} {x0 : Int} {x1 : Int} {x2 : Int} {l3 : List ByteArray} {l4 : List Int} {x5 : Int} {x6 : Int} {x7 : Int} {x8 : Int} {x9 : Int} {x10 : Int} {x11 : Int} {x12 : Int} {x13 : Int} {l14 : List DpPiece.A} {l15 : List DpRenewal.A} (h : E.rd S w cs (x0, x1, (x2, l3, l4), (x5, x6, x7, x8, x9, x10, x11, x12, x13), (l14, l15))) : ∃ (p3 : Option Addr) (n3 c3 : Nat) (p4 : Option Addr) (n4 c4 : Nat) (p14 : Option Addr) (n14 c14 : Nat) (p15 : Option Addr) (n15 c15 : Nat), cs = [.int .i64 x0, .int .i64 x1, .int .i64 x2, .slice p3 n3 c3, .slice p4 n4 c4, .int .i64 x5, .int .i64 x6, .int .i64 x7, .int .i64 x8, .int .i64 x9, .int .i64 x10, .int .i64 x11, .int .i64 x12, .int .i64 x13, .slice p14 n14 c14, .slice p15 n15 c15] ∧ InI x0 ∧ InI x1 ∧ InI x2 ∧ RdD str S w p3 n3 l3 ∧ RdD int S w p4 n4 l4 ∧ SlSignature.InR (x5, x6, x7, x8, x9, x10, x11, x12, x13) ∧ RdD DpPiece.E S w p14 n14 l14 ∧ RdD DpRenewal.E S w p15 n15 l15 ∧ n3 ≤ c3 ∧ n4 ≤ c4 ∧ n14 ≤ c14 ∧ n15 ≤ c15 := by
  obtain ⟨d0, e0, rfl, ⟨rfl, b0⟩, d1, e1, rfl, ⟨rfl, b1⟩, d2, e2, rfl, g2, d3, e3, rfl, ⟨rfl, b5⟩, g4⟩ := h
  obtain ⟨p3, n3, c3, p4, n4, c4, rfl, b2, h3, h4, k3, k4⟩ := DpDocument.exk g2
  obtain ⟨p14, n14, c14, p15, n15, c15, rfl, h14, h15, k14, k15⟩ := DpStrand.exk g4
  exact ⟨p3, n3, c3, p4, n4, c4, p14, n14, c14, p15, n15, c15, rfl, b0, b1, b2, h3, h4, b5, h14, h15, k3, k4, k14, k15⟩
theorem ex {S : Nat → Prop} {w : World} {cs : List Value} {x0 : Int} {x1 : Int} {x2 : Int} {l3 : List ByteArray} {l4 : List Int} {x5 : Int} {x6 : Int} {x7 : Int} {x8 : Int} {x9 : Int} {x10 : Int} {x11 : Int} {x12 : Int} {x13 : Int} {l14 : List DpPiece.A} {l15 : List DpRenewal.A} (h : E.rd S w cs (x0, x1, (x2, l3, l4), (x5, x6, x7, x8, x9, x10, x11, x12, x13), (l14, l15))) : ∃ (p3 : Option Addr) (n3 c3 : Nat) (p4 : Option Addr) (n4 c4 : Nat) (p14 : Option Addr) (n14 c14 : Nat) (p15 : Option Addr) (n15 c15 : Nat), cs = [.int .i64 x0, .int .i64 x1, .int .i64 x2, .slice p3 n3 c3, .slice p4 n4 c4, .int .i64 x5, .int .i64 x6, .int .i64 x7, .int .i64 x8, .int .i64 x9, .int .i64 x10, .int .i64 x11, .int .i64 x12, .int .i64 x13, .slice p14 n14 c14, .slice p15 n15 c15] ∧ InI x0 ∧ InI x1 ∧ InI x2 ∧ RdD str S w p3 n3 l3 ∧ RdD int S w p4 n4 l4 ∧ SlSignature.InR (x5, x6, x7, x8, x9, x10, x11, x12, x13) ∧ RdD DpPiece.E S w p14 n14 l14 ∧ RdD DpRenewal.E S w p15 n15 l15 := by
  obtain ⟨p3, n3, c3, p4, n4, c4, p14, n14, c14, p15, n15, c15, e, b0, b1, b2, h3, h4, b5, h14, h15, _⟩ := exk h
  exact ⟨p3, n3, c3, p4, n4, c4, p14, n14, c14, p15, n15, c15, e, b0, b1, b2, h3, h4, b5, h14, h15⟩
theorem mk {S : Nat → Prop} {w : World} {x0 : Int} {x1 : Int} {x2 : Int} {l3 : List ByteArray} {l4 : List Int} {x5 : Int} {x6 : Int} {x7 : Int} {x8 : Int} {x9 : Int} {x10 : Int} {x11 : Int} {x12 : Int} {x13 : Int} {l14 : List DpPiece.A} {l15 : List DpRenewal.A} {p3 : Option Addr} {n3 c3 : Nat} {p4 : Option Addr} {n4 c4 : Nat} {p14 : Option Addr} {n14 c14 : Nat} {p15 : Option Addr} {n15 c15 : Nat} (b0 : InI x0) (b1 : InI x1) (b2 : InI x2) (h3 : RdD str S w p3 n3 l3) (h4 : RdD int S w p4 n4 l4) (b5 : SlSignature.InR (x5, x6, x7, x8, x9, x10, x11, x12, x13)) (h14 : RdD DpPiece.E S w p14 n14 l14) (h15 : RdD DpRenewal.E S w p15 n15 l15) (k3 : n3 ≤ c3) (k4 : n4 ≤ c4) (k14 : n14 ≤ c14) (k15 : n15 ≤ c15) : E.rd S w [.int .i64 x0, .int .i64 x1, .int .i64 x2, .slice p3 n3 c3, .slice p4 n4 c4, .int .i64 x5, .int .i64 x6, .int .i64 x7, .int .i64 x8, .int .i64 x9, .int .i64 x10, .int .i64 x11, .int .i64 x12, .int .i64 x13, .slice p14 n14 c14, .slice p15 n15 c15] (x0, x1, (x2, l3, l4), (x5, x6, x7, x8, x9, x10, x11, x12, x13), (l14, l15)) :=
  ⟨[.int .i64 x0], [.int .i64 x1, .int .i64 x2, .slice p3 n3 c3, .slice p4 n4 c4, .int .i64 x5, .int .i64 x6, .int .i64 x7, .int .i64 x8, .int .i64 x9, .int .i64 x10, .int .i64 x11, .int .i64 x12, .int .i64 x13, .slice p14 n14 c14, .slice p15 n15 c15], rfl, ⟨rfl, b0⟩, [.int .i64 x1], [.int .i64 x2, .slice p3 n3 c3, .slice p4 n4 c4, .int .i64 x5, .int .i64 x6, .int .i64 x7, .int .i64 x8, .int .i64 x9, .int .i64 x10, .int .i64 x11, .int .i64 x12, .int .i64 x13, .slice p14 n14 c14, .slice p15 n15 c15], rfl, ⟨rfl, b1⟩, [.int .i64 x2, .slice p3 n3 c3, .slice p4 n4 c4], [.int .i64 x5, .int .i64 x6, .int .i64 x7, .int .i64 x8, .int .i64 x9, .int .i64 x10, .int .i64 x11, .int .i64 x12, .int .i64 x13, .slice p14 n14 c14, .slice p15 n15 c15], rfl, DpDocument.mk b2 h3 h4 k3 k4, [.int .i64 x5, .int .i64 x6, .int .i64 x7, .int .i64 x8, .int .i64 x9, .int .i64 x10, .int .i64 x11, .int .i64 x12, .int .i64 x13], [.slice p14 n14 c14, .slice p15 n15 c15], rfl, ⟨rfl, b5⟩, DpStrand.mk h14 h15 k14 k15⟩
theorem bxc {w : World} {g : Nat} {T : TypeId} {y0 : Value} {y1 : Value} {y2 : Value} {y3 : Value} {y4 : Value} {y5 : Value} {y6 : Value} {y7 : Value} {y8 : Value} {y9 : Value} {y10 : Value} {y11 : Value} {y12 : Value} {y13 : Value} {y14 : Value} {y15 : Value} (h : Bx w g T #[y0, y1, y2, y3, y4, y5, y6, y7, y8, y9, y10, y11, y12, y13, y14, y15]) : w.cell? ⟨g, 0, none⟩ = some y0 ∧ w.cell? ⟨g, 1, none⟩ = some y1 ∧ w.cell? ⟨g, 2, none⟩ = some y2 ∧ w.cell? ⟨g, 3, none⟩ = some y3 ∧ w.cell? ⟨g, 4, none⟩ = some y4 ∧ w.cell? ⟨g, 5, none⟩ = some y5 ∧ w.cell? ⟨g, 6, none⟩ = some y6 ∧ w.cell? ⟨g, 7, none⟩ = some y7 ∧ w.cell? ⟨g, 8, none⟩ = some y8 ∧ w.cell? ⟨g, 9, none⟩ = some y9 ∧ w.cell? ⟨g, 10, none⟩ = some y10 ∧ w.cell? ⟨g, 11, none⟩ = some y11 ∧ w.cell? ⟨g, 12, none⟩ = some y12 ∧ w.cell? ⟨g, 13, none⟩ = some y13 ∧ w.cell? ⟨g, 14, none⟩ = some y14 ∧ w.cell? ⟨g, 15, none⟩ = some y15 := ⟨h.cell rfl, h.cell rfl, h.cell rfl, h.cell rfl, h.cell rfl, h.cell rfl, h.cell rfl, h.cell rfl, h.cell rfl, h.cell rfl, h.cell rfl, h.cell rfl, h.cell rfl, h.cell rfl, h.cell rfl, h.cell rfl⟩
theorem wt_eq (x0 : Int) (x1 : Int) (x2 : Int) (l3 : List ByteArray) (l4 : List Int) (x5 : Int) (x6 : Int) (x7 : Int) (x8 : Int) (x9 : Int) (x10 : Int) (x11 : Int) (x12 : Int) (x13 : Int) (l14 : List DpPiece.A) (l15 : List DpRenewal.A) : E.wt (x0, x1, (x2, l3, l4), (x5, x6, x7, x8, x9, x10, x11, x12, x13), (l14, l15)) = DpDocument.E.wt (x2, l3, l4) + DpStrand.E.wt (l14, l15) := by
  show 0 + (0 + (DpDocument.E.wt (x2, l3, l4) + (0 + (DpStrand.E.wt (l14, l15))))) = _
  omega
section
variable {H : Type} {enc : TypeId × Value → H} {W : World}
set_option maxRecDepth 100000 in
theorem open_cells {fuel : Nat} {cs : List Value} {X : DataW H × List MemPlace} (hl : cs.length = 16) (h : DataW.trod enc Try.prog W 0 (fun _ => true) true fuel 52 cs = some X) : ∃ x, E.rd (fun _ => True) W cs x := by
  have hi : ∃ f0 f1 f2 f3 f4 : Field, Try.prog.underlying 52 = some (.struct #[f0, f1, f2, f3, f4]) ∧ f0.offset = 0 ∧ f1.offset = 1 ∧ f2.offset = 2 ∧ f3.offset = 5 ∧ f4.offset = 14 ∧ f0.type = 3 ∧ f1.type = 3 ∧ f2.type = 45 ∧ f3.type = 47 ∧ f4.type = 50 ∧ Try.prog.cellsOf 3 = 1 ∧ Try.prog.cellsOf 45 = 3 ∧ Try.prog.cellsOf 47 = 9 ∧ Try.prog.cellsOf 50 = 2 := ⟨_, _, _, _, _, Try.underlying52, by kernel_rfl, by kernel_rfl, by kernel_rfl, by kernel_rfl, by kernel_rfl, by kernel_rfl, by kernel_rfl, by kernel_rfl, by kernel_rfl, by kernel_rfl, by kernel_rfl, by kernel_rfl, by kernel_rfl, by kernel_rfl⟩
  obtain ⟨f0, f1, f2, f3, f4, hs, o0, o1, o2, o3, o4, t0, t1, t2, t3, t4, z0, z1, z2, z3⟩ := hi
  obtain ⟨ys, n, _, _, _, hlen, hf⟩ := DataW.trod_struct hs h
  match ys, hlen with
  | [y0, y1, y2, y3, y4], _ =>
    have r0 := hf 0 f0 rfl
    have r1 := hf 1 f1 rfl
    have r2 := hf 2 f2 rfl
    have r3 := hf 3 f3 rfl
    have r4 := hf 4 f4 rfl
    simp only [List.getElem?_cons_zero, List.getElem?_cons_succ] at r0 r1 r2 r3 r4
    rw [o0, t0, z0] at r0
    rw [o1, t1, z0] at r1
    rw [o2, t2, z1] at r2
    rw [o3, t3, z2] at r3
    rw [o4, t4, z3] at r4
    obtain ⟨v0, q0⟩ : ∃ x, Ent.rd int (fun _ => True) W ((cs.drop 0).take 1) x := o_int Try.underlying3 r0
    obtain ⟨v1, q1⟩ : ∃ x, Ent.rd int (fun _ => True) W ((cs.drop 1).take 1) x := o_int Try.underlying3 r1
    obtain ⟨v2, q2⟩ : ∃ x, Ent.rd DpDocument.E (fun _ => True) W ((cs.drop 2).take 3) x := DpDocument.open_cells (by simp [hl]) r2
    obtain ⟨v3, q3⟩ : ∃ x, Ent.rd (flat SlSignature.E SlSignature.InR) (fun _ => True) W ((cs.drop 5).take 9) x := o_flat Try.underlying47 (by kernel_rfl) (by kernel_rfl) SlSignature.mk SlSignature.of_mk (fun f hr => ⟨hr 0 (by decide), hr 1 (by decide), hr 2 (by decide), hr 3 (by decide), hr 4 (by decide), hr 5 (by decide), hr 6 (by decide), hr 7 (by decide), hr 8 (by decide)⟩) (by simp [hl]) r3
    obtain ⟨v4, q4⟩ : ∃ x, Ent.rd DpStrand.E (fun _ => True) W ((cs.drop 14).take 2) x := DpStrand.open_cells (by simp [hl]) r4
    exact ⟨_, rd_first (rd_next (o := 0) (o' := 1) rfl rfl q0 (rd_next (o := 1) (o' := 2) rfl rfl q1 (rd_next (o := 2) (o' := 5) rfl rfl q2 (rd_next (o := 5) (o' := 14) rfl rfl q3 (rd_last (o := 14) (by simp [hl]) q4)))))⟩
set_option maxRecDepth 100000 in
theorem open_valk {base : Nat} {v : Value} {d : DataW H} {pl : List MemPlace} (h : DataW.Trod enc Try.prog W 0 (fun _ => true) true 52 v d pl) (hk : Value.okWide Try.prog W .any base 52 v) : ∃ (x0 : Int) (x1 : Int) (x2 : Int) (l3 : List ByteArray) (l4 : List Int) (x5 : Int) (x6 : Int) (x7 : Int) (x8 : Int) (x9 : Int) (x10 : Int) (x11 : Int) (x12 : Int) (x13 : Int) (l14 : List DpPiece.A) (l15 : List DpRenewal.A) (p3 : Option Addr) (n3 c3 : Nat) (p4 : Option Addr) (n4 c4 : Nat) (p14 : Option Addr) (n14 c14 : Nat) (p15 : Option Addr) (n15 c15 : Nat), v = .agg #[.int .i64 x0, .int .i64 x1, .int .i64 x2, .slice p3 n3 c3, .slice p4 n4 c4, .int .i64 x5, .int .i64 x6, .int .i64 x7, .int .i64 x8, .int .i64 x9, .int .i64 x10, .int .i64 x11, .int .i64 x12, .int .i64 x13, .slice p14 n14 c14, .slice p15 n15 c15] ∧ InI x0 ∧ InI x1 ∧ InI x2 ∧ RdD str (fun _ => True) W p3 n3 l3 ∧ RdD int (fun _ => True) W p4 n4 l4 ∧ SlSignature.InR (x5, x6, x7, x8, x9, x10, x11, x12, x13) ∧ RdD DpPiece.E (fun _ => True) W p14 n14 l14 ∧ RdD DpRenewal.E (fun _ => True) W p15 n15 l15 ∧ n3 ≤ c3 ∧ n4 ≤ c4 ∧ n14 ≤ c14 ∧ n15 ≤ c15 := by
  have hu : ∃ fs, Try.prog.underlying 52 = some (.struct fs) ∧ Try.prog.cellsOf 52 = 16 := ⟨_, Try.underlying52, by kernel_rfl⟩
  obtain ⟨fs, hs, hC⟩ := hu
  obtain ⟨cs, rfl, hsz⟩ := okWide_struct hs hk
  obtain ⟨fuel, hf⟩ := h
  simp only [Value.cells] at hf
  obtain ⟨x, hx⟩ := open_cells (by rw [Array.length_toList, hsz, hC]) hf
  obtain ⟨x0, x1, ⟨x2, l3, l4⟩, ⟨x5, x6, x7, x8, x9, x10, x11, x12, x13⟩, ⟨l14, l15⟩⟩ := x
  obtain ⟨p3, n3, c3, p4, n4, c4, p14, n14, c14, p15, n15, c15, hc, b0, b1, b2, h3, h4, b5, h14, h15, k3, k4, k14, k15⟩ := exk hx
  exact ⟨x0, x1, x2, l3, l4, x5, x6, x7, x8, x9, x10, x11, x12, x13, l14, l15, p3, n3, c3, p4, n4, c4, p14, n14, c14, p15, n15, c15, congrArg Value.agg (Array.ext' hc), b0, b1, b2, h3, h4, b5, h14, h15, k3, k4, k14, k15⟩
set_option maxRecDepth 100000 in
theorem open_val {base : Nat} {v : Value} {d : DataW H} {pl : List MemPlace} (h : DataW.Trod enc Try.prog W 0 (fun _ => true) true 52 v d pl) (hk : Value.okWide Try.prog W .any base 52 v) : ∃ (x0 : Int) (x1 : Int) (x2 : Int) (l3 : List ByteArray) (l4 : List Int) (x5 : Int) (x6 : Int) (x7 : Int) (x8 : Int) (x9 : Int) (x10 : Int) (x11 : Int) (x12 : Int) (x13 : Int) (l14 : List DpPiece.A) (l15 : List DpRenewal.A) (p3 : Option Addr) (n3 c3 : Nat) (p4 : Option Addr) (n4 c4 : Nat) (p14 : Option Addr) (n14 c14 : Nat) (p15 : Option Addr) (n15 c15 : Nat), v = .agg #[.int .i64 x0, .int .i64 x1, .int .i64 x2, .slice p3 n3 c3, .slice p4 n4 c4, .int .i64 x5, .int .i64 x6, .int .i64 x7, .int .i64 x8, .int .i64 x9, .int .i64 x10, .int .i64 x11, .int .i64 x12, .int .i64 x13, .slice p14 n14 c14, .slice p15 n15 c15] ∧ InI x0 ∧ InI x1 ∧ InI x2 ∧ RdD str (fun _ => True) W p3 n3 l3 ∧ RdD int (fun _ => True) W p4 n4 l4 ∧ SlSignature.InR (x5, x6, x7, x8, x9, x10, x11, x12, x13) ∧ RdD DpPiece.E (fun _ => True) W p14 n14 l14 ∧ RdD DpRenewal.E (fun _ => True) W p15 n15 l15 := by
  have hu : ∃ fs, Try.prog.underlying 52 = some (.struct fs) ∧ Try.prog.cellsOf 52 = 16 := ⟨_, Try.underlying52, by kernel_rfl⟩
  obtain ⟨fs, hs, hC⟩ := hu
  obtain ⟨cs, rfl, hsz⟩ := okWide_struct hs hk
  obtain ⟨fuel, hf⟩ := h
  simp only [Value.cells] at hf
  obtain ⟨x, hx⟩ := open_cells (by rw [Array.length_toList, hsz, hC]) hf
  obtain ⟨x0, x1, ⟨x2, l3, l4⟩, ⟨x5, x6, x7, x8, x9, x10, x11, x12, x13⟩, ⟨l14, l15⟩⟩ := x
  obtain ⟨p3, n3, c3, p4, n4, c4, p14, n14, c14, p15, n15, c15, hc, b0, b1, b2, h3, h4, b5, h14, h15⟩ := ex hx
  exact ⟨x0, x1, x2, l3, l4, x5, x6, x7, x8, x9, x10, x11, x12, x13, l14, l15, p3, n3, c3, p4, n4, c4, p14, n14, c14, p15, n15, c15, congrArg Value.agg (Array.ext' hc), b0, b1, b2, h3, h4, b5, h14, h15⟩
end
set_option maxRecDepth 100000 in
set_option maxHeartbeats 4000000 in
theorem toK_any (x0 : Int) (x1 : Int) (x2 : Int) (l3 : List ByteArray) (p3 : Option Addr) (n3 c3 : Nat) (l4 : List Int) (p4 : Option Addr) (n4 c4 : Nat) (x5 : Int) (x6 : Int) (x7 : Int) (x8 : Int) (x9 : Int) (x10 : Int) (x11 : Int) (x12 : Int) (x13 : Int) (l14 : List DpPiece.A) (p14 : Option Addr) (n14 c14 : Nat) (l15 : List DpRenewal.A) (p15 : Option Addr) (n15 c15 : Nat) {S3 S4 S14 S15 : Nat → Prop} (w : World) (h3 : RdD str S3 w p3 n3 l3) (h4 : RdD int S4 w p4 n4 l4) (h14 : RdD DpPiece.E S14 w p14 n14 l14) (h15 : RdD DpRenewal.E S15 w p15 n15 l15) (hm : E.wt (x0, x1, (x2, l3, l4), (x5, x6, x7, x8, x9, x10, x11, x12, x13), (l14, l15)) ≤ 1048576) : Calls Try.prog 23 #[.agg #[.int .i64 x0, .int .i64 x1, .int .i64 x2, .slice p3 n3 c3, .slice p4 n4 c4, .int .i64 x5, .int .i64 x6, .int .i64 x7, .int .i64 x8, .int .i64 x9, .int .i64 x10, .int .i64 x11, .int .i64 x12, .int .i64 x13, .slice p14 n14 c14, .slice p15 n15 c15]] w fun e w' => ∃ (p3' : Option Addr) (c3' : Nat) (p4' : Option Addr) (c4' : Nat) (p14' : Option Addr) (c14' : Nat) (p15' : Option Addr) (c15' : Nat), e = .returned (.agg #[.int .i64 x0, .int .i64 x1, .int .i64 x2, .slice p3' n3 c3', .slice p4' n4 c4', .int .i64 x5, .int .i64 x6, .int .i64 x7, .int .i64 x8, .int .i64 x9, .int .i64 x10, .int .i64 x11, .int .i64 x12, .int .i64 x13, .slice p14' n14 c14', .slice p15' n15 c15']) ∧ RdD str (fun b => w.heap.size ≤ b) w' p3' n3 l3 ∧ RdD int (fun b => w.heap.size ≤ b) w' p4' n4 l4 ∧ RdD DpPiece.E (fun b => w.heap.size ≤ b) w' p14' n14 l14 ∧ RdD DpRenewal.E (fun b => w.heap.size ≤ b) w' p15' n15 l15 ∧ n3 ≤ c3' ∧ n4 ≤ c4' ∧ n14 ≤ c14' ∧ n15 ≤ c15' ∧ Below w.heap.size w w' := by
  rw [wt_eq] at hm
  have k3 := h3.len
  have k4 := h4.len
  have k14 := h14.len
  have k15 := h15.len
  have m2 : DpDocument.E.wt (x2, l3, l4) ≤ 1048576 := by omega
  have m14 : DpStrand.E.wt (l14, l15) ≤ 1048576 := by omega
  have HP3 := Lib.hid h3
  have HP4 := Lib.hid h4
  have HP14 := Lib.hid h14
  have HP15 := Lib.hid h15
  clear hm h3 k3 h4 k4 h14 k14 h15 k15
  have b0 := ((Bx.new w 52 #[.int .i64 x0, .int .i64 x1, .int .i64 x2, .slice p3 n3 c3, .slice p4 n4 c4, .int .i64 x5, .int .i64 x6, .int .i64 x7, .int .i64 x8, .int .i64 x9, .int .i64 x10, .int .i64 x11, .int .i64 x12, .int .i64 x13, .slice p14 n14 c14, .slice p15 n15 c15]).alloc (.cells #[.int .i64 0, .int .i64 0, .int .i64 0, .slice none 0 0, .slice none 0 0, .int .i64 0, .int .i64 0, .int .i64 0, .int .i64 0, .int .i64 0, .int .i64 0, .int .i64 0, .int .i64 0, .int .i64 0, .slice none 0 0, .slice none 0 0] 61)).alloc (.cells #[.int .i64 x0, .int .i64 x1, .int .i64 0, .slice none 0 0, .slice none 0 0, .int .i64 0, .int .i64 0, .int .i64 0, .int .i64 0, .int .i64 0, .int .i64 0, .int .i64 0, .int .i64 0, .int .i64 0, .slice none 0 0, .slice none 0 0] 61)
  have b1 := (Bx.new (w.alloc (.cells #[.int .i64 x0, .int .i64 x1, .int .i64 x2, .slice p3 n3 c3, .slice p4 n4 c4, .int .i64 x5, .int .i64 x6, .int .i64 x7, .int .i64 x8, .int .i64 x9, .int .i64 x10, .int .i64 x11, .int .i64 x12, .int .i64 x13, .slice p14 n14 c14, .slice p15 n15 c15] 52)) 61 #[.int .i64 0, .int .i64 0, .int .i64 0, .slice none 0 0, .slice none 0 0, .int .i64 0, .int .i64 0, .int .i64 0, .int .i64 0, .int .i64 0, .int .i64 0, .int .i64 0, .int .i64 0, .int .i64 0, .slice none 0 0, .slice none 0 0]).alloc (.cells #[.int .i64 x0, .int .i64 x1, .int .i64 0, .slice none 0 0, .slice none 0 0, .int .i64 0, .int .i64 0, .int .i64 0, .int .i64 0, .int .i64 0, .int .i64 0, .int .i64 0, .int .i64 0, .int .i64 0, .slice none 0 0, .slice none 0 0] 61)
  have b2 := Bx.new ((w.alloc (.cells #[.int .i64 x0, .int .i64 x1, .int .i64 x2, .slice p3 n3 c3, .slice p4 n4 c4, .int .i64 x5, .int .i64 x6, .int .i64 x7, .int .i64 x8, .int .i64 x9, .int .i64 x10, .int .i64 x11, .int .i64 x12, .int .i64 x13, .slice p14 n14 c14, .slice p15 n15 c15] 52)).alloc (.cells #[.int .i64 0, .int .i64 0, .int .i64 0, .slice none 0 0, .slice none 0 0, .int .i64 0, .int .i64 0, .int .i64 0, .int .i64 0, .int .i64 0, .int .i64 0, .int .i64 0, .int .i64 0, .int .i64 0, .slice none 0 0, .slice none 0 0] 61)) 61 #[.int .i64 x0, .int .i64 x1, .int .i64 0, .slice none 0 0, .slice none 0 0, .int .i64 0, .int .i64 0, .int .i64 0, .int .i64 0, .int .i64 0, .int .i64 0, .int .i64 0, .int .i64 0, .int .i64 0, .slice none 0 0, .slice none 0 0]
  rw [World.size_alloc] at b1
  rw [World.size_alloc, World.size_alloc] at b2
  have HA := Lib.hid b0
  have HR := Lib.hid b1
  have HO := Lib.hid b2
  have HB : Hid (Below w.heap.size w (((w.alloc (.cells #[.int .i64 x0, .int .i64 x1, .int .i64 x2, .slice p3 n3 c3, .slice p4 n4 c4, .int .i64 x5, .int .i64 x6, .int .i64 x7, .int .i64 x8, .int .i64 x9, .int .i64 x10, .int .i64 x11, .int .i64 x12, .int .i64 x13, .slice p14 n14 c14, .slice p15 n15 c15] 52)).alloc (.cells #[.int .i64 0, .int .i64 0, .int .i64 0, .slice none 0 0, .slice none 0 0, .int .i64 0, .int .i64 0, .int .i64 0, .int .i64 0, .int .i64 0, .int .i64 0, .int .i64 0, .int .i64 0, .int .i64 0, .slice none 0 0, .slice none 0 0] 61)).alloc (.cells #[.int .i64 x0, .int .i64 x1, .int .i64 0, .slice none 0 0, .slice none 0 0, .int .i64 0, .int .i64 0, .int .i64 0, .int .i64 0, .int .i64 0, .int .i64 0, .int .i64 0, .int .i64 0, .int .i64 0, .slice none 0 0, .slice none 0 0] 61))) := Lib.hid ((((Below.refl w.heap.size w).alloc (Nat.le_refl _) _).alloc (by simp) _).alloc (by simp; omega) _)
  have HSZ : Hid (w.heap.size + 3 ≤ (((w.alloc (.cells #[.int .i64 x0, .int .i64 x1, .int .i64 x2, .slice p3 n3 c3, .slice p4 n4 c4, .int .i64 x5, .int .i64 x6, .int .i64 x7, .int .i64 x8, .int .i64 x9, .int .i64 x10, .int .i64 x11, .int .i64 x12, .int .i64 x13, .slice p14 n14 c14, .slice p15 n15 c15] 52)).alloc (.cells #[.int .i64 0, .int .i64 0, .int .i64 0, .slice none 0 0, .slice none 0 0, .int .i64 0, .int .i64 0, .int .i64 0, .int .i64 0, .int .i64 0, .int .i64 0, .int .i64 0, .int .i64 0, .int .i64 0, .slice none 0 0, .slice none 0 0] 61)).alloc (.cells #[.int .i64 x0, .int .i64 x1, .int .i64 0, .slice none 0 0, .slice none 0 0, .int .i64 0, .int .i64 0, .int .i64 0, .int .i64 0, .int .i64 0, .int .i64 0, .int .i64 0, .int .i64 0, .int .i64 0, .slice none 0 0, .slice none 0 0] 61)).heap.size) := Lib.hid (by simp)
  clear b0 b1 b2
  go_enter Try.func23, Try.ntmps23
  go_wp2_with fail
  generalize (((w.alloc (.cells #[.int .i64 x0, .int .i64 x1, .int .i64 x2, .slice p3 n3 c3, .slice p4 n4 c4, .int .i64 x5, .int .i64 x6, .int .i64 x7, .int .i64 x8, .int .i64 x9, .int .i64 x10, .int .i64 x11, .int .i64 x12, .int .i64 x13, .slice p14 n14 c14, .slice p15 n15 c15] 52)).alloc (.cells #[.int .i64 0, .int .i64 0, .int .i64 0, .slice none 0 0, .slice none 0 0, .int .i64 0, .int .i64 0, .int .i64 0, .int .i64 0, .int .i64 0, .int .i64 0, .int .i64 0, .int .i64 0, .int .i64 0, .slice none 0 0, .slice none 0 0] 61)).alloc (.cells #[.int .i64 x0, .int .i64 x1, .int .i64 0, .slice none 0 0, .slice none 0 0, .int .i64 0, .int .i64 0, .int .i64 0, .int .i64 0, .int .i64 0, .int .i64 0, .int .i64 0, .int .i64 0, .int .i64 0, .slice none 0 0, .slice none 0 0] 61)) = V at HA HR HO HB HSZ ⊢
  obtain ⟨a0, a1, a2, a3, a4, a5, a6, a7, a8, a9, a10, a11, a12, a13, a14, a15⟩ := bxc HA.out
  refine (DpDocument.toK_any _ _ _ _ _ _ _ _ _ _ (HP3.out.below HB.out) (HP4.out.below HB.out) m2).mono ?_
  rintro e w1 ⟨p3', c3', p4', c4', rfl, ho3, ho4, hk3, hk4, hb⟩
  have HK3 := Lib.hid hk3
  have HK4 := Lib.hid hk4
  clear hk3 hk4
  have HQ3 : Hid (RdD str (fun b => w.heap.size + 3 ≤ b) w1 p3' n3 l3) := Lib.hid (ho3.mono fun b hb => Nat.le_trans HSZ.out hb)
  have HQ4 : Hid (RdD int (fun b => w.heap.size + 3 ≤ b) w1 p4' n4 l4) := Lib.hid (ho4.mono fun b hb => Nat.le_trans HSZ.out hb)
  clear ho3 ho4
  clear a0 a1 a2 a3 a4 a5 a6 a7 a8 a9 a10 a11 a12 a13 a14 a15
  replace HA := Lib.hid (HA.out.below hb)
  replace HR := Lib.hid (HR.out.below hb)
  replace HO := Lib.hid (HO.out.below hb)
  replace HB := Lib.hid (below_on HB.out hb)
  replace HSZ := Lib.hid (Nat.le_trans HSZ.out hb.size)
  clear hb
  obtain ⟨a0, a1, a2, a3, a4, a5, a6, a7, a8, a9, a10, a11, a12, a13, a14, a15⟩ := bxc HA.out
  obtain ⟨q0, q1, q2, q3, q4, q5, q6, q7, q8, q9, q10, q11, q12, q13, q14, q15⟩ := bxc HO.out
  have g2 := HO.out.free 2
  have g3 := HO.out.free 3
  have g4 := HO.out.free 4
  go_wp2_with fail
  have ho := (((HO.out.set_ 2 (.int .i64 x2)).set_ 3 (.slice p3' n3 c3')).set_ 4 (.slice p4' n4 c4'))
  simp only [List.setIfInBounds_toArray, List.set_cons_zero, List.set_cons_succ] at ho
  replace HO := Lib.hid ho
  clear ho a0 a1 a2 a3 a4 a5 a6 a7 a8 a9 a10 a11 a12 a13 a14 a15 q0 q1 q2 q3 q4 q5 q6 q7 q8 q9 q10 q11 q12 q13 q14 q15 g2 g3 g4
  replace HA := Lib.hid (((HA.out.far (q := ⟨w.heap.size + 1 + 1, 2, none⟩) (by show w.heap.size ≠ w.heap.size + 1 + 1; omega) (.int .i64 x2)).far (q := ⟨w.heap.size + 1 + 1, 3, none⟩) (by show w.heap.size ≠ w.heap.size + 1 + 1; omega) (.slice p3' n3 c3')).far (q := ⟨w.heap.size + 1 + 1, 4, none⟩) (by show w.heap.size ≠ w.heap.size + 1 + 1; omega) (.slice p4' n4 c4'))
  replace HR := Lib.hid (((HR.out.far (q := ⟨w.heap.size + 1 + 1, 2, none⟩) (by show w.heap.size + 1 ≠ w.heap.size + 1 + 1; omega) (.int .i64 x2)).far (q := ⟨w.heap.size + 1 + 1, 3, none⟩) (by show w.heap.size + 1 ≠ w.heap.size + 1 + 1; omega) (.slice p3' n3 c3')).far (q := ⟨w.heap.size + 1 + 1, 4, none⟩) (by show w.heap.size + 1 ≠ w.heap.size + 1 + 1; omega) (.slice p4' n4 c4'))
  replace HQ3 := Lib.hid (((HQ3.out.far (q := ⟨w.heap.size + 1 + 1, 2, none⟩) (by show ¬ (w.heap.size + 3 ≤ w.heap.size + 1 + 1); omega) (.int .i64 x2)).far (q := ⟨w.heap.size + 1 + 1, 3, none⟩) (by show ¬ (w.heap.size + 3 ≤ w.heap.size + 1 + 1); omega) (.slice p3' n3 c3')).far (q := ⟨w.heap.size + 1 + 1, 4, none⟩) (by show ¬ (w.heap.size + 3 ≤ w.heap.size + 1 + 1); omega) (.slice p4' n4 c4'))
  replace HQ4 := Lib.hid (((HQ4.out.far (q := ⟨w.heap.size + 1 + 1, 2, none⟩) (by show ¬ (w.heap.size + 3 ≤ w.heap.size + 1 + 1); omega) (.int .i64 x2)).far (q := ⟨w.heap.size + 1 + 1, 3, none⟩) (by show ¬ (w.heap.size + 3 ≤ w.heap.size + 1 + 1); omega) (.slice p3' n3 c3')).far (q := ⟨w.heap.size + 1 + 1, 4, none⟩) (by show ¬ (w.heap.size + 3 ≤ w.heap.size + 1 + 1); omega) (.slice p4' n4 c4'))
  replace HB := Lib.hid (((HB.out.setCell (p := ⟨w.heap.size + 1 + 1, 2, none⟩) (by show w.heap.size ≤ w.heap.size + 1 + 1; omega) (.int .i64 x2)).setCell (p := ⟨w.heap.size + 1 + 1, 3, none⟩) (by show w.heap.size ≤ w.heap.size + 1 + 1; omega) (.slice p3' n3 c3')).setCell (p := ⟨w.heap.size + 1 + 1, 4, none⟩) (by show w.heap.size ≤ w.heap.size + 1 + 1; omega) (.slice p4' n4 c4'))
  replace HSZ : Hid (w.heap.size + 3 ≤ (((w1.setCell ⟨w.heap.size + 1 + 1, 2, none⟩ (.int .i64 x2)).setCell ⟨w.heap.size + 1 + 1, 3, none⟩ (.slice p3' n3 c3')).setCell ⟨w.heap.size + 1 + 1, 4, none⟩ (.slice p4' n4 c4')).heap.size) := Lib.hid (by simpa [World.setCell] using HSZ.out)
  generalize (((w1.setCell ⟨w.heap.size + 1 + 1, 2, none⟩ (.int .i64 x2)).setCell ⟨w.heap.size + 1 + 1, 3, none⟩ (.slice p3' n3 c3')).setCell ⟨w.heap.size + 1 + 1, 4, none⟩ (.slice p4' n4 c4')) = V1 at HA HR HO HB HSZ HQ3 HQ4 ⊢
  obtain ⟨a0, a1, a2, a3, a4, a5, a6, a7, a8, a9, a10, a11, a12, a13, a14, a15⟩ := bxc HA.out
  refine (SlSignature.val_any _ _ _ _ _ _ _ _ _ _).mono ?_
  rintro e w2 ⟨rfl, hb⟩
  clear a0 a1 a2 a3 a4 a5 a6 a7 a8 a9 a10 a11 a12 a13 a14 a15
  replace HA := Lib.hid (HA.out.below hb)
  replace HR := Lib.hid (HR.out.below hb)
  replace HO := Lib.hid (HO.out.below hb)
  replace HQ3 := Lib.hid (HQ3.out.below hb)
  replace HQ4 := Lib.hid (HQ4.out.below hb)
  replace HB := Lib.hid (below_on HB.out hb)
  replace HSZ := Lib.hid (Nat.le_trans HSZ.out hb.size)
  clear hb
  obtain ⟨a0, a1, a2, a3, a4, a5, a6, a7, a8, a9, a10, a11, a12, a13, a14, a15⟩ := bxc HA.out
  obtain ⟨q0, q1, q2, q3, q4, q5, q6, q7, q8, q9, q10, q11, q12, q13, q14, q15⟩ := bxc HO.out
  have g5 := HO.out.free 5
  have g6 := HO.out.free 6
  have g7 := HO.out.free 7
  have g8 := HO.out.free 8
  have g9 := HO.out.free 9
  have g10 := HO.out.free 10
  have g11 := HO.out.free 11
  have g12 := HO.out.free 12
  have g13 := HO.out.free 13
  go_wp2_with fail
  have ho := (((((((((HO.out.set_ 5 (.int .i64 x5)).set_ 6 (.int .i64 x6)).set_ 7 (.int .i64 x7)).set_ 8 (.int .i64 x8)).set_ 9 (.int .i64 x9)).set_ 10 (.int .i64 x10)).set_ 11 (.int .i64 x11)).set_ 12 (.int .i64 x12)).set_ 13 (.int .i64 x13))
  simp only [List.setIfInBounds_toArray, List.set_cons_zero, List.set_cons_succ] at ho
  replace HO := Lib.hid ho
  clear ho a0 a1 a2 a3 a4 a5 a6 a7 a8 a9 a10 a11 a12 a13 a14 a15 q0 q1 q2 q3 q4 q5 q6 q7 q8 q9 q10 q11 q12 q13 q14 q15 g5 g6 g7 g8 g9 g10 g11 g12 g13
  replace HA := Lib.hid (((((((((HA.out.far (q := ⟨w.heap.size + 1 + 1, 5, none⟩) (by show w.heap.size ≠ w.heap.size + 1 + 1; omega) (.int .i64 x5)).far (q := ⟨w.heap.size + 1 + 1, 6, none⟩) (by show w.heap.size ≠ w.heap.size + 1 + 1; omega) (.int .i64 x6)).far (q := ⟨w.heap.size + 1 + 1, 7, none⟩) (by show w.heap.size ≠ w.heap.size + 1 + 1; omega) (.int .i64 x7)).far (q := ⟨w.heap.size + 1 + 1, 8, none⟩) (by show w.heap.size ≠ w.heap.size + 1 + 1; omega) (.int .i64 x8)).far (q := ⟨w.heap.size + 1 + 1, 9, none⟩) (by show w.heap.size ≠ w.heap.size + 1 + 1; omega) (.int .i64 x9)).far (q := ⟨w.heap.size + 1 + 1, 10, none⟩) (by show w.heap.size ≠ w.heap.size + 1 + 1; omega) (.int .i64 x10)).far (q := ⟨w.heap.size + 1 + 1, 11, none⟩) (by show w.heap.size ≠ w.heap.size + 1 + 1; omega) (.int .i64 x11)).far (q := ⟨w.heap.size + 1 + 1, 12, none⟩) (by show w.heap.size ≠ w.heap.size + 1 + 1; omega) (.int .i64 x12)).far (q := ⟨w.heap.size + 1 + 1, 13, none⟩) (by show w.heap.size ≠ w.heap.size + 1 + 1; omega) (.int .i64 x13))
  replace HR := Lib.hid (((((((((HR.out.far (q := ⟨w.heap.size + 1 + 1, 5, none⟩) (by show w.heap.size + 1 ≠ w.heap.size + 1 + 1; omega) (.int .i64 x5)).far (q := ⟨w.heap.size + 1 + 1, 6, none⟩) (by show w.heap.size + 1 ≠ w.heap.size + 1 + 1; omega) (.int .i64 x6)).far (q := ⟨w.heap.size + 1 + 1, 7, none⟩) (by show w.heap.size + 1 ≠ w.heap.size + 1 + 1; omega) (.int .i64 x7)).far (q := ⟨w.heap.size + 1 + 1, 8, none⟩) (by show w.heap.size + 1 ≠ w.heap.size + 1 + 1; omega) (.int .i64 x8)).far (q := ⟨w.heap.size + 1 + 1, 9, none⟩) (by show w.heap.size + 1 ≠ w.heap.size + 1 + 1; omega) (.int .i64 x9)).far (q := ⟨w.heap.size + 1 + 1, 10, none⟩) (by show w.heap.size + 1 ≠ w.heap.size + 1 + 1; omega) (.int .i64 x10)).far (q := ⟨w.heap.size + 1 + 1, 11, none⟩) (by show w.heap.size + 1 ≠ w.heap.size + 1 + 1; omega) (.int .i64 x11)).far (q := ⟨w.heap.size + 1 + 1, 12, none⟩) (by show w.heap.size + 1 ≠ w.heap.size + 1 + 1; omega) (.int .i64 x12)).far (q := ⟨w.heap.size + 1 + 1, 13, none⟩) (by show w.heap.size + 1 ≠ w.heap.size + 1 + 1; omega) (.int .i64 x13))
  replace HQ3 := Lib.hid (((((((((HQ3.out.far (q := ⟨w.heap.size + 1 + 1, 5, none⟩) (by show ¬ (w.heap.size + 3 ≤ w.heap.size + 1 + 1); omega) (.int .i64 x5)).far (q := ⟨w.heap.size + 1 + 1, 6, none⟩) (by show ¬ (w.heap.size + 3 ≤ w.heap.size + 1 + 1); omega) (.int .i64 x6)).far (q := ⟨w.heap.size + 1 + 1, 7, none⟩) (by show ¬ (w.heap.size + 3 ≤ w.heap.size + 1 + 1); omega) (.int .i64 x7)).far (q := ⟨w.heap.size + 1 + 1, 8, none⟩) (by show ¬ (w.heap.size + 3 ≤ w.heap.size + 1 + 1); omega) (.int .i64 x8)).far (q := ⟨w.heap.size + 1 + 1, 9, none⟩) (by show ¬ (w.heap.size + 3 ≤ w.heap.size + 1 + 1); omega) (.int .i64 x9)).far (q := ⟨w.heap.size + 1 + 1, 10, none⟩) (by show ¬ (w.heap.size + 3 ≤ w.heap.size + 1 + 1); omega) (.int .i64 x10)).far (q := ⟨w.heap.size + 1 + 1, 11, none⟩) (by show ¬ (w.heap.size + 3 ≤ w.heap.size + 1 + 1); omega) (.int .i64 x11)).far (q := ⟨w.heap.size + 1 + 1, 12, none⟩) (by show ¬ (w.heap.size + 3 ≤ w.heap.size + 1 + 1); omega) (.int .i64 x12)).far (q := ⟨w.heap.size + 1 + 1, 13, none⟩) (by show ¬ (w.heap.size + 3 ≤ w.heap.size + 1 + 1); omega) (.int .i64 x13))
  replace HQ4 := Lib.hid (((((((((HQ4.out.far (q := ⟨w.heap.size + 1 + 1, 5, none⟩) (by show ¬ (w.heap.size + 3 ≤ w.heap.size + 1 + 1); omega) (.int .i64 x5)).far (q := ⟨w.heap.size + 1 + 1, 6, none⟩) (by show ¬ (w.heap.size + 3 ≤ w.heap.size + 1 + 1); omega) (.int .i64 x6)).far (q := ⟨w.heap.size + 1 + 1, 7, none⟩) (by show ¬ (w.heap.size + 3 ≤ w.heap.size + 1 + 1); omega) (.int .i64 x7)).far (q := ⟨w.heap.size + 1 + 1, 8, none⟩) (by show ¬ (w.heap.size + 3 ≤ w.heap.size + 1 + 1); omega) (.int .i64 x8)).far (q := ⟨w.heap.size + 1 + 1, 9, none⟩) (by show ¬ (w.heap.size + 3 ≤ w.heap.size + 1 + 1); omega) (.int .i64 x9)).far (q := ⟨w.heap.size + 1 + 1, 10, none⟩) (by show ¬ (w.heap.size + 3 ≤ w.heap.size + 1 + 1); omega) (.int .i64 x10)).far (q := ⟨w.heap.size + 1 + 1, 11, none⟩) (by show ¬ (w.heap.size + 3 ≤ w.heap.size + 1 + 1); omega) (.int .i64 x11)).far (q := ⟨w.heap.size + 1 + 1, 12, none⟩) (by show ¬ (w.heap.size + 3 ≤ w.heap.size + 1 + 1); omega) (.int .i64 x12)).far (q := ⟨w.heap.size + 1 + 1, 13, none⟩) (by show ¬ (w.heap.size + 3 ≤ w.heap.size + 1 + 1); omega) (.int .i64 x13))
  replace HB := Lib.hid (((((((((HB.out.setCell (p := ⟨w.heap.size + 1 + 1, 5, none⟩) (by show w.heap.size ≤ w.heap.size + 1 + 1; omega) (.int .i64 x5)).setCell (p := ⟨w.heap.size + 1 + 1, 6, none⟩) (by show w.heap.size ≤ w.heap.size + 1 + 1; omega) (.int .i64 x6)).setCell (p := ⟨w.heap.size + 1 + 1, 7, none⟩) (by show w.heap.size ≤ w.heap.size + 1 + 1; omega) (.int .i64 x7)).setCell (p := ⟨w.heap.size + 1 + 1, 8, none⟩) (by show w.heap.size ≤ w.heap.size + 1 + 1; omega) (.int .i64 x8)).setCell (p := ⟨w.heap.size + 1 + 1, 9, none⟩) (by show w.heap.size ≤ w.heap.size + 1 + 1; omega) (.int .i64 x9)).setCell (p := ⟨w.heap.size + 1 + 1, 10, none⟩) (by show w.heap.size ≤ w.heap.size + 1 + 1; omega) (.int .i64 x10)).setCell (p := ⟨w.heap.size + 1 + 1, 11, none⟩) (by show w.heap.size ≤ w.heap.size + 1 + 1; omega) (.int .i64 x11)).setCell (p := ⟨w.heap.size + 1 + 1, 12, none⟩) (by show w.heap.size ≤ w.heap.size + 1 + 1; omega) (.int .i64 x12)).setCell (p := ⟨w.heap.size + 1 + 1, 13, none⟩) (by show w.heap.size ≤ w.heap.size + 1 + 1; omega) (.int .i64 x13))
  replace HSZ : Hid (w.heap.size + 3 ≤ (((((((((w2.setCell ⟨w.heap.size + 1 + 1, 5, none⟩ (.int .i64 x5)).setCell ⟨w.heap.size + 1 + 1, 6, none⟩ (.int .i64 x6)).setCell ⟨w.heap.size + 1 + 1, 7, none⟩ (.int .i64 x7)).setCell ⟨w.heap.size + 1 + 1, 8, none⟩ (.int .i64 x8)).setCell ⟨w.heap.size + 1 + 1, 9, none⟩ (.int .i64 x9)).setCell ⟨w.heap.size + 1 + 1, 10, none⟩ (.int .i64 x10)).setCell ⟨w.heap.size + 1 + 1, 11, none⟩ (.int .i64 x11)).setCell ⟨w.heap.size + 1 + 1, 12, none⟩ (.int .i64 x12)).setCell ⟨w.heap.size + 1 + 1, 13, none⟩ (.int .i64 x13)).heap.size) := Lib.hid (by simpa [World.setCell] using HSZ.out)
  generalize (((((((((w2.setCell ⟨w.heap.size + 1 + 1, 5, none⟩ (.int .i64 x5)).setCell ⟨w.heap.size + 1 + 1, 6, none⟩ (.int .i64 x6)).setCell ⟨w.heap.size + 1 + 1, 7, none⟩ (.int .i64 x7)).setCell ⟨w.heap.size + 1 + 1, 8, none⟩ (.int .i64 x8)).setCell ⟨w.heap.size + 1 + 1, 9, none⟩ (.int .i64 x9)).setCell ⟨w.heap.size + 1 + 1, 10, none⟩ (.int .i64 x10)).setCell ⟨w.heap.size + 1 + 1, 11, none⟩ (.int .i64 x11)).setCell ⟨w.heap.size + 1 + 1, 12, none⟩ (.int .i64 x12)).setCell ⟨w.heap.size + 1 + 1, 13, none⟩ (.int .i64 x13)) = V2 at HA HR HO HB HSZ HQ3 HQ4 ⊢
  obtain ⟨a0, a1, a2, a3, a4, a5, a6, a7, a8, a9, a10, a11, a12, a13, a14, a15⟩ := bxc HA.out
  refine (DpStrand.toK_any _ _ _ _ _ _ _ _ _ (HP14.out.below HB.out) (HP15.out.below HB.out) m14).mono ?_
  rintro e w3 ⟨p14', c14', p15', c15', rfl, ho14, ho15, hk14, hk15, hb⟩
  have HK14 := Lib.hid hk14
  have HK15 := Lib.hid hk15
  clear hk14 hk15
  have HQ14 : Hid (RdD DpPiece.E (fun b => w.heap.size + 3 ≤ b) w3 p14' n14 l14) := Lib.hid (ho14.mono fun b hb => Nat.le_trans HSZ.out hb)
  have HQ15 : Hid (RdD DpRenewal.E (fun b => w.heap.size + 3 ≤ b) w3 p15' n15 l15) := Lib.hid (ho15.mono fun b hb => Nat.le_trans HSZ.out hb)
  clear ho14 ho15
  clear a0 a1 a2 a3 a4 a5 a6 a7 a8 a9 a10 a11 a12 a13 a14 a15
  replace HA := Lib.hid (HA.out.below hb)
  replace HR := Lib.hid (HR.out.below hb)
  replace HO := Lib.hid (HO.out.below hb)
  replace HQ3 := Lib.hid (HQ3.out.below hb)
  replace HQ4 := Lib.hid (HQ4.out.below hb)
  replace HB := Lib.hid (below_on HB.out hb)
  replace HSZ := Lib.hid (Nat.le_trans HSZ.out hb.size)
  clear hb
  obtain ⟨a0, a1, a2, a3, a4, a5, a6, a7, a8, a9, a10, a11, a12, a13, a14, a15⟩ := bxc HA.out
  obtain ⟨q0, q1, q2, q3, q4, q5, q6, q7, q8, q9, q10, q11, q12, q13, q14, q15⟩ := bxc HO.out
  have g14 := HO.out.free 14
  have g15 := HO.out.free 15
  obtain ⟨r0, r1, r2, r3, r4, r5, r6, r7, r8, r9, r10, r11, r12, r13, r14, r15⟩ := bxc HR.out
  have s0 := HR.out.free 0
  have s1 := HR.out.free 1
  have s2 := HR.out.free 2
  have s3 := HR.out.free 3
  have s4 := HR.out.free 4
  have s5 := HR.out.free 5
  have s6 := HR.out.free 6
  have s7 := HR.out.free 7
  have s8 := HR.out.free 8
  have s9 := HR.out.free 9
  have s10 := HR.out.free 10
  have s11 := HR.out.free 11
  have s12 := HR.out.free 12
  have s13 := HR.out.free 13
  have s14 := HR.out.free 14
  have s15 := HR.out.free 15
  go_wp2_with fail
  exact bodyPost_ret (v := .agg #[.int .i64 x0, .int .i64 x1, .int .i64 x2, .slice p3' n3 c3', .slice p4' n4 c4', .int .i64 x5, .int .i64 x6, .int .i64 x7, .int .i64 x8, .int .i64 x9, .int .i64 x10, .int .i64 x11, .int .i64 x12, .int .i64 x13, .slice p14' n14 c14', .slice p15' n15 c15']) (by simp [results, Try.results23, go_sem, r0, r1, r2, r3, r4, r5, r6, r7, r8, r9, r10, r11, r12, r13, r14, r15]) rfl ⟨p3', c3', p4', c4', p14', c14', p15', c15', rfl, ((((((((((((((((((((HQ3.out.far (q := ⟨w.heap.size + 1 + 1, 14, none⟩) (by show ¬ (w.heap.size + 3 ≤ w.heap.size + 1 + 1); omega) (.slice p14' n14 c14')).far (q := ⟨w.heap.size + 1 + 1, 15, none⟩) (by show ¬ (w.heap.size + 3 ≤ w.heap.size + 1 + 1); omega) (.slice p15' n15 c15')).far (q := ⟨w.heap.size + 1, 0, none⟩) (by show ¬ (w.heap.size + 3 ≤ w.heap.size + 1); omega) (.int .i64 x0)).far (q := ⟨w.heap.size + 1, 1, none⟩) (by show ¬ (w.heap.size + 3 ≤ w.heap.size + 1); omega) (.int .i64 x1)).far (q := ⟨w.heap.size + 1, 2, none⟩) (by show ¬ (w.heap.size + 3 ≤ w.heap.size + 1); omega) (.int .i64 x2)).far (q := ⟨w.heap.size + 1, 3, none⟩) (by show ¬ (w.heap.size + 3 ≤ w.heap.size + 1); omega) (.slice p3' n3 c3')).far (q := ⟨w.heap.size + 1, 4, none⟩) (by show ¬ (w.heap.size + 3 ≤ w.heap.size + 1); omega) (.slice p4' n4 c4')).far (q := ⟨w.heap.size + 1, 5, none⟩) (by show ¬ (w.heap.size + 3 ≤ w.heap.size + 1); omega) (.int .i64 x5)).far (q := ⟨w.heap.size + 1, 6, none⟩) (by show ¬ (w.heap.size + 3 ≤ w.heap.size + 1); omega) (.int .i64 x6)).far (q := ⟨w.heap.size + 1, 7, none⟩) (by show ¬ (w.heap.size + 3 ≤ w.heap.size + 1); omega) (.int .i64 x7)).far (q := ⟨w.heap.size + 1, 8, none⟩) (by show ¬ (w.heap.size + 3 ≤ w.heap.size + 1); omega) (.int .i64 x8)).far (q := ⟨w.heap.size + 1, 9, none⟩) (by show ¬ (w.heap.size + 3 ≤ w.heap.size + 1); omega) (.int .i64 x9)).far (q := ⟨w.heap.size + 1, 10, none⟩) (by show ¬ (w.heap.size + 3 ≤ w.heap.size + 1); omega) (.int .i64 x10)).far (q := ⟨w.heap.size + 1, 11, none⟩) (by show ¬ (w.heap.size + 3 ≤ w.heap.size + 1); omega) (.int .i64 x11)).far (q := ⟨w.heap.size + 1, 12, none⟩) (by show ¬ (w.heap.size + 3 ≤ w.heap.size + 1); omega) (.int .i64 x12)).far (q := ⟨w.heap.size + 1, 13, none⟩) (by show ¬ (w.heap.size + 3 ≤ w.heap.size + 1); omega) (.int .i64 x13)).far (q := ⟨w.heap.size + 1, 14, none⟩) (by show ¬ (w.heap.size + 3 ≤ w.heap.size + 1); omega) (.slice p14' n14 c14')).far (q := ⟨w.heap.size + 1, 15, none⟩) (by show ¬ (w.heap.size + 3 ≤ w.heap.size + 1); omega) (.slice p15' n15 c15'))).mono fun b hb => by omega), ((((((((((((((((((((HQ4.out.far (q := ⟨w.heap.size + 1 + 1, 14, none⟩) (by show ¬ (w.heap.size + 3 ≤ w.heap.size + 1 + 1); omega) (.slice p14' n14 c14')).far (q := ⟨w.heap.size + 1 + 1, 15, none⟩) (by show ¬ (w.heap.size + 3 ≤ w.heap.size + 1 + 1); omega) (.slice p15' n15 c15')).far (q := ⟨w.heap.size + 1, 0, none⟩) (by show ¬ (w.heap.size + 3 ≤ w.heap.size + 1); omega) (.int .i64 x0)).far (q := ⟨w.heap.size + 1, 1, none⟩) (by show ¬ (w.heap.size + 3 ≤ w.heap.size + 1); omega) (.int .i64 x1)).far (q := ⟨w.heap.size + 1, 2, none⟩) (by show ¬ (w.heap.size + 3 ≤ w.heap.size + 1); omega) (.int .i64 x2)).far (q := ⟨w.heap.size + 1, 3, none⟩) (by show ¬ (w.heap.size + 3 ≤ w.heap.size + 1); omega) (.slice p3' n3 c3')).far (q := ⟨w.heap.size + 1, 4, none⟩) (by show ¬ (w.heap.size + 3 ≤ w.heap.size + 1); omega) (.slice p4' n4 c4')).far (q := ⟨w.heap.size + 1, 5, none⟩) (by show ¬ (w.heap.size + 3 ≤ w.heap.size + 1); omega) (.int .i64 x5)).far (q := ⟨w.heap.size + 1, 6, none⟩) (by show ¬ (w.heap.size + 3 ≤ w.heap.size + 1); omega) (.int .i64 x6)).far (q := ⟨w.heap.size + 1, 7, none⟩) (by show ¬ (w.heap.size + 3 ≤ w.heap.size + 1); omega) (.int .i64 x7)).far (q := ⟨w.heap.size + 1, 8, none⟩) (by show ¬ (w.heap.size + 3 ≤ w.heap.size + 1); omega) (.int .i64 x8)).far (q := ⟨w.heap.size + 1, 9, none⟩) (by show ¬ (w.heap.size + 3 ≤ w.heap.size + 1); omega) (.int .i64 x9)).far (q := ⟨w.heap.size + 1, 10, none⟩) (by show ¬ (w.heap.size + 3 ≤ w.heap.size + 1); omega) (.int .i64 x10)).far (q := ⟨w.heap.size + 1, 11, none⟩) (by show ¬ (w.heap.size + 3 ≤ w.heap.size + 1); omega) (.int .i64 x11)).far (q := ⟨w.heap.size + 1, 12, none⟩) (by show ¬ (w.heap.size + 3 ≤ w.heap.size + 1); omega) (.int .i64 x12)).far (q := ⟨w.heap.size + 1, 13, none⟩) (by show ¬ (w.heap.size + 3 ≤ w.heap.size + 1); omega) (.int .i64 x13)).far (q := ⟨w.heap.size + 1, 14, none⟩) (by show ¬ (w.heap.size + 3 ≤ w.heap.size + 1); omega) (.slice p14' n14 c14')).far (q := ⟨w.heap.size + 1, 15, none⟩) (by show ¬ (w.heap.size + 3 ≤ w.heap.size + 1); omega) (.slice p15' n15 c15'))).mono fun b hb => by omega), ((((((((((((((((((((HQ14.out.far (q := ⟨w.heap.size + 1 + 1, 14, none⟩) (by show ¬ (w.heap.size + 3 ≤ w.heap.size + 1 + 1); omega) (.slice p14' n14 c14')).far (q := ⟨w.heap.size + 1 + 1, 15, none⟩) (by show ¬ (w.heap.size + 3 ≤ w.heap.size + 1 + 1); omega) (.slice p15' n15 c15')).far (q := ⟨w.heap.size + 1, 0, none⟩) (by show ¬ (w.heap.size + 3 ≤ w.heap.size + 1); omega) (.int .i64 x0)).far (q := ⟨w.heap.size + 1, 1, none⟩) (by show ¬ (w.heap.size + 3 ≤ w.heap.size + 1); omega) (.int .i64 x1)).far (q := ⟨w.heap.size + 1, 2, none⟩) (by show ¬ (w.heap.size + 3 ≤ w.heap.size + 1); omega) (.int .i64 x2)).far (q := ⟨w.heap.size + 1, 3, none⟩) (by show ¬ (w.heap.size + 3 ≤ w.heap.size + 1); omega) (.slice p3' n3 c3')).far (q := ⟨w.heap.size + 1, 4, none⟩) (by show ¬ (w.heap.size + 3 ≤ w.heap.size + 1); omega) (.slice p4' n4 c4')).far (q := ⟨w.heap.size + 1, 5, none⟩) (by show ¬ (w.heap.size + 3 ≤ w.heap.size + 1); omega) (.int .i64 x5)).far (q := ⟨w.heap.size + 1, 6, none⟩) (by show ¬ (w.heap.size + 3 ≤ w.heap.size + 1); omega) (.int .i64 x6)).far (q := ⟨w.heap.size + 1, 7, none⟩) (by show ¬ (w.heap.size + 3 ≤ w.heap.size + 1); omega) (.int .i64 x7)).far (q := ⟨w.heap.size + 1, 8, none⟩) (by show ¬ (w.heap.size + 3 ≤ w.heap.size + 1); omega) (.int .i64 x8)).far (q := ⟨w.heap.size + 1, 9, none⟩) (by show ¬ (w.heap.size + 3 ≤ w.heap.size + 1); omega) (.int .i64 x9)).far (q := ⟨w.heap.size + 1, 10, none⟩) (by show ¬ (w.heap.size + 3 ≤ w.heap.size + 1); omega) (.int .i64 x10)).far (q := ⟨w.heap.size + 1, 11, none⟩) (by show ¬ (w.heap.size + 3 ≤ w.heap.size + 1); omega) (.int .i64 x11)).far (q := ⟨w.heap.size + 1, 12, none⟩) (by show ¬ (w.heap.size + 3 ≤ w.heap.size + 1); omega) (.int .i64 x12)).far (q := ⟨w.heap.size + 1, 13, none⟩) (by show ¬ (w.heap.size + 3 ≤ w.heap.size + 1); omega) (.int .i64 x13)).far (q := ⟨w.heap.size + 1, 14, none⟩) (by show ¬ (w.heap.size + 3 ≤ w.heap.size + 1); omega) (.slice p14' n14 c14')).far (q := ⟨w.heap.size + 1, 15, none⟩) (by show ¬ (w.heap.size + 3 ≤ w.heap.size + 1); omega) (.slice p15' n15 c15'))).mono fun b hb => by omega), ((((((((((((((((((((HQ15.out.far (q := ⟨w.heap.size + 1 + 1, 14, none⟩) (by show ¬ (w.heap.size + 3 ≤ w.heap.size + 1 + 1); omega) (.slice p14' n14 c14')).far (q := ⟨w.heap.size + 1 + 1, 15, none⟩) (by show ¬ (w.heap.size + 3 ≤ w.heap.size + 1 + 1); omega) (.slice p15' n15 c15')).far (q := ⟨w.heap.size + 1, 0, none⟩) (by show ¬ (w.heap.size + 3 ≤ w.heap.size + 1); omega) (.int .i64 x0)).far (q := ⟨w.heap.size + 1, 1, none⟩) (by show ¬ (w.heap.size + 3 ≤ w.heap.size + 1); omega) (.int .i64 x1)).far (q := ⟨w.heap.size + 1, 2, none⟩) (by show ¬ (w.heap.size + 3 ≤ w.heap.size + 1); omega) (.int .i64 x2)).far (q := ⟨w.heap.size + 1, 3, none⟩) (by show ¬ (w.heap.size + 3 ≤ w.heap.size + 1); omega) (.slice p3' n3 c3')).far (q := ⟨w.heap.size + 1, 4, none⟩) (by show ¬ (w.heap.size + 3 ≤ w.heap.size + 1); omega) (.slice p4' n4 c4')).far (q := ⟨w.heap.size + 1, 5, none⟩) (by show ¬ (w.heap.size + 3 ≤ w.heap.size + 1); omega) (.int .i64 x5)).far (q := ⟨w.heap.size + 1, 6, none⟩) (by show ¬ (w.heap.size + 3 ≤ w.heap.size + 1); omega) (.int .i64 x6)).far (q := ⟨w.heap.size + 1, 7, none⟩) (by show ¬ (w.heap.size + 3 ≤ w.heap.size + 1); omega) (.int .i64 x7)).far (q := ⟨w.heap.size + 1, 8, none⟩) (by show ¬ (w.heap.size + 3 ≤ w.heap.size + 1); omega) (.int .i64 x8)).far (q := ⟨w.heap.size + 1, 9, none⟩) (by show ¬ (w.heap.size + 3 ≤ w.heap.size + 1); omega) (.int .i64 x9)).far (q := ⟨w.heap.size + 1, 10, none⟩) (by show ¬ (w.heap.size + 3 ≤ w.heap.size + 1); omega) (.int .i64 x10)).far (q := ⟨w.heap.size + 1, 11, none⟩) (by show ¬ (w.heap.size + 3 ≤ w.heap.size + 1); omega) (.int .i64 x11)).far (q := ⟨w.heap.size + 1, 12, none⟩) (by show ¬ (w.heap.size + 3 ≤ w.heap.size + 1); omega) (.int .i64 x12)).far (q := ⟨w.heap.size + 1, 13, none⟩) (by show ¬ (w.heap.size + 3 ≤ w.heap.size + 1); omega) (.int .i64 x13)).far (q := ⟨w.heap.size + 1, 14, none⟩) (by show ¬ (w.heap.size + 3 ≤ w.heap.size + 1); omega) (.slice p14' n14 c14')).far (q := ⟨w.heap.size + 1, 15, none⟩) (by show ¬ (w.heap.size + 3 ≤ w.heap.size + 1); omega) (.slice p15' n15 c15'))).mono fun b hb => by omega), HK3.out, HK4.out, HK14.out, HK15.out, ((((((((((((((((((HB.out.setCell (p := ⟨w.heap.size + 1 + 1, 14, none⟩) (by show w.heap.size ≤ w.heap.size + 1 + 1; omega) (.slice p14' n14 c14')).setCell (p := ⟨w.heap.size + 1 + 1, 15, none⟩) (by show w.heap.size ≤ w.heap.size + 1 + 1; omega) (.slice p15' n15 c15')).setCell (p := ⟨w.heap.size + 1, 0, none⟩) (by show w.heap.size ≤ w.heap.size + 1; omega) (.int .i64 x0)).setCell (p := ⟨w.heap.size + 1, 1, none⟩) (by show w.heap.size ≤ w.heap.size + 1; omega) (.int .i64 x1)).setCell (p := ⟨w.heap.size + 1, 2, none⟩) (by show w.heap.size ≤ w.heap.size + 1; omega) (.int .i64 x2)).setCell (p := ⟨w.heap.size + 1, 3, none⟩) (by show w.heap.size ≤ w.heap.size + 1; omega) (.slice p3' n3 c3')).setCell (p := ⟨w.heap.size + 1, 4, none⟩) (by show w.heap.size ≤ w.heap.size + 1; omega) (.slice p4' n4 c4')).setCell (p := ⟨w.heap.size + 1, 5, none⟩) (by show w.heap.size ≤ w.heap.size + 1; omega) (.int .i64 x5)).setCell (p := ⟨w.heap.size + 1, 6, none⟩) (by show w.heap.size ≤ w.heap.size + 1; omega) (.int .i64 x6)).setCell (p := ⟨w.heap.size + 1, 7, none⟩) (by show w.heap.size ≤ w.heap.size + 1; omega) (.int .i64 x7)).setCell (p := ⟨w.heap.size + 1, 8, none⟩) (by show w.heap.size ≤ w.heap.size + 1; omega) (.int .i64 x8)).setCell (p := ⟨w.heap.size + 1, 9, none⟩) (by show w.heap.size ≤ w.heap.size + 1; omega) (.int .i64 x9)).setCell (p := ⟨w.heap.size + 1, 10, none⟩) (by show w.heap.size ≤ w.heap.size + 1; omega) (.int .i64 x10)).setCell (p := ⟨w.heap.size + 1, 11, none⟩) (by show w.heap.size ≤ w.heap.size + 1; omega) (.int .i64 x11)).setCell (p := ⟨w.heap.size + 1, 12, none⟩) (by show w.heap.size ≤ w.heap.size + 1; omega) (.int .i64 x12)).setCell (p := ⟨w.heap.size + 1, 13, none⟩) (by show w.heap.size ≤ w.heap.size + 1; omega) (.int .i64 x13)).setCell (p := ⟨w.heap.size + 1, 14, none⟩) (by show w.heap.size ≤ w.heap.size + 1; omega) (.slice p14' n14 c14')).setCell (p := ⟨w.heap.size + 1, 15, none⟩) (by show w.heap.size ≤ w.heap.size + 1; omega) (.slice p15' n15 c15'))⟩
theorem to_any (x0 : Int) (x1 : Int) (x2 : Int) (l3 : List ByteArray) (p3 : Option Addr) (n3 c3 : Nat) (l4 : List Int) (p4 : Option Addr) (n4 c4 : Nat) (x5 : Int) (x6 : Int) (x7 : Int) (x8 : Int) (x9 : Int) (x10 : Int) (x11 : Int) (x12 : Int) (x13 : Int) (l14 : List DpPiece.A) (p14 : Option Addr) (n14 c14 : Nat) (l15 : List DpRenewal.A) (p15 : Option Addr) (n15 c15 : Nat) {S3 S4 S14 S15 : Nat → Prop} (w : World) (h3 : RdD str S3 w p3 n3 l3) (h4 : RdD int S4 w p4 n4 l4) (h14 : RdD DpPiece.E S14 w p14 n14 l14) (h15 : RdD DpRenewal.E S15 w p15 n15 l15) (hm : E.wt (x0, x1, (x2, l3, l4), (x5, x6, x7, x8, x9, x10, x11, x12, x13), (l14, l15)) ≤ 1048576) : Calls Try.prog 23 #[.agg #[.int .i64 x0, .int .i64 x1, .int .i64 x2, .slice p3 n3 c3, .slice p4 n4 c4, .int .i64 x5, .int .i64 x6, .int .i64 x7, .int .i64 x8, .int .i64 x9, .int .i64 x10, .int .i64 x11, .int .i64 x12, .int .i64 x13, .slice p14 n14 c14, .slice p15 n15 c15]] w fun e w' => ∃ (p3' : Option Addr) (c3' : Nat) (p4' : Option Addr) (c4' : Nat) (p14' : Option Addr) (c14' : Nat) (p15' : Option Addr) (c15' : Nat), e = .returned (.agg #[.int .i64 x0, .int .i64 x1, .int .i64 x2, .slice p3' n3 c3', .slice p4' n4 c4', .int .i64 x5, .int .i64 x6, .int .i64 x7, .int .i64 x8, .int .i64 x9, .int .i64 x10, .int .i64 x11, .int .i64 x12, .int .i64 x13, .slice p14' n14 c14', .slice p15' n15 c15']) ∧ RdD str (fun b => w.heap.size ≤ b) w' p3' n3 l3 ∧ RdD int (fun b => w.heap.size ≤ b) w' p4' n4 l4 ∧ RdD DpPiece.E (fun b => w.heap.size ≤ b) w' p14' n14 l14 ∧ RdD DpRenewal.E (fun b => w.heap.size ≤ b) w' p15' n15 l15 ∧ Below w.heap.size w w' := by
  refine (toK_any x0 x1 x2 l3 p3 n3 c3 l4 p4 n4 c4 x5 x6 x7 x8 x9 x10 x11 x12 x13 l14 p14 n14 c14 l15 p15 n15 c15 w h3 h4 h14 h15 hm).mono ?_
  rintro e w' ⟨p3', c3', p4', c4', p14', c14', p15', c15', he, o3, o4, o14, o15, _, _, _, _, hb⟩
  exact ⟨p3', c3', p4', c4', p14', c14', p15', c15', he, o3, o4, o14, o15, hb⟩
set_option maxRecDepth 100000 in
set_option maxHeartbeats 4000000 in
theorem eq_any (x0 : Int) (x1 : Int) (x2 : Int) (l3 : List ByteArray) (p3 p3' : Option Addr) (n3 c3 c3' : Nat) (l4 : List Int) (p4 p4' : Option Addr) (n4 c4 c4' : Nat) (x5 : Int) (x6 : Int) (x7 : Int) (x8 : Int) (x9 : Int) (x10 : Int) (x11 : Int) (x12 : Int) (x13 : Int) (l14 : List DpPiece.A) (p14 p14' : Option Addr) (n14 c14 c14' : Nat) (l15 : List DpRenewal.A) (p15 p15' : Option Addr) (n15 c15 c15' : Nat) {S3 S3' S4 S4' S14 S14' S15 S15' : Nat → Prop} (w : World) (h3 : RdD str S3 w p3 n3 l3) (h3' : RdD str S3' w p3' n3 l3) (h4 : RdD int S4 w p4 n4 l4) (h4' : RdD int S4' w p4' n4 l4) (h14 : RdD DpPiece.E S14 w p14 n14 l14) (h14' : RdD DpPiece.E S14' w p14' n14 l14) (h15 : RdD DpRenewal.E S15 w p15 n15 l15) (h15' : RdD DpRenewal.E S15' w p15' n15 l15) : Calls Try.prog 26 #[.agg #[.int .i64 x0, .int .i64 x1, .int .i64 x2, .slice p3 n3 c3, .slice p4 n4 c4, .int .i64 x5, .int .i64 x6, .int .i64 x7, .int .i64 x8, .int .i64 x9, .int .i64 x10, .int .i64 x11, .int .i64 x12, .int .i64 x13, .slice p14 n14 c14, .slice p15 n15 c15], .agg #[.int .i64 x0, .int .i64 x1, .int .i64 x2, .slice p3' n3 c3', .slice p4' n4 c4', .int .i64 x5, .int .i64 x6, .int .i64 x7, .int .i64 x8, .int .i64 x9, .int .i64 x10, .int .i64 x11, .int .i64 x12, .int .i64 x13, .slice p14' n14 c14', .slice p15' n15 c15']] w (Yes w) := by
  have HP3 := Lib.hid h3
  have HP3' := Lib.hid h3'
  have HP4 := Lib.hid h4
  have HP4' := Lib.hid h4'
  have HP14 := Lib.hid h14
  have HP14' := Lib.hid h14'
  have HP15 := Lib.hid h15
  have HP15' := Lib.hid h15'
  clear h3 h3' h4 h4' h14 h14' h15 h15'
  have HB := Lib.hid ((box1 w (.cells #[.int .i64 x0, .int .i64 x1, .int .i64 x2, .slice p3 n3 c3, .slice p4 n4 c4, .int .i64 x5, .int .i64 x6, .int .i64 x7, .int .i64 x8, .int .i64 x9, .int .i64 x10, .int .i64 x11, .int .i64 x12, .int .i64 x13, .slice p14 n14 c14, .slice p15 n15 c15] 61)).alloc (by simp) (.cells #[.int .i64 x0, .int .i64 x1, .int .i64 x2, .slice p3' n3 c3', .slice p4' n4 c4', .int .i64 x5, .int .i64 x6, .int .i64 x7, .int .i64 x8, .int .i64 x9, .int .i64 x10, .int .i64 x11, .int .i64 x12, .int .i64 x13, .slice p14' n14 c14', .slice p15' n15 c15'] 61))
  have HX := Lib.hid ((Bx.new w 61 #[.int .i64 x0, .int .i64 x1, .int .i64 x2, .slice p3 n3 c3, .slice p4 n4 c4, .int .i64 x5, .int .i64 x6, .int .i64 x7, .int .i64 x8, .int .i64 x9, .int .i64 x10, .int .i64 x11, .int .i64 x12, .int .i64 x13, .slice p14 n14 c14, .slice p15 n15 c15]).alloc (.cells #[.int .i64 x0, .int .i64 x1, .int .i64 x2, .slice p3' n3 c3', .slice p4' n4 c4', .int .i64 x5, .int .i64 x6, .int .i64 x7, .int .i64 x8, .int .i64 x9, .int .i64 x10, .int .i64 x11, .int .i64 x12, .int .i64 x13, .slice p14' n14 c14', .slice p15' n15 c15'] 61))
  have hy := Bx.new (w.alloc (.cells #[.int .i64 x0, .int .i64 x1, .int .i64 x2, .slice p3 n3 c3, .slice p4 n4 c4, .int .i64 x5, .int .i64 x6, .int .i64 x7, .int .i64 x8, .int .i64 x9, .int .i64 x10, .int .i64 x11, .int .i64 x12, .int .i64 x13, .slice p14 n14 c14, .slice p15 n15 c15] 61)) 61 #[.int .i64 x0, .int .i64 x1, .int .i64 x2, .slice p3' n3 c3', .slice p4' n4 c4', .int .i64 x5, .int .i64 x6, .int .i64 x7, .int .i64 x8, .int .i64 x9, .int .i64 x10, .int .i64 x11, .int .i64 x12, .int .i64 x13, .slice p14' n14 c14', .slice p15' n15 c15']
  rw [World.size_alloc] at hy
  have HY := Lib.hid hy
  clear hy
  go_enter Try.func26, Try.ntmps26
  go_wp2_with fail
  refine (DpDocument.eq_any _ _ _ _ _ _ _ _ _ _ _ _ _ _ (HP3.out.below HB.out) (HP3'.out.below HB.out) (HP4.out.below HB.out) (HP4'.out.below HB.out)).mono ?_
  rintro e w1 ⟨rfl, hb⟩
  replace HB := Lib.hid (below_on HB.out hb)
  replace HX := Lib.hid (HX.out.below hb)
  replace HY := Lib.hid (HY.out.below hb)
  clear hb
  obtain ⟨x0_, x1_, x2_, x3_, x4_, x5_, x6_, x7_, x8_, x9_, x10_, x11_, x12_, x13_, x14_, x15_⟩ := bxc HX.out
  obtain ⟨y0_, y1_, y2_, y3_, y4_, y5_, y6_, y7_, y8_, y9_, y10_, y11_, y12_, y13_, y14_, y15_⟩ := bxc HY.out
  go_wp2_with fail
  refine (SlSignature.same_any _ _ _ _ _ _ _ _ _ _).mono ?_
  rintro e w2 ⟨rfl, hb⟩
  clear x0_ y0_ x1_ y1_ x2_ y2_ x3_ y3_ x4_ y4_ x5_ y5_ x6_ y6_ x7_ y7_ x8_ y8_ x9_ y9_ x10_ y10_ x11_ y11_ x12_ y12_ x13_ y13_ x14_ y14_ x15_ y15_
  replace HB := Lib.hid (below_on HB.out hb)
  replace HX := Lib.hid (HX.out.below hb)
  replace HY := Lib.hid (HY.out.below hb)
  clear hb
  obtain ⟨x0_, x1_, x2_, x3_, x4_, x5_, x6_, x7_, x8_, x9_, x10_, x11_, x12_, x13_, x14_, x15_⟩ := bxc HX.out
  obtain ⟨y0_, y1_, y2_, y3_, y4_, y5_, y6_, y7_, y8_, y9_, y10_, y11_, y12_, y13_, y14_, y15_⟩ := bxc HY.out
  go_wp2_with fail
  refine (DpStrand.eq_any _ _ _ _ _ _ _ _ _ _ _ _ _ (HP14.out.below HB.out) (HP14'.out.below HB.out) (HP15.out.below HB.out) (HP15'.out.below HB.out)).mono ?_
  rintro e w3 ⟨rfl, hb⟩
  clear x0_ y0_ x1_ y1_ x2_ y2_ x3_ y3_ x4_ y4_ x5_ y5_ x6_ y6_ x7_ y7_ x8_ y8_ x9_ y9_ x10_ y10_ x11_ y11_ x12_ y12_ x13_ y13_ x14_ y14_ x15_ y15_
  replace HB := Lib.hid (below_on HB.out hb)
  replace HX := Lib.hid (HX.out.below hb)
  replace HY := Lib.hid (HY.out.below hb)
  clear hb
  obtain ⟨x0_, x1_, x2_, x3_, x4_, x5_, x6_, x7_, x8_, x9_, x10_, x11_, x12_, x13_, x14_, x15_⟩ := bxc HX.out
  obtain ⟨y0_, y1_, y2_, y3_, y4_, y5_, y6_, y7_, y8_, y9_, y10_, y11_, y12_, y13_, y14_, y15_⟩ := bxc HY.out
  go_wp2_with fail
  go_ret
  exact ⟨rfl, HB.out⟩
set_option maxRecDepth 100000 in
set_option maxHeartbeats 4000000 in
theorem sz_fits (x0 : Int) (x1 : Int) (x2 : Int) (l3 : List ByteArray) (p3 : Option Addr) (n3 c3 : Nat) (l4 : List Int) (p4 : Option Addr) (n4 c4 : Nat) (x5 : Int) (x6 : Int) (x7 : Int) (x8 : Int) (x9 : Int) (x10 : Int) (x11 : Int) (x12 : Int) (x13 : Int) (l14 : List DpPiece.A) (p14 : Option Addr) (n14 c14 : Nat) (l15 : List DpRenewal.A) (p15 : Option Addr) (n15 c15 : Nat) {S3 S4 S14 S15 : Nat → Prop} (m : Nat) (left : Int) (w : World) (hm : E.wt (x0, x1, (x2, l3, l4), (x5, x6, x7, x8, x9, x10, x11, x12, x13), (l14, l15)) = m) (h3 : RdD str S3 w p3 n3 l3) (h4 : RdD int S4 w p4 n4 l4) (h14 : RdD DpPiece.E S14 w p14 n14 l14) (h15 : RdD DpRenewal.E S15 w p15 n15 l15) (g1 : left ≤ 1048576) (g2 : m ≤ left) : Calls Try.prog 21 #[.agg #[.int .i64 x0, .int .i64 x1, .int .i64 x2, .slice p3 n3 c3, .slice p4 n4 c4, .int .i64 x5, .int .i64 x6, .int .i64 x7, .int .i64 x8, .int .i64 x9, .int .i64 x10, .int .i64 x11, .int .i64 x12, .int .i64 x13, .slice p14 n14 c14, .slice p15 n15 c15], .int .i64 left] w (Val (.int .i64 (left - m)) w) := by
  rw [wt_eq] at hm
  have k3 := h3.len
  have e3 := h3.le
  have HP3 := Lib.hid h3
  have k4 := h4.len
  have e4 := h4.le
  have HP4 := Lib.hid h4
  have k14 := h14.len
  have e14 := h14.le
  have HP14 := Lib.hid h14
  have k15 := h15.len
  have e15 := h15.le
  have HP15 := Lib.hid h15
  have m0 : DpDocument.E.wt (x2, l3, l4) = DpDocument.E.wt (x2, l3, l4) := rfl
  have m1 : DpStrand.E.wt (l14, l15) = DpStrand.E.wt (l14, l15) := rfl
  have ht : DpDocument.E.wt (x2, l3, l4) + DpStrand.E.wt (l14, l15) = m := by omega
  clear hm h3 k3 h4 k4 h14 k14 h15 k15 m0 m1 
  subst ht
  have HB := Lib.hid (box1 w (.cells #[.int .i64 x0, .int .i64 x1, .int .i64 x2, .slice p3 n3 c3, .slice p4 n4 c4, .int .i64 x5, .int .i64 x6, .int .i64 x7, .int .i64 x8, .int .i64 x9, .int .i64 x10, .int .i64 x11, .int .i64 x12, .int .i64 x13, .slice p14 n14 c14, .slice p15 n15 c15] 52))
  have HX := Lib.hid (Bx.new w 52 #[.int .i64 x0, .int .i64 x1, .int .i64 x2, .slice p3 n3 c3, .slice p4 n4 c4, .int .i64 x5, .int .i64 x6, .int .i64 x7, .int .i64 x8, .int .i64 x9, .int .i64 x10, .int .i64 x11, .int .i64 x12, .int .i64 x13, .slice p14 n14 c14, .slice p15 n15 c15])
  go_enter Try.func21, Try.ntmps21
  go_wp2_with fail
  refine (DpDocument.sz_fits _ _ _ _ _ _ _ _ _ _ _ _ rfl (HP3.out.below HB.out) (HP4.out.below HB.out) (by omega) (by omega)).mono ?_
  rintro e w1 ⟨rfl, hb⟩
  replace HB := Lib.hid (below_on HB.out hb)
  replace HX := Lib.hid (HX.out.below hb)
  clear hb
  obtain ⟨x0_, x1_, x2_, x3_, x4_, x5_, x6_, x7_, x8_, x9_, x10_, x11_, x12_, x13_, x14_, x15_⟩ := bxc HX.out
  go_wp2_with fail
  refine (DpStrand.sz_fits _ _ _ _ _ _ _ _ _ _ _ rfl (HP14.out.below HB.out) (HP15.out.below HB.out) (by omega) (by omega)).mono ?_
  rintro e w2 ⟨rfl, hb⟩
  clear x0_ x1_ x2_ x3_ x4_ x5_ x6_ x7_ x8_ x9_ x10_ x11_ x12_ x13_ x14_ x15_
  replace HB := Lib.hid (below_on HB.out hb)
  replace HX := Lib.hid (HX.out.below hb)
  clear hb
  go_wp2_with fail
  go_ret
  refine val_of ?_ HB.out
  show Value.int .i64 (left - (((DpDocument.E.wt (x2, l3, l4)) : Nat) : Int) - (((DpStrand.E.wt (l14, l15)) : Nat) : Int)) = _
  first | rfl | (congr 1; omega)
set_option maxRecDepth 100000 in
set_option maxHeartbeats 4000000 in
theorem sz_big (x0 : Int) (x1 : Int) (x2 : Int) (l3 : List ByteArray) (p3 : Option Addr) (n3 c3 : Nat) (l4 : List Int) (p4 : Option Addr) (n4 c4 : Nat) (x5 : Int) (x6 : Int) (x7 : Int) (x8 : Int) (x9 : Int) (x10 : Int) (x11 : Int) (x12 : Int) (x13 : Int) (l14 : List DpPiece.A) (p14 : Option Addr) (n14 c14 : Nat) (l15 : List DpRenewal.A) (p15 : Option Addr) (n15 c15 : Nat) {S3 S4 S14 S15 : Nat → Prop} (m : Nat) (left : Int) (w : World) (hm : E.wt (x0, x1, (x2, l3, l4), (x5, x6, x7, x8, x9, x10, x11, x12, x13), (l14, l15)) = m) (h3 : RdD str S3 w p3 n3 l3) (h4 : RdD int S4 w p4 n4 l4) (h14 : RdD DpPiece.E S14 w p14 n14 l14) (h15 : RdD DpRenewal.E S15 w p15 n15 l15) (g0 : 0 ≤ left) (g1 : left ≤ 1048576) (g2 : left < m) : Calls Try.prog 21 #[.agg #[.int .i64 x0, .int .i64 x1, .int .i64 x2, .slice p3 n3 c3, .slice p4 n4 c4, .int .i64 x5, .int .i64 x6, .int .i64 x7, .int .i64 x8, .int .i64 x9, .int .i64 x10, .int .i64 x11, .int .i64 x12, .int .i64 x13, .slice p14 n14 c14, .slice p15 n15 c15], .int .i64 left] w (Val (.int .i64 (-1)) w) := by
  rw [wt_eq] at hm
  have k3 := h3.len
  have e3 := h3.le
  have HP3 := Lib.hid h3
  have k4 := h4.len
  have e4 := h4.le
  have HP4 := Lib.hid h4
  have k14 := h14.len
  have e14 := h14.le
  have HP14 := Lib.hid h14
  have k15 := h15.len
  have e15 := h15.le
  have HP15 := Lib.hid h15
  have m0 : DpDocument.E.wt (x2, l3, l4) = DpDocument.E.wt (x2, l3, l4) := rfl
  have m1 : DpStrand.E.wt (l14, l15) = DpStrand.E.wt (l14, l15) := rfl
  have ht : DpDocument.E.wt (x2, l3, l4) + DpStrand.E.wt (l14, l15) = m := by omega
  clear hm h3 k3 h4 k4 h14 k14 h15 k15 m0 m1 
  subst ht
  have G := Lib.hid g2
  clear g2
  have HB := Lib.hid (box1 w (.cells #[.int .i64 x0, .int .i64 x1, .int .i64 x2, .slice p3 n3 c3, .slice p4 n4 c4, .int .i64 x5, .int .i64 x6, .int .i64 x7, .int .i64 x8, .int .i64 x9, .int .i64 x10, .int .i64 x11, .int .i64 x12, .int .i64 x13, .slice p14 n14 c14, .slice p15 n15 c15] 52))
  have HX := Lib.hid (Bx.new w 52 #[.int .i64 x0, .int .i64 x1, .int .i64 x2, .slice p3 n3 c3, .slice p4 n4 c4, .int .i64 x5, .int .i64 x6, .int .i64 x7, .int .i64 x8, .int .i64 x9, .int .i64 x10, .int .i64 x11, .int .i64 x12, .int .i64 x13, .slice p14 n14 c14, .slice p15 n15 c15])
  by_cases hc0 : left < ((DpDocument.E.wt (x2, l3, l4) : Nat) : Int)
  · go_enter Try.func21, Try.ntmps21
    go_wp2_with fail
    refine (DpDocument.sz_big _ _ _ _ _ _ _ _ _ _ _ _ rfl (HP3.out.below HB.out) (HP4.out.below HB.out) (by omega) (by omega) (by have := G.out; omega)).mono ?_
    rintro e w1 ⟨rfl, hb⟩
    replace HB := Lib.hid (below_on HB.out hb)
    replace HX := Lib.hid (HX.out.below hb)
    clear hb
    go_wp2_with fail
    go_ret
    exact ⟨rfl, HB.out⟩
  go_enter Try.func21, Try.ntmps21
  go_wp2_with fail
  refine (DpDocument.sz_fits _ _ _ _ _ _ _ _ _ _ _ _ rfl (HP3.out.below HB.out) (HP4.out.below HB.out) (by omega) (by omega)).mono ?_
  rintro e w1 ⟨rfl, hb⟩
  replace HB := Lib.hid (below_on HB.out hb)
  replace HX := Lib.hid (HX.out.below hb)
  clear hb
  obtain ⟨x0_, x1_, x2_, x3_, x4_, x5_, x6_, x7_, x8_, x9_, x10_, x11_, x12_, x13_, x14_, x15_⟩ := bxc HX.out
  go_wp2_with fail
  refine (DpStrand.sz_big _ _ _ _ _ _ _ _ _ _ _ rfl (HP14.out.below HB.out) (HP15.out.below HB.out) (by omega) (by omega) (by have := G.out; omega)).mono ?_
  rintro e w2 ⟨rfl, hb⟩
  clear x0_ x1_ x2_ x3_ x4_ x5_ x6_ x7_ x8_ x9_ x10_ x11_ x12_ x13_ x14_ x15_
  replace HB := Lib.hid (below_on HB.out hb)
  replace HX := Lib.hid (HX.out.below hb)
  clear hb
  go_wp2_with fail
  go_ret
  exact ⟨rfl, HB.out⟩
theorem at_cells {w : World} {b q : Nat} {v0 : Value} {v1 : Value} {v2 : Value} {v3 : Value} {v4 : Value} {v5 : Value} {v6 : Value} {v7 : Value} {v8 : Value} {v9 : Value} {v10 : Value} {v11 : Value} {v12 : Value} {v13 : Value} {v14 : Value} {v15 : Value} (h : ∀ j v, [v0, v1, v2, v3, v4, v5, v6, v7, v8, v9, v10, v11, v12, v13, v14, v15][j]? = some v → w.cell? ⟨b, q + j, none⟩ = some v) : w.cell? ⟨b, q, none⟩ = some v0 ∧ w.cell? ⟨b, q + 1, none⟩ = some v1 ∧ w.cell? ⟨b, q + 2, none⟩ = some v2 ∧ w.cell? ⟨b, q + 3, none⟩ = some v3 ∧ w.cell? ⟨b, q + 4, none⟩ = some v4 ∧ w.cell? ⟨b, q + 5, none⟩ = some v5 ∧ w.cell? ⟨b, q + 6, none⟩ = some v6 ∧ w.cell? ⟨b, q + 7, none⟩ = some v7 ∧ w.cell? ⟨b, q + 8, none⟩ = some v8 ∧ w.cell? ⟨b, q + 9, none⟩ = some v9 ∧ w.cell? ⟨b, q + 10, none⟩ = some v10 ∧ w.cell? ⟨b, q + 11, none⟩ = some v11 ∧ w.cell? ⟨b, q + 12, none⟩ = some v12 ∧ w.cell? ⟨b, q + 13, none⟩ = some v13 ∧ w.cell? ⟨b, q + 14, none⟩ = some v14 ∧ w.cell? ⟨b, q + 15, none⟩ = some v15 := ⟨h 0 _ rfl, h 1 _ rfl, h 2 _ rfl, h 3 _ rfl, h 4 _ rfl, h 5 _ rfl, h 6 _ rfl, h 7 _ rfl, h 8 _ rfl, h 9 _ rfl, h 10 _ rfl, h 11 _ rfl, h 12 _ rfl, h 13 _ rfl, h 14 _ rfl, h 15 _ rfl⟩
theorem info : (Try.prog.info? 61).map (fun i => (i.zero, i.size, i.bytes)) = some (some (.agg #[.int .i64 0, .int .i64 0, .int .i64 0, .slice none 0 0, .slice none 0 0, .int .i64 0, .int .i64 0, .int .i64 0, .int .i64 0, .int .i64 0, .int .i64 0, .int .i64 0, .int .i64 0, .int .i64 0, .slice none 0 0, .slice none 0 0]), 16, 192) := by kernel_rfl
end Go.Proofs.Ytpjckbdljbpliaa.DpItem
