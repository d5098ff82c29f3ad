/- Contracts of the laws' helpers over World: opened, measured, copied, compared; by value and in slices. -/
import Derived.Test.YtpjckbdljbpliaaGreatEd
import Derived.Test.YtpjckbdljbpliaaGreatDz
import Derived.Test.YtpjckbdljbpliaaGreatSlI
import Derived.Test.YtpjckbdljbpliaaGreatDpFrame
import Derived.Test.YtpjckbdljbpliaaGreatSlCert
import Derived.Test.YtpjckbdljbpliaaGreatSlI
import Derived.Test.YtpjckbdljbpliaaGreatDpArchive
import Derived.OpenShut
import Derived.Deep.Fields
import Derived.Deep.RegionHeld3
import Derived.LoopTactic
import Derived.Outline
namespace Go.Proofs.YtpjckbdljbpliaaGreat.DpWorld
open Go.ChangeShapes Go.WideShapes Go.ChangeAt Go.RowKit Sl St Ed Dz
abbrev A := DpFrame.A × (List (Int × Int × Int × Int × Int × Int × Int)) × (List Int) × (List DpArchive.A) × (List Int) × (List Int) × Int × (List Int)
def E : Ent A := pair DpFrame.E (pair (sl (flat SlCert.E SlCert.InR)) (pair (sl int) (pair (sl DpArchive.E) (pair (sl int) (pair (sl int) (pair int (sl int)))))))
theorem C_eq : E.C = 12 := rfl
theorem exk {S : Nat → Prop} {w : World} {cs : List Value} {l0 : List (Int × Int × Int × Int × Int)} {l1 : List (Int × Int × Int)} {l2 : List (Int × Int × Int × Int)} {x3 : Int} {x4 : Int} {l5 : List (Int × Int × Int × Int × Int × Int × Int)} {l6 : List Int} {l7 : List DpArchive.A} {l8 : List Int} {l9 : List Int} {x10 : Int} {l11 : List Int} (h : E.rd S w cs ((l0, l1, l2, x3, x4), l5, l6, l7, l8, l9, x10, l11)) : ∃ (p0 : Option Addr) (n0 c0 : Nat) (p1 : Option Addr) (n1 c1 : Nat) (p2 : Option Addr) (n2 c2 : Nat) (p5 : Option Addr) (n5 c5 : Nat) (p6 : Option Addr) (n6 c6 : Nat) (p7 : Option Addr) (n7 c7 : Nat) (p8 : Option Addr) (n8 c8 : Nat) (p9 : Option Addr) (n9 c9 : Nat) (p11 : Option Addr) (n11 c11 : Nat), cs = [.slice p0 n0 c0, .slice p1 n1 c1, .slice p2 n2 c2, .int .i64 x3, .int .i64 x4, .slice p5 n5 c5, .slice p6 n6 c6, .slice p7 n7 c7, .slice p8 n8 c8, .slice p9 n9 c9, .int .i64 x10, .slice p11 n11 c11] ∧ RdD (flat SlKey.E SlKey.InR) S w p0 n0 l0 ∧ RdD (flat SlAuthority.E SlAuthority.InR) S w p1 n1 l1 ∧ RdD (flat SlMethod.E SlMethod.InR) S w p2 n2 l2 ∧ InI x3 ∧ InI x4 ∧ RdD (flat SlCert.E SlCert.InR) S w p5 n5 l5 ∧ RdD int S w p6 n6 l6 ∧ RdD DpArchive.E S w p7 n7 l7 ∧ RdD int S w p8 n8 l8 ∧ RdD int S w p9 n9 l9 ∧ InI x10 ∧ RdD int S w p11 n11 l11 ∧ n0 ≤ c0 ∧ n1 ≤ c1 ∧ n2 ≤ c2 ∧ n5 ≤ c5 ∧ n6 ≤ c6 ∧ n7 ≤ c7 ∧ n8 ≤ c8 ∧ n9 ≤ c9 ∧ n11 ≤ c11 := by
  obtain ⟨d0, e0, rfl, g0, d1, e1, rfl, ⟨p5, n5, c5, rfl, k5, h5⟩, d2, e2, rfl, ⟨p6, n6, c6, rfl, k6, h6⟩, d3, e3, rfl, ⟨p7, n7, c7, rfl, k7, h7⟩, d4, e4, rfl, ⟨p8, n8, c8, rfl, k8, h8⟩, d5, e5, rfl, ⟨p9, n9, c9, rfl, k9, h9⟩, d6, e6, rfl, ⟨rfl, b10⟩, p11, n11, c11, rfl, k11, h11⟩ := h
  obtain ⟨p0, n0, c0, p1, n1, c1, p2, n2, c2, rfl, h0, h1, h2, b3, b4, k0, k1, k2⟩ := DpFrame.exk g0
  exact ⟨p0, n0, c0, p1, n1, c1, p2, n2, c2, p5, n5, c5, p6, n6, c6, p7, n7, c7, p8, n8, c8, p9, n9, c9, p11, n11, c11, rfl, h0, h1, h2, b3, b4, h5, h6, h7, h8, h9, b10, h11, k0, k1, k2, k5, k6, k7, k8, k9, k11⟩
theorem ex {S : Nat → Prop} {w : World} {cs : List Value} {l0 : List (Int × Int × Int × Int × Int)} {l1 : List (Int × Int × Int)} {l2 : List (Int × Int × Int × Int)} {x3 : Int} {x4 : Int} {l5 : List (Int × Int × Int × Int × Int × Int × Int)} {l6 : List Int} {l7 : List DpArchive.A} {l8 : List Int} {l9 : List Int} {x10 : Int} {l11 : List Int} (h : E.rd S w cs ((l0, l1, l2, x3, x4), l5, l6, l7, l8, l9, x10, l11)) : ∃ (p0 : Option Addr) (n0 c0 : Nat) (p1 : Option Addr) (n1 c1 : Nat) (p2 : Option Addr) (n2 c2 : Nat) (p5 : Option Addr) (n5 c5 : Nat) (p6 : Option Addr) (n6 c6 : Nat) (p7 : Option Addr) (n7 c7 : Nat) (p8 : Option Addr) (n8 c8 : Nat) (p9 : Option Addr) (n9 c9 : Nat) (p11 : Option Addr) (n11 c11 : Nat), cs = [.slice p0 n0 c0, .slice p1 n1 c1, .slice p2 n2 c2, .int .i64 x3, .int .i64 x4, .slice p5 n5 c5, .slice p6 n6 c6, .slice p7 n7 c7, .slice p8 n8 c8, .slice p9 n9 c9, .int .i64 x10, .slice p11 n11 c11] ∧ RdD (flat SlKey.E SlKey.InR) S w p0 n0 l0 ∧ RdD (flat SlAuthority.E SlAuthority.InR) S w p1 n1 l1 ∧ RdD (flat SlMethod.E SlMethod.InR) S w p2 n2 l2 ∧ InI x3 ∧ InI x4 ∧ RdD (flat SlCert.E SlCert.InR) S w p5 n5 l5 ∧ RdD int S w p6 n6 l6 ∧ RdD DpArchive.E S w p7 n7 l7 ∧ RdD int S w p8 n8 l8 ∧ RdD int S w p9 n9 l9 ∧ InI x10 ∧ RdD int S w p11 n11 l11 := by
  obtain ⟨p0, n0, c0, p1, n1, c1, p2, n2, c2, p5, n5, c5, p6, n6, c6, p7, n7, c7, p8, n8, c8, p9, n9, c9, p11, n11, c11, e, h0, h1, h2, b3, b4, h5, h6, h7, h8, h9, b10, h11, _⟩ := exk h
  exact ⟨p0, n0, c0, p1, n1, c1, p2, n2, c2, p5, n5, c5, p6, n6, c6, p7, n7, c7, p8, n8, c8, p9, n9, c9, p11, n11, c11, e, h0, h1, h2, b3, b4, h5, h6, h7, h8, h9, b10, h11⟩
theorem mk {S : Nat → Prop} {w : World} {l0 : List (Int × Int × Int × Int × Int)} {l1 : List (Int × Int × Int)} {l2 : List (Int × Int × Int × Int)} {x3 : Int} {x4 : Int} {l5 : List (Int × Int × Int × Int × Int × Int × Int)} {l6 : List Int} {l7 : List DpArchive.A} {l8 : List Int} {l9 : List Int} {x10 : Int} {l11 : List Int} {p0 : Option Addr} {n0 c0 : Nat} {p1 : Option Addr} {n1 c1 : Nat} {p2 : Option Addr} {n2 c2 : Nat} {p5 : Option Addr} {n5 c5 : Nat} {p6 : Option Addr} {n6 c6 : Nat} {p7 : Option Addr} {n7 c7 : Nat} {p8 : Option Addr} {n8 c8 : Nat} {p9 : Option Addr} {n9 c9 : Nat} {p11 : Option Addr} {n11 c11 : Nat} (h0 : RdD (flat SlKey.E SlKey.InR) S w p0 n0 l0) (h1 : RdD (flat SlAuthority.E SlAuthority.InR) S w p1 n1 l1) (h2 : RdD (flat SlMethod.E SlMethod.InR) S w p2 n2 l2) (b3 : InI x3) (b4 : InI x4) (h5 : RdD (flat SlCert.E SlCert.InR) S w p5 n5 l5) (h6 : RdD int S w p6 n6 l6) (h7 : RdD DpArchive.E S w p7 n7 l7) (h8 : RdD int S w p8 n8 l8) (h9 : RdD int S w p9 n9 l9) (b10 : InI x10) (h11 : RdD int S w p11 n11 l11) (k0 : n0 ≤ c0) (k1 : n1 ≤ c1) (k2 : n2 ≤ c2) (k5 : n5 ≤ c5) (k6 : n6 ≤ c6) (k7 : n7 ≤ c7) (k8 : n8 ≤ c8) (k9 : n9 ≤ c9) (k11 : n11 ≤ c11) : E.rd S w [.slice p0 n0 c0, .slice p1 n1 c1, .slice p2 n2 c2, .int .i64 x3, .int .i64 x4, .slice p5 n5 c5, .slice p6 n6 c6, .slice p7 n7 c7, .slice p8 n8 c8, .slice p9 n9 c9, .int .i64 x10, .slice p11 n11 c11] ((l0, l1, l2, x3, x4), l5, l6, l7, l8, l9, x10, l11) :=
  ⟨[.slice p0 n0 c0, .slice p1 n1 c1, .slice p2 n2 c2, .int .i64 x3, .int .i64 x4], [.slice p5 n5 c5, .slice p6 n6 c6, .slice p7 n7 c7, .slice p8 n8 c8, .slice p9 n9 c9, .int .i64 x10, .slice p11 n11 c11], rfl, DpFrame.mk h0 h1 h2 b3 b4 k0 k1 k2, [.slice p5 n5 c5], [.slice p6 n6 c6, .slice p7 n7 c7, .slice p8 n8 c8, .slice p9 n9 c9, .int .i64 x10, .slice p11 n11 c11], rfl, ⟨p5, n5, c5, rfl, k5, h5⟩, [.slice p6 n6 c6], [.slice p7 n7 c7, .slice p8 n8 c8, .slice p9 n9 c9, .int .i64 x10, .slice p11 n11 c11], rfl, ⟨p6, n6, c6, rfl, k6, h6⟩, [.slice p7 n7 c7], [.slice p8 n8 c8, .slice p9 n9 c9, .int .i64 x10, .slice p11 n11 c11], rfl, ⟨p7, n7, c7, rfl, k7, h7⟩, [.slice p8 n8 c8], [.slice p9 n9 c9, .int .i64 x10, .slice p11 n11 c11], rfl, ⟨p8, n8, c8, rfl, k8, h8⟩, [.slice p9 n9 c9], [.int .i64 x10, .slice p11 n11 c11], rfl, ⟨p9, n9, c9, rfl, k9, h9⟩, [.int .i64 x10], [.slice p11 n11 c11], rfl, ⟨rfl, b10⟩, ⟨p11, n11, c11, rfl, k11, h11⟩⟩
theorem bxc {w : World} {g : Nat} {T : TypeId} {y0 : Value} {y1 : Value} {y2 : Value} {y3 : Value} {y4 : Value} {y5 : Value} {y6 : Value} {y7 : Value} {y8 : Value} {y9 : Value} {y10 : Value} {y11 : Value} (h : Bx w g T #[y0, y1, y2, y3, y4, y5, y6, y7, y8, y9, y10, y11]) : w.cell? ⟨g, 0, none⟩ = some y0 ∧ w.cell? ⟨g, 1, none⟩ = some y1 ∧ w.cell? ⟨g, 2, none⟩ = some y2 ∧ w.cell? ⟨g, 3, none⟩ = some y3 ∧ w.cell? ⟨g, 4, none⟩ = some y4 ∧ w.cell? ⟨g, 5, none⟩ = some y5 ∧ w.cell? ⟨g, 6, none⟩ = some y6 ∧ w.cell? ⟨g, 7, none⟩ = some y7 ∧ w.cell? ⟨g, 8, none⟩ = some y8 ∧ w.cell? ⟨g, 9, none⟩ = some y9 ∧ w.cell? ⟨g, 10, none⟩ = some y10 ∧ w.cell? ⟨g, 11, none⟩ = some y11 := ⟨h.cell rfl, h.cell rfl, h.cell rfl, h.cell rfl, h.cell rfl, h.cell rfl, h.cell rfl, h.cell rfl, h.cell rfl, h.cell rfl, h.cell rfl, h.cell rfl⟩
theorem wt_eq (l0 : List (Int × Int × Int × Int × Int)) (l1 : List (Int × Int × Int)) (l2 : List (Int × Int × Int × Int)) (x3 : Int) (x4 : Int) (l5 : List (Int × Int × Int × Int × Int × Int × Int)) (l6 : List Int) (l7 : List DpArchive.A) (l8 : List Int) (l9 : List Int) (x10 : Int) (l11 : List Int) : E.wt ((l0, l1, l2, x3, x4), l5, l6, l7, l8, l9, x10, l11) = DpFrame.E.wt (l0, l1, l2, x3, x4) + (l5.length + wts (flat SlCert.E SlCert.InR) l5) + (l6.length + wts int l6) + (l7.length + wts DpArchive.E l7) + (l8.length + wts int l8) + (l9.length + wts int l9) + (l11.length + wts int l11) := by
  show DpFrame.E.wt (l0, l1, l2, x3, x4) + ((l5.length + wts (flat SlCert.E SlCert.InR) l5) + ((l6.length + wts int l6) + ((l7.length + wts DpArchive.E l7) + ((l8.length + wts int l8) + ((l9.length + wts int l9) + (0 + ((l11.length + wts int l11)))))))) = _
  omega
section
variable {H : Type} {enc : TypeId × Value → H} {W : World}
set_option maxRecDepth 100000 in
theorem open_cells {fuel : Nat} {cs : List Value} {X : DataW H × List MemPlace} (hl : cs.length = 12) (h : DataW.trod enc Tryz.prog W 0 (fun _ => true) true fuel 54 cs = some X) : ∃ x, E.rd (fun _ => True) W cs x := by
  have hi : ∃ f0 f1 f2 f3 f4 f5 f6 f7 : Field, Tryz.prog.underlying 54 = some (.struct #[f0, f1, f2, f3, f4, f5, f6, f7]) ∧ f0.offset = 0 ∧ f1.offset = 5 ∧ f2.offset = 6 ∧ f3.offset = 7 ∧ f4.offset = 8 ∧ f5.offset = 9 ∧ f6.offset = 10 ∧ f7.offset = 11 ∧ f0.type = 26 ∧ f1.type = 51 ∧ f2.type = 32 ∧ f3.type = 52 ∧ f4.type = 32 ∧ f5.type = 32 ∧ f6.type = 3 ∧ f7.type = 32 ∧ Tryz.prog.cellsOf 26 = 5 ∧ Tryz.prog.cellsOf 51 = 1 ∧ Tryz.prog.cellsOf 32 = 1 ∧ Tryz.prog.cellsOf 52 = 1 ∧ Tryz.prog.cellsOf 3 = 1 := ⟨_, _, _, _, _, _, _, _, Tryz.underlying54, by kernel_rfl, by kernel_rfl, by kernel_rfl, by kernel_rfl, by kernel_rfl, by kernel_rfl, by kernel_rfl, by kernel_rfl, by kernel_rfl, by kernel_rfl, by kernel_rfl, by kernel_rfl, by kernel_rfl, by kernel_rfl, by kernel_rfl, by kernel_rfl, by kernel_rfl, by kernel_rfl, by kernel_rfl, by kernel_rfl, by kernel_rfl⟩
  obtain ⟨f0, f1, f2, f3, f4, f5, f6, f7, hs, o0, o1, o2, o3, o4, o5, o6, o7, t0, t1, t2, t3, t4, t5, t6, t7, z0, z1, z2, z3, z4⟩ := hi
  obtain ⟨ys, n, _, _, _, hlen, hf⟩ := DataW.trod_struct hs h
  match ys, hlen with
  | [y0, y1, y2, y3, y4, y5, y6, y7], _ =>
    have r0 := hf 0 f0 rfl
    have r1 := hf 1 f1 rfl
    have r2 := hf 2 f2 rfl
    have r3 := hf 3 f3 rfl
    have r4 := hf 4 f4 rfl
    have r5 := hf 5 f5 rfl
    have r6 := hf 6 f6 rfl
    have r7 := hf 7 f7 rfl
    simp only [List.getElem?_cons_zero, List.getElem?_cons_succ] at r0 r1 r2 r3 r4 r5 r6 r7
    rw [o0, t0, z0] at r0
    rw [o1, t1, z1] at r1
    rw [o2, t2, z2] at r2
    rw [o3, t3, z3] at r3
    rw [o4, t4, z2] at r4
    rw [o5, t5, z2] at r5
    rw [o6, t6, z4] at r6
    rw [o7, t7, z2] at r7
    obtain ⟨v0, q0⟩ : ∃ x, Ent.rd DpFrame.E (fun _ => True) W ((cs.drop 0).take 5) x := DpFrame.open_cells (by simp [hl]) r0
    obtain ⟨v1, q1⟩ : ∃ x, Ent.rd (sl (flat SlCert.E SlCert.InR)) (fun _ => True) W ((cs.drop 5).take 1) x := o_sl Tryz.underlying51 (by kernel_rfl) (fun hl h => o_flat Tryz.underlying145 (by kernel_rfl) (by kernel_rfl) SlCert.mk SlCert.of_mk (fun f hr => ⟨hr 0 (by decide), hr 1 (by decide), hr 2 (by decide), hr 3 (by decide), hr 4 (by decide), hr 5 (by decide), hr 6 (by decide)⟩) hl h) r1
    obtain ⟨v2, q2⟩ : ∃ x, Ent.rd (sl int) (fun _ => True) W ((cs.drop 6).take 1) x := o_sl Tryz.underlying32 (by kernel_rfl) (fun hl h => o_int Tryz.underlying3 h) r2
    obtain ⟨v3, q3⟩ : ∃ x, Ent.rd (sl DpArchive.E) (fun _ => True) W ((cs.drop 7).take 1) x := o_sl Tryz.underlying52 (by kernel_rfl) (fun hl h => DpArchive.open_cells hl h) r3
    obtain ⟨v4, q4⟩ : ∃ x, Ent.rd (sl int) (fun _ => True) W ((cs.drop 8).take 1) x := o_sl Tryz.underlying32 (by kernel_rfl) (fun hl h => o_int Tryz.underlying3 h) r4
    obtain ⟨v5, q5⟩ : ∃ x, Ent.rd (sl int) (fun _ => True) W ((cs.drop 9).take 1) x := o_sl Tryz.underlying32 (by kernel_rfl) (fun hl h => o_int Tryz.underlying3 h) r5
    obtain ⟨v6, q6⟩ : ∃ x, Ent.rd int (fun _ => True) W ((cs.drop 10).take 1) x := o_int Tryz.underlying3 r6
    obtain ⟨v7, q7⟩ : ∃ x, Ent.rd (sl int) (fun _ => True) W ((cs.drop 11).take 1) x := o_sl Tryz.underlying32 (by kernel_rfl) (fun hl h => o_int Tryz.underlying3 h) r7
    exact ⟨_, rd_first (rd_next (o := 0) (o' := 5) rfl rfl q0 (rd_next (o := 5) (o' := 6) rfl rfl q1 (rd_next (o := 6) (o' := 7) rfl rfl q2 (rd_next (o := 7) (o' := 8) rfl rfl q3 (rd_next (o := 8) (o' := 9) rfl rfl q4 (rd_next (o := 9) (o' := 10) rfl rfl q5 (rd_next (o := 10) (o' := 11) rfl rfl q6 (rd_last (o := 11) (by simp [hl]) q7))))))))⟩
set_option maxRecDepth 100000 in
theorem open_valk {base : Nat} {v : Value} {d : DataW H} {pl : List MemPlace} (h : DataW.Trod enc Tryz.prog W 0 (fun _ => true) true 54 v d pl) (hk : Value.okWide Tryz.prog W .any base 54 v) : ∃ (l0 : List (Int × Int × Int × Int × Int)) (l1 : List (Int × Int × Int)) (l2 : List (Int × Int × Int × Int)) (x3 : Int) (x4 : Int) (l5 : List (Int × Int × Int × Int × Int × Int × Int)) (l6 : List Int) (l7 : List DpArchive.A) (l8 : List Int) (l9 : List Int) (x10 : Int) (l11 : List Int) (p0 : Option Addr) (n0 c0 : Nat) (p1 : Option Addr) (n1 c1 : Nat) (p2 : Option Addr) (n2 c2 : Nat) (p5 : Option Addr) (n5 c5 : Nat) (p6 : Option Addr) (n6 c6 : Nat) (p7 : Option Addr) (n7 c7 : Nat) (p8 : Option Addr) (n8 c8 : Nat) (p9 : Option Addr) (n9 c9 : Nat) (p11 : Option Addr) (n11 c11 : Nat), v = .agg #[.slice p0 n0 c0, .slice p1 n1 c1, .slice p2 n2 c2, .int .i64 x3, .int .i64 x4, .slice p5 n5 c5, .slice p6 n6 c6, .slice p7 n7 c7, .slice p8 n8 c8, .slice p9 n9 c9, .int .i64 x10, .slice p11 n11 c11] ∧ RdD (flat SlKey.E SlKey.InR) (fun _ => True) W p0 n0 l0 ∧ RdD (flat SlAuthority.E SlAuthority.InR) (fun _ => True) W p1 n1 l1 ∧ RdD (flat SlMethod.E SlMethod.InR) (fun _ => True) W p2 n2 l2 ∧ InI x3 ∧ InI x4 ∧ RdD (flat SlCert.E SlCert.InR) (fun _ => True) W p5 n5 l5 ∧ RdD int (fun _ => True) W p6 n6 l6 ∧ RdD DpArchive.E (fun _ => True) W p7 n7 l7 ∧ RdD int (fun _ => True) W p8 n8 l8 ∧ RdD int (fun _ => True) W p9 n9 l9 ∧ InI x10 ∧ RdD int (fun _ => True) W p11 n11 l11 ∧ n0 ≤ c0 ∧ n1 ≤ c1 ∧ n2 ≤ c2 ∧ n5 ≤ c5 ∧ n6 ≤ c6 ∧ n7 ≤ c7 ∧ n8 ≤ c8 ∧ n9 ≤ c9 ∧ n11 ≤ c11 := by
  have hu : ∃ fs, Tryz.prog.underlying 54 = some (.struct fs) ∧ Tryz.prog.cellsOf 54 = 12 := ⟨_, Tryz.underlying54, by kernel_rfl⟩
  obtain ⟨fs, hs, hC⟩ := hu
  obtain ⟨cs, rfl, hsz⟩ := okWide_struct hs hk
  obtain ⟨fuel, hf⟩ := h
  simp only [Value.cells] at hf
  obtain ⟨x, hx⟩ := open_cells (by rw [Array.length_toList, hsz, hC]) hf
  obtain ⟨⟨l0, l1, l2, x3, x4⟩, l5, l6, l7, l8, l9, x10, l11⟩ := x
  obtain ⟨p0, n0, c0, p1, n1, c1, p2, n2, c2, p5, n5, c5, p6, n6, c6, p7, n7, c7, p8, n8, c8, p9, n9, c9, p11, n11, c11, hc, h0, h1, h2, b3, b4, h5, h6, h7, h8, h9, b10, h11, k0, k1, k2, k5, k6, k7, k8, k9, k11⟩ := exk hx
  exact ⟨l0, l1, l2, x3, x4, l5, l6, l7, l8, l9, x10, l11, p0, n0, c0, p1, n1, c1, p2, n2, c2, p5, n5, c5, p6, n6, c6, p7, n7, c7, p8, n8, c8, p9, n9, c9, p11, n11, c11, congrArg Value.agg (Array.ext' hc), h0, h1, h2, b3, b4, h5, h6, h7, h8, h9, b10, h11, k0, k1, k2, k5, k6, k7, k8, k9, k11⟩
set_option maxRecDepth 100000 in
theorem open_val {base : Nat} {v : Value} {d : DataW H} {pl : List MemPlace} (h : DataW.Trod enc Tryz.prog W 0 (fun _ => true) true 54 v d pl) (hk : Value.okWide Tryz.prog W .any base 54 v) : ∃ (l0 : List (Int × Int × Int × Int × Int)) (l1 : List (Int × Int × Int)) (l2 : List (Int × Int × Int × Int)) (x3 : Int) (x4 : Int) (l5 : List (Int × Int × Int × Int × Int × Int × Int)) (l6 : List Int) (l7 : List DpArchive.A) (l8 : List Int) (l9 : List Int) (x10 : Int) (l11 : List Int) (p0 : Option Addr) (n0 c0 : Nat) (p1 : Option Addr) (n1 c1 : Nat) (p2 : Option Addr) (n2 c2 : Nat) (p5 : Option Addr) (n5 c5 : Nat) (p6 : Option Addr) (n6 c6 : Nat) (p7 : Option Addr) (n7 c7 : Nat) (p8 : Option Addr) (n8 c8 : Nat) (p9 : Option Addr) (n9 c9 : Nat) (p11 : Option Addr) (n11 c11 : Nat), v = .agg #[.slice p0 n0 c0, .slice p1 n1 c1, .slice p2 n2 c2, .int .i64 x3, .int .i64 x4, .slice p5 n5 c5, .slice p6 n6 c6, .slice p7 n7 c7, .slice p8 n8 c8, .slice p9 n9 c9, .int .i64 x10, .slice p11 n11 c11] ∧ RdD (flat SlKey.E SlKey.InR) (fun _ => True) W p0 n0 l0 ∧ RdD (flat SlAuthority.E SlAuthority.InR) (fun _ => True) W p1 n1 l1 ∧ RdD (flat SlMethod.E SlMethod.InR) (fun _ => True) W p2 n2 l2 ∧ InI x3 ∧ InI x4 ∧ RdD (flat SlCert.E SlCert.InR) (fun _ => True) W p5 n5 l5 ∧ RdD int (fun _ => True) W p6 n6 l6 ∧ RdD DpArchive.E (fun _ => True) W p7 n7 l7 ∧ RdD int (fun _ => True) W p8 n8 l8 ∧ RdD int (fun _ => True) W p9 n9 l9 ∧ InI x10 ∧ RdD int (fun _ => True) W p11 n11 l11 := by
  have hu : ∃ fs, Tryz.prog.underlying 54 = some (.struct fs) ∧ Tryz.prog.cellsOf 54 = 12 := ⟨_, Tryz.underlying54, by kernel_rfl⟩
  obtain ⟨fs, hs, hC⟩ := hu
  obtain ⟨cs, rfl, hsz⟩ := okWide_struct hs hk
  obtain ⟨fuel, hf⟩ := h
  simp only [Value.cells] at hf
  obtain ⟨x, hx⟩ := open_cells (by rw [Array.length_toList, hsz, hC]) hf
  obtain ⟨⟨l0, l1, l2, x3, x4⟩, l5, l6, l7, l8, l9, x10, l11⟩ := x
  obtain ⟨p0, n0, c0, p1, n1, c1, p2, n2, c2, p5, n5, c5, p6, n6, c6, p7, n7, c7, p8, n8, c8, p9, n9, c9, p11, n11, c11, hc, h0, h1, h2, b3, b4, h5, h6, h7, h8, h9, b10, h11⟩ := ex hx
  exact ⟨l0, l1, l2, x3, x4, l5, l6, l7, l8, l9, x10, l11, p0, n0, c0, p1, n1, c1, p2, n2, c2, p5, n5, c5, p6, n6, c6, p7, n7, c7, p8, n8, c8, p9, n9, c9, p11, n11, c11, congrArg Value.agg (Array.ext' hc), h0, h1, h2, b3, b4, h5, h6, h7, h8, h9, b10, h11⟩
end
set_option maxRecDepth 100000 in
set_option maxHeartbeats 4000000 in
theorem toK_any (l0 : List (Int × Int × Int × Int × Int)) (p0 : Option Addr) (n0 c0 : Nat) (l1 : List (Int × Int × Int)) (p1 : Option Addr) (n1 c1 : Nat) (l2 : List (Int × Int × Int × Int)) (p2 : Option Addr) (n2 c2 : Nat) (x3 : Int) (x4 : Int) (l5 : List (Int × Int × Int × Int × Int × Int × Int)) (p5 : Option Addr) (n5 c5 : Nat) (l6 : List Int) (p6 : Option Addr) (n6 c6 : Nat) (l7 : List DpArchive.A) (p7 : Option Addr) (n7 c7 : Nat) (l8 : List Int) (p8 : Option Addr) (n8 c8 : Nat) (l9 : List Int) (p9 : Option Addr) (n9 c9 : Nat) (x10 : Int) (l11 : List Int) (p11 : Option Addr) (n11 c11 : Nat) {S0 S1 S2 S5 S6 S7 S8 S9 S11 : Nat → Prop} (w : World) (h0 : RdD (flat SlKey.E SlKey.InR) S0 w p0 n0 l0) (h1 : RdD (flat SlAuthority.E SlAuthority.InR) S1 w p1 n1 l1) (h2 : RdD (flat SlMethod.E SlMethod.InR) S2 w p2 n2 l2) (h5 : RdD (flat SlCert.E SlCert.InR) S5 w p5 n5 l5) (h6 : RdD int S6 w p6 n6 l6) (h7 : RdD DpArchive.E S7 w p7 n7 l7) (h8 : RdD int S8 w p8 n8 l8) (h9 : RdD int S9 w p9 n9 l9) (h11 : RdD int S11 w p11 n11 l11) (hm : E.wt ((l0, l1, l2, x3, x4), l5, l6, l7, l8, l9, x10, l11) ≤ 1048576) : Calls Tryz.prog 20 #[.agg #[.slice p0 n0 c0, .slice p1 n1 c1, .slice p2 n2 c2, .int .i64 x3, .int .i64 x4, .slice p5 n5 c5, .slice p6 n6 c6, .slice p7 n7 c7, .slice p8 n8 c8, .slice p9 n9 c9, .int .i64 x10, .slice p11 n11 c11]] w fun e w' => ∃ (p0' : Option Addr) (c0' : Nat) (p1' : Option Addr) (c1' : Nat) (p2' : Option Addr) (c2' : Nat) (p5' : Option Addr) (c5' : Nat) (p6' : Option Addr) (c6' : Nat) (p7' : Option Addr) (c7' : Nat) (p8' : Option Addr) (c8' : Nat) (p9' : Option Addr) (c9' : Nat) (p11' : Option Addr) (c11' : Nat), e = .returned (.agg #[.slice p0' n0 c0', .slice p1' n1 c1', .slice p2' n2 c2', .int .i64 x3, .int .i64 x4, .slice p5' n5 c5', .slice p6' n6 c6', .slice p7' n7 c7', .slice p8' n8 c8', .slice p9' n9 c9', .int .i64 x10, .slice p11' n11 c11']) ∧ RdD (flat SlKey.E SlKey.InR) (fun b => w.heap.size ≤ b) w' p0' n0 l0 ∧ RdD (flat SlAuthority.E SlAuthority.InR) (fun b => w.heap.size ≤ b) w' p1' n1 l1 ∧ RdD (flat SlMethod.E SlMethod.InR) (fun b => w.heap.size ≤ b) w' p2' n2 l2 ∧ RdD (flat SlCert.E SlCert.InR) (fun b => w.heap.size ≤ b) w' p5' n5 l5 ∧ RdD int (fun b => w.heap.size ≤ b) w' p6' n6 l6 ∧ RdD DpArchive.E (fun b => w.heap.size ≤ b) w' p7' n7 l7 ∧ RdD int (fun b => w.heap.size ≤ b) w' p8' n8 l8 ∧ RdD int (fun b => w.heap.size ≤ b) w' p9' n9 l9 ∧ RdD int (fun b => w.heap.size ≤ b) w' p11' n11 l11 ∧ n0 ≤ c0' ∧ n1 ≤ c1' ∧ n2 ≤ c2' ∧ n5 ≤ c5' ∧ n6 ≤ c6' ∧ n7 ≤ c7' ∧ n8 ≤ c8' ∧ n9 ≤ c9' ∧ n11 ≤ c11' ∧ Below w.heap.size w w' := by
  rw [wt_eq] at hm
  have k0 := h0.len
  have k1 := h1.len
  have k2 := h2.len
  have k5 := h5.len
  have k6 := h6.len
  have k7 := h7.len
  have k8 := h8.len
  have k9 := h9.len
  have k11 := h11.len
  have m0 : DpFrame.E.wt (l0, l1, l2, x3, x4) ≤ 1048576 := by omega
  have m5 : n5 + wts (flat SlCert.E SlCert.InR) l5 ≤ 1048576 := by omega
  have m6 : n6 + wts int l6 ≤ 1048576 := by omega
  have m7 : n7 + wts DpArchive.E l7 ≤ 1048576 := by omega
  have m8 : n8 + wts int l8 ≤ 1048576 := by omega
  have m9 : n9 + wts int l9 ≤ 1048576 := by omega
  have m11 : n11 + wts int l11 ≤ 1048576 := by omega
  have HP0 := Lib.hid h0
  have HP1 := Lib.hid h1
  have HP2 := Lib.hid h2
  have HP5 := Lib.hid h5
  have HP6 := Lib.hid h6
  have HP7 := Lib.hid h7
  have HP8 := Lib.hid h8
  have HP9 := Lib.hid h9
  have HP11 := Lib.hid h11
  clear hm h0 k0 h1 k1 h2 k2 h5 k5 h6 k6 h7 k7 h8 k8 h9 k9 h11 k11
  have b0 := ((Bx.new w 54 #[.slice p0 n0 c0, .slice p1 n1 c1, .slice p2 n2 c2, .int .i64 x3, .int .i64 x4, .slice p5 n5 c5, .slice p6 n6 c6, .slice p7 n7 c7, .slice p8 n8 c8, .slice p9 n9 c9, .int .i64 x10, .slice p11 n11 c11]).alloc (.cells #[.slice none 0 0, .slice none 0 0, .slice none 0 0, .int .i64 0, .int .i64 0, .slice none 0 0, .slice none 0 0, .slice none 0 0, .slice none 0 0, .slice none 0 0, .int .i64 0, .slice none 0 0] 60)).alloc (.cells #[.slice none 0 0, .slice none 0 0, .slice none 0 0, .int .i64 0, .int .i64 0, .slice none 0 0, .slice none 0 0, .slice none 0 0, .slice none 0 0, .slice none 0 0, .int .i64 0, .slice none 0 0] 60)
  have b1 := (Bx.new (w.alloc (.cells #[.slice p0 n0 c0, .slice p1 n1 c1, .slice p2 n2 c2, .int .i64 x3, .int .i64 x4, .slice p5 n5 c5, .slice p6 n6 c6, .slice p7 n7 c7, .slice p8 n8 c8, .slice p9 n9 c9, .int .i64 x10, .slice p11 n11 c11] 54)) 60 #[.slice none 0 0, .slice none 0 0, .slice none 0 0, .int .i64 0, .int .i64 0, .slice none 0 0, .slice none 0 0, .slice none 0 0, .slice none 0 0, .slice none 0 0, .int .i64 0, .slice none 0 0]).alloc (.cells #[.slice none 0 0, .slice none 0 0, .slice none 0 0, .int .i64 0, .int .i64 0, .slice none 0 0, .slice none 0 0, .slice none 0 0, .slice none 0 0, .slice none 0 0, .int .i64 0, .slice none 0 0] 60)
  have b2 := Bx.new ((w.alloc (.cells #[.slice p0 n0 c0, .slice p1 n1 c1, .slice p2 n2 c2, .int .i64 x3, .int .i64 x4, .slice p5 n5 c5, .slice p6 n6 c6, .slice p7 n7 c7, .slice p8 n8 c8, .slice p9 n9 c9, .int .i64 x10, .slice p11 n11 c11] 54)).alloc (.cells #[.slice none 0 0, .slice none 0 0, .slice none 0 0, .int .i64 0, .int .i64 0, .slice none 0 0, .slice none 0 0, .slice none 0 0, .slice none 0 0, .slice none 0 0, .int .i64 0, .slice none 0 0] 60)) 60 #[.slice none 0 0, .slice none 0 0, .slice none 0 0, .int .i64 0, .int .i64 0, .slice none 0 0, .slice none 0 0, .slice none 0 0, .slice none 0 0, .slice none 0 0, .int .i64 0, .slice none 0 0]
  rw [World.size_alloc] at b1
  rw [World.size_alloc, World.size_alloc] at b2
  have HA := Lib.hid b0
  have HR := Lib.hid b1
  have HO := Lib.hid b2
  have HB : Hid (Below w.heap.size w (((w.alloc (.cells #[.slice p0 n0 c0, .slice p1 n1 c1, .slice p2 n2 c2, .int .i64 x3, .int .i64 x4, .slice p5 n5 c5, .slice p6 n6 c6, .slice p7 n7 c7, .slice p8 n8 c8, .slice p9 n9 c9, .int .i64 x10, .slice p11 n11 c11] 54)).alloc (.cells #[.slice none 0 0, .slice none 0 0, .slice none 0 0, .int .i64 0, .int .i64 0, .slice none 0 0, .slice none 0 0, .slice none 0 0, .slice none 0 0, .slice none 0 0, .int .i64 0, .slice none 0 0] 60)).alloc (.cells #[.slice none 0 0, .slice none 0 0, .slice none 0 0, .int .i64 0, .int .i64 0, .slice none 0 0, .slice none 0 0, .slice none 0 0, .slice none 0 0, .slice none 0 0, .int .i64 0, .slice none 0 0] 60))) := Lib.hid ((((Below.refl w.heap.size w).alloc (Nat.le_refl _) _).alloc (by simp) _).alloc (by simp; omega) _)
  have HSZ : Hid (w.heap.size + 3 ≤ (((w.alloc (.cells #[.slice p0 n0 c0, .slice p1 n1 c1, .slice p2 n2 c2, .int .i64 x3, .int .i64 x4, .slice p5 n5 c5, .slice p6 n6 c6, .slice p7 n7 c7, .slice p8 n8 c8, .slice p9 n9 c9, .int .i64 x10, .slice p11 n11 c11] 54)).alloc (.cells #[.slice none 0 0, .slice none 0 0, .slice none 0 0, .int .i64 0, .int .i64 0, .slice none 0 0, .slice none 0 0, .slice none 0 0, .slice none 0 0, .slice none 0 0, .int .i64 0, .slice none 0 0] 60)).alloc (.cells #[.slice none 0 0, .slice none 0 0, .slice none 0 0, .int .i64 0, .int .i64 0, .slice none 0 0, .slice none 0 0, .slice none 0 0, .slice none 0 0, .slice none 0 0, .int .i64 0, .slice none 0 0] 60)).heap.size) := Lib.hid (by simp)
  clear b0 b1 b2
  go_enter Tryz.func20, Tryz.ntmps20
  go_wp2_with fail
  generalize (((w.alloc (.cells #[.slice p0 n0 c0, .slice p1 n1 c1, .slice p2 n2 c2, .int .i64 x3, .int .i64 x4, .slice p5 n5 c5, .slice p6 n6 c6, .slice p7 n7 c7, .slice p8 n8 c8, .slice p9 n9 c9, .int .i64 x10, .slice p11 n11 c11] 54)).alloc (.cells #[.slice none 0 0, .slice none 0 0, .slice none 0 0, .int .i64 0, .int .i64 0, .slice none 0 0, .slice none 0 0, .slice none 0 0, .slice none 0 0, .slice none 0 0, .int .i64 0, .slice none 0 0] 60)).alloc (.cells #[.slice none 0 0, .slice none 0 0, .slice none 0 0, .int .i64 0, .int .i64 0, .slice none 0 0, .slice none 0 0, .slice none 0 0, .slice none 0 0, .slice none 0 0, .int .i64 0, .slice none 0 0] 60)) = V at HA HR HO HB HSZ ⊢
  obtain ⟨a0, a1, a2, a3, a4, a5, a6, a7, a8, a9, a10, a11⟩ := bxc HA.out
  refine (DpFrame.toK_any _ _ _ _ _ _ _ _ _ _ _ _ _ _ _ (HP0.out.below HB.out) (HP1.out.below HB.out) (HP2.out.below HB.out) m0).mono ?_
  rintro e w1 ⟨p0', c0', p1', c1', p2', c2', rfl, ho0, ho1, ho2, hk0, hk1, hk2, hb⟩
  have HK0 := Lib.hid hk0
  have HK1 := Lib.hid hk1
  have HK2 := Lib.hid hk2
  clear hk0 hk1 hk2
  have HQ0 : Hid (RdD (flat SlKey.E SlKey.InR) (fun b => w.heap.size + 3 ≤ b) w1 p0' n0 l0) := Lib.hid (ho0.mono fun b hb => Nat.le_trans HSZ.out hb)
  have HQ1 : Hid (RdD (flat SlAuthority.E SlAuthority.InR) (fun b => w.heap.size + 3 ≤ b) w1 p1' n1 l1) := Lib.hid (ho1.mono fun b hb => Nat.le_trans HSZ.out hb)
  have HQ2 : Hid (RdD (flat SlMethod.E SlMethod.InR) (fun b => w.heap.size + 3 ≤ b) w1 p2' n2 l2) := Lib.hid (ho2.mono fun b hb => Nat.le_trans HSZ.out hb)
  clear ho0 ho1 ho2
  clear a0 a1 a2 a3 a4 a5 a6 a7 a8 a9 a10 a11
  replace HA := Lib.hid (HA.out.below hb)
  replace HR := Lib.hid (HR.out.below hb)
  replace HO := Lib.hid (HO.out.below hb)
  replace HB := Lib.hid (below_on HB.out hb)
  replace HSZ := Lib.hid (Nat.le_trans HSZ.out hb.size)
  clear hb
  obtain ⟨a0, a1, a2, a3, a4, a5, a6, a7, a8, a9, a10, a11⟩ := bxc HA.out
  obtain ⟨q0, q1, q2, q3, q4, q5, q6, q7, q8, q9, q10, q11⟩ := bxc HO.out
  have g0 := HO.out.free 0
  have g1 := HO.out.free 1
  have g2 := HO.out.free 2
  have g3 := HO.out.free 3
  have g4 := HO.out.free 4
  go_wp2_with fail
  have ho := (((((HO.out.set_ 0 (.slice p0' n0 c0')).set_ 1 (.slice p1' n1 c1')).set_ 2 (.slice p2' n2 c2')).set_ 3 (.int .i64 x3)).set_ 4 (.int .i64 x4))
  simp only [List.setIfInBounds_toArray, List.set_cons_zero, List.set_cons_succ] at ho
  replace HO := Lib.hid ho
  clear ho a0 a1 a2 a3 a4 a5 a6 a7 a8 a9 a10 a11 q0 q1 q2 q3 q4 q5 q6 q7 q8 q9 q10 q11 g0 g1 g2 g3 g4
  replace HA := Lib.hid (((((HA.out.far (q := ⟨w.heap.size + 1 + 1, 0, none⟩) (by show w.heap.size ≠ w.heap.size + 1 + 1; omega) (.slice p0' n0 c0')).far (q := ⟨w.heap.size + 1 + 1, 1, none⟩) (by show w.heap.size ≠ w.heap.size + 1 + 1; omega) (.slice p1' n1 c1')).far (q := ⟨w.heap.size + 1 + 1, 2, none⟩) (by show w.heap.size ≠ w.heap.size + 1 + 1; omega) (.slice p2' n2 c2')).far (q := ⟨w.heap.size + 1 + 1, 3, none⟩) (by show w.heap.size ≠ w.heap.size + 1 + 1; omega) (.int .i64 x3)).far (q := ⟨w.heap.size + 1 + 1, 4, none⟩) (by show w.heap.size ≠ w.heap.size + 1 + 1; omega) (.int .i64 x4))
  replace HR := Lib.hid (((((HR.out.far (q := ⟨w.heap.size + 1 + 1, 0, none⟩) (by show w.heap.size + 1 ≠ w.heap.size + 1 + 1; omega) (.slice p0' n0 c0')).far (q := ⟨w.heap.size + 1 + 1, 1, none⟩) (by show w.heap.size + 1 ≠ w.heap.size + 1 + 1; omega) (.slice p1' n1 c1')).far (q := ⟨w.heap.size + 1 + 1, 2, none⟩) (by show w.heap.size + 1 ≠ w.heap.size + 1 + 1; omega) (.slice p2' n2 c2')).far (q := ⟨w.heap.size + 1 + 1, 3, none⟩) (by show w.heap.size + 1 ≠ w.heap.size + 1 + 1; omega) (.int .i64 x3)).far (q := ⟨w.heap.size + 1 + 1, 4, none⟩) (by show w.heap.size + 1 ≠ w.heap.size + 1 + 1; omega) (.int .i64 x4))
  replace HQ0 := Lib.hid (((((HQ0.out.far (q := ⟨w.heap.size + 1 + 1, 0, none⟩) (by show ¬ (w.heap.size + 3 ≤ w.heap.size + 1 + 1); omega) (.slice p0' n0 c0')).far (q := ⟨w.heap.size + 1 + 1, 1, none⟩) (by show ¬ (w.heap.size + 3 ≤ w.heap.size + 1 + 1); omega) (.slice p1' n1 c1')).far (q := ⟨w.heap.size + 1 + 1, 2, none⟩) (by show ¬ (w.heap.size + 3 ≤ w.heap.size + 1 + 1); omega) (.slice p2' n2 c2')).far (q := ⟨w.heap.size + 1 + 1, 3, none⟩) (by show ¬ (w.heap.size + 3 ≤ w.heap.size + 1 + 1); omega) (.int .i64 x3)).far (q := ⟨w.heap.size + 1 + 1, 4, none⟩) (by show ¬ (w.heap.size + 3 ≤ w.heap.size + 1 + 1); omega) (.int .i64 x4))
  replace HQ1 := Lib.hid (((((HQ1.out.far (q := ⟨w.heap.size + 1 + 1, 0, none⟩) (by show ¬ (w.heap.size + 3 ≤ w.heap.size + 1 + 1); omega) (.slice p0' n0 c0')).far (q := ⟨w.heap.size + 1 + 1, 1, none⟩) (by show ¬ (w.heap.size + 3 ≤ w.heap.size + 1 + 1); omega) (.slice p1' n1 c1')).far (q := ⟨w.heap.size + 1 + 1, 2, none⟩) (by show ¬ (w.heap.size + 3 ≤ w.heap.size + 1 + 1); omega) (.slice p2' n2 c2')).far (q := ⟨w.heap.size + 1 + 1, 3, none⟩) (by show ¬ (w.heap.size + 3 ≤ w.heap.size + 1 + 1); omega) (.int .i64 x3)).far (q := ⟨w.heap.size + 1 + 1, 4, none⟩) (by show ¬ (w.heap.size + 3 ≤ w.heap.size + 1 + 1); omega) (.int .i64 x4))
  replace HQ2 := Lib.hid (((((HQ2.out.far (q := ⟨w.heap.size + 1 + 1, 0, none⟩) (by show ¬ (w.heap.size + 3 ≤ w.heap.size + 1 + 1); omega) (.slice p0' n0 c0')).far (q := ⟨w.heap.size + 1 + 1, 1, none⟩) (by show ¬ (w.heap.size + 3 ≤ w.heap.size + 1 + 1); omega) (.slice p1' n1 c1')).far (q := ⟨w.heap.size + 1 + 1, 2, none⟩) (by show ¬ (w.heap.size + 3 ≤ w.heap.size + 1 + 1); omega) (.slice p2' n2 c2')).far (q := ⟨w.heap.size + 1 + 1, 3, none⟩) (by show ¬ (w.heap.size + 3 ≤ w.heap.size + 1 + 1); omega) (.int .i64 x3)).far (q := ⟨w.heap.size + 1 + 1, 4, none⟩) (by show ¬ (w.heap.size + 3 ≤ w.heap.size + 1 + 1); omega) (.int .i64 x4))
  replace HB := Lib.hid (((((HB.out.setCell (p := ⟨w.heap.size + 1 + 1, 0, none⟩) (by show w.heap.size ≤ w.heap.size + 1 + 1; omega) (.slice p0' n0 c0')).setCell (p := ⟨w.heap.size + 1 + 1, 1, none⟩) (by show w.heap.size ≤ w.heap.size + 1 + 1; omega) (.slice p1' n1 c1')).setCell (p := ⟨w.heap.size + 1 + 1, 2, none⟩) (by show w.heap.size ≤ w.heap.size + 1 + 1; omega) (.slice p2' n2 c2')).setCell (p := ⟨w.heap.size + 1 + 1, 3, none⟩) (by show w.heap.size ≤ w.heap.size + 1 + 1; omega) (.int .i64 x3)).setCell (p := ⟨w.heap.size + 1 + 1, 4, none⟩) (by show w.heap.size ≤ w.heap.size + 1 + 1; omega) (.int .i64 x4))
  replace HSZ : Hid (w.heap.size + 3 ≤ (((((w1.setCell ⟨w.heap.size + 1 + 1, 0, none⟩ (.slice p0' n0 c0')).setCell ⟨w.heap.size + 1 + 1, 1, none⟩ (.slice p1' n1 c1')).setCell ⟨w.heap.size + 1 + 1, 2, none⟩ (.slice p2' n2 c2')).setCell ⟨w.heap.size + 1 + 1, 3, none⟩ (.int .i64 x3)).setCell ⟨w.heap.size + 1 + 1, 4, none⟩ (.int .i64 x4)).heap.size) := Lib.hid (by simpa [World.setCell] using HSZ.out)
  generalize (((((w1.setCell ⟨w.heap.size + 1 + 1, 0, none⟩ (.slice p0' n0 c0')).setCell ⟨w.heap.size + 1 + 1, 1, none⟩ (.slice p1' n1 c1')).setCell ⟨w.heap.size + 1 + 1, 2, none⟩ (.slice p2' n2 c2')).setCell ⟨w.heap.size + 1 + 1, 3, none⟩ (.int .i64 x3)).setCell ⟨w.heap.size + 1 + 1, 4, none⟩ (.int .i64 x4)) = V1 at HA HR HO HB HSZ HQ0 HQ1 HQ2 ⊢
  obtain ⟨a0, a1, a2, a3, a4, a5, a6, a7, a8, a9, a10, a11⟩ := bxc HA.out
  refine (SlCert.to_any _ _ _ _ _ (HP5.out.below HB.out).rdS (by omega)).mono ?_
  rintro e w2 ⟨p5', n5', c5', rfl, ho, hb⟩
  obtain rfl : n5 = n5' := HP5.out.len.symm.trans ho.len
  have HK5 := Lib.hid (Ed.cap_owS ho)
  have HQ5 : Hid (RdD (flat SlCert.E SlCert.InR) (fun b => w.heap.size + 3 ≤ b) w2 p5' n5 l5) := Lib.hid ((RdD.ofOwS ho HP5.out.allP).mono fun b hb => Nat.le_trans HSZ.out hb)
  clear ho
  clear a0 a1 a2 a3 a4 a5 a6 a7 a8 a9 a10 a11
  replace HA := Lib.hid (HA.out.below hb)
  replace HR := Lib.hid (HR.out.below hb)
  replace HO := Lib.hid (HO.out.below hb)
  replace HQ0 := Lib.hid (HQ0.out.below hb)
  replace HQ1 := Lib.hid (HQ1.out.below hb)
  replace HQ2 := Lib.hid (HQ2.out.below hb)
  replace HB := Lib.hid (below_on HB.out hb)
  replace HSZ := Lib.hid (Nat.le_trans HSZ.out hb.size)
  clear hb
  obtain ⟨a0, a1, a2, a3, a4, a5, a6, a7, a8, a9, a10, a11⟩ := bxc HA.out
  obtain ⟨q0, q1, q2, q3, q4, q5, q6, q7, q8, q9, q10, q11⟩ := bxc HO.out
  have g5 := HO.out.free 5
  go_wp2_with fail
  have ho := (HO.out.set_ 5 (.slice p5' n5 c5'))
  simp only [List.setIfInBounds_toArray, List.set_cons_zero, List.set_cons_succ] at ho
  replace HO := Lib.hid ho
  clear ho a0 a1 a2 a3 a4 a5 a6 a7 a8 a9 a10 a11 q0 q1 q2 q3 q4 q5 q6 q7 q8 q9 q10 q11 g5
  replace HA := Lib.hid (HA.out.far (q := ⟨w.heap.size + 1 + 1, 5, none⟩) (by show w.heap.size ≠ w.heap.size + 1 + 1; omega) (.slice p5' n5 c5'))
  replace HR := Lib.hid (HR.out.far (q := ⟨w.heap.size + 1 + 1, 5, none⟩) (by show w.heap.size + 1 ≠ w.heap.size + 1 + 1; omega) (.slice p5' n5 c5'))
  replace HQ0 := Lib.hid (HQ0.out.far (q := ⟨w.heap.size + 1 + 1, 5, none⟩) (by show ¬ (w.heap.size + 3 ≤ w.heap.size + 1 + 1); omega) (.slice p5' n5 c5'))
  replace HQ1 := Lib.hid (HQ1.out.far (q := ⟨w.heap.size + 1 + 1, 5, none⟩) (by show ¬ (w.heap.size + 3 ≤ w.heap.size + 1 + 1); omega) (.slice p5' n5 c5'))
  replace HQ2 := Lib.hid (HQ2.out.far (q := ⟨w.heap.size + 1 + 1, 5, none⟩) (by show ¬ (w.heap.size + 3 ≤ w.heap.size + 1 + 1); omega) (.slice p5' n5 c5'))
  replace HQ5 := Lib.hid (HQ5.out.far (q := ⟨w.heap.size + 1 + 1, 5, none⟩) (by show ¬ (w.heap.size + 3 ≤ w.heap.size + 1 + 1); omega) (.slice p5' n5 c5'))
  replace HB := Lib.hid (HB.out.setCell (p := ⟨w.heap.size + 1 + 1, 5, none⟩) (by show w.heap.size ≤ w.heap.size + 1 + 1; omega) (.slice p5' n5 c5'))
  replace HSZ : Hid (w.heap.size + 3 ≤ (w2.setCell ⟨w.heap.size + 1 + 1, 5, none⟩ (.slice p5' n5 c5')).heap.size) := Lib.hid (by simpa [World.setCell] using HSZ.out)
  generalize (w2.setCell ⟨w.heap.size + 1 + 1, 5, none⟩ (.slice p5' n5 c5')) = V2 at HA HR HO HB HSZ HQ0 HQ1 HQ2 HQ5 ⊢
  obtain ⟨a0, a1, a2, a3, a4, a5, a6, a7, a8, a9, a10, a11⟩ := bxc HA.out
  refine (SlI.to_any _ _ _ _ _ (HP6.out.below HB.out).ints (by omega)).mono ?_
  rintro e w3 ⟨p6', n6', c6', rfl, ho, hb⟩
  obtain rfl : n6 = n6' := HP6.out.len.symm.trans ho.len
  have HK6 := Lib.hid (Ed.cap_ow ho)
  have HQ6 : Hid (RdD int (fun b => w.heap.size + 3 ≤ b) w3 p6' n6 l6) := Lib.hid ((RdD.ofOw ho).mono fun b hb => Nat.le_trans HSZ.out hb)
  clear ho
  clear a0 a1 a2 a3 a4 a5 a6 a7 a8 a9 a10 a11
  replace HA := Lib.hid (HA.out.below hb)
  replace HR := Lib.hid (HR.out.below hb)
  replace HO := Lib.hid (HO.out.below hb)
  replace HQ0 := Lib.hid (HQ0.out.below hb)
  replace HQ1 := Lib.hid (HQ1.out.below hb)
  replace HQ2 := Lib.hid (HQ2.out.below hb)
  replace HQ5 := Lib.hid (HQ5.out.below hb)
  replace HB := Lib.hid (below_on HB.out hb)
  replace HSZ := Lib.hid (Nat.le_trans HSZ.out hb.size)
  clear hb
  obtain ⟨a0, a1, a2, a3, a4, a5, a6, a7, a8, a9, a10, a11⟩ := bxc HA.out
  obtain ⟨q0, q1, q2, q3, q4, q5, q6, q7, q8, q9, q10, q11⟩ := bxc HO.out
  have g6 := HO.out.free 6
  go_wp2_with fail
  have ho := (HO.out.set_ 6 (.slice p6' n6 c6'))
  simp only [List.setIfInBounds_toArray, List.set_cons_zero, List.set_cons_succ] at ho
  replace HO := Lib.hid ho
  clear ho a0 a1 a2 a3 a4 a5 a6 a7 a8 a9 a10 a11 q0 q1 q2 q3 q4 q5 q6 q7 q8 q9 q10 q11 g6
  replace HA := Lib.hid (HA.out.far (q := ⟨w.heap.size + 1 + 1, 6, none⟩) (by show w.heap.size ≠ w.heap.size + 1 + 1; omega) (.slice p6' n6 c6'))
  replace HR := Lib.hid (HR.out.far (q := ⟨w.heap.size + 1 + 1, 6, none⟩) (by show w.heap.size + 1 ≠ w.heap.size + 1 + 1; omega) (.slice p6' n6 c6'))
  replace HQ0 := Lib.hid (HQ0.out.far (q := ⟨w.heap.size + 1 + 1, 6, none⟩) (by show ¬ (w.heap.size + 3 ≤ w.heap.size + 1 + 1); omega) (.slice p6' n6 c6'))
  replace HQ1 := Lib.hid (HQ1.out.far (q := ⟨w.heap.size + 1 + 1, 6, none⟩) (by show ¬ (w.heap.size + 3 ≤ w.heap.size + 1 + 1); omega) (.slice p6' n6 c6'))
  replace HQ2 := Lib.hid (HQ2.out.far (q := ⟨w.heap.size + 1 + 1, 6, none⟩) (by show ¬ (w.heap.size + 3 ≤ w.heap.size + 1 + 1); omega) (.slice p6' n6 c6'))
  replace HQ5 := Lib.hid (HQ5.out.far (q := ⟨w.heap.size + 1 + 1, 6, none⟩) (by show ¬ (w.heap.size + 3 ≤ w.heap.size + 1 + 1); omega) (.slice p6' n6 c6'))
  replace HQ6 := Lib.hid (HQ6.out.far (q := ⟨w.heap.size + 1 + 1, 6, none⟩) (by show ¬ (w.heap.size + 3 ≤ w.heap.size + 1 + 1); omega) (.slice p6' n6 c6'))
  replace HB := Lib.hid (HB.out.setCell (p := ⟨w.heap.size + 1 + 1, 6, none⟩) (by show w.heap.size ≤ w.heap.size + 1 + 1; omega) (.slice p6' n6 c6'))
  replace HSZ : Hid (w.heap.size + 3 ≤ (w3.setCell ⟨w.heap.size + 1 + 1, 6, none⟩ (.slice p6' n6 c6')).heap.size) := Lib.hid (by simpa [World.setCell] using HSZ.out)
  generalize (w3.setCell ⟨w.heap.size + 1 + 1, 6, none⟩ (.slice p6' n6 c6')) = V3 at HA HR HO HB HSZ HQ0 HQ1 HQ2 HQ5 HQ6 ⊢
  obtain ⟨a0, a1, a2, a3, a4, a5, a6, a7, a8, a9, a10, a11⟩ := bxc HA.out
  refine (DpArchive.toSK_any _ _ _ _ _ (HP7.out.below HB.out) m7).mono ?_
  rintro e w4 ⟨p7', c7', rfl, ho, hk, hb⟩
  have HK7 := Lib.hid hk
  clear hk
  have HQ7 : Hid (RdD DpArchive.E (fun b => w.heap.size + 3 ≤ b) w4 p7' n7 l7) := Lib.hid (ho.mono fun b hb => Nat.le_trans HSZ.out hb)
  clear ho
  clear a0 a1 a2 a3 a4 a5 a6 a7 a8 a9 a10 a11
  replace HA := Lib.hid (HA.out.below hb)
  replace HR := Lib.hid (HR.out.below hb)
  replace HO := Lib.hid (HO.out.below hb)
  replace HQ0 := Lib.hid (HQ0.out.below hb)
  replace HQ1 := Lib.hid (HQ1.out.below hb)
  replace HQ2 := Lib.hid (HQ2.out.below hb)
  replace HQ5 := Lib.hid (HQ5.out.below hb)
  replace HQ6 := Lib.hid (HQ6.out.below hb)
  replace HB := Lib.hid (below_on HB.out hb)
  replace HSZ := Lib.hid (Nat.le_trans HSZ.out hb.size)
  clear hb
  obtain ⟨a0, a1, a2, a3, a4, a5, a6, a7, a8, a9, a10, a11⟩ := bxc HA.out
  obtain ⟨q0, q1, q2, q3, q4, q5, q6, q7, q8, q9, q10, q11⟩ := bxc HO.out
  have g7 := HO.out.free 7
  go_wp2_with fail
  have ho := (HO.out.set_ 7 (.slice p7' n7 c7'))
  simp only [List.setIfInBounds_toArray, List.set_cons_zero, List.set_cons_succ] at ho
  replace HO := Lib.hid ho
  clear ho a0 a1 a2 a3 a4 a5 a6 a7 a8 a9 a10 a11 q0 q1 q2 q3 q4 q5 q6 q7 q8 q9 q10 q11 g7
  replace HA := Lib.hid (HA.out.far (q := ⟨w.heap.size + 1 + 1, 7, none⟩) (by show w.heap.size ≠ w.heap.size + 1 + 1; omega) (.slice p7' n7 c7'))
  replace HR := Lib.hid (HR.out.far (q := ⟨w.heap.size + 1 + 1, 7, none⟩) (by show w.heap.size + 1 ≠ w.heap.size + 1 + 1; omega) (.slice p7' n7 c7'))
  replace HQ0 := Lib.hid (HQ0.out.far (q := ⟨w.heap.size + 1 + 1, 7, none⟩) (by show ¬ (w.heap.size + 3 ≤ w.heap.size + 1 + 1); omega) (.slice p7' n7 c7'))
  replace HQ1 := Lib.hid (HQ1.out.far (q := ⟨w.heap.size + 1 + 1, 7, none⟩) (by show ¬ (w.heap.size + 3 ≤ w.heap.size + 1 + 1); omega) (.slice p7' n7 c7'))
  replace HQ2 := Lib.hid (HQ2.out.far (q := ⟨w.heap.size + 1 + 1, 7, none⟩) (by show ¬ (w.heap.size + 3 ≤ w.heap.size + 1 + 1); omega) (.slice p7' n7 c7'))
  replace HQ5 := Lib.hid (HQ5.out.far (q := ⟨w.heap.size + 1 + 1, 7, none⟩) (by show ¬ (w.heap.size + 3 ≤ w.heap.size + 1 + 1); omega) (.slice p7' n7 c7'))
  replace HQ6 := Lib.hid (HQ6.out.far (q := ⟨w.heap.size + 1 + 1, 7, none⟩) (by show ¬ (w.heap.size + 3 ≤ w.heap.size + 1 + 1); omega) (.slice p7' n7 c7'))
  replace HQ7 := Lib.hid (HQ7.out.far (q := ⟨w.heap.size + 1 + 1, 7, none⟩) (by show ¬ (w.heap.size + 3 ≤ w.heap.size + 1 + 1); omega) (.slice p7' n7 c7'))
  replace HB := Lib.hid (HB.out.setCell (p := ⟨w.heap.size + 1 + 1, 7, none⟩) (by show w.heap.size ≤ w.heap.size + 1 + 1; omega) (.slice p7' n7 c7'))
  replace HSZ : Hid (w.heap.size + 3 ≤ (w4.setCell ⟨w.heap.size + 1 + 1, 7, none⟩ (.slice p7' n7 c7')).heap.size) := Lib.hid (by simpa [World.setCell] using HSZ.out)
  generalize (w4.setCell ⟨w.heap.size + 1 + 1, 7, none⟩ (.slice p7' n7 c7')) = V4 at HA HR HO HB HSZ HQ0 HQ1 HQ2 HQ5 HQ6 HQ7 ⊢
  obtain ⟨a0, a1, a2, a3, a4, a5, a6, a7, a8, a9, a10, a11⟩ := bxc HA.out
  refine (SlI.to_any _ _ _ _ _ (HP8.out.below HB.out).ints (by omega)).mono ?_
  rintro e w5 ⟨p8', n8', c8', rfl, ho, hb⟩
  obtain rfl : n8 = n8' := HP8.out.len.symm.trans ho.len
  have HK8 := Lib.hid (Ed.cap_ow ho)
  have HQ8 : Hid (RdD int (fun b => w.heap.size + 3 ≤ b) w5 p8' n8 l8) := Lib.hid ((RdD.ofOw ho).mono fun b hb => Nat.le_trans HSZ.out hb)
  clear ho
  clear a0 a1 a2 a3 a4 a5 a6 a7 a8 a9 a10 a11
  replace HA := Lib.hid (HA.out.below hb)
  replace HR := Lib.hid (HR.out.below hb)
  replace HO := Lib.hid (HO.out.below hb)
  replace HQ0 := Lib.hid (HQ0.out.below hb)
  replace HQ1 := Lib.hid (HQ1.out.below hb)
  replace HQ2 := Lib.hid (HQ2.out.below hb)
  replace HQ5 := Lib.hid (HQ5.out.below hb)
  replace HQ6 := Lib.hid (HQ6.out.below hb)
  replace HQ7 := Lib.hid (HQ7.out.below hb)
  replace HB := Lib.hid (below_on HB.out hb)
  replace HSZ := Lib.hid (Nat.le_trans HSZ.out hb.size)
  clear hb
  obtain ⟨a0, a1, a2, a3, a4, a5, a6, a7, a8, a9, a10, a11⟩ := bxc HA.out
  obtain ⟨q0, q1, q2, q3, q4, q5, q6, q7, q8, q9, q10, q11⟩ := bxc HO.out
  have g8 := HO.out.free 8
  go_wp2_with fail
  have ho := (HO.out.set_ 8 (.slice p8' n8 c8'))
  simp only [List.setIfInBounds_toArray, List.set_cons_zero, List.set_cons_succ] at ho
  replace HO := Lib.hid ho
  clear ho a0 a1 a2 a3 a4 a5 a6 a7 a8 a9 a10 a11 q0 q1 q2 q3 q4 q5 q6 q7 q8 q9 q10 q11 g8
  replace HA := Lib.hid (HA.out.far (q := ⟨w.heap.size + 1 + 1, 8, none⟩) (by show w.heap.size ≠ w.heap.size + 1 + 1; omega) (.slice p8' n8 c8'))
  replace HR := Lib.hid (HR.out.far (q := ⟨w.heap.size + 1 + 1, 8, none⟩) (by show w.heap.size + 1 ≠ w.heap.size + 1 + 1; omega) (.slice p8' n8 c8'))
  replace HQ0 := Lib.hid (HQ0.out.far (q := ⟨w.heap.size + 1 + 1, 8, none⟩) (by show ¬ (w.heap.size + 3 ≤ w.heap.size + 1 + 1); omega) (.slice p8' n8 c8'))
  replace HQ1 := Lib.hid (HQ1.out.far (q := ⟨w.heap.size + 1 + 1, 8, none⟩) (by show ¬ (w.heap.size + 3 ≤ w.heap.size + 1 + 1); omega) (.slice p8' n8 c8'))
  replace HQ2 := Lib.hid (HQ2.out.far (q := ⟨w.heap.size + 1 + 1, 8, none⟩) (by show ¬ (w.heap.size + 3 ≤ w.heap.size + 1 + 1); omega) (.slice p8' n8 c8'))
  replace HQ5 := Lib.hid (HQ5.out.far (q := ⟨w.heap.size + 1 + 1, 8, none⟩) (by show ¬ (w.heap.size + 3 ≤ w.heap.size + 1 + 1); omega) (.slice p8' n8 c8'))
  replace HQ6 := Lib.hid (HQ6.out.far (q := ⟨w.heap.size + 1 + 1, 8, none⟩) (by show ¬ (w.heap.size + 3 ≤ w.heap.size + 1 + 1); omega) (.slice p8' n8 c8'))
  replace HQ7 := Lib.hid (HQ7.out.far (q := ⟨w.heap.size + 1 + 1, 8, none⟩) (by show ¬ (w.heap.size + 3 ≤ w.heap.size + 1 + 1); omega) (.slice p8' n8 c8'))
  replace HQ8 := Lib.hid (HQ8.out.far (q := ⟨w.heap.size + 1 + 1, 8, none⟩) (by show ¬ (w.heap.size + 3 ≤ w.heap.size + 1 + 1); omega) (.slice p8' n8 c8'))
  replace HB := Lib.hid (HB.out.setCell (p := ⟨w.heap.size + 1 + 1, 8, none⟩) (by show w.heap.size ≤ w.heap.size + 1 + 1; omega) (.slice p8' n8 c8'))
  replace HSZ : Hid (w.heap.size + 3 ≤ (w5.setCell ⟨w.heap.size + 1 + 1, 8, none⟩ (.slice p8' n8 c8')).heap.size) := Lib.hid (by simpa [World.setCell] using HSZ.out)
  generalize (w5.setCell ⟨w.heap.size + 1 + 1, 8, none⟩ (.slice p8' n8 c8')) = V5 at HA HR HO HB HSZ HQ0 HQ1 HQ2 HQ5 HQ6 HQ7 HQ8 ⊢
  obtain ⟨a0, a1, a2, a3, a4, a5, a6, a7, a8, a9, a10, a11⟩ := bxc HA.out
  refine (SlI.to_any _ _ _ _ _ (HP9.out.below HB.out).ints (by omega)).mono ?_
  rintro e w6 ⟨p9', n9', c9', rfl, ho, hb⟩
  obtain rfl : n9 = n9' := HP9.out.len.symm.trans ho.len
  have HK9 := Lib.hid (Ed.cap_ow ho)
  have HQ9 : Hid (RdD int (fun b => w.heap.size + 3 ≤ b) w6 p9' n9 l9) := Lib.hid ((RdD.ofOw ho).mono fun b hb => Nat.le_trans HSZ.out hb)
  clear ho
  clear a0 a1 a2 a3 a4 a5 a6 a7 a8 a9 a10 a11
  replace HA := Lib.hid (HA.out.below hb)
  replace HR := Lib.hid (HR.out.below hb)
  replace HO := Lib.hid (HO.out.below hb)
  replace HQ0 := Lib.hid (HQ0.out.below hb)
  replace HQ1 := Lib.hid (HQ1.out.below hb)
  replace HQ2 := Lib.hid (HQ2.out.below hb)
  replace HQ5 := Lib.hid (HQ5.out.below hb)
  replace HQ6 := Lib.hid (HQ6.out.below hb)
  replace HQ7 := Lib.hid (HQ7.out.below hb)
  replace HQ8 := Lib.hid (HQ8.out.below hb)
  replace HB := Lib.hid (below_on HB.out hb)
  replace HSZ := Lib.hid (Nat.le_trans HSZ.out hb.size)
  clear hb
  obtain ⟨a0, a1, a2, a3, a4, a5, a6, a7, a8, a9, a10, a11⟩ := bxc HA.out
  obtain ⟨q0, q1, q2, q3, q4, q5, q6, q7, q8, q9, q10, q11⟩ := bxc HO.out
  have g9 := HO.out.free 9
  have g10 := HO.out.free 10
  go_wp2_with fail
  have ho := ((HO.out.set_ 9 (.slice p9' n9 c9')).set_ 10 (.int .i64 x10))
  simp only [List.setIfInBounds_toArray, List.set_cons_zero, List.set_cons_succ] at ho
  replace HO := Lib.hid ho
  clear ho a0 a1 a2 a3 a4 a5 a6 a7 a8 a9 a10 a11 q0 q1 q2 q3 q4 q5 q6 q7 q8 q9 q10 q11 g9 g10
  replace HA := Lib.hid ((HA.out.far (q := ⟨w.heap.size + 1 + 1, 9, none⟩) (by show w.heap.size ≠ w.heap.size + 1 + 1; omega) (.slice p9' n9 c9')).far (q := ⟨w.heap.size + 1 + 1, 10, none⟩) (by show w.heap.size ≠ w.heap.size + 1 + 1; omega) (.int .i64 x10))
  replace HR := Lib.hid ((HR.out.far (q := ⟨w.heap.size + 1 + 1, 9, none⟩) (by show w.heap.size + 1 ≠ w.heap.size + 1 + 1; omega) (.slice p9' n9 c9')).far (q := ⟨w.heap.size + 1 + 1, 10, none⟩) (by show w.heap.size + 1 ≠ w.heap.size + 1 + 1; omega) (.int .i64 x10))
  replace HQ0 := Lib.hid ((HQ0.out.far (q := ⟨w.heap.size + 1 + 1, 9, none⟩) (by show ¬ (w.heap.size + 3 ≤ w.heap.size + 1 + 1); omega) (.slice p9' n9 c9')).far (q := ⟨w.heap.size + 1 + 1, 10, none⟩) (by show ¬ (w.heap.size + 3 ≤ w.heap.size + 1 + 1); omega) (.int .i64 x10))
  replace HQ1 := Lib.hid ((HQ1.out.far (q := ⟨w.heap.size + 1 + 1, 9, none⟩) (by show ¬ (w.heap.size + 3 ≤ w.heap.size + 1 + 1); omega) (.slice p9' n9 c9')).far (q := ⟨w.heap.size + 1 + 1, 10, none⟩) (by show ¬ (w.heap.size + 3 ≤ w.heap.size + 1 + 1); omega) (.int .i64 x10))
  replace HQ2 := Lib.hid ((HQ2.out.far (q := ⟨w.heap.size + 1 + 1, 9, none⟩) (by show ¬ (w.heap.size + 3 ≤ w.heap.size + 1 + 1); omega) (.slice p9' n9 c9')).far (q := ⟨w.heap.size + 1 + 1, 10, none⟩) (by show ¬ (w.heap.size + 3 ≤ w.heap.size + 1 + 1); omega) (.int .i64 x10))
  replace HQ5 := Lib.hid ((HQ5.out.far (q := ⟨w.heap.size + 1 + 1, 9, none⟩) (by show ¬ (w.heap.size + 3 ≤ w.heap.size + 1 + 1); omega) (.slice p9' n9 c9')).far (q := ⟨w.heap.size + 1 + 1, 10, none⟩) (by show ¬ (w.heap.size + 3 ≤ w.heap.size + 1 + 1); omega) (.int .i64 x10))
  replace HQ6 := Lib.hid ((HQ6.out.far (q := ⟨w.heap.size + 1 + 1, 9, none⟩) (by show ¬ (w.heap.size + 3 ≤ w.heap.size + 1 + 1); omega) (.slice p9' n9 c9')).far (q := ⟨w.heap.size + 1 + 1, 10, none⟩) (by show ¬ (w.heap.size + 3 ≤ w.heap.size + 1 + 1); omega) (.int .i64 x10))
  replace HQ7 := Lib.hid ((HQ7.out.far (q := ⟨w.heap.size + 1 + 1, 9, none⟩) (by show ¬ (w.heap.size + 3 ≤ w.heap.size + 1 + 1); omega) (.slice p9' n9 c9')).far (q := ⟨w.heap.size + 1 + 1, 10, none⟩) (by show ¬ (w.heap.size + 3 ≤ w.heap.size + 1 + 1); omega) (.int .i64 x10))
  replace HQ8 := Lib.hid ((HQ8.out.far (q := ⟨w.heap.size + 1 + 1, 9, none⟩) (by show ¬ (w.heap.size + 3 ≤ w.heap.size + 1 + 1); omega) (.slice p9' n9 c9')).far (q := ⟨w.heap.size + 1 + 1, 10, none⟩) (by show ¬ (w.heap.size + 3 ≤ w.heap.size + 1 + 1); omega) (.int .i64 x10))
  replace HQ9 := Lib.hid ((HQ9.out.far (q := ⟨w.heap.size + 1 + 1, 9, none⟩) (by show ¬ (w.heap.size + 3 ≤ w.heap.size + 1 + 1); omega) (.slice p9' n9 c9')).far (q := ⟨w.heap.size + 1 + 1, 10, none⟩) (by show ¬ (w.heap.size + 3 ≤ w.heap.size + 1 + 1); omega) (.int .i64 x10))
  replace HB := Lib.hid ((HB.out.setCell (p := ⟨w.heap.size + 1 + 1, 9, none⟩) (by show w.heap.size ≤ w.heap.size + 1 + 1; omega) (.slice p9' n9 c9')).setCell (p := ⟨w.heap.size + 1 + 1, 10, none⟩) (by show w.heap.size ≤ w.heap.size + 1 + 1; omega) (.int .i64 x10))
  replace HSZ : Hid (w.heap.size + 3 ≤ ((w6.setCell ⟨w.heap.size + 1 + 1, 9, none⟩ (.slice p9' n9 c9')).setCell ⟨w.heap.size + 1 + 1, 10, none⟩ (.int .i64 x10)).heap.size) := Lib.hid (by simpa [World.setCell] using HSZ.out)
  generalize ((w6.setCell ⟨w.heap.size + 1 + 1, 9, none⟩ (.slice p9' n9 c9')).setCell ⟨w.heap.size + 1 + 1, 10, none⟩ (.int .i64 x10)) = V6 at HA HR HO HB HSZ HQ0 HQ1 HQ2 HQ5 HQ6 HQ7 HQ8 HQ9 ⊢
  obtain ⟨a0, a1, a2, a3, a4, a5, a6, a7, a8, a9, a10, a11⟩ := bxc HA.out
  refine (SlI.to_any _ _ _ _ _ (HP11.out.below HB.out).ints (by omega)).mono ?_
  rintro e w7 ⟨p11', n11', c11', rfl, ho, hb⟩
  obtain rfl : n11 = n11' := HP11.out.len.symm.trans ho.len
  have HK11 := Lib.hid (Ed.cap_ow ho)
  have HQ11 : Hid (RdD int (fun b => w.heap.size + 3 ≤ b) w7 p11' n11 l11) := Lib.hid ((RdD.ofOw ho).mono fun b hb => Nat.le_trans HSZ.out hb)
  clear ho
  clear a0 a1 a2 a3 a4 a5 a6 a7 a8 a9 a10 a11
  replace HA := Lib.hid (HA.out.below hb)
  replace HR := Lib.hid (HR.out.below hb)
  replace HO := Lib.hid (HO.out.below hb)
  replace HQ0 := Lib.hid (HQ0.out.below hb)
  replace HQ1 := Lib.hid (HQ1.out.below hb)
  replace HQ2 := Lib.hid (HQ2.out.below hb)
  replace HQ5 := Lib.hid (HQ5.out.below hb)
  replace HQ6 := Lib.hid (HQ6.out.below hb)
  replace HQ7 := Lib.hid (HQ7.out.below hb)
  replace HQ8 := Lib.hid (HQ8.out.below hb)
  replace HQ9 := Lib.hid (HQ9.out.below hb)
  replace HB := Lib.hid (below_on HB.out hb)
  replace HSZ := Lib.hid (Nat.le_trans HSZ.out hb.size)
  clear hb
  obtain ⟨a0, a1, a2, a3, a4, a5, a6, a7, a8, a9, a10, a11⟩ := bxc HA.out
  obtain ⟨q0, q1, q2, q3, q4, q5, q6, q7, q8, q9, q10, q11⟩ := bxc HO.out
  have g11 := HO.out.free 11
  obtain ⟨r0, r1, r2, r3, r4, r5, r6, r7, r8, r9, r10, r11⟩ := bxc HR.out
  have s0 := HR.out.free 0
  have s1 := HR.out.free 1
  have s2 := HR.out.free 2
  have s3 := HR.out.free 3
  have s4 := HR.out.free 4
  have s5 := HR.out.free 5
  have s6 := HR.out.free 6
  have s7 := HR.out.free 7
  have s8 := HR.out.free 8
  have s9 := HR.out.free 9
  have s10 := HR.out.free 10
  have s11 := HR.out.free 11
  go_wp2_with fail
  exact bodyPost_ret (v := .agg #[.slice p0' n0 c0', .slice p1' n1 c1', .slice p2' n2 c2', .int .i64 x3, .int .i64 x4, .slice p5' n5 c5', .slice p6' n6 c6', .slice p7' n7 c7', .slice p8' n8 c8', .slice p9' n9 c9', .int .i64 x10, .slice p11' n11 c11']) (by simp [results, Tryz.results20, go_sem, r0, r1, r2, r3, r4, r5, r6, r7, r8, r9, r10, r11]) rfl ⟨p0', c0', p1', c1', p2', c2', p5', c5', p6', c6', p7', c7', p8', c8', p9', c9', p11', c11', rfl, (((((((((((((((HQ0.out.far (q := ⟨w.heap.size + 1 + 1, 11, none⟩) (by show ¬ (w.heap.size + 3 ≤ w.heap.size + 1 + 1); omega) (.slice p11' n11 c11')).far (q := ⟨w.heap.size + 1, 0, none⟩) (by show ¬ (w.heap.size + 3 ≤ w.heap.size + 1); omega) (.slice p0' n0 c0')).far (q := ⟨w.heap.size + 1, 1, none⟩) (by show ¬ (w.heap.size + 3 ≤ w.heap.size + 1); omega) (.slice p1' n1 c1')).far (q := ⟨w.heap.size + 1, 2, none⟩) (by show ¬ (w.heap.size + 3 ≤ w.heap.size + 1); omega) (.slice p2' n2 c2')).far (q := ⟨w.heap.size + 1, 3, none⟩) (by show ¬ (w.heap.size + 3 ≤ w.heap.size + 1); omega) (.int .i64 x3)).far (q := ⟨w.heap.size + 1, 4, none⟩) (by show ¬ (w.heap.size + 3 ≤ w.heap.size + 1); omega) (.int .i64 x4)).far (q := ⟨w.heap.size + 1, 5, none⟩) (by show ¬ (w.heap.size + 3 ≤ w.heap.size + 1); omega) (.slice p5' n5 c5')).far (q := ⟨w.heap.size + 1, 6, none⟩) (by show ¬ (w.heap.size + 3 ≤ w.heap.size + 1); omega) (.slice p6' n6 c6')).far (q := ⟨w.heap.size + 1, 7, none⟩) (by show ¬ (w.heap.size + 3 ≤ w.heap.size + 1); omega) (.slice p7' n7 c7')).far (q := ⟨w.heap.size + 1, 8, none⟩) (by show ¬ (w.heap.size + 3 ≤ w.heap.size + 1); omega) (.slice p8' n8 c8')).far (q := ⟨w.heap.size + 1, 9, none⟩) (by show ¬ (w.heap.size + 3 ≤ w.heap.size + 1); omega) (.slice p9' n9 c9')).far (q := ⟨w.heap.size + 1, 10, none⟩) (by show ¬ (w.heap.size + 3 ≤ w.heap.size + 1); omega) (.int .i64 x10)).far (q := ⟨w.heap.size + 1, 11, none⟩) (by show ¬ (w.heap.size + 3 ≤ w.heap.size + 1); omega) (.slice p11' n11 c11'))).mono fun b hb => by omega), (((((((((((((((HQ1.out.far (q := ⟨w.heap.size + 1 + 1, 11, none⟩) (by show ¬ (w.heap.size + 3 ≤ w.heap.size + 1 + 1); omega) (.slice p11' n11 c11')).far (q := ⟨w.heap.size + 1, 0, none⟩) (by show ¬ (w.heap.size + 3 ≤ w.heap.size + 1); omega) (.slice p0' n0 c0')).far (q := ⟨w.heap.size + 1, 1, none⟩) (by show ¬ (w.heap.size + 3 ≤ w.heap.size + 1); omega) (.slice p1' n1 c1')).far (q := ⟨w.heap.size + 1, 2, none⟩) (by show ¬ (w.heap.size + 3 ≤ w.heap.size + 1); omega) (.slice p2' n2 c2')).far (q := ⟨w.heap.size + 1, 3, none⟩) (by show ¬ (w.heap.size + 3 ≤ w.heap.size + 1); omega) (.int .i64 x3)).far (q := ⟨w.heap.size + 1, 4, none⟩) (by show ¬ (w.heap.size + 3 ≤ w.heap.size + 1); omega) (.int .i64 x4)).far (q := ⟨w.heap.size + 1, 5, none⟩) (by show ¬ (w.heap.size + 3 ≤ w.heap.size + 1); omega) (.slice p5' n5 c5')).far (q := ⟨w.heap.size + 1, 6, none⟩) (by show ¬ (w.heap.size + 3 ≤ w.heap.size + 1); omega) (.slice p6' n6 c6')).far (q := ⟨w.heap.size + 1, 7, none⟩) (by show ¬ (w.heap.size + 3 ≤ w.heap.size + 1); omega) (.slice p7' n7 c7')).far (q := ⟨w.heap.size + 1, 8, none⟩) (by show ¬ (w.heap.size + 3 ≤ w.heap.size + 1); omega) (.slice p8' n8 c8')).far (q := ⟨w.heap.size + 1, 9, none⟩) (by show ¬ (w.heap.size + 3 ≤ w.heap.size + 1); omega) (.slice p9' n9 c9')).far (q := ⟨w.heap.size + 1, 10, none⟩) (by show ¬ (w.heap.size + 3 ≤ w.heap.size + 1); omega) (.int .i64 x10)).far (q := ⟨w.heap.size + 1, 11, none⟩) (by show ¬ (w.heap.size + 3 ≤ w.heap.size + 1); omega) (.slice p11' n11 c11'))).mono fun b hb => by omega), (((((((((((((((HQ2.out.far (q := ⟨w.heap.size + 1 + 1, 11, none⟩) (by show ¬ (w.heap.size + 3 ≤ w.heap.size + 1 + 1); omega) (.slice p11' n11 c11')).far (q := ⟨w.heap.size + 1, 0, none⟩) (by show ¬ (w.heap.size + 3 ≤ w.heap.size + 1); omega) (.slice p0' n0 c0')).far (q := ⟨w.heap.size + 1, 1, none⟩) (by show ¬ (w.heap.size + 3 ≤ w.heap.size + 1); omega) (.slice p1' n1 c1')).far (q := ⟨w.heap.size + 1, 2, none⟩) (by show ¬ (w.heap.size + 3 ≤ w.heap.size + 1); omega) (.slice p2' n2 c2')).far (q := ⟨w.heap.size + 1, 3, none⟩) (by show ¬ (w.heap.size + 3 ≤ w.heap.size + 1); omega) (.int .i64 x3)).far (q := ⟨w.heap.size + 1, 4, none⟩) (by show ¬ (w.heap.size + 3 ≤ w.heap.size + 1); omega) (.int .i64 x4)).far (q := ⟨w.heap.size + 1, 5, none⟩) (by show ¬ (w.heap.size + 3 ≤ w.heap.size + 1); omega) (.slice p5' n5 c5')).far (q := ⟨w.heap.size + 1, 6, none⟩) (by show ¬ (w.heap.size + 3 ≤ w.heap.size + 1); omega) (.slice p6' n6 c6')).far (q := ⟨w.heap.size + 1, 7, none⟩) (by show ¬ (w.heap.size + 3 ≤ w.heap.size + 1); omega) (.slice p7' n7 c7')).far (q := ⟨w.heap.size + 1, 8, none⟩) (by show ¬ (w.heap.size + 3 ≤ w.heap.size + 1); omega) (.slice p8' n8 c8')).far (q := ⟨w.heap.size + 1, 9, none⟩) (by show ¬ (w.heap.size + 3 ≤ w.heap.size + 1); omega) (.slice p9' n9 c9')).far (q := ⟨w.heap.size + 1, 10, none⟩) (by show ¬ (w.heap.size + 3 ≤ w.heap.size + 1); omega) (.int .i64 x10)).far (q := ⟨w.heap.size + 1, 11, none⟩) (by show ¬ (w.heap.size + 3 ≤ w.heap.size + 1); omega) (.slice p11' n11 c11'))).mono fun b hb => by omega), (((((((((((((((HQ5.out.far (q := ⟨w.heap.size + 1 + 1, 11, none⟩) (by show ¬ (w.heap.size + 3 ≤ w.heap.size + 1 + 1); omega) (.slice p11' n11 c11')).far (q := ⟨w.heap.size + 1, 0, none⟩) (by show ¬ (w.heap.size + 3 ≤ w.heap.size + 1); omega) (.slice p0' n0 c0')).far (q := ⟨w.heap.size + 1, 1, none⟩) (by show ¬ (w.heap.size + 3 ≤ w.heap.size + 1); omega) (.slice p1' n1 c1')).far (q := ⟨w.heap.size + 1, 2, none⟩) (by show ¬ (w.heap.size + 3 ≤ w.heap.size + 1); omega) (.slice p2' n2 c2')).far (q := ⟨w.heap.size + 1, 3, none⟩) (by show ¬ (w.heap.size + 3 ≤ w.heap.size + 1); omega) (.int .i64 x3)).far (q := ⟨w.heap.size + 1, 4, none⟩) (by show ¬ (w.heap.size + 3 ≤ w.heap.size + 1); omega) (.int .i64 x4)).far (q := ⟨w.heap.size + 1, 5, none⟩) (by show ¬ (w.heap.size + 3 ≤ w.heap.size + 1); omega) (.slice p5' n5 c5')).far (q := ⟨w.heap.size + 1, 6, none⟩) (by show ¬ (w.heap.size + 3 ≤ w.heap.size + 1); omega) (.slice p6' n6 c6')).far (q := ⟨w.heap.size + 1, 7, none⟩) (by show ¬ (w.heap.size + 3 ≤ w.heap.size + 1); omega) (.slice p7' n7 c7')).far (q := ⟨w.heap.size + 1, 8, none⟩) (by show ¬ (w.heap.size + 3 ≤ w.heap.size + 1); omega) (.slice p8' n8 c8')).far (q := ⟨w.heap.size + 1, 9, none⟩) (by show ¬ (w.heap.size + 3 ≤ w.heap.size + 1); omega) (.slice p9' n9 c9')).far (q := ⟨w.heap.size + 1, 10, none⟩) (by show ¬ (w.heap.size + 3 ≤ w.heap.size + 1); omega) (.int .i64 x10)).far (q := ⟨w.heap.size + 1, 11, none⟩) (by show ¬ (w.heap.size + 3 ≤ w.heap.size + 1); omega) (.slice p11' n11 c11'))).mono fun b hb => by omega), (((((((((((((((HQ6.out.far (q := ⟨w.heap.size + 1 + 1, 11, none⟩) (by show ¬ (w.heap.size + 3 ≤ w.heap.size + 1 + 1); omega) (.slice p11' n11 c11')).far (q := ⟨w.heap.size + 1, 0, none⟩) (by show ¬ (w.heap.size + 3 ≤ w.heap.size + 1); omega) (.slice p0' n0 c0')).far (q := ⟨w.heap.size + 1, 1, none⟩) (by show ¬ (w.heap.size + 3 ≤ w.heap.size + 1); omega) (.slice p1' n1 c1')).far (q := ⟨w.heap.size + 1, 2, none⟩) (by show ¬ (w.heap.size + 3 ≤ w.heap.size + 1); omega) (.slice p2' n2 c2')).far (q := ⟨w.heap.size + 1, 3, none⟩) (by show ¬ (w.heap.size + 3 ≤ w.heap.size + 1); omega) (.int .i64 x3)).far (q := ⟨w.heap.size + 1, 4, none⟩) (by show ¬ (w.heap.size + 3 ≤ w.heap.size + 1); omega) (.int .i64 x4)).far (q := ⟨w.heap.size + 1, 5, none⟩) (by show ¬ (w.heap.size + 3 ≤ w.heap.size + 1); omega) (.slice p5' n5 c5')).far (q := ⟨w.heap.size + 1, 6, none⟩) (by show ¬ (w.heap.size + 3 ≤ w.heap.size + 1); omega) (.slice p6' n6 c6')).far (q := ⟨w.heap.size + 1, 7, none⟩) (by show ¬ (w.heap.size + 3 ≤ w.heap.size + 1); omega) (.slice p7' n7 c7')).far (q := ⟨w.heap.size + 1, 8, none⟩) (by show ¬ (w.heap.size + 3 ≤ w.heap.size + 1); omega) (.slice p8' n8 c8')).far (q := ⟨w.heap.size + 1, 9, none⟩) (by show ¬ (w.heap.size + 3 ≤ w.heap.size + 1); omega) (.slice p9' n9 c9')).far (q := ⟨w.heap.size + 1, 10, none⟩) (by show ¬ (w.heap.size + 3 ≤ w.heap.size + 1); omega) (.int .i64 x10)).far (q := ⟨w.heap.size + 1, 11, none⟩) (by show ¬ (w.heap.size + 3 ≤ w.heap.size + 1); omega) (.slice p11' n11 c11'))).mono fun b hb => by omega), (((((((((((((((HQ7.out.far (q := ⟨w.heap.size + 1 + 1, 11, none⟩) (by show ¬ (w.heap.size + 3 ≤ w.heap.size + 1 + 1); omega) (.slice p11' n11 c11')).far (q := ⟨w.heap.size + 1, 0, none⟩) (by show ¬ (w.heap.size + 3 ≤ w.heap.size + 1); omega) (.slice p0' n0 c0')).far (q := ⟨w.heap.size + 1, 1, none⟩) (by show ¬ (w.heap.size + 3 ≤ w.heap.size + 1); omega) (.slice p1' n1 c1')).far (q := ⟨w.heap.size + 1, 2, none⟩) (by show ¬ (w.heap.size + 3 ≤ w.heap.size + 1); omega) (.slice p2' n2 c2')).far (q := ⟨w.heap.size + 1, 3, none⟩) (by show ¬ (w.heap.size + 3 ≤ w.heap.size + 1); omega) (.int .i64 x3)).far (q := ⟨w.heap.size + 1, 4, none⟩) (by show ¬ (w.heap.size + 3 ≤ w.heap.size + 1); omega) (.int .i64 x4)).far (q := ⟨w.heap.size + 1, 5, none⟩) (by show ¬ (w.heap.size + 3 ≤ w.heap.size + 1); omega) (.slice p5' n5 c5')).far (q := ⟨w.heap.size + 1, 6, none⟩) (by show ¬ (w.heap.size + 3 ≤ w.heap.size + 1); omega) (.slice p6' n6 c6')).far (q := ⟨w.heap.size + 1, 7, none⟩) (by show ¬ (w.heap.size + 3 ≤ w.heap.size + 1); omega) (.slice p7' n7 c7')).far (q := ⟨w.heap.size + 1, 8, none⟩) (by show ¬ (w.heap.size + 3 ≤ w.heap.size + 1); omega) (.slice p8' n8 c8')).far (q := ⟨w.heap.size + 1, 9, none⟩) (by show ¬ (w.heap.size + 3 ≤ w.heap.size + 1); omega) (.slice p9' n9 c9')).far (q := ⟨w.heap.size + 1, 10, none⟩) (by show ¬ (w.heap.size + 3 ≤ w.heap.size + 1); omega) (.int .i64 x10)).far (q := ⟨w.heap.size + 1, 11, none⟩) (by show ¬ (w.heap.size + 3 ≤ w.heap.size + 1); omega) (.slice p11' n11 c11'))).mono fun b hb => by omega), (((((((((((((((HQ8.out.far (q := ⟨w.heap.size + 1 + 1, 11, none⟩) (by show ¬ (w.heap.size + 3 ≤ w.heap.size + 1 + 1); omega) (.slice p11' n11 c11')).far (q := ⟨w.heap.size + 1, 0, none⟩) (by show ¬ (w.heap.size + 3 ≤ w.heap.size + 1); omega) (.slice p0' n0 c0')).far (q := ⟨w.heap.size + 1, 1, none⟩) (by show ¬ (w.heap.size + 3 ≤ w.heap.size + 1); omega) (.slice p1' n1 c1')).far (q := ⟨w.heap.size + 1, 2, none⟩) (by show ¬ (w.heap.size + 3 ≤ w.heap.size + 1); omega) (.slice p2' n2 c2')).far (q := ⟨w.heap.size + 1, 3, none⟩) (by show ¬ (w.heap.size + 3 ≤ w.heap.size + 1); omega) (.int .i64 x3)).far (q := ⟨w.heap.size + 1, 4, none⟩) (by show ¬ (w.heap.size + 3 ≤ w.heap.size + 1); omega) (.int .i64 x4)).far (q := ⟨w.heap.size + 1, 5, none⟩) (by show ¬ (w.heap.size + 3 ≤ w.heap.size + 1); omega) (.slice p5' n5 c5')).far (q := ⟨w.heap.size + 1, 6, none⟩) (by show ¬ (w.heap.size + 3 ≤ w.heap.size + 1); omega) (.slice p6' n6 c6')).far (q := ⟨w.heap.size + 1, 7, none⟩) (by show ¬ (w.heap.size + 3 ≤ w.heap.size + 1); omega) (.slice p7' n7 c7')).far (q := ⟨w.heap.size + 1, 8, none⟩) (by show ¬ (w.heap.size + 3 ≤ w.heap.size + 1); omega) (.slice p8' n8 c8')).far (q := ⟨w.heap.size + 1, 9, none⟩) (by show ¬ (w.heap.size + 3 ≤ w.heap.size + 1); omega) (.slice p9' n9 c9')).far (q := ⟨w.heap.size + 1, 10, none⟩) (by show ¬ (w.heap.size + 3 ≤ w.heap.size + 1); omega) (.int .i64 x10)).far (q := ⟨w.heap.size + 1, 11, none⟩) (by show ¬ (w.heap.size + 3 ≤ w.heap.size + 1); omega) (.slice p11' n11 c11'))).mono fun b hb => by omega), (((((((((((((((HQ9.out.far (q := ⟨w.heap.size + 1 + 1, 11, none⟩) (by show ¬ (w.heap.size + 3 ≤ w.heap.size + 1 + 1); omega) (.slice p11' n11 c11')).far (q := ⟨w.heap.size + 1, 0, none⟩) (by show ¬ (w.heap.size + 3 ≤ w.heap.size + 1); omega) (.slice p0' n0 c0')).far (q := ⟨w.heap.size + 1, 1, none⟩) (by show ¬ (w.heap.size + 3 ≤ w.heap.size + 1); omega) (.slice p1' n1 c1')).far (q := ⟨w.heap.size + 1, 2, none⟩) (by show ¬ (w.heap.size + 3 ≤ w.heap.size + 1); omega) (.slice p2' n2 c2')).far (q := ⟨w.heap.size + 1, 3, none⟩) (by show ¬ (w.heap.size + 3 ≤ w.heap.size + 1); omega) (.int .i64 x3)).far (q := ⟨w.heap.size + 1, 4, none⟩) (by show ¬ (w.heap.size + 3 ≤ w.heap.size + 1); omega) (.int .i64 x4)).far (q := ⟨w.heap.size + 1, 5, none⟩) (by show ¬ (w.heap.size + 3 ≤ w.heap.size + 1); omega) (.slice p5' n5 c5')).far (q := ⟨w.heap.size + 1, 6, none⟩) (by show ¬ (w.heap.size + 3 ≤ w.heap.size + 1); omega) (.slice p6' n6 c6')).far (q := ⟨w.heap.size + 1, 7, none⟩) (by show ¬ (w.heap.size + 3 ≤ w.heap.size + 1); omega) (.slice p7' n7 c7')).far (q := ⟨w.heap.size + 1, 8, none⟩) (by show ¬ (w.heap.size + 3 ≤ w.heap.size + 1); omega) (.slice p8' n8 c8')).far (q := ⟨w.heap.size + 1, 9, none⟩) (by show ¬ (w.heap.size + 3 ≤ w.heap.size + 1); omega) (.slice p9' n9 c9')).far (q := ⟨w.heap.size + 1, 10, none⟩) (by show ¬ (w.heap.size + 3 ≤ w.heap.size + 1); omega) (.int .i64 x10)).far (q := ⟨w.heap.size + 1, 11, none⟩) (by show ¬ (w.heap.size + 3 ≤ w.heap.size + 1); omega) (.slice p11' n11 c11'))).mono fun b hb => by omega), (((((((((((((((HQ11.out.far (q := ⟨w.heap.size + 1 + 1, 11, none⟩) (by show ¬ (w.heap.size + 3 ≤ w.heap.size + 1 + 1); omega) (.slice p11' n11 c11')).far (q := ⟨w.heap.size + 1, 0, none⟩) (by show ¬ (w.heap.size + 3 ≤ w.heap.size + 1); omega) (.slice p0' n0 c0')).far (q := ⟨w.heap.size + 1, 1, none⟩) (by show ¬ (w.heap.size + 3 ≤ w.heap.size + 1); omega) (.slice p1' n1 c1')).far (q := ⟨w.heap.size + 1, 2, none⟩) (by show ¬ (w.heap.size + 3 ≤ w.heap.size + 1); omega) (.slice p2' n2 c2')).far (q := ⟨w.heap.size + 1, 3, none⟩) (by show ¬ (w.heap.size + 3 ≤ w.heap.size + 1); omega) (.int .i64 x3)).far (q := ⟨w.heap.size + 1, 4, none⟩) (by show ¬ (w.heap.size + 3 ≤ w.heap.size + 1); omega) (.int .i64 x4)).far (q := ⟨w.heap.size + 1, 5, none⟩) (by show ¬ (w.heap.size + 3 ≤ w.heap.size + 1); omega) (.slice p5' n5 c5')).far (q := ⟨w.heap.size + 1, 6, none⟩) (by show ¬ (w.heap.size + 3 ≤ w.heap.size + 1); omega) (.slice p6' n6 c6')).far (q := ⟨w.heap.size + 1, 7, none⟩) (by show ¬ (w.heap.size + 3 ≤ w.heap.size + 1); omega) (.slice p7' n7 c7')).far (q := ⟨w.heap.size + 1, 8, none⟩) (by show ¬ (w.heap.size + 3 ≤ w.heap.size + 1); omega) (.slice p8' n8 c8')).far (q := ⟨w.heap.size + 1, 9, none⟩) (by show ¬ (w.heap.size + 3 ≤ w.heap.size + 1); omega) (.slice p9' n9 c9')).far (q := ⟨w.heap.size + 1, 10, none⟩) (by show ¬ (w.heap.size + 3 ≤ w.heap.size + 1); omega) (.int .i64 x10)).far (q := ⟨w.heap.size + 1, 11, none⟩) (by show ¬ (w.heap.size + 3 ≤ w.heap.size + 1); omega) (.slice p11' n11 c11'))).mono fun b hb => by omega), HK0.out, HK1.out, HK2.out, HK5.out, HK6.out, HK7.out, HK8.out, HK9.out, HK11.out, (((((((((((((HB.out.setCell (p := ⟨w.heap.size + 1 + 1, 11, none⟩) (by show w.heap.size ≤ w.heap.size + 1 + 1; omega) (.slice p11' n11 c11')).setCell (p := ⟨w.heap.size + 1, 0, none⟩) (by show w.heap.size ≤ w.heap.size + 1; omega) (.slice p0' n0 c0')).setCell (p := ⟨w.heap.size + 1, 1, none⟩) (by show w.heap.size ≤ w.heap.size + 1; omega) (.slice p1' n1 c1')).setCell (p := ⟨w.heap.size + 1, 2, none⟩) (by show w.heap.size ≤ w.heap.size + 1; omega) (.slice p2' n2 c2')).setCell (p := ⟨w.heap.size + 1, 3, none⟩) (by show w.heap.size ≤ w.heap.size + 1; omega) (.int .i64 x3)).setCell (p := ⟨w.heap.size + 1, 4, none⟩) (by show w.heap.size ≤ w.heap.size + 1; omega) (.int .i64 x4)).setCell (p := ⟨w.heap.size + 1, 5, none⟩) (by show w.heap.size ≤ w.heap.size + 1; omega) (.slice p5' n5 c5')).setCell (p := ⟨w.heap.size + 1, 6, none⟩) (by show w.heap.size ≤ w.heap.size + 1; omega) (.slice p6' n6 c6')).setCell (p := ⟨w.heap.size + 1, 7, none⟩) (by show w.heap.size ≤ w.heap.size + 1; omega) (.slice p7' n7 c7')).setCell (p := ⟨w.heap.size + 1, 8, none⟩) (by show w.heap.size ≤ w.heap.size + 1; omega) (.slice p8' n8 c8')).setCell (p := ⟨w.heap.size + 1, 9, none⟩) (by show w.heap.size ≤ w.heap.size + 1; omega) (.slice p9' n9 c9')).setCell (p := ⟨w.heap.size + 1, 10, none⟩) (by show w.heap.size ≤ w.heap.size + 1; omega) (.int .i64 x10)).setCell (p := ⟨w.heap.size + 1, 11, none⟩) (by show w.heap.size ≤ w.heap.size + 1; omega) (.slice p11' n11 c11'))⟩
theorem to_any (l0 : List (Int × Int × Int × Int × Int)) (p0 : Option Addr) (n0 c0 : Nat) (l1 : List (Int × Int × Int)) (p1 : Option Addr) (n1 c1 : Nat) (l2 : List (Int × Int × Int × Int)) (p2 : Option Addr) (n2 c2 : Nat) (x3 : Int) (x4 : Int) (l5 : List (Int × Int × Int × Int × Int × Int × Int)) (p5 : Option Addr) (n5 c5 : Nat) (l6 : List Int) (p6 : Option Addr) (n6 c6 : Nat) (l7 : List DpArchive.A) (p7 : Option Addr) (n7 c7 : Nat) (l8 : List Int) (p8 : Option Addr) (n8 c8 : Nat) (l9 : List Int) (p9 : Option Addr) (n9 c9 : Nat) (x10 : Int) (l11 : List Int) (p11 : Option Addr) (n11 c11 : Nat) {S0 S1 S2 S5 S6 S7 S8 S9 S11 : Nat → Prop} (w : World) (h0 : RdD (flat SlKey.E SlKey.InR) S0 w p0 n0 l0) (h1 : RdD (flat SlAuthority.E SlAuthority.InR) S1 w p1 n1 l1) (h2 : RdD (flat SlMethod.E SlMethod.InR) S2 w p2 n2 l2) (h5 : RdD (flat SlCert.E SlCert.InR) S5 w p5 n5 l5) (h6 : RdD int S6 w p6 n6 l6) (h7 : RdD DpArchive.E S7 w p7 n7 l7) (h8 : RdD int S8 w p8 n8 l8) (h9 : RdD int S9 w p9 n9 l9) (h11 : RdD int S11 w p11 n11 l11) (hm : E.wt ((l0, l1, l2, x3, x4), l5, l6, l7, l8, l9, x10, l11) ≤ 1048576) : Calls Tryz.prog 20 #[.agg #[.slice p0 n0 c0, .slice p1 n1 c1, .slice p2 n2 c2, .int .i64 x3, .int .i64 x4, .slice p5 n5 c5, .slice p6 n6 c6, .slice p7 n7 c7, .slice p8 n8 c8, .slice p9 n9 c9, .int .i64 x10, .slice p11 n11 c11]] w fun e w' => ∃ (p0' : Option Addr) (c0' : Nat) (p1' : Option Addr) (c1' : Nat) (p2' : Option Addr) (c2' : Nat) (p5' : Option Addr) (c5' : Nat) (p6' : Option Addr) (c6' : Nat) (p7' : Option Addr) (c7' : Nat) (p8' : Option Addr) (c8' : Nat) (p9' : Option Addr) (c9' : Nat) (p11' : Option Addr) (c11' : Nat), e = .returned (.agg #[.slice p0' n0 c0', .slice p1' n1 c1', .slice p2' n2 c2', .int .i64 x3, .int .i64 x4, .slice p5' n5 c5', .slice p6' n6 c6', .slice p7' n7 c7', .slice p8' n8 c8', .slice p9' n9 c9', .int .i64 x10, .slice p11' n11 c11']) ∧ RdD (flat SlKey.E SlKey.InR) (fun b => w.heap.size ≤ b) w' p0' n0 l0 ∧ RdD (flat SlAuthority.E SlAuthority.InR) (fun b => w.heap.size ≤ b) w' p1' n1 l1 ∧ RdD (flat SlMethod.E SlMethod.InR) (fun b => w.heap.size ≤ b) w' p2' n2 l2 ∧ RdD (flat SlCert.E SlCert.InR) (fun b => w.heap.size ≤ b) w' p5' n5 l5 ∧ RdD int (fun b => w.heap.size ≤ b) w' p6' n6 l6 ∧ RdD DpArchive.E (fun b => w.heap.size ≤ b) w' p7' n7 l7 ∧ RdD int (fun b => w.heap.size ≤ b) w' p8' n8 l8 ∧ RdD int (fun b => w.heap.size ≤ b) w' p9' n9 l9 ∧ RdD int (fun b => w.heap.size ≤ b) w' p11' n11 l11 ∧ Below w.heap.size w w' := by
  refine (toK_any l0 p0 n0 c0 l1 p1 n1 c1 l2 p2 n2 c2 x3 x4 l5 p5 n5 c5 l6 p6 n6 c6 l7 p7 n7 c7 l8 p8 n8 c8 l9 p9 n9 c9 x10 l11 p11 n11 c11 w h0 h1 h2 h5 h6 h7 h8 h9 h11 hm).mono ?_
  rintro e w' ⟨p0', c0', p1', c1', p2', c2', p5', c5', p6', c6', p7', c7', p8', c8', p9', c9', p11', c11', he, o0, o1, o2, o5, o6, o7, o8, o9, o11, _, _, _, _, _, _, _, _, _, hb⟩
  exact ⟨p0', c0', p1', c1', p2', c2', p5', c5', p6', c6', p7', c7', p8', c8', p9', c9', p11', c11', he, o0, o1, o2, o5, o6, o7, o8, o9, o11, hb⟩
set_option maxRecDepth 100000 in
set_option maxHeartbeats 4000000 in
theorem eq_any (l0 : List (Int × Int × Int × Int × Int)) (p0 p0' : Option Addr) (n0 c0 c0' : Nat) (l1 : List (Int × Int × Int)) (p1 p1' : Option Addr) (n1 c1 c1' : Nat) (l2 : List (Int × Int × Int × Int)) (p2 p2' : Option Addr) (n2 c2 c2' : Nat) (x3 : Int) (x4 : Int) (l5 : List (Int × Int × Int × Int × Int × Int × Int)) (p5 p5' : Option Addr) (n5 c5 c5' : Nat) (l6 : List Int) (p6 p6' : Option Addr) (n6 c6 c6' : Nat) (l7 : List DpArchive.A) (p7 p7' : Option Addr) (n7 c7 c7' : Nat) (l8 : List Int) (p8 p8' : Option Addr) (n8 c8 c8' : Nat) (l9 : List Int) (p9 p9' : Option Addr) (n9 c9 c9' : Nat) (x10 : Int) (l11 : List Int) (p11 p11' : Option Addr) (n11 c11 c11' : Nat) {S0 S0' S1 S1' S2 S2' S5 S5' S6 S6' S7 S7' S8 S8' S9 S9' S11 S11' : Nat → Prop} (w : World) (h0 : RdD (flat SlKey.E SlKey.InR) S0 w p0 n0 l0) (h0' : RdD (flat SlKey.E SlKey.InR) S0' w p0' n0 l0) (h1 : RdD (flat SlAuthority.E SlAuthority.InR) S1 w p1 n1 l1) (h1' : RdD (flat SlAuthority.E SlAuthority.InR) S1' w p1' n1 l1) (h2 : RdD (flat SlMethod.E SlMethod.InR) S2 w p2 n2 l2) (h2' : RdD (flat SlMethod.E SlMethod.InR) S2' w p2' n2 l2) (h5 : RdD (flat SlCert.E SlCert.InR) S5 w p5 n5 l5) (h5' : RdD (flat SlCert.E SlCert.InR) S5' w p5' n5 l5) (h6 : RdD int S6 w p6 n6 l6) (h6' : RdD int S6' w p6' n6 l6) (h7 : RdD DpArchive.E S7 w p7 n7 l7) (h7' : RdD DpArchive.E S7' w p7' n7 l7) (h8 : RdD int S8 w p8 n8 l8) (h8' : RdD int S8' w p8' n8 l8) (h9 : RdD int S9 w p9 n9 l9) (h9' : RdD int S9' w p9' n9 l9) (h11 : RdD int S11 w p11 n11 l11) (h11' : RdD int S11' w p11' n11 l11) : Calls Tryz.prog 22 #[.agg #[.slice p0 n0 c0, .slice p1 n1 c1, .slice p2 n2 c2, .int .i64 x3, .int .i64 x4, .slice p5 n5 c5, .slice p6 n6 c6, .slice p7 n7 c7, .slice p8 n8 c8, .slice p9 n9 c9, .int .i64 x10, .slice p11 n11 c11], .agg #[.slice p0' n0 c0', .slice p1' n1 c1', .slice p2' n2 c2', .int .i64 x3, .int .i64 x4, .slice p5' n5 c5', .slice p6' n6 c6', .slice p7' n7 c7', .slice p8' n8 c8', .slice p9' n9 c9', .int .i64 x10, .slice p11' n11 c11']] w (Yes w) := by
  have HP0 := Lib.hid h0
  have HP0' := Lib.hid h0'
  have HP1 := Lib.hid h1
  have HP1' := Lib.hid h1'
  have HP2 := Lib.hid h2
  have HP2' := Lib.hid h2'
  have HP5 := Lib.hid h5
  have HP5' := Lib.hid h5'
  have HP6 := Lib.hid h6
  have HP6' := Lib.hid h6'
  have HP7 := Lib.hid h7
  have HP7' := Lib.hid h7'
  have HP8 := Lib.hid h8
  have HP8' := Lib.hid h8'
  have HP9 := Lib.hid h9
  have HP9' := Lib.hid h9'
  have HP11 := Lib.hid h11
  have HP11' := Lib.hid h11'
  clear h0 h0' h1 h1' h2 h2' h5 h5' h6 h6' h7 h7' h8 h8' h9 h9' h11 h11'
  have HB := Lib.hid ((box1 w (.cells #[.slice p0 n0 c0, .slice p1 n1 c1, .slice p2 n2 c2, .int .i64 x3, .int .i64 x4, .slice p5 n5 c5, .slice p6 n6 c6, .slice p7 n7 c7, .slice p8 n8 c8, .slice p9 n9 c9, .int .i64 x10, .slice p11 n11 c11] 60)).alloc (by simp) (.cells #[.slice p0' n0 c0', .slice p1' n1 c1', .slice p2' n2 c2', .int .i64 x3, .int .i64 x4, .slice p5' n5 c5', .slice p6' n6 c6', .slice p7' n7 c7', .slice p8' n8 c8', .slice p9' n9 c9', .int .i64 x10, .slice p11' n11 c11'] 60))
  have HX := Lib.hid ((Bx.new w 60 #[.slice p0 n0 c0, .slice p1 n1 c1, .slice p2 n2 c2, .int .i64 x3, .int .i64 x4, .slice p5 n5 c5, .slice p6 n6 c6, .slice p7 n7 c7, .slice p8 n8 c8, .slice p9 n9 c9, .int .i64 x10, .slice p11 n11 c11]).alloc (.cells #[.slice p0' n0 c0', .slice p1' n1 c1', .slice p2' n2 c2', .int .i64 x3, .int .i64 x4, .slice p5' n5 c5', .slice p6' n6 c6', .slice p7' n7 c7', .slice p8' n8 c8', .slice p9' n9 c9', .int .i64 x10, .slice p11' n11 c11'] 60))
  have hy := Bx.new (w.alloc (.cells #[.slice p0 n0 c0, .slice p1 n1 c1, .slice p2 n2 c2, .int .i64 x3, .int .i64 x4, .slice p5 n5 c5, .slice p6 n6 c6, .slice p7 n7 c7, .slice p8 n8 c8, .slice p9 n9 c9, .int .i64 x10, .slice p11 n11 c11] 60)) 60 #[.slice p0' n0 c0', .slice p1' n1 c1', .slice p2' n2 c2', .int .i64 x3, .int .i64 x4, .slice p5' n5 c5', .slice p6' n6 c6', .slice p7' n7 c7', .slice p8' n8 c8', .slice p9' n9 c9', .int .i64 x10, .slice p11' n11 c11']
  rw [World.size_alloc] at hy
  have HY := Lib.hid hy
  clear hy
  go_enter Tryz.func22, Tryz.ntmps22
  go_wp2_with fail
  refine (DpFrame.eq_any _ _ _ _ _ _ _ _ _ _ _ _ _ _ _ _ _ _ _ _ _ (HP0.out.below HB.out) (HP0'.out.below HB.out) (HP1.out.below HB.out) (HP1'.out.below HB.out) (HP2.out.below HB.out) (HP2'.out.below HB.out)).mono ?_
  rintro e w1 ⟨rfl, hb⟩
  replace HB := Lib.hid (below_on HB.out hb)
  replace HX := Lib.hid (HX.out.below hb)
  replace HY := Lib.hid (HY.out.below hb)
  clear hb
  obtain ⟨x0_, x1_, x2_, x3_, x4_, x5_, x6_, x7_, x8_, x9_, x10_, x11_⟩ := bxc HX.out
  obtain ⟨y0_, y1_, y2_, y3_, y4_, y5_, y6_, y7_, y8_, y9_, y10_, y11_⟩ := bxc HY.out
  go_wp2_with fail
  refine (SlCert.eq_any _ _ _ _ _ _ _ (HP5.out.below HB.out).rdS (HP5'.out.below HB.out).rdS).mono ?_
  rintro e w2 ⟨rfl, hb⟩
  clear x0_ y0_ x1_ y1_ x2_ y2_ x3_ y3_ x4_ y4_ x5_ y5_ x6_ y6_ x7_ y7_ x8_ y8_ x9_ y9_ x10_ y10_ x11_ y11_
  replace HB := Lib.hid (below_on HB.out hb)
  replace HX := Lib.hid (HX.out.below hb)
  replace HY := Lib.hid (HY.out.below hb)
  clear hb
  obtain ⟨x0_, x1_, x2_, x3_, x4_, x5_, x6_, x7_, x8_, x9_, x10_, x11_⟩ := bxc HX.out
  obtain ⟨y0_, y1_, y2_, y3_, y4_, y5_, y6_, y7_, y8_, y9_, y10_, y11_⟩ := bxc HY.out
  go_wp2_with fail
  refine (SlI.eq_any _ _ _ _ _ _ _ (HP6.out.below HB.out).ints (HP6'.out.below HB.out).ints).mono ?_
  rintro e w3 ⟨rfl, hb⟩
  clear x0_ y0_ x1_ y1_ x2_ y2_ x3_ y3_ x4_ y4_ x5_ y5_ x6_ y6_ x7_ y7_ x8_ y8_ x9_ y9_ x10_ y10_ x11_ y11_
  replace HB := Lib.hid (below_on HB.out hb)
  replace HX := Lib.hid (HX.out.below hb)
  replace HY := Lib.hid (HY.out.below hb)
  clear hb
  obtain ⟨x0_, x1_, x2_, x3_, x4_, x5_, x6_, x7_, x8_, x9_, x10_, x11_⟩ := bxc HX.out
  obtain ⟨y0_, y1_, y2_, y3_, y4_, y5_, y6_, y7_, y8_, y9_, y10_, y11_⟩ := bxc HY.out
  go_wp2_with fail
  refine (DpArchive.eqS_any _ _ _ _ _ _ _ (HP7.out.below HB.out) (HP7'.out.below HB.out)).mono ?_
  rintro e w4 ⟨rfl, hb⟩
  clear x0_ y0_ x1_ y1_ x2_ y2_ x3_ y3_ x4_ y4_ x5_ y5_ x6_ y6_ x7_ y7_ x8_ y8_ x9_ y9_ x10_ y10_ x11_ y11_
  replace HB := Lib.hid (below_on HB.out hb)
  replace HX := Lib.hid (HX.out.below hb)
  replace HY := Lib.hid (HY.out.below hb)
  clear hb
  obtain ⟨x0_, x1_, x2_, x3_, x4_, x5_, x6_, x7_, x8_, x9_, x10_, x11_⟩ := bxc HX.out
  obtain ⟨y0_, y1_, y2_, y3_, y4_, y5_, y6_, y7_, y8_, y9_, y10_, y11_⟩ := bxc HY.out
  go_wp2_with fail
  refine (SlI.eq_any _ _ _ _ _ _ _ (HP8.out.below HB.out).ints (HP8'.out.below HB.out).ints).mono ?_
  rintro e w5 ⟨rfl, hb⟩
  clear x0_ y0_ x1_ y1_ x2_ y2_ x3_ y3_ x4_ y4_ x5_ y5_ x6_ y6_ x7_ y7_ x8_ y8_ x9_ y9_ x10_ y10_ x11_ y11_
  replace HB := Lib.hid (below_on HB.out hb)
  replace HX := Lib.hid (HX.out.below hb)
  replace HY := Lib.hid (HY.out.below hb)
  clear hb
  obtain ⟨x0_, x1_, x2_, x3_, x4_, x5_, x6_, x7_, x8_, x9_, x10_, x11_⟩ := bxc HX.out
  obtain ⟨y0_, y1_, y2_, y3_, y4_, y5_, y6_, y7_, y8_, y9_, y10_, y11_⟩ := bxc HY.out
  go_wp2_with fail
  refine (SlI.eq_any _ _ _ _ _ _ _ (HP9.out.below HB.out).ints (HP9'.out.below HB.out).ints).mono ?_
  rintro e w6 ⟨rfl, hb⟩
  clear x0_ y0_ x1_ y1_ x2_ y2_ x3_ y3_ x4_ y4_ x5_ y5_ x6_ y6_ x7_ y7_ x8_ y8_ x9_ y9_ x10_ y10_ x11_ y11_
  replace HB := Lib.hid (below_on HB.out hb)
  replace HX := Lib.hid (HX.out.below hb)
  replace HY := Lib.hid (HY.out.below hb)
  clear hb
  obtain ⟨x0_, x1_, x2_, x3_, x4_, x5_, x6_, x7_, x8_, x9_, x10_, x11_⟩ := bxc HX.out
  obtain ⟨y0_, y1_, y2_, y3_, y4_, y5_, y6_, y7_, y8_, y9_, y10_, y11_⟩ := bxc HY.out
  go_wp2_with fail
  refine (SlI.eq_any _ _ _ _ _ _ _ (HP11.out.below HB.out).ints (HP11'.out.below HB.out).ints).mono ?_
  rintro e w7 ⟨rfl, hb⟩
  clear x0_ y0_ x1_ y1_ x2_ y2_ x3_ y3_ x4_ y4_ x5_ y5_ x6_ y6_ x7_ y7_ x8_ y8_ x9_ y9_ x10_ y10_ x11_ y11_
  replace HB := Lib.hid (below_on HB.out hb)
  replace HX := Lib.hid (HX.out.below hb)
  replace HY := Lib.hid (HY.out.below hb)
  clear hb
  obtain ⟨x0_, x1_, x2_, x3_, x4_, x5_, x6_, x7_, x8_, x9_, x10_, x11_⟩ := bxc HX.out
  obtain ⟨y0_, y1_, y2_, y3_, y4_, y5_, y6_, y7_, y8_, y9_, y10_, y11_⟩ := bxc HY.out
  go_wp2_with fail
  go_ret
  exact ⟨rfl, HB.out⟩
set_option maxRecDepth 100000 in
set_option maxHeartbeats 4000000 in
theorem sz_fits (l0 : List (Int × Int × Int × Int × Int)) (p0 : Option Addr) (n0 c0 : Nat) (l1 : List (Int × Int × Int)) (p1 : Option Addr) (n1 c1 : Nat) (l2 : List (Int × Int × Int × Int)) (p2 : Option Addr) (n2 c2 : Nat) (x3 : Int) (x4 : Int) (l5 : List (Int × Int × Int × Int × Int × Int × Int)) (p5 : Option Addr) (n5 c5 : Nat) (l6 : List Int) (p6 : Option Addr) (n6 c6 : Nat) (l7 : List DpArchive.A) (p7 : Option Addr) (n7 c7 : Nat) (l8 : List Int) (p8 : Option Addr) (n8 c8 : Nat) (l9 : List Int) (p9 : Option Addr) (n9 c9 : Nat) (x10 : Int) (l11 : List Int) (p11 : Option Addr) (n11 c11 : Nat) {S0 S1 S2 S5 S6 S7 S8 S9 S11 : Nat → Prop} (m : Nat) (left : Int) (w : World) (hm : E.wt ((l0, l1, l2, x3, x4), l5, l6, l7, l8, l9, x10, l11) = m) (h0 : RdD (flat SlKey.E SlKey.InR) S0 w p0 n0 l0) (h1 : RdD (flat SlAuthority.E SlAuthority.InR) S1 w p1 n1 l1) (h2 : RdD (flat SlMethod.E SlMethod.InR) S2 w p2 n2 l2) (h5 : RdD (flat SlCert.E SlCert.InR) S5 w p5 n5 l5) (h6 : RdD int S6 w p6 n6 l6) (h7 : RdD DpArchive.E S7 w p7 n7 l7) (h8 : RdD int S8 w p8 n8 l8) (h9 : RdD int S9 w p9 n9 l9) (h11 : RdD int S11 w p11 n11 l11) (g1 : left ≤ 1048576) (g2 : m ≤ left) : Calls Tryz.prog 18 #[.agg #[.slice p0 n0 c0, .slice p1 n1 c1, .slice p2 n2 c2, .int .i64 x3, .int .i64 x4, .slice p5 n5 c5, .slice p6 n6 c6, .slice p7 n7 c7, .slice p8 n8 c8, .slice p9 n9 c9, .int .i64 x10, .slice p11 n11 c11], .int .i64 left] w (Val (.int .i64 (left - m)) w) := by
  rw [wt_eq] at hm
  have k0 := h0.len
  have e0 := h0.le
  have HP0 := Lib.hid h0
  have k1 := h1.len
  have e1 := h1.le
  have HP1 := Lib.hid h1
  have k2 := h2.len
  have e2 := h2.le
  have HP2 := Lib.hid h2
  have k5 := h5.len
  have e5 := h5.le
  have HP5 := Lib.hid h5
  have k6 := h6.len
  have e6 := h6.le
  have HP6 := Lib.hid h6
  have k7 := h7.len
  have e7 := h7.le
  have HP7 := Lib.hid h7
  have k8 := h8.len
  have e8 := h8.le
  have HP8 := Lib.hid h8
  have k9 := h9.len
  have e9 := h9.le
  have HP9 := Lib.hid h9
  have k11 := h11.len
  have e11 := h11.le
  have HP11 := Lib.hid h11
  have m0 : DpFrame.E.wt (l0, l1, l2, x3, x4) = DpFrame.E.wt (l0, l1, l2, x3, x4) := rfl
  have m1 : n5 = n5 := rfl
  have m2 : n6 = n6 := rfl
  have m3 : (n7 + wts DpArchive.E l7) = (n7 + wts DpArchive.E l7) := rfl
  have m4 : n8 = n8 := rfl
  have m5 : n9 = n9 := rfl
  have m6 : n11 = n11 := rfl
  have z5 := wts_zero (E := (flat SlCert.E SlCert.InR)) (fun _ => rfl) l5
  have z6 := wts_zero (E := int) (fun _ => rfl) l6
  have z8 := wts_zero (E := int) (fun _ => rfl) l8
  have z9 := wts_zero (E := int) (fun _ => rfl) l9
  have z11 := wts_zero (E := int) (fun _ => rfl) l11
  have ht : DpFrame.E.wt (l0, l1, l2, x3, x4) + n5 + n6 + (n7 + wts DpArchive.E l7) + n8 + n9 + n11 = m := by omega
  clear hm h0 k0 h1 k1 h2 k2 h5 k5 h6 k6 h7 k7 h8 k8 h9 k9 h11 k11 m0 m1 m2 m3 m4 m5 m6 z5 z6 z8 z9 z11
  subst ht
  have HB := Lib.hid (box1 w (.cells #[.slice p0 n0 c0, .slice p1 n1 c1, .slice p2 n2 c2, .int .i64 x3, .int .i64 x4, .slice p5 n5 c5, .slice p6 n6 c6, .slice p7 n7 c7, .slice p8 n8 c8, .slice p9 n9 c9, .int .i64 x10, .slice p11 n11 c11] 54))
  have HX := Lib.hid (Bx.new w 54 #[.slice p0 n0 c0, .slice p1 n1 c1, .slice p2 n2 c2, .int .i64 x3, .int .i64 x4, .slice p5 n5 c5, .slice p6 n6 c6, .slice p7 n7 c7, .slice p8 n8 c8, .slice p9 n9 c9, .int .i64 x10, .slice p11 n11 c11])
  go_enter Tryz.func18, Tryz.ntmps18
  go_wp2_with fail
  refine (DpFrame.sz_fits _ _ _ _ _ _ _ _ _ _ _ _ _ _ _ _ _ rfl (HP0.out.below HB.out) (HP1.out.below HB.out) (HP2.out.below HB.out) (by omega) (by omega)).mono ?_
  rintro e w1 ⟨rfl, hb⟩
  replace HB := Lib.hid (below_on HB.out hb)
  replace HX := Lib.hid (HX.out.below hb)
  clear hb
  obtain ⟨x0_, x1_, x2_, x3_, x4_, x5_, x6_, x7_, x8_, x9_, x10_, x11_⟩ := bxc HX.out
  go_wp2_with fail
  refine (SlCert.sz_fits _ _ _ _ _ (by omega) (by omega)).mono ?_
  rintro e w2 ⟨rfl, rfl⟩
  clear x0_ x1_ x2_ x3_ x4_ x5_ x6_ x7_ x8_ x9_ x10_ x11_
  obtain ⟨x0_, x1_, x2_, x3_, x4_, x5_, x6_, x7_, x8_, x9_, x10_, x11_⟩ := bxc HX.out
  go_wp2_with fail
  refine (Dz.szI_fits _ _ _ _ _ (by omega) (by omega)).mono ?_
  rintro e w3 ⟨rfl, rfl⟩
  clear x0_ x1_ x2_ x3_ x4_ x5_ x6_ x7_ x8_ x9_ x10_ x11_
  obtain ⟨x0_, x1_, x2_, x3_, x4_, x5_, x6_, x7_, x8_, x9_, x10_, x11_⟩ := bxc HX.out
  go_wp2_with fail
  refine (DpArchive.szS_fits _ _ _ _ _ _ (HP7.out.below HB.out) (by omega) (by omega)).mono ?_
  rintro e w4 ⟨rfl, hb⟩
  clear x0_ x1_ x2_ x3_ x4_ x5_ x6_ x7_ x8_ x9_ x10_ x11_
  replace HB := Lib.hid (below_on HB.out hb)
  replace HX := Lib.hid (HX.out.below hb)
  clear hb
  obtain ⟨x0_, x1_, x2_, x3_, x4_, x5_, x6_, x7_, x8_, x9_, x10_, x11_⟩ := bxc HX.out
  go_wp2_with fail
  refine (Dz.szI_fits _ _ _ _ _ (by omega) (by omega)).mono ?_
  rintro e w5 ⟨rfl, rfl⟩
  clear x0_ x1_ x2_ x3_ x4_ x5_ x6_ x7_ x8_ x9_ x10_ x11_
  obtain ⟨x0_, x1_, x2_, x3_, x4_, x5_, x6_, x7_, x8_, x9_, x10_, x11_⟩ := bxc HX.out
  go_wp2_with fail
  refine (Dz.szI_fits _ _ _ _ _ (by omega) (by omega)).mono ?_
  rintro e w6 ⟨rfl, rfl⟩
  clear x0_ x1_ x2_ x3_ x4_ x5_ x6_ x7_ x8_ x9_ x10_ x11_
  obtain ⟨x0_, x1_, x2_, x3_, x4_, x5_, x6_, x7_, x8_, x9_, x10_, x11_⟩ := bxc HX.out
  go_wp2_with fail
  refine (Dz.szI_fits _ _ _ _ _ (by omega) (by omega)).mono ?_
  rintro e w7 ⟨rfl, rfl⟩
  clear x0_ x1_ x2_ x3_ x4_ x5_ x6_ x7_ x8_ x9_ x10_ x11_
  go_wp2_with fail
  go_ret
  refine val_of ?_ HB.out
  show Value.int .i64 (left - (((DpFrame.E.wt (l0, l1, l2, x3, x4)) : Nat) : Int) - (((n5) : Nat) : Int) - (((n6) : Nat) : Int) - ((((n7 + wts DpArchive.E l7)) : Nat) : Int) - (((n8) : Nat) : Int) - (((n9) : Nat) : Int) - (((n11) : Nat) : Int)) = _
  first | rfl | (congr 1; omega)
set_option maxRecDepth 100000 in
set_option maxHeartbeats 4000000 in
theorem sz_big (l0 : List (Int × Int × Int × Int × Int)) (p0 : Option Addr) (n0 c0 : Nat) (l1 : List (Int × Int × Int)) (p1 : Option Addr) (n1 c1 : Nat) (l2 : List (Int × Int × Int × Int)) (p2 : Option Addr) (n2 c2 : Nat) (x3 : Int) (x4 : Int) (l5 : List (Int × Int × Int × Int × Int × Int × Int)) (p5 : Option Addr) (n5 c5 : Nat) (l6 : List Int) (p6 : Option Addr) (n6 c6 : Nat) (l7 : List DpArchive.A) (p7 : Option Addr) (n7 c7 : Nat) (l8 : List Int) (p8 : Option Addr) (n8 c8 : Nat) (l9 : List Int) (p9 : Option Addr) (n9 c9 : Nat) (x10 : Int) (l11 : List Int) (p11 : Option Addr) (n11 c11 : Nat) {S0 S1 S2 S5 S6 S7 S8 S9 S11 : Nat → Prop} (m : Nat) (left : Int) (w : World) (hm : E.wt ((l0, l1, l2, x3, x4), l5, l6, l7, l8, l9, x10, l11) = m) (h0 : RdD (flat SlKey.E SlKey.InR) S0 w p0 n0 l0) (h1 : RdD (flat SlAuthority.E SlAuthority.InR) S1 w p1 n1 l1) (h2 : RdD (flat SlMethod.E SlMethod.InR) S2 w p2 n2 l2) (h5 : RdD (flat SlCert.E SlCert.InR) S5 w p5 n5 l5) (h6 : RdD int S6 w p6 n6 l6) (h7 : RdD DpArchive.E S7 w p7 n7 l7) (h8 : RdD int S8 w p8 n8 l8) (h9 : RdD int S9 w p9 n9 l9) (h11 : RdD int S11 w p11 n11 l11) (g0 : 0 ≤ left) (g1 : left ≤ 1048576) (g2 : left < m) : Calls Tryz.prog 18 #[.agg #[.slice p0 n0 c0, .slice p1 n1 c1, .slice p2 n2 c2, .int .i64 x3, .int .i64 x4, .slice p5 n5 c5, .slice p6 n6 c6, .slice p7 n7 c7, .slice p8 n8 c8, .slice p9 n9 c9, .int .i64 x10, .slice p11 n11 c11], .int .i64 left] w (Val (.int .i64 (-1)) w) := by
  rw [wt_eq] at hm
  have k0 := h0.len
  have e0 := h0.le
  have HP0 := Lib.hid h0
  have k1 := h1.len
  have e1 := h1.le
  have HP1 := Lib.hid h1
  have k2 := h2.len
  have e2 := h2.le
  have HP2 := Lib.hid h2
  have k5 := h5.len
  have e5 := h5.le
  have HP5 := Lib.hid h5
  have k6 := h6.len
  have e6 := h6.le
  have HP6 := Lib.hid h6
  have k7 := h7.len
  have e7 := h7.le
  have HP7 := Lib.hid h7
  have k8 := h8.len
  have e8 := h8.le
  have HP8 := Lib.hid h8
  have k9 := h9.len
  have e9 := h9.le
  have HP9 := Lib.hid h9
  have k11 := h11.len
  have e11 := h11.le
  have HP11 := Lib.hid h11
  have m0 : DpFrame.E.wt (l0, l1, l2, x3, x4) = DpFrame.E.wt (l0, l1, l2, x3, x4) := rfl
  have m1 : n5 = n5 := rfl
  have m2 : n6 = n6 := rfl
  have m3 : (n7 + wts DpArchive.E l7) = (n7 + wts DpArchive.E l7) := rfl
  have m4 : n8 = n8 := rfl
  have m5 : n9 = n9 := rfl
  have m6 : n11 = n11 := rfl
  have z5 := wts_zero (E := (flat SlCert.E SlCert.InR)) (fun _ => rfl) l5
  have z6 := wts_zero (E := int) (fun _ => rfl) l6
  have z8 := wts_zero (E := int) (fun _ => rfl) l8
  have z9 := wts_zero (E := int) (fun _ => rfl) l9
  have z11 := wts_zero (E := int) (fun _ => rfl) l11
  have ht : DpFrame.E.wt (l0, l1, l2, x3, x4) + n5 + n6 + (n7 + wts DpArchive.E l7) + n8 + n9 + n11 = m := by omega
  clear hm h0 k0 h1 k1 h2 k2 h5 k5 h6 k6 h7 k7 h8 k8 h9 k9 h11 k11 m0 m1 m2 m3 m4 m5 m6 z5 z6 z8 z9 z11
  subst ht
  have G := Lib.hid g2
  clear g2
  have HB := Lib.hid (box1 w (.cells #[.slice p0 n0 c0, .slice p1 n1 c1, .slice p2 n2 c2, .int .i64 x3, .int .i64 x4, .slice p5 n5 c5, .slice p6 n6 c6, .slice p7 n7 c7, .slice p8 n8 c8, .slice p9 n9 c9, .int .i64 x10, .slice p11 n11 c11] 54))
  have HX := Lib.hid (Bx.new w 54 #[.slice p0 n0 c0, .slice p1 n1 c1, .slice p2 n2 c2, .int .i64 x3, .int .i64 x4, .slice p5 n5 c5, .slice p6 n6 c6, .slice p7 n7 c7, .slice p8 n8 c8, .slice p9 n9 c9, .int .i64 x10, .slice p11 n11 c11])
  by_cases hc0 : left < ((DpFrame.E.wt (l0, l1, l2, x3, x4) : Nat) : Int)
  · go_enter Tryz.func18, Tryz.ntmps18
    go_wp2_with fail
    refine (DpFrame.sz_big _ _ _ _ _ _ _ _ _ _ _ _ _ _ _ _ _ rfl (HP0.out.below HB.out) (HP1.out.below HB.out) (HP2.out.below HB.out) (by omega) (by omega) (by have := G.out; omega)).mono ?_
    rintro e w1 ⟨rfl, hb⟩
    replace HB := Lib.hid (below_on HB.out hb)
    replace HX := Lib.hid (HX.out.below hb)
    clear hb
    go_wp2_with fail
    go_ret
    exact ⟨rfl, HB.out⟩
  by_cases hc1 : left < ((DpFrame.E.wt (l0, l1, l2, x3, x4) : Nat) : Int) + ((n5 : Nat) : Int)
  · go_enter Tryz.func18, Tryz.ntmps18
    go_wp2_with fail
    refine (DpFrame.sz_fits _ _ _ _ _ _ _ _ _ _ _ _ _ _ _ _ _ rfl (HP0.out.below HB.out) (HP1.out.below HB.out) (HP2.out.below HB.out) (by omega) (by omega)).mono ?_
    rintro e w1 ⟨rfl, hb⟩
    replace HB := Lib.hid (below_on HB.out hb)
    replace HX := Lib.hid (HX.out.below hb)
    clear hb
    obtain ⟨x0_, x1_, x2_, x3_, x4_, x5_, x6_, x7_, x8_, x9_, x10_, x11_⟩ := bxc HX.out
    go_wp2_with fail
    refine (SlCert.sz_big _ _ _ _ _ (by omega) (by omega) (by have := G.out; omega) e5).mono ?_
    rintro e w2 ⟨rfl, rfl⟩
    clear x0_ x1_ x2_ x3_ x4_ x5_ x6_ x7_ x8_ x9_ x10_ x11_
    go_wp2_with fail
    go_ret
    exact ⟨rfl, HB.out⟩
  by_cases hc2 : left < ((DpFrame.E.wt (l0, l1, l2, x3, x4) : Nat) : Int) + ((n5 : Nat) : Int) + ((n6 : Nat) : Int)
  · go_enter Tryz.func18, Tryz.ntmps18
    go_wp2_with fail
    refine (DpFrame.sz_fits _ _ _ _ _ _ _ _ _ _ _ _ _ _ _ _ _ rfl (HP0.out.below HB.out) (HP1.out.below HB.out) (HP2.out.below HB.out) (by omega) (by omega)).mono ?_
    rintro e w1 ⟨rfl, hb⟩
    replace HB := Lib.hid (below_on HB.out hb)
    replace HX := Lib.hid (HX.out.below hb)
    clear hb
    obtain ⟨x0_, x1_, x2_, x3_, x4_, x5_, x6_, x7_, x8_, x9_, x10_, x11_⟩ := bxc HX.out
    go_wp2_with fail
    refine (SlCert.sz_fits _ _ _ _ _ (by omega) (by omega)).mono ?_
    rintro e w2 ⟨rfl, rfl⟩
    clear x0_ x1_ x2_ x3_ x4_ x5_ x6_ x7_ x8_ x9_ x10_ x11_
    obtain ⟨x0_, x1_, x2_, x3_, x4_, x5_, x6_, x7_, x8_, x9_, x10_, x11_⟩ := bxc HX.out
    go_wp2_with fail
    refine (Dz.szI_big _ _ _ _ _ (by omega) (by omega) (by have := G.out; omega) e6).mono ?_
    rintro e w3 ⟨rfl, rfl⟩
    clear x0_ x1_ x2_ x3_ x4_ x5_ x6_ x7_ x8_ x9_ x10_ x11_
    go_wp2_with fail
    go_ret
    exact ⟨rfl, HB.out⟩
  by_cases hc3 : left < ((DpFrame.E.wt (l0, l1, l2, x3, x4) : Nat) : Int) + ((n5 : Nat) : Int) + ((n6 : Nat) : Int) + (((n7 + wts DpArchive.E l7) : Nat) : Int)
  · go_enter Tryz.func18, Tryz.ntmps18
    go_wp2_with fail
    refine (DpFrame.sz_fits _ _ _ _ _ _ _ _ _ _ _ _ _ _ _ _ _ rfl (HP0.out.below HB.out) (HP1.out.below HB.out) (HP2.out.below HB.out) (by omega) (by omega)).mono ?_
    rintro e w1 ⟨rfl, hb⟩
    replace HB := Lib.hid (below_on HB.out hb)
    replace HX := Lib.hid (HX.out.below hb)
    clear hb
    obtain ⟨x0_, x1_, x2_, x3_, x4_, x5_, x6_, x7_, x8_, x9_, x10_, x11_⟩ := bxc HX.out
    go_wp2_with fail
    refine (SlCert.sz_fits _ _ _ _ _ (by omega) (by omega)).mono ?_
    rintro e w2 ⟨rfl, rfl⟩
    clear x0_ x1_ x2_ x3_ x4_ x5_ x6_ x7_ x8_ x9_ x10_ x11_
    obtain ⟨x0_, x1_, x2_, x3_, x4_, x5_, x6_, x7_, x8_, x9_, x10_, x11_⟩ := bxc HX.out
    go_wp2_with fail
    refine (Dz.szI_fits _ _ _ _ _ (by omega) (by omega)).mono ?_
    rintro e w3 ⟨rfl, rfl⟩
    clear x0_ x1_ x2_ x3_ x4_ x5_ x6_ x7_ x8_ x9_ x10_ x11_
    obtain ⟨x0_, x1_, x2_, x3_, x4_, x5_, x6_, x7_, x8_, x9_, x10_, x11_⟩ := bxc HX.out
    go_wp2_with fail
    refine (DpArchive.szS_big _ _ _ _ _ _ (HP7.out.below HB.out) (by omega) (by omega) (by have := G.out; omega)).mono ?_
    rintro e w4 ⟨rfl, hb⟩
    clear x0_ x1_ x2_ x3_ x4_ x5_ x6_ x7_ x8_ x9_ x10_ x11_
    replace HB := Lib.hid (below_on HB.out hb)
    replace HX := Lib.hid (HX.out.below hb)
    clear hb
    go_wp2_with fail
    go_ret
    exact ⟨rfl, HB.out⟩
  by_cases hc4 : left < ((DpFrame.E.wt (l0, l1, l2, x3, x4) : Nat) : Int) + ((n5 : Nat) : Int) + ((n6 : Nat) : Int) + (((n7 + wts DpArchive.E l7) : Nat) : Int) + ((n8 : Nat) : Int)
  · go_enter Tryz.func18, Tryz.ntmps18
    go_wp2_with fail
    refine (DpFrame.sz_fits _ _ _ _ _ _ _ _ _ _ _ _ _ _ _ _ _ rfl (HP0.out.below HB.out) (HP1.out.below HB.out) (HP2.out.below HB.out) (by omega) (by omega)).mono ?_
    rintro e w1 ⟨rfl, hb⟩
    replace HB := Lib.hid (below_on HB.out hb)
    replace HX := Lib.hid (HX.out.below hb)
    clear hb
    obtain ⟨x0_, x1_, x2_, x3_, x4_, x5_, x6_, x7_, x8_, x9_, x10_, x11_⟩ := bxc HX.out
    go_wp2_with fail
    refine (SlCert.sz_fits _ _ _ _ _ (by omega) (by omega)).mono ?_
    rintro e w2 ⟨rfl, rfl⟩
    clear x0_ x1_ x2_ x3_ x4_ x5_ x6_ x7_ x8_ x9_ x10_ x11_
    obtain ⟨x0_, x1_, x2_, x3_, x4_, x5_, x6_, x7_, x8_, x9_, x10_, x11_⟩ := bxc HX.out
    go_wp2_with fail
    refine (Dz.szI_fits _ _ _ _ _ (by omega) (by omega)).mono ?_
    rintro e w3 ⟨rfl, rfl⟩
    clear x0_ x1_ x2_ x3_ x4_ x5_ x6_ x7_ x8_ x9_ x10_ x11_
    obtain ⟨x0_, x1_, x2_, x3_, x4_, x5_, x6_, x7_, x8_, x9_, x10_, x11_⟩ := bxc HX.out
    go_wp2_with fail
    refine (DpArchive.szS_fits _ _ _ _ _ _ (HP7.out.below HB.out) (by omega) (by omega)).mono ?_
    rintro e w4 ⟨rfl, hb⟩
    clear x0_ x1_ x2_ x3_ x4_ x5_ x6_ x7_ x8_ x9_ x10_ x11_
    replace HB := Lib.hid (below_on HB.out hb)
    replace HX := Lib.hid (HX.out.below hb)
    clear hb
    obtain ⟨x0_, x1_, x2_, x3_, x4_, x5_, x6_, x7_, x8_, x9_, x10_, x11_⟩ := bxc HX.out
    go_wp2_with fail
    refine (Dz.szI_big _ _ _ _ _ (by omega) (by omega) (by have := G.out; omega) e8).mono ?_
    rintro e w5 ⟨rfl, rfl⟩
    clear x0_ x1_ x2_ x3_ x4_ x5_ x6_ x7_ x8_ x9_ x10_ x11_
    go_wp2_with fail
    go_ret
    exact ⟨rfl, HB.out⟩
  by_cases hc5 : left < ((DpFrame.E.wt (l0, l1, l2, x3, x4) : Nat) : Int) + ((n5 : Nat) : Int) + ((n6 : Nat) : Int) + (((n7 + wts DpArchive.E l7) : Nat) : Int) + ((n8 : Nat) : Int) + ((n9 : Nat) : Int)
  · go_enter Tryz.func18, Tryz.ntmps18
    go_wp2_with fail
    refine (DpFrame.sz_fits _ _ _ _ _ _ _ _ _ _ _ _ _ _ _ _ _ rfl (HP0.out.below HB.out) (HP1.out.below HB.out) (HP2.out.below HB.out) (by omega) (by omega)).mono ?_
    rintro e w1 ⟨rfl, hb⟩
    replace HB := Lib.hid (below_on HB.out hb)
    replace HX := Lib.hid (HX.out.below hb)
    clear hb
    obtain ⟨x0_, x1_, x2_, x3_, x4_, x5_, x6_, x7_, x8_, x9_, x10_, x11_⟩ := bxc HX.out
    go_wp2_with fail
    refine (SlCert.sz_fits _ _ _ _ _ (by omega) (by omega)).mono ?_
    rintro e w2 ⟨rfl, rfl⟩
    clear x0_ x1_ x2_ x3_ x4_ x5_ x6_ x7_ x8_ x9_ x10_ x11_
    obtain ⟨x0_, x1_, x2_, x3_, x4_, x5_, x6_, x7_, x8_, x9_, x10_, x11_⟩ := bxc HX.out
    go_wp2_with fail
    refine (Dz.szI_fits _ _ _ _ _ (by omega) (by omega)).mono ?_
    rintro e w3 ⟨rfl, rfl⟩
    clear x0_ x1_ x2_ x3_ x4_ x5_ x6_ x7_ x8_ x9_ x10_ x11_
    obtain ⟨x0_, x1_, x2_, x3_, x4_, x5_, x6_, x7_, x8_, x9_, x10_, x11_⟩ := bxc HX.out
    go_wp2_with fail
    refine (DpArchive.szS_fits _ _ _ _ _ _ (HP7.out.below HB.out) (by omega) (by omega)).mono ?_
    rintro e w4 ⟨rfl, hb⟩
    clear x0_ x1_ x2_ x3_ x4_ x5_ x6_ x7_ x8_ x9_ x10_ x11_
    replace HB := Lib.hid (below_on HB.out hb)
    replace HX := Lib.hid (HX.out.below hb)
    clear hb
    obtain ⟨x0_, x1_, x2_, x3_, x4_, x5_, x6_, x7_, x8_, x9_, x10_, x11_⟩ := bxc HX.out
    go_wp2_with fail
    refine (Dz.szI_fits _ _ _ _ _ (by omega) (by omega)).mono ?_
    rintro e w5 ⟨rfl, rfl⟩
    clear x0_ x1_ x2_ x3_ x4_ x5_ x6_ x7_ x8_ x9_ x10_ x11_
    obtain ⟨x0_, x1_, x2_, x3_, x4_, x5_, x6_, x7_, x8_, x9_, x10_, x11_⟩ := bxc HX.out
    go_wp2_with fail
    refine (Dz.szI_big _ _ _ _ _ (by omega) (by omega) (by have := G.out; omega) e9).mono ?_
    rintro e w6 ⟨rfl, rfl⟩
    clear x0_ x1_ x2_ x3_ x4_ x5_ x6_ x7_ x8_ x9_ x10_ x11_
    go_wp2_with fail
    go_ret
    exact ⟨rfl, HB.out⟩
  go_enter Tryz.func18, Tryz.ntmps18
  go_wp2_with fail
  refine (DpFrame.sz_fits _ _ _ _ _ _ _ _ _ _ _ _ _ _ _ _ _ rfl (HP0.out.below HB.out) (HP1.out.below HB.out) (HP2.out.below HB.out) (by omega) (by omega)).mono ?_
  rintro e w1 ⟨rfl, hb⟩
  replace HB := Lib.hid (below_on HB.out hb)
  replace HX := Lib.hid (HX.out.below hb)
  clear hb
  obtain ⟨x0_, x1_, x2_, x3_, x4_, x5_, x6_, x7_, x8_, x9_, x10_, x11_⟩ := bxc HX.out
  go_wp2_with fail
  refine (SlCert.sz_fits _ _ _ _ _ (by omega) (by omega)).mono ?_
  rintro e w2 ⟨rfl, rfl⟩
  clear x0_ x1_ x2_ x3_ x4_ x5_ x6_ x7_ x8_ x9_ x10_ x11_
  obtain ⟨x0_, x1_, x2_, x3_, x4_, x5_, x6_, x7_, x8_, x9_, x10_, x11_⟩ := bxc HX.out
  go_wp2_with fail
  refine (Dz.szI_fits _ _ _ _ _ (by omega) (by omega)).mono ?_
  rintro e w3 ⟨rfl, rfl⟩
  clear x0_ x1_ x2_ x3_ x4_ x5_ x6_ x7_ x8_ x9_ x10_ x11_
  obtain ⟨x0_, x1_, x2_, x3_, x4_, x5_, x6_, x7_, x8_, x9_, x10_, x11_⟩ := bxc HX.out
  go_wp2_with fail
  refine (DpArchive.szS_fits _ _ _ _ _ _ (HP7.out.below HB.out) (by omega) (by omega)).mono ?_
  rintro e w4 ⟨rfl, hb⟩
  clear x0_ x1_ x2_ x3_ x4_ x5_ x6_ x7_ x8_ x9_ x10_ x11_
  replace HB := Lib.hid (below_on HB.out hb)
  replace HX := Lib.hid (HX.out.below hb)
  clear hb
  obtain ⟨x0_, x1_, x2_, x3_, x4_, x5_, x6_, x7_, x8_, x9_, x10_, x11_⟩ := bxc HX.out
  go_wp2_with fail
  refine (Dz.szI_fits _ _ _ _ _ (by omega) (by omega)).mono ?_
  rintro e w5 ⟨rfl, rfl⟩
  clear x0_ x1_ x2_ x3_ x4_ x5_ x6_ x7_ x8_ x9_ x10_ x11_
  obtain ⟨x0_, x1_, x2_, x3_, x4_, x5_, x6_, x7_, x8_, x9_, x10_, x11_⟩ := bxc HX.out
  go_wp2_with fail
  refine (Dz.szI_fits _ _ _ _ _ (by omega) (by omega)).mono ?_
  rintro e w6 ⟨rfl, rfl⟩
  clear x0_ x1_ x2_ x3_ x4_ x5_ x6_ x7_ x8_ x9_ x10_ x11_
  obtain ⟨x0_, x1_, x2_, x3_, x4_, x5_, x6_, x7_, x8_, x9_, x10_, x11_⟩ := bxc HX.out
  go_wp2_with fail
  refine (Dz.szI_big _ _ _ _ _ (by omega) (by omega) (by have := G.out; omega) e11).mono ?_
  rintro e w7 ⟨rfl, rfl⟩
  clear x0_ x1_ x2_ x3_ x4_ x5_ x6_ x7_ x8_ x9_ x10_ x11_
  go_wp2_with fail
  go_ret
  exact ⟨rfl, HB.out⟩
theorem at_cells {w : World} {b q : Nat} {v0 : Value} {v1 : Value} {v2 : Value} {v3 : Value} {v4 : Value} {v5 : Value} {v6 : Value} {v7 : Value} {v8 : Value} {v9 : Value} {v10 : Value} {v11 : Value} (h : ∀ j v, [v0, v1, v2, v3, v4, v5, v6, v7, v8, v9, v10, v11][j]? = some v → w.cell? ⟨b, q + j, none⟩ = some v) : w.cell? ⟨b, q, none⟩ = some v0 ∧ w.cell? ⟨b, q + 1, none⟩ = some v1 ∧ w.cell? ⟨b, q + 2, none⟩ = some v2 ∧ w.cell? ⟨b, q + 3, none⟩ = some v3 ∧ w.cell? ⟨b, q + 4, none⟩ = some v4 ∧ w.cell? ⟨b, q + 5, none⟩ = some v5 ∧ w.cell? ⟨b, q + 6, none⟩ = some v6 ∧ w.cell? ⟨b, q + 7, none⟩ = some v7 ∧ w.cell? ⟨b, q + 8, none⟩ = some v8 ∧ w.cell? ⟨b, q + 9, none⟩ = some v9 ∧ w.cell? ⟨b, q + 10, none⟩ = some v10 ∧ w.cell? ⟨b, q + 11, none⟩ = some v11 := ⟨h 0 _ rfl, h 1 _ rfl, h 2 _ rfl, h 3 _ rfl, h 4 _ rfl, h 5 _ rfl, h 6 _ rfl, h 7 _ rfl, h 8 _ rfl, h 9 _ rfl, h 10 _ rfl, h 11 _ rfl⟩
theorem info : (Tryz.prog.info? 60).map (fun i => (i.zero, i.size, i.bytes)) = some (some (.agg #[.slice none 0 0, .slice none 0 0, .slice none 0 0, .int .i64 0, .int .i64 0, .slice none 0 0, .slice none 0 0, .slice none 0 0, .slice none 0 0, .slice none 0 0, .int .i64 0, .slice none 0 0]), 12, 240) := by kernel_rfl
end Go.Proofs.YtpjckbdljbpliaaGreat.DpWorld
