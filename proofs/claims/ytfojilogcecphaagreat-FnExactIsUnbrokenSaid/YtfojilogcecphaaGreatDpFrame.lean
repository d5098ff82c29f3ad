/- Contracts of the laws' helpers over Frame: opened, measured, copied, compared; by value and in slices. -/
import Derived.Test.YtfojilogcecphaaGreatEd
import Derived.Test.YtfojilogcecphaaGreatDz
import Derived.Test.YtfojilogcecphaaGreatSlI
import Derived.Test.YtfojilogcecphaaGreatSlKey
import Derived.Test.YtfojilogcecphaaGreatSlAuthority
import Derived.Test.YtfojilogcecphaaGreatSlMethod
import Derived.Test.YtfojilogcecphaaGreatSlI
import Derived.OpenShut
import Derived.Deep.Fields
import Derived.Deep.RegionHeld3
import Derived.LoopTactic
import Derived.Outline
namespace Go.Proofs.YtfojilogcecphaaGreat.DpFrame
open Go.ChangeShapes Go.WideShapes Go.ChangeAt Go.RowKit Sl St Ed Dz
abbrev A := (List (Int × Int × Int × Int × Int)) × (List (Int × Int × Int)) × (List (Int × Int × Int × Int)) × Int × Int
def E : Ent A := pair (sl (flat SlKey.E SlKey.InR)) (pair (sl (flat SlAuthority.E SlAuthority.InR)) (pair (sl (flat SlMethod.E SlMethod.InR)) (pair int int)))
theorem C_eq : E.C = 5 := rfl
theorem exk {S : Nat → Prop} {w : World} {cs : List Value} {l0 : List (Int × Int × Int × Int × Int)} {l1 : List (Int × Int × Int)} {l2 : List (Int × Int × Int × Int)} {x3 : Int} {x4 : Int} (h : E.rd S w cs (l0, l1, l2, x3, x4)) : ∃ (p0 : Option Addr) (n0 c0 : Nat) (p1 : Option Addr) (n1 c1 : Nat) (p2 : Option Addr) (n2 c2 : Nat), cs = [.slice p0 n0 c0, .slice p1 n1 c1, .slice p2 n2 c2, .int .i64 x3, .int .i64 x4] ∧ RdD (flat SlKey.E SlKey.InR) S w p0 n0 l0 ∧ RdD (flat SlAuthority.E SlAuthority.InR) S w p1 n1 l1 ∧ RdD (flat SlMethod.E SlMethod.InR) S w p2 n2 l2 ∧ InI x3 ∧ InI x4 ∧ n0 ≤ c0 ∧ n1 ≤ c1 ∧ n2 ≤ c2 := by
  obtain ⟨d0, e0, rfl, ⟨p0, n0, c0, rfl, k0, h0⟩, d1, e1, rfl, ⟨p1, n1, c1, rfl, k1, h1⟩, d2, e2, rfl, ⟨p2, n2, c2, rfl, k2, h2⟩, d3, e3, rfl, ⟨rfl, b3⟩, rfl, b4⟩ := h
  exact ⟨p0, n0, c0, p1, n1, c1, p2, n2, c2, rfl, h0, h1, h2, b3, b4, k0, k1, k2⟩
theorem ex {S : Nat → Prop} {w : World} {cs : List Value} {l0 : List (Int × Int × Int × Int × Int)} {l1 : List (Int × Int × Int)} {l2 : List (Int × Int × Int × Int)} {x3 : Int} {x4 : Int} (h : E.rd S w cs (l0, l1, l2, x3, x4)) : ∃ (p0 : Option Addr) (n0 c0 : Nat) (p1 : Option Addr) (n1 c1 : Nat) (p2 : Option Addr) (n2 c2 : Nat), cs = [.slice p0 n0 c0, .slice p1 n1 c1, .slice p2 n2 c2, .int .i64 x3, .int .i64 x4] ∧ RdD (flat SlKey.E SlKey.InR) S w p0 n0 l0 ∧ RdD (flat SlAuthority.E SlAuthority.InR) S w p1 n1 l1 ∧ RdD (flat SlMethod.E SlMethod.InR) S w p2 n2 l2 ∧ InI x3 ∧ InI x4 := by
  obtain ⟨p0, n0, c0, p1, n1, c1, p2, n2, c2, e, h0, h1, h2, b3, b4, _⟩ := exk h
  exact ⟨p0, n0, c0, p1, n1, c1, p2, n2, c2, e, h0, h1, h2, b3, b4⟩
theorem mk {S : Nat → Prop} {w : World} {l0 : List (Int × Int × Int × Int × Int)} {l1 : List (Int × Int × Int)} {l2 : List (Int × Int × Int × Int)} {x3 : Int} {x4 : Int} {p0 : Option Addr} {n0 c0 : Nat} {p1 : Option Addr} {n1 c1 : Nat} {p2 : Option Addr} {n2 c2 : Nat} (h0 : RdD (flat SlKey.E SlKey.InR) S w p0 n0 l0) (h1 : RdD (flat SlAuthority.E SlAuthority.InR) S w p1 n1 l1) (h2 : RdD (flat SlMethod.E SlMethod.InR) S w p2 n2 l2) (b3 : InI x3) (b4 : InI x4) (k0 : n0 ≤ c0) (k1 : n1 ≤ c1) (k2 : n2 ≤ c2) : E.rd S w [.slice p0 n0 c0, .slice p1 n1 c1, .slice p2 n2 c2, .int .i64 x3, .int .i64 x4] (l0, l1, l2, x3, x4) :=
  ⟨[.slice p0 n0 c0], [.slice p1 n1 c1, .slice p2 n2 c2, .int .i64 x3, .int .i64 x4], rfl, ⟨p0, n0, c0, rfl, k0, h0⟩, [.slice p1 n1 c1], [.slice p2 n2 c2, .int .i64 x3, .int .i64 x4], rfl, ⟨p1, n1, c1, rfl, k1, h1⟩, [.slice p2 n2 c2], [.int .i64 x3, .int .i64 x4], rfl, ⟨p2, n2, c2, rfl, k2, h2⟩, [.int .i64 x3], [.int .i64 x4], rfl, ⟨rfl, b3⟩, ⟨rfl, b4⟩⟩
theorem bxc {w : World} {g : Nat} {T : TypeId} {y0 : Value} {y1 : Value} {y2 : Value} {y3 : Value} {y4 : Value} (h : Bx w g T #[y0, y1, y2, y3, y4]) : w.cell? ⟨g, 0, none⟩ = some y0 ∧ w.cell? ⟨g, 1, none⟩ = some y1 ∧ w.cell? ⟨g, 2, none⟩ = some y2 ∧ w.cell? ⟨g, 3, none⟩ = some y3 ∧ w.cell? ⟨g, 4, none⟩ = some y4 := ⟨h.cell rfl, h.cell rfl, h.cell rfl, h.cell rfl, h.cell rfl⟩
theorem wt_eq (l0 : List (Int × Int × Int × Int × Int)) (l1 : List (Int × Int × Int)) (l2 : List (Int × Int × Int × Int)) (x3 : Int) (x4 : Int) : E.wt (l0, l1, l2, x3, x4) = (l0.length + wts (flat SlKey.E SlKey.InR) l0) + (l1.length + wts (flat SlAuthority.E SlAuthority.InR) l1) + (l2.length + wts (flat SlMethod.E SlMethod.InR) l2) := by
  show (l0.length + wts (flat SlKey.E SlKey.InR) l0) + ((l1.length + wts (flat SlAuthority.E SlAuthority.InR) l1) + ((l2.length + wts (flat SlMethod.E SlMethod.InR) l2) + (0 + 0))) = _
  omega
section
variable {H : Type} {enc : TypeId × Value → H} {W : World}
set_option maxRecDepth 100000 in
theorem open_cells {fuel : Nat} {cs : List Value} {X : DataW H × List MemPlace} (hl : cs.length = 5) (h : DataW.trod enc Tryz.prog W 0 (fun _ => true) true fuel 26 cs = some X) : ∃ x, E.rd (fun _ => True) W cs x := by
  have hi : ∃ f0 f1 f2 f3 f4 : Field, Tryz.prog.underlying 26 = some (.struct #[f0, f1, f2, f3, f4]) ∧ f0.offset = 0 ∧ f1.offset = 1 ∧ f2.offset = 2 ∧ f3.offset = 3 ∧ f4.offset = 4 ∧ f0.type = 22 ∧ f1.type = 23 ∧ f2.type = 24 ∧ f3.type = 3 ∧ f4.type = 3 ∧ Tryz.prog.cellsOf 22 = 1 ∧ Tryz.prog.cellsOf 23 = 1 ∧ Tryz.prog.cellsOf 24 = 1 ∧ Tryz.prog.cellsOf 3 = 1 := ⟨_, _, _, _, _, Tryz.underlying26, by kernel_rfl, by kernel_rfl, by kernel_rfl, by kernel_rfl, by kernel_rfl, by kernel_rfl, by kernel_rfl, by kernel_rfl, by kernel_rfl, by kernel_rfl, by kernel_rfl, by kernel_rfl, by kernel_rfl, by kernel_rfl⟩
  obtain ⟨f0, f1, f2, f3, f4, hs, o0, o1, o2, o3, o4, t0, t1, t2, t3, t4, z0, z1, z2, z3⟩ := hi
  obtain ⟨ys, n, _, _, _, hlen, hf⟩ := DataW.trod_struct hs h
  match ys, hlen with
  | [y0, y1, y2, y3, y4], _ =>
    have r0 := hf 0 f0 rfl
    have r1 := hf 1 f1 rfl
    have r2 := hf 2 f2 rfl
    have r3 := hf 3 f3 rfl
    have r4 := hf 4 f4 rfl
    simp only [List.getElem?_cons_zero, List.getElem?_cons_succ] at r0 r1 r2 r3 r4
    rw [o0, t0, z0] at r0
    rw [o1, t1, z1] at r1
    rw [o2, t2, z2] at r2
    rw [o3, t3, z3] at r3
    rw [o4, t4, z3] at r4
    obtain ⟨v0, q0⟩ : ∃ x, Ent.rd (sl (flat SlKey.E SlKey.InR)) (fun _ => True) W ((cs.drop 0).take 1) x := o_sl Tryz.underlying22 (by kernel_rfl) (fun hl h => o_flat Tryz.underlying132 (by kernel_rfl) (by kernel_rfl) SlKey.mk SlKey.of_mk (fun f hr => ⟨hr 0 (by decide), hr 1 (by decide), hr 2 (by decide), hr 3 (by decide), hr 4 (by decide)⟩) hl h) r0
    obtain ⟨v1, q1⟩ : ∃ x, Ent.rd (sl (flat SlAuthority.E SlAuthority.InR)) (fun _ => True) W ((cs.drop 1).take 1) x := o_sl Tryz.underlying23 (by kernel_rfl) (fun hl h => o_flat Tryz.underlying136 (by kernel_rfl) (by kernel_rfl) SlAuthority.mk SlAuthority.of_mk (fun f hr => ⟨hr 0 (by decide), hr 1 (by decide), hr 2 (by decide)⟩) hl h) r1
    obtain ⟨v2, q2⟩ : ∃ x, Ent.rd (sl (flat SlMethod.E SlMethod.InR)) (fun _ => True) W ((cs.drop 2).take 1) x := o_sl Tryz.underlying24 (by kernel_rfl) (fun hl h => o_flat Tryz.underlying140 (by kernel_rfl) (by kernel_rfl) SlMethod.mk SlMethod.of_mk (fun f hr => ⟨hr 0 (by decide), hr 1 (by decide), hr 2 (by decide), hr 3 (by decide)⟩) hl h) r2
    obtain ⟨v3, q3⟩ : ∃ x, Ent.rd int (fun _ => True) W ((cs.drop 3).take 1) x := o_int Tryz.underlying3 r3
    obtain ⟨v4, q4⟩ : ∃ x, Ent.rd int (fun _ => True) W ((cs.drop 4).take 1) x := o_int Tryz.underlying3 r4
    exact ⟨_, rd_first (rd_next (o := 0) (o' := 1) rfl rfl q0 (rd_next (o := 1) (o' := 2) rfl rfl q1 (rd_next (o := 2) (o' := 3) rfl rfl q2 (rd_next (o := 3) (o' := 4) rfl rfl q3 (rd_last (o := 4) (by simp [hl]) q4)))))⟩
set_option maxRecDepth 100000 in
theorem open_valk {base : Nat} {v : Value} {d : DataW H} {pl : List MemPlace} (h : DataW.Trod enc Tryz.prog W 0 (fun _ => true) true 26 v d pl) (hk : Value.okWide Tryz.prog W .any base 26 v) : ∃ (l0 : List (Int × Int × Int × Int × Int)) (l1 : List (Int × Int × Int)) (l2 : List (Int × Int × Int × Int)) (x3 : Int) (x4 : Int) (p0 : Option Addr) (n0 c0 : Nat) (p1 : Option Addr) (n1 c1 : Nat) (p2 : Option Addr) (n2 c2 : Nat), v = .agg #[.slice p0 n0 c0, .slice p1 n1 c1, .slice p2 n2 c2, .int .i64 x3, .int .i64 x4] ∧ RdD (flat SlKey.E SlKey.InR) (fun _ => True) W p0 n0 l0 ∧ RdD (flat SlAuthority.E SlAuthority.InR) (fun _ => True) W p1 n1 l1 ∧ RdD (flat SlMethod.E SlMethod.InR) (fun _ => True) W p2 n2 l2 ∧ InI x3 ∧ InI x4 ∧ n0 ≤ c0 ∧ n1 ≤ c1 ∧ n2 ≤ c2 := by
  have hu : ∃ fs, Tryz.prog.underlying 26 = some (.struct fs) ∧ Tryz.prog.cellsOf 26 = 5 := ⟨_, Tryz.underlying26, by kernel_rfl⟩
  obtain ⟨fs, hs, hC⟩ := hu
  obtain ⟨cs, rfl, hsz⟩ := okWide_struct hs hk
  obtain ⟨fuel, hf⟩ := h
  simp only [Value.cells] at hf
  obtain ⟨x, hx⟩ := open_cells (by rw [Array.length_toList, hsz, hC]) hf
  obtain ⟨l0, l1, l2, x3, x4⟩ := x
  obtain ⟨p0, n0, c0, p1, n1, c1, p2, n2, c2, hc, h0, h1, h2, b3, b4, k0, k1, k2⟩ := exk hx
  exact ⟨l0, l1, l2, x3, x4, p0, n0, c0, p1, n1, c1, p2, n2, c2, congrArg Value.agg (Array.ext' hc), h0, h1, h2, b3, b4, k0, k1, k2⟩
set_option maxRecDepth 100000 in
theorem open_val {base : Nat} {v : Value} {d : DataW H} {pl : List MemPlace} (h : DataW.Trod enc Tryz.prog W 0 (fun _ => true) true 26 v d pl) (hk : Value.okWide Tryz.prog W .any base 26 v) : ∃ (l0 : List (Int × Int × Int × Int × Int)) (l1 : List (Int × Int × Int)) (l2 : List (Int × Int × Int × Int)) (x3 : Int) (x4 : Int) (p0 : Option Addr) (n0 c0 : Nat) (p1 : Option Addr) (n1 c1 : Nat) (p2 : Option Addr) (n2 c2 : Nat), v = .agg #[.slice p0 n0 c0, .slice p1 n1 c1, .slice p2 n2 c2, .int .i64 x3, .int .i64 x4] ∧ RdD (flat SlKey.E SlKey.InR) (fun _ => True) W p0 n0 l0 ∧ RdD (flat SlAuthority.E SlAuthority.InR) (fun _ => True) W p1 n1 l1 ∧ RdD (flat SlMethod.E SlMethod.InR) (fun _ => True) W p2 n2 l2 ∧ InI x3 ∧ InI x4 := by
  have hu : ∃ fs, Tryz.prog.underlying 26 = some (.struct fs) ∧ Tryz.prog.cellsOf 26 = 5 := ⟨_, Tryz.underlying26, by kernel_rfl⟩
  obtain ⟨fs, hs, hC⟩ := hu
  obtain ⟨cs, rfl, hsz⟩ := okWide_struct hs hk
  obtain ⟨fuel, hf⟩ := h
  simp only [Value.cells] at hf
  obtain ⟨x, hx⟩ := open_cells (by rw [Array.length_toList, hsz, hC]) hf
  obtain ⟨l0, l1, l2, x3, x4⟩ := x
  obtain ⟨p0, n0, c0, p1, n1, c1, p2, n2, c2, hc, h0, h1, h2, b3, b4⟩ := ex hx
  exact ⟨l0, l1, l2, x3, x4, p0, n0, c0, p1, n1, c1, p2, n2, c2, congrArg Value.agg (Array.ext' hc), h0, h1, h2, b3, b4⟩
end
set_option maxRecDepth 100000 in
set_option maxHeartbeats 4000000 in
theorem toK_any (l0 : List (Int × Int × Int × Int × Int)) (p0 : Option Addr) (n0 c0 : Nat) (l1 : List (Int × Int × Int)) (p1 : Option Addr) (n1 c1 : Nat) (l2 : List (Int × Int × Int × Int)) (p2 : Option Addr) (n2 c2 : Nat) (x3 : Int) (x4 : Int) {S0 S1 S2 : Nat → Prop} (w : World) (h0 : RdD (flat SlKey.E SlKey.InR) S0 w p0 n0 l0) (h1 : RdD (flat SlAuthority.E SlAuthority.InR) S1 w p1 n1 l1) (h2 : RdD (flat SlMethod.E SlMethod.InR) S2 w p2 n2 l2) (hm : E.wt (l0, l1, l2, x3, x4) ≤ 1048576) : Calls Tryz.prog 11 #[.agg #[.slice p0 n0 c0, .slice p1 n1 c1, .slice p2 n2 c2, .int .i64 x3, .int .i64 x4]] w fun e w' => ∃ (p0' : Option Addr) (c0' : Nat) (p1' : Option Addr) (c1' : Nat) (p2' : Option Addr) (c2' : Nat), e = .returned (.agg #[.slice p0' n0 c0', .slice p1' n1 c1', .slice p2' n2 c2', .int .i64 x3, .int .i64 x4]) ∧ RdD (flat SlKey.E SlKey.InR) (fun b => w.heap.size ≤ b) w' p0' n0 l0 ∧ RdD (flat SlAuthority.E SlAuthority.InR) (fun b => w.heap.size ≤ b) w' p1' n1 l1 ∧ RdD (flat SlMethod.E SlMethod.InR) (fun b => w.heap.size ≤ b) w' p2' n2 l2 ∧ n0 ≤ c0' ∧ n1 ≤ c1' ∧ n2 ≤ c2' ∧ Below w.heap.size w w' := by
  rw [wt_eq] at hm
  have k0 := h0.len
  have k1 := h1.len
  have k2 := h2.len
  have m0 : n0 + wts (flat SlKey.E SlKey.InR) l0 ≤ 1048576 := by omega
  have m1 : n1 + wts (flat SlAuthority.E SlAuthority.InR) l1 ≤ 1048576 := by omega
  have m2 : n2 + wts (flat SlMethod.E SlMethod.InR) l2 ≤ 1048576 := by omega
  have HP0 := Lib.hid h0
  have HP1 := Lib.hid h1
  have HP2 := Lib.hid h2
  clear hm h0 k0 h1 k1 h2 k2
  have b0 := ((Bx.new w 26 #[.slice p0 n0 c0, .slice p1 n1 c1, .slice p2 n2 c2, .int .i64 x3, .int .i64 x4]).alloc (.cells #[.slice none 0 0, .slice none 0 0, .slice none 0 0, .int .i64 0, .int .i64 0] 39)).alloc (.cells #[.slice none 0 0, .slice none 0 0, .slice none 0 0, .int .i64 0, .int .i64 0] 39)
  have b1 := (Bx.new (w.alloc (.cells #[.slice p0 n0 c0, .slice p1 n1 c1, .slice p2 n2 c2, .int .i64 x3, .int .i64 x4] 26)) 39 #[.slice none 0 0, .slice none 0 0, .slice none 0 0, .int .i64 0, .int .i64 0]).alloc (.cells #[.slice none 0 0, .slice none 0 0, .slice none 0 0, .int .i64 0, .int .i64 0] 39)
  have b2 := Bx.new ((w.alloc (.cells #[.slice p0 n0 c0, .slice p1 n1 c1, .slice p2 n2 c2, .int .i64 x3, .int .i64 x4] 26)).alloc (.cells #[.slice none 0 0, .slice none 0 0, .slice none 0 0, .int .i64 0, .int .i64 0] 39)) 39 #[.slice none 0 0, .slice none 0 0, .slice none 0 0, .int .i64 0, .int .i64 0]
  rw [World.size_alloc] at b1
  rw [World.size_alloc, World.size_alloc] at b2
  have HA := Lib.hid b0
  have HR := Lib.hid b1
  have HO := Lib.hid b2
  have HB : Hid (Below w.heap.size w (((w.alloc (.cells #[.slice p0 n0 c0, .slice p1 n1 c1, .slice p2 n2 c2, .int .i64 x3, .int .i64 x4] 26)).alloc (.cells #[.slice none 0 0, .slice none 0 0, .slice none 0 0, .int .i64 0, .int .i64 0] 39)).alloc (.cells #[.slice none 0 0, .slice none 0 0, .slice none 0 0, .int .i64 0, .int .i64 0] 39))) := Lib.hid ((((Below.refl w.heap.size w).alloc (Nat.le_refl _) _).alloc (by simp) _).alloc (by simp; omega) _)
  have HSZ : Hid (w.heap.size + 3 ≤ (((w.alloc (.cells #[.slice p0 n0 c0, .slice p1 n1 c1, .slice p2 n2 c2, .int .i64 x3, .int .i64 x4] 26)).alloc (.cells #[.slice none 0 0, .slice none 0 0, .slice none 0 0, .int .i64 0, .int .i64 0] 39)).alloc (.cells #[.slice none 0 0, .slice none 0 0, .slice none 0 0, .int .i64 0, .int .i64 0] 39)).heap.size) := Lib.hid (by simp)
  clear b0 b1 b2
  go_enter Tryz.func11, Tryz.ntmps11
  go_wp2_with fail
  generalize (((w.alloc (.cells #[.slice p0 n0 c0, .slice p1 n1 c1, .slice p2 n2 c2, .int .i64 x3, .int .i64 x4] 26)).alloc (.cells #[.slice none 0 0, .slice none 0 0, .slice none 0 0, .int .i64 0, .int .i64 0] 39)).alloc (.cells #[.slice none 0 0, .slice none 0 0, .slice none 0 0, .int .i64 0, .int .i64 0] 39)) = V at HA HR HO HB HSZ ⊢
  obtain ⟨a0, a1, a2, a3, a4⟩ := bxc HA.out
  refine (SlKey.to_any _ _ _ _ _ (HP0.out.below HB.out).rdS (by omega)).mono ?_
  rintro e w1 ⟨p0', n0', c0', rfl, ho, hb⟩
  obtain rfl : n0 = n0' := HP0.out.len.symm.trans ho.len
  have HK0 := Lib.hid (Ed.cap_owS ho)
  have HQ0 : Hid (RdD (flat SlKey.E SlKey.InR) (fun b => w.heap.size + 3 ≤ b) w1 p0' n0 l0) := Lib.hid ((RdD.ofOwS ho HP0.out.allP).mono fun b hb => Nat.le_trans HSZ.out hb)
  clear ho
  clear a0 a1 a2 a3 a4
  replace HA := Lib.hid (HA.out.below hb)
  replace HR := Lib.hid (HR.out.below hb)
  replace HO := Lib.hid (HO.out.below hb)
  replace HB := Lib.hid (below_on HB.out hb)
  replace HSZ := Lib.hid (Nat.le_trans HSZ.out hb.size)
  clear hb
  obtain ⟨a0, a1, a2, a3, a4⟩ := bxc HA.out
  obtain ⟨q0, q1, q2, q3, q4⟩ := bxc HO.out
  have g0 := HO.out.free 0
  go_wp2_with fail
  have ho := (HO.out.set_ 0 (.slice p0' n0 c0'))
  simp only [List.setIfInBounds_toArray, List.set_cons_zero] at ho
  replace HO := Lib.hid ho
  clear ho a0 a1 a2 a3 a4 q0 q1 q2 q3 q4 g0
  replace HA := Lib.hid (HA.out.far (q := ⟨w.heap.size + 1 + 1, 0, none⟩) (by show w.heap.size ≠ w.heap.size + 1 + 1; omega) (.slice p0' n0 c0'))
  replace HR := Lib.hid (HR.out.far (q := ⟨w.heap.size + 1 + 1, 0, none⟩) (by show w.heap.size + 1 ≠ w.heap.size + 1 + 1; omega) (.slice p0' n0 c0'))
  replace HQ0 := Lib.hid (HQ0.out.far (q := ⟨w.heap.size + 1 + 1, 0, none⟩) (by show ¬ (w.heap.size + 3 ≤ w.heap.size + 1 + 1); omega) (.slice p0' n0 c0'))
  replace HB := Lib.hid (HB.out.setCell (p := ⟨w.heap.size + 1 + 1, 0, none⟩) (by show w.heap.size ≤ w.heap.size + 1 + 1; omega) (.slice p0' n0 c0'))
  replace HSZ : Hid (w.heap.size + 3 ≤ (w1.setCell ⟨w.heap.size + 1 + 1, 0, none⟩ (.slice p0' n0 c0')).heap.size) := Lib.hid (by simpa [World.setCell] using HSZ.out)
  generalize (w1.setCell ⟨w.heap.size + 1 + 1, 0, none⟩ (.slice p0' n0 c0')) = V1 at HA HR HO HB HSZ HQ0 ⊢
  obtain ⟨a0, a1, a2, a3, a4⟩ := bxc HA.out
  refine (SlAuthority.to_any _ _ _ _ _ (HP1.out.below HB.out).rdS (by omega)).mono ?_
  rintro e w2 ⟨p1', n1', c1', rfl, ho, hb⟩
  obtain rfl : n1 = n1' := HP1.out.len.symm.trans ho.len
  have HK1 := Lib.hid (Ed.cap_owS ho)
  have HQ1 : Hid (RdD (flat SlAuthority.E SlAuthority.InR) (fun b => w.heap.size + 3 ≤ b) w2 p1' n1 l1) := Lib.hid ((RdD.ofOwS ho HP1.out.allP).mono fun b hb => Nat.le_trans HSZ.out hb)
  clear ho
  clear a0 a1 a2 a3 a4
  replace HA := Lib.hid (HA.out.below hb)
  replace HR := Lib.hid (HR.out.below hb)
  replace HO := Lib.hid (HO.out.below hb)
  replace HQ0 := Lib.hid (HQ0.out.below hb)
  replace HB := Lib.hid (below_on HB.out hb)
  replace HSZ := Lib.hid (Nat.le_trans HSZ.out hb.size)
  clear hb
  obtain ⟨a0, a1, a2, a3, a4⟩ := bxc HA.out
  obtain ⟨q0, q1, q2, q3, q4⟩ := bxc HO.out
  have g1 := HO.out.free 1
  go_wp2_with fail
  have ho := (HO.out.set_ 1 (.slice p1' n1 c1'))
  simp only [List.setIfInBounds_toArray, List.set_cons_zero, List.set_cons_succ] at ho
  replace HO := Lib.hid ho
  clear ho a0 a1 a2 a3 a4 q0 q1 q2 q3 q4 g1
  replace HA := Lib.hid (HA.out.far (q := ⟨w.heap.size + 1 + 1, 1, none⟩) (by show w.heap.size ≠ w.heap.size + 1 + 1; omega) (.slice p1' n1 c1'))
  replace HR := Lib.hid (HR.out.far (q := ⟨w.heap.size + 1 + 1, 1, none⟩) (by show w.heap.size + 1 ≠ w.heap.size + 1 + 1; omega) (.slice p1' n1 c1'))
  replace HQ0 := Lib.hid (HQ0.out.far (q := ⟨w.heap.size + 1 + 1, 1, none⟩) (by show ¬ (w.heap.size + 3 ≤ w.heap.size + 1 + 1); omega) (.slice p1' n1 c1'))
  replace HQ1 := Lib.hid (HQ1.out.far (q := ⟨w.heap.size + 1 + 1, 1, none⟩) (by show ¬ (w.heap.size + 3 ≤ w.heap.size + 1 + 1); omega) (.slice p1' n1 c1'))
  replace HB := Lib.hid (HB.out.setCell (p := ⟨w.heap.size + 1 + 1, 1, none⟩) (by show w.heap.size ≤ w.heap.size + 1 + 1; omega) (.slice p1' n1 c1'))
  replace HSZ : Hid (w.heap.size + 3 ≤ (w2.setCell ⟨w.heap.size + 1 + 1, 1, none⟩ (.slice p1' n1 c1')).heap.size) := Lib.hid (by simpa [World.setCell] using HSZ.out)
  generalize (w2.setCell ⟨w.heap.size + 1 + 1, 1, none⟩ (.slice p1' n1 c1')) = V2 at HA HR HO HB HSZ HQ0 HQ1 ⊢
  obtain ⟨a0, a1, a2, a3, a4⟩ := bxc HA.out
  refine (SlMethod.to_any _ _ _ _ _ (HP2.out.below HB.out).rdS (by omega)).mono ?_
  rintro e w3 ⟨p2', n2', c2', rfl, ho, hb⟩
  obtain rfl : n2 = n2' := HP2.out.len.symm.trans ho.len
  have HK2 := Lib.hid (Ed.cap_owS ho)
  have HQ2 : Hid (RdD (flat SlMethod.E SlMethod.InR) (fun b => w.heap.size + 3 ≤ b) w3 p2' n2 l2) := Lib.hid ((RdD.ofOwS ho HP2.out.allP).mono fun b hb => Nat.le_trans HSZ.out hb)
  clear ho
  clear a0 a1 a2 a3 a4
  replace HA := Lib.hid (HA.out.below hb)
  replace HR := Lib.hid (HR.out.below hb)
  replace HO := Lib.hid (HO.out.below hb)
  replace HQ0 := Lib.hid (HQ0.out.below hb)
  replace HQ1 := Lib.hid (HQ1.out.below hb)
  replace HB := Lib.hid (below_on HB.out hb)
  replace HSZ := Lib.hid (Nat.le_trans HSZ.out hb.size)
  clear hb
  obtain ⟨a0, a1, a2, a3, a4⟩ := bxc HA.out
  obtain ⟨q0, q1, q2, q3, q4⟩ := bxc HO.out
  have g2 := HO.out.free 2
  have g3 := HO.out.free 3
  have g4 := HO.out.free 4
  obtain ⟨r0, r1, r2, r3, r4⟩ := bxc HR.out
  have s0 := HR.out.free 0
  have s1 := HR.out.free 1
  have s2 := HR.out.free 2
  have s3 := HR.out.free 3
  have s4 := HR.out.free 4
  go_wp2_with fail
  exact bodyPost_ret (v := .agg #[.slice p0' n0 c0', .slice p1' n1 c1', .slice p2' n2 c2', .int .i64 x3, .int .i64 x4]) (by simp [results, Tryz.results11, go_sem, r0, r1, r2, r3, r4]) rfl ⟨p0', c0', p1', c1', p2', c2', rfl, ((((((((((HQ0.out.far (q := ⟨w.heap.size + 1 + 1, 2, none⟩) (by show ¬ (w.heap.size + 3 ≤ w.heap.size + 1 + 1); omega) (.slice p2' n2 c2')).far (q := ⟨w.heap.size + 1 + 1, 3, none⟩) (by show ¬ (w.heap.size + 3 ≤ w.heap.size + 1 + 1); omega) (.int .i64 x3)).far (q := ⟨w.heap.size + 1 + 1, 4, none⟩) (by show ¬ (w.heap.size + 3 ≤ w.heap.size + 1 + 1); omega) (.int .i64 x4)).far (q := ⟨w.heap.size + 1, 0, none⟩) (by show ¬ (w.heap.size + 3 ≤ w.heap.size + 1); omega) (.slice p0' n0 c0')).far (q := ⟨w.heap.size + 1, 1, none⟩) (by show ¬ (w.heap.size + 3 ≤ w.heap.size + 1); omega) (.slice p1' n1 c1')).far (q := ⟨w.heap.size + 1, 2, none⟩) (by show ¬ (w.heap.size + 3 ≤ w.heap.size + 1); omega) (.slice p2' n2 c2')).far (q := ⟨w.heap.size + 1, 3, none⟩) (by show ¬ (w.heap.size + 3 ≤ w.heap.size + 1); omega) (.int .i64 x3)).far (q := ⟨w.heap.size + 1, 4, none⟩) (by show ¬ (w.heap.size + 3 ≤ w.heap.size + 1); omega) (.int .i64 x4))).mono fun b hb => by omega), ((((((((((HQ1.out.far (q := ⟨w.heap.size + 1 + 1, 2, none⟩) (by show ¬ (w.heap.size + 3 ≤ w.heap.size + 1 + 1); omega) (.slice p2' n2 c2')).far (q := ⟨w.heap.size + 1 + 1, 3, none⟩) (by show ¬ (w.heap.size + 3 ≤ w.heap.size + 1 + 1); omega) (.int .i64 x3)).far (q := ⟨w.heap.size + 1 + 1, 4, none⟩) (by show ¬ (w.heap.size + 3 ≤ w.heap.size + 1 + 1); omega) (.int .i64 x4)).far (q := ⟨w.heap.size + 1, 0, none⟩) (by show ¬ (w.heap.size + 3 ≤ w.heap.size + 1); omega) (.slice p0' n0 c0')).far (q := ⟨w.heap.size + 1, 1, none⟩) (by show ¬ (w.heap.size + 3 ≤ w.heap.size + 1); omega) (.slice p1' n1 c1')).far (q := ⟨w.heap.size + 1, 2, none⟩) (by show ¬ (w.heap.size + 3 ≤ w.heap.size + 1); omega) (.slice p2' n2 c2')).far (q := ⟨w.heap.size + 1, 3, none⟩) (by show ¬ (w.heap.size + 3 ≤ w.heap.size + 1); omega) (.int .i64 x3)).far (q := ⟨w.heap.size + 1, 4, none⟩) (by show ¬ (w.heap.size + 3 ≤ w.heap.size + 1); omega) (.int .i64 x4))).mono fun b hb => by omega), ((((((((((HQ2.out.far (q := ⟨w.heap.size + 1 + 1, 2, none⟩) (by show ¬ (w.heap.size + 3 ≤ w.heap.size + 1 + 1); omega) (.slice p2' n2 c2')).far (q := ⟨w.heap.size + 1 + 1, 3, none⟩) (by show ¬ (w.heap.size + 3 ≤ w.heap.size + 1 + 1); omega) (.int .i64 x3)).far (q := ⟨w.heap.size + 1 + 1, 4, none⟩) (by show ¬ (w.heap.size + 3 ≤ w.heap.size + 1 + 1); omega) (.int .i64 x4)).far (q := ⟨w.heap.size + 1, 0, none⟩) (by show ¬ (w.heap.size + 3 ≤ w.heap.size + 1); omega) (.slice p0' n0 c0')).far (q := ⟨w.heap.size + 1, 1, none⟩) (by show ¬ (w.heap.size + 3 ≤ w.heap.size + 1); omega) (.slice p1' n1 c1')).far (q := ⟨w.heap.size + 1, 2, none⟩) (by show ¬ (w.heap.size + 3 ≤ w.heap.size + 1); omega) (.slice p2' n2 c2')).far (q := ⟨w.heap.size + 1, 3, none⟩) (by show ¬ (w.heap.size + 3 ≤ w.heap.size + 1); omega) (.int .i64 x3)).far (q := ⟨w.heap.size + 1, 4, none⟩) (by show ¬ (w.heap.size + 3 ≤ w.heap.size + 1); omega) (.int .i64 x4))).mono fun b hb => by omega), HK0.out, HK1.out, HK2.out, ((((((((HB.out.setCell (p := ⟨w.heap.size + 1 + 1, 2, none⟩) (by show w.heap.size ≤ w.heap.size + 1 + 1; omega) (.slice p2' n2 c2')).setCell (p := ⟨w.heap.size + 1 + 1, 3, none⟩) (by show w.heap.size ≤ w.heap.size + 1 + 1; omega) (.int .i64 x3)).setCell (p := ⟨w.heap.size + 1 + 1, 4, none⟩) (by show w.heap.size ≤ w.heap.size + 1 + 1; omega) (.int .i64 x4)).setCell (p := ⟨w.heap.size + 1, 0, none⟩) (by show w.heap.size ≤ w.heap.size + 1; omega) (.slice p0' n0 c0')).setCell (p := ⟨w.heap.size + 1, 1, none⟩) (by show w.heap.size ≤ w.heap.size + 1; omega) (.slice p1' n1 c1')).setCell (p := ⟨w.heap.size + 1, 2, none⟩) (by show w.heap.size ≤ w.heap.size + 1; omega) (.slice p2' n2 c2')).setCell (p := ⟨w.heap.size + 1, 3, none⟩) (by show w.heap.size ≤ w.heap.size + 1; omega) (.int .i64 x3)).setCell (p := ⟨w.heap.size + 1, 4, none⟩) (by show w.heap.size ≤ w.heap.size + 1; omega) (.int .i64 x4))⟩
theorem to_any (l0 : List (Int × Int × Int × Int × Int)) (p0 : Option Addr) (n0 c0 : Nat) (l1 : List (Int × Int × Int)) (p1 : Option Addr) (n1 c1 : Nat) (l2 : List (Int × Int × Int × Int)) (p2 : Option Addr) (n2 c2 : Nat) (x3 : Int) (x4 : Int) {S0 S1 S2 : Nat → Prop} (w : World) (h0 : RdD (flat SlKey.E SlKey.InR) S0 w p0 n0 l0) (h1 : RdD (flat SlAuthority.E SlAuthority.InR) S1 w p1 n1 l1) (h2 : RdD (flat SlMethod.E SlMethod.InR) S2 w p2 n2 l2) (hm : E.wt (l0, l1, l2, x3, x4) ≤ 1048576) : Calls Tryz.prog 11 #[.agg #[.slice p0 n0 c0, .slice p1 n1 c1, .slice p2 n2 c2, .int .i64 x3, .int .i64 x4]] w fun e w' => ∃ (p0' : Option Addr) (c0' : Nat) (p1' : Option Addr) (c1' : Nat) (p2' : Option Addr) (c2' : Nat), e = .returned (.agg #[.slice p0' n0 c0', .slice p1' n1 c1', .slice p2' n2 c2', .int .i64 x3, .int .i64 x4]) ∧ RdD (flat SlKey.E SlKey.InR) (fun b => w.heap.size ≤ b) w' p0' n0 l0 ∧ RdD (flat SlAuthority.E SlAuthority.InR) (fun b => w.heap.size ≤ b) w' p1' n1 l1 ∧ RdD (flat SlMethod.E SlMethod.InR) (fun b => w.heap.size ≤ b) w' p2' n2 l2 ∧ Below w.heap.size w w' := by
  refine (toK_any l0 p0 n0 c0 l1 p1 n1 c1 l2 p2 n2 c2 x3 x4 w h0 h1 h2 hm).mono ?_
  rintro e w' ⟨p0', c0', p1', c1', p2', c2', he, o0, o1, o2, _, _, _, hb⟩
  exact ⟨p0', c0', p1', c1', p2', c2', he, o0, o1, o2, hb⟩
set_option maxRecDepth 100000 in
set_option maxHeartbeats 4000000 in
theorem eq_any (l0 : List (Int × Int × Int × Int × Int)) (p0 p0' : Option Addr) (n0 c0 c0' : Nat) (l1 : List (Int × Int × Int)) (p1 p1' : Option Addr) (n1 c1 c1' : Nat) (l2 : List (Int × Int × Int × Int)) (p2 p2' : Option Addr) (n2 c2 c2' : Nat) (x3 : Int) (x4 : Int) {S0 S0' S1 S1' S2 S2' : Nat → Prop} (w : World) (h0 : RdD (flat SlKey.E SlKey.InR) S0 w p0 n0 l0) (h0' : RdD (flat SlKey.E SlKey.InR) S0' w p0' n0 l0) (h1 : RdD (flat SlAuthority.E SlAuthority.InR) S1 w p1 n1 l1) (h1' : RdD (flat SlAuthority.E SlAuthority.InR) S1' w p1' n1 l1) (h2 : RdD (flat SlMethod.E SlMethod.InR) S2 w p2 n2 l2) (h2' : RdD (flat SlMethod.E SlMethod.InR) S2' w p2' n2 l2) : Calls Tryz.prog 15 #[.agg #[.slice p0 n0 c0, .slice p1 n1 c1, .slice p2 n2 c2, .int .i64 x3, .int .i64 x4], .agg #[.slice p0' n0 c0', .slice p1' n1 c1', .slice p2' n2 c2', .int .i64 x3, .int .i64 x4]] w (Yes w) := by
  have HP0 := Lib.hid h0
  have HP0' := Lib.hid h0'
  have HP1 := Lib.hid h1
  have HP1' := Lib.hid h1'
  have HP2 := Lib.hid h2
  have HP2' := Lib.hid h2'
  clear h0 h0' h1 h1' h2 h2'
  have HB := Lib.hid ((box1 w (.cells #[.slice p0 n0 c0, .slice p1 n1 c1, .slice p2 n2 c2, .int .i64 x3, .int .i64 x4] 39)).alloc (by simp) (.cells #[.slice p0' n0 c0', .slice p1' n1 c1', .slice p2' n2 c2', .int .i64 x3, .int .i64 x4] 39))
  have HX := Lib.hid ((Bx.new w 39 #[.slice p0 n0 c0, .slice p1 n1 c1, .slice p2 n2 c2, .int .i64 x3, .int .i64 x4]).alloc (.cells #[.slice p0' n0 c0', .slice p1' n1 c1', .slice p2' n2 c2', .int .i64 x3, .int .i64 x4] 39))
  have hy := Bx.new (w.alloc (.cells #[.slice p0 n0 c0, .slice p1 n1 c1, .slice p2 n2 c2, .int .i64 x3, .int .i64 x4] 39)) 39 #[.slice p0' n0 c0', .slice p1' n1 c1', .slice p2' n2 c2', .int .i64 x3, .int .i64 x4]
  rw [World.size_alloc] at hy
  have HY := Lib.hid hy
  clear hy
  go_enter Tryz.func15, Tryz.ntmps15
  go_wp2_with fail
  refine (SlKey.eq_any _ _ _ _ _ _ _ (HP0.out.below HB.out).rdS (HP0'.out.below HB.out).rdS).mono ?_
  rintro e w1 ⟨rfl, hb⟩
  replace HB := Lib.hid (below_on HB.out hb)
  replace HX := Lib.hid (HX.out.below hb)
  replace HY := Lib.hid (HY.out.below hb)
  clear hb
  obtain ⟨x0_, x1_, x2_, x3_, x4_⟩ := bxc HX.out
  obtain ⟨y0_, y1_, y2_, y3_, y4_⟩ := bxc HY.out
  go_wp2_with fail
  refine (SlAuthority.eq_any _ _ _ _ _ _ _ (HP1.out.below HB.out).rdS (HP1'.out.below HB.out).rdS).mono ?_
  rintro e w2 ⟨rfl, hb⟩
  clear x0_ y0_ x1_ y1_ x2_ y2_ x3_ y3_ x4_ y4_
  replace HB := Lib.hid (below_on HB.out hb)
  replace HX := Lib.hid (HX.out.below hb)
  replace HY := Lib.hid (HY.out.below hb)
  clear hb
  obtain ⟨x0_, x1_, x2_, x3_, x4_⟩ := bxc HX.out
  obtain ⟨y0_, y1_, y2_, y3_, y4_⟩ := bxc HY.out
  go_wp2_with fail
  refine (SlMethod.eq_any _ _ _ _ _ _ _ (HP2.out.below HB.out).rdS (HP2'.out.below HB.out).rdS).mono ?_
  rintro e w3 ⟨rfl, hb⟩
  clear x0_ y0_ x1_ y1_ x2_ y2_ x3_ y3_ x4_ y4_
  replace HB := Lib.hid (below_on HB.out hb)
  replace HX := Lib.hid (HX.out.below hb)
  replace HY := Lib.hid (HY.out.below hb)
  clear hb
  obtain ⟨x0_, x1_, x2_, x3_, x4_⟩ := bxc HX.out
  obtain ⟨y0_, y1_, y2_, y3_, y4_⟩ := bxc HY.out
  go_wp2_with fail
  go_ret
  exact ⟨rfl, HB.out⟩
set_option maxRecDepth 100000 in
set_option maxHeartbeats 4000000 in
theorem sz_fits (l0 : List (Int × Int × Int × Int × Int)) (p0 : Option Addr) (n0 c0 : Nat) (l1 : List (Int × Int × Int)) (p1 : Option Addr) (n1 c1 : Nat) (l2 : List (Int × Int × Int × Int)) (p2 : Option Addr) (n2 c2 : Nat) (x3 : Int) (x4 : Int) {S0 S1 S2 : Nat → Prop} (m : Nat) (left : Int) (w : World) (hm : E.wt (l0, l1, l2, x3, x4) = m) (h0 : RdD (flat SlKey.E SlKey.InR) S0 w p0 n0 l0) (h1 : RdD (flat SlAuthority.E SlAuthority.InR) S1 w p1 n1 l1) (h2 : RdD (flat SlMethod.E SlMethod.InR) S2 w p2 n2 l2) (g1 : left ≤ 1048576) (g2 : m ≤ left) : Calls Tryz.prog 8 #[.agg #[.slice p0 n0 c0, .slice p1 n1 c1, .slice p2 n2 c2, .int .i64 x3, .int .i64 x4], .int .i64 left] w (Val (.int .i64 (left - m)) w) := by
  rw [wt_eq] at hm
  have k0 := h0.len
  have e0 := h0.le
  have HP0 := Lib.hid h0
  have k1 := h1.len
  have e1 := h1.le
  have HP1 := Lib.hid h1
  have k2 := h2.len
  have e2 := h2.le
  have HP2 := Lib.hid h2
  have m0 : n0 = n0 := rfl
  have m1 : n1 = n1 := rfl
  have m2 : n2 = n2 := rfl
  have z0 := wts_zero (E := (flat SlKey.E SlKey.InR)) (fun _ => rfl) l0
  have z1 := wts_zero (E := (flat SlAuthority.E SlAuthority.InR)) (fun _ => rfl) l1
  have z2 := wts_zero (E := (flat SlMethod.E SlMethod.InR)) (fun _ => rfl) l2
  have ht : n0 + n1 + n2 = m := by omega
  clear hm h0 k0 h1 k1 h2 k2 m0 m1 m2 z0 z1 z2
  subst ht
  have HB := Lib.hid (box1 w (.cells #[.slice p0 n0 c0, .slice p1 n1 c1, .slice p2 n2 c2, .int .i64 x3, .int .i64 x4] 26))
  have HX := Lib.hid (Bx.new w 26 #[.slice p0 n0 c0, .slice p1 n1 c1, .slice p2 n2 c2, .int .i64 x3, .int .i64 x4])
  go_enter Tryz.func8, Tryz.ntmps8
  go_wp2_with fail
  refine (SlKey.sz_fits _ _ _ _ _ (by omega) (by omega)).mono ?_
  rintro e w1 ⟨rfl, rfl⟩
  obtain ⟨x0_, x1_, x2_, x3_, x4_⟩ := bxc HX.out
  go_wp2_with fail
  refine (SlAuthority.sz_fits _ _ _ _ _ (by omega) (by omega)).mono ?_
  rintro e w2 ⟨rfl, rfl⟩
  clear x0_ x1_ x2_ x3_ x4_
  obtain ⟨x0_, x1_, x2_, x3_, x4_⟩ := bxc HX.out
  go_wp2_with fail
  refine (SlMethod.sz_fits _ _ _ _ _ (by omega) (by omega)).mono ?_
  rintro e w3 ⟨rfl, rfl⟩
  clear x0_ x1_ x2_ x3_ x4_
  go_wp2_with fail
  go_ret
  refine val_of ?_ HB.out
  show Value.int .i64 (left - (((n0) : Nat) : Int) - (((n1) : Nat) : Int) - (((n2) : Nat) : Int)) = _
  first | rfl | (congr 1; omega)
set_option maxRecDepth 100000 in
set_option maxHeartbeats 4000000 in
theorem sz_big (l0 : List (Int × Int × Int × Int × Int)) (p0 : Option Addr) (n0 c0 : Nat) (l1 : List (Int × Int × Int)) (p1 : Option Addr) (n1 c1 : Nat) (l2 : List (Int × Int × Int × Int)) (p2 : Option Addr) (n2 c2 : Nat) (x3 : Int) (x4 : Int) {S0 S1 S2 : Nat → Prop} (m : Nat) (left : Int) (w : World) (hm : E.wt (l0, l1, l2, x3, x4) = m) (h0 : RdD (flat SlKey.E SlKey.InR) S0 w p0 n0 l0) (h1 : RdD (flat SlAuthority.E SlAuthority.InR) S1 w p1 n1 l1) (h2 : RdD (flat SlMethod.E SlMethod.InR) S2 w p2 n2 l2) (g0 : 0 ≤ left) (g1 : left ≤ 1048576) (g2 : left < m) : Calls Tryz.prog 8 #[.agg #[.slice p0 n0 c0, .slice p1 n1 c1, .slice p2 n2 c2, .int .i64 x3, .int .i64 x4], .int .i64 left] w (Val (.int .i64 (-1)) w) := by
  rw [wt_eq] at hm
  have k0 := h0.len
  have e0 := h0.le
  have HP0 := Lib.hid h0
  have k1 := h1.len
  have e1 := h1.le
  have HP1 := Lib.hid h1
  have k2 := h2.len
  have e2 := h2.le
  have HP2 := Lib.hid h2
  have m0 : n0 = n0 := rfl
  have m1 : n1 = n1 := rfl
  have m2 : n2 = n2 := rfl
  have z0 := wts_zero (E := (flat SlKey.E SlKey.InR)) (fun _ => rfl) l0
  have z1 := wts_zero (E := (flat SlAuthority.E SlAuthority.InR)) (fun _ => rfl) l1
  have z2 := wts_zero (E := (flat SlMethod.E SlMethod.InR)) (fun _ => rfl) l2
  have ht : n0 + n1 + n2 = m := by omega
  clear hm h0 k0 h1 k1 h2 k2 m0 m1 m2 z0 z1 z2
  subst ht
  have G := Lib.hid g2
  clear g2
  have HB := Lib.hid (box1 w (.cells #[.slice p0 n0 c0, .slice p1 n1 c1, .slice p2 n2 c2, .int .i64 x3, .int .i64 x4] 26))
  have HX := Lib.hid (Bx.new w 26 #[.slice p0 n0 c0, .slice p1 n1 c1, .slice p2 n2 c2, .int .i64 x3, .int .i64 x4])
  by_cases hc0 : left < ((n0 : Nat) : Int)
  · go_enter Tryz.func8, Tryz.ntmps8
    go_wp2_with fail
    refine (SlKey.sz_big _ _ _ _ _ (by omega) (by omega) (by have := G.out; omega) e0).mono ?_
    rintro e w1 ⟨rfl, rfl⟩
    go_wp2_with fail
    go_ret
    exact ⟨rfl, HB.out⟩
  by_cases hc1 : left < ((n0 : Nat) : Int) + ((n1 : Nat) : Int)
  · go_enter Tryz.func8, Tryz.ntmps8
    go_wp2_with fail
    refine (SlKey.sz_fits _ _ _ _ _ (by omega) (by omega)).mono ?_
    rintro e w1 ⟨rfl, rfl⟩
    obtain ⟨x0_, x1_, x2_, x3_, x4_⟩ := bxc HX.out
    go_wp2_with fail
    refine (SlAuthority.sz_big _ _ _ _ _ (by omega) (by omega) (by have := G.out; omega) e1).mono ?_
    rintro e w2 ⟨rfl, rfl⟩
    clear x0_ x1_ x2_ x3_ x4_
    go_wp2_with fail
    go_ret
    exact ⟨rfl, HB.out⟩
  go_enter Tryz.func8, Tryz.ntmps8
  go_wp2_with fail
  refine (SlKey.sz_fits _ _ _ _ _ (by omega) (by omega)).mono ?_
  rintro e w1 ⟨rfl, rfl⟩
  obtain ⟨x0_, x1_, x2_, x3_, x4_⟩ := bxc HX.out
  go_wp2_with fail
  refine (SlAuthority.sz_fits _ _ _ _ _ (by omega) (by omega)).mono ?_
  rintro e w2 ⟨rfl, rfl⟩
  clear x0_ x1_ x2_ x3_ x4_
  obtain ⟨x0_, x1_, x2_, x3_, x4_⟩ := bxc HX.out
  go_wp2_with fail
  refine (SlMethod.sz_big _ _ _ _ _ (by omega) (by omega) (by have := G.out; omega) e2).mono ?_
  rintro e w3 ⟨rfl, rfl⟩
  clear x0_ x1_ x2_ x3_ x4_
  go_wp2_with fail
  go_ret
  exact ⟨rfl, HB.out⟩
theorem at_cells {w : World} {b q : Nat} {v0 : Value} {v1 : Value} {v2 : Value} {v3 : Value} {v4 : Value} (h : ∀ j v, [v0, v1, v2, v3, v4][j]? = some v → w.cell? ⟨b, q + j, none⟩ = some v) : w.cell? ⟨b, q, none⟩ = some v0 ∧ w.cell? ⟨b, q + 1, none⟩ = some v1 ∧ w.cell? ⟨b, q + 2, none⟩ = some v2 ∧ w.cell? ⟨b, q + 3, none⟩ = some v3 ∧ w.cell? ⟨b, q + 4, none⟩ = some v4 := ⟨h 0 _ rfl, h 1 _ rfl, h 2 _ rfl, h 3 _ rfl, h 4 _ rfl⟩
theorem info : (Tryz.prog.info? 39).map (fun i => (i.zero, i.size, i.bytes)) = some (some (.agg #[.slice none 0 0, .slice none 0 0, .slice none 0 0, .int .i64 0, .int .i64 0]), 5, 88) := by kernel_rfl
end Go.Proofs.YtfojilogcecphaaGreat.DpFrame
