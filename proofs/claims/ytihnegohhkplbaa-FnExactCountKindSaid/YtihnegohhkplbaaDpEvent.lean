/- Contracts of the laws' helpers over Event: opened, measured, copied, compared; by value and in slices. -/
import Derived.Test.YtihnegohhkplbaaEd
import Derived.Test.YtihnegohhkplbaaDz
import Derived.Test.YtihnegohhkplbaaSlI
import Derived.Test.YtihnegohhkplbaaSlI
import Derived.Test.YtihnegohhkplbaaDpDocument
import Derived.OpenShut
import Derived.Deep.Fields
import Derived.Deep.RegionHeld3
import Derived.LoopTactic
import Derived.Outline
namespace Go.Proofs.Ytihnegohhkplbaa.DpEvent
open Go.ChangeShapes Go.WideShapes Go.ChangeAt Go.RowKit Sl St Ed Dz
abbrev A := Int × Int × Int × Int × Int × DpDocument.A × (List Int)
def E : Ent A := pair int (pair int (pair int (pair int (pair int (pair DpDocument.E (sl int))))))
theorem C_eq : E.C = 9 := rfl
theorem ex {S : Nat → Prop} {w : World} {cs : List Value} {x0 : Int} {x1 : Int} {x2 : Int} {x3 : Int} {x4 : Int} {x5 : Int} {l6 : List ByteArray} {l7 : List Int} {l8 : List Int} (h : E.rd S w cs (x0, x1, x2, x3, x4, (x5, l6, l7), l8)) : ∃ (p6 : Option Addr) (n6 c6 : Nat) (p7 : Option Addr) (n7 c7 : Nat) (p8 : Option Addr) (n8 c8 : Nat), cs = [.int .i64 x0, .int .i64 x1, .int .i64 x2, .int .i64 x3, .int .i64 x4, .int .i64 x5, .slice p6 n6 c6, .slice p7 n7 c7, .slice p8 n8 c8] ∧ InI x0 ∧ InI x1 ∧ InI x2 ∧ InI x3 ∧ InI x4 ∧ InI x5 ∧ RdD str S w p6 n6 l6 ∧ RdD int S w p7 n7 l7 ∧ RdD int S w p8 n8 l8 := by
  obtain ⟨d0, e0, rfl, ⟨rfl, b0⟩, d1, e1, rfl, ⟨rfl, b1⟩, d2, e2, rfl, ⟨rfl, b2⟩, d3, e3, rfl, ⟨rfl, b3⟩, d4, e4, rfl, ⟨rfl, b4⟩, d5, e5, rfl, g5, p8, n8, c8, rfl, h8⟩ := h
  obtain ⟨p6, n6, c6, p7, n7, c7, rfl, b5, h6, h7⟩ := DpDocument.ex g5
  exact ⟨p6, n6, c6, p7, n7, c7, p8, n8, c8, rfl, b0, b1, b2, b3, b4, b5, h6, h7, h8⟩
theorem mk {S : Nat → Prop} {w : World} {x0 : Int} {x1 : Int} {x2 : Int} {x3 : Int} {x4 : Int} {x5 : Int} {l6 : List ByteArray} {l7 : List Int} {l8 : List Int} {p6 : Option Addr} {n6 c6 : Nat} {p7 : Option Addr} {n7 c7 : Nat} {p8 : Option Addr} {n8 c8 : Nat} (b0 : InI x0) (b1 : InI x1) (b2 : InI x2) (b3 : InI x3) (b4 : InI x4) (b5 : InI x5) (h6 : RdD str S w p6 n6 l6) (h7 : RdD int S w p7 n7 l7) (h8 : RdD int S w p8 n8 l8) : E.rd S w [.int .i64 x0, .int .i64 x1, .int .i64 x2, .int .i64 x3, .int .i64 x4, .int .i64 x5, .slice p6 n6 c6, .slice p7 n7 c7, .slice p8 n8 c8] (x0, x1, x2, x3, x4, (x5, l6, l7), l8) :=
  ⟨[.int .i64 x0], [.int .i64 x1, .int .i64 x2, .int .i64 x3, .int .i64 x4, .int .i64 x5, .slice p6 n6 c6, .slice p7 n7 c7, .slice p8 n8 c8], rfl, ⟨rfl, b0⟩, [.int .i64 x1], [.int .i64 x2, .int .i64 x3, .int .i64 x4, .int .i64 x5, .slice p6 n6 c6, .slice p7 n7 c7, .slice p8 n8 c8], rfl, ⟨rfl, b1⟩, [.int .i64 x2], [.int .i64 x3, .int .i64 x4, .int .i64 x5, .slice p6 n6 c6, .slice p7 n7 c7, .slice p8 n8 c8], rfl, ⟨rfl, b2⟩, [.int .i64 x3], [.int .i64 x4, .int .i64 x5, .slice p6 n6 c6, .slice p7 n7 c7, .slice p8 n8 c8], rfl, ⟨rfl, b3⟩, [.int .i64 x4], [.int .i64 x5, .slice p6 n6 c6, .slice p7 n7 c7, .slice p8 n8 c8], rfl, ⟨rfl, b4⟩, [.int .i64 x5, .slice p6 n6 c6, .slice p7 n7 c7], [.slice p8 n8 c8], rfl, DpDocument.mk b5 h6 h7, ⟨p8, n8, c8, rfl, h8⟩⟩
theorem bxc {w : World} {g : Nat} {T : TypeId} {y0 : Value} {y1 : Value} {y2 : Value} {y3 : Value} {y4 : Value} {y5 : Value} {y6 : Value} {y7 : Value} {y8 : Value} (h : Bx w g T #[y0, y1, y2, y3, y4, y5, y6, y7, y8]) : w.cell? ⟨g, 0, none⟩ = some y0 ∧ w.cell? ⟨g, 1, none⟩ = some y1 ∧ w.cell? ⟨g, 2, none⟩ = some y2 ∧ w.cell? ⟨g, 3, none⟩ = some y3 ∧ w.cell? ⟨g, 4, none⟩ = some y4 ∧ w.cell? ⟨g, 5, none⟩ = some y5 ∧ w.cell? ⟨g, 6, none⟩ = some y6 ∧ w.cell? ⟨g, 7, none⟩ = some y7 ∧ w.cell? ⟨g, 8, none⟩ = some y8 := ⟨h.cell rfl, h.cell rfl, h.cell rfl, h.cell rfl, h.cell rfl, h.cell rfl, h.cell rfl, h.cell rfl, h.cell rfl⟩
theorem wt_eq (x0 : Int) (x1 : Int) (x2 : Int) (x3 : Int) (x4 : Int) (x5 : Int) (l6 : List ByteArray) (l7 : List Int) (l8 : List Int) : E.wt (x0, x1, x2, x3, x4, (x5, l6, l7), l8) = DpDocument.E.wt (x5, l6, l7) + (l8.length + wts int l8) := by
  show 0 + (0 + (0 + (0 + (0 + (DpDocument.E.wt (x5, l6, l7) + ((l8.length + wts int l8))))))) = _
  omega
section
variable {H : Type} {enc : TypeId × Value → H} {W : World}
set_option maxRecDepth 100000 in
theorem open_cells {fuel : Nat} {cs : List Value} {X : DataW H × List MemPlace} (hl : cs.length = 9) (h : DataW.trod enc Try.prog W 0 (fun _ => true) true fuel 98 cs = some X) : ∃ x, E.rd (fun _ => True) W cs x := by
  have hi : ∃ f0 f1 f2 f3 f4 f5 f6 : Field, Try.prog.underlying 98 = some (.struct #[f0, f1, f2, f3, f4, f5, f6]) ∧ f0.offset = 0 ∧ f1.offset = 1 ∧ f2.offset = 2 ∧ f3.offset = 3 ∧ f4.offset = 4 ∧ f5.offset = 5 ∧ f6.offset = 8 ∧ f0.type = 3 ∧ f1.type = 3 ∧ f2.type = 3 ∧ f3.type = 3 ∧ f4.type = 3 ∧ f5.type = 96 ∧ f6.type = 94 ∧ Try.prog.cellsOf 3 = 1 ∧ Try.prog.cellsOf 96 = 3 ∧ Try.prog.cellsOf 94 = 1 := ⟨_, _, _, _, _, _, _, Try.underlying98, by kernel_rfl, by kernel_rfl, by kernel_rfl, by kernel_rfl, by kernel_rfl, by kernel_rfl, by kernel_rfl, by kernel_rfl, by kernel_rfl, by kernel_rfl, by kernel_rfl, by kernel_rfl, by kernel_rfl, by kernel_rfl, by kernel_rfl, by kernel_rfl, by kernel_rfl⟩
  obtain ⟨f0, f1, f2, f3, f4, f5, f6, hs, o0, o1, o2, o3, o4, o5, o6, t0, t1, t2, t3, t4, t5, t6, z0, z1, z2⟩ := hi
  obtain ⟨ys, n, _, _, _, hlen, hf⟩ := DataW.trod_struct hs h
  match ys, hlen with
  | [y0, y1, y2, y3, y4, y5, y6], _ =>
    have r0 := hf 0 f0 rfl
    have r1 := hf 1 f1 rfl
    have r2 := hf 2 f2 rfl
    have r3 := hf 3 f3 rfl
    have r4 := hf 4 f4 rfl
    have r5 := hf 5 f5 rfl
    have r6 := hf 6 f6 rfl
    simp only [List.getElem?_cons_zero, List.getElem?_cons_succ] at r0 r1 r2 r3 r4 r5 r6
    rw [o0, t0, z0] at r0
    rw [o1, t1, z0] at r1
    rw [o2, t2, z0] at r2
    rw [o3, t3, z0] at r3
    rw [o4, t4, z0] at r4
    rw [o5, t5, z1] at r5
    rw [o6, t6, z2] at r6
    obtain ⟨v0, q0⟩ : ∃ x, Ent.rd int (fun _ => True) W ((cs.drop 0).take 1) x := o_int Try.underlying3 r0
    obtain ⟨v1, q1⟩ : ∃ x, Ent.rd int (fun _ => True) W ((cs.drop 1).take 1) x := o_int Try.underlying3 r1
    obtain ⟨v2, q2⟩ : ∃ x, Ent.rd int (fun _ => True) W ((cs.drop 2).take 1) x := o_int Try.underlying3 r2
    obtain ⟨v3, q3⟩ : ∃ x, Ent.rd int (fun _ => True) W ((cs.drop 3).take 1) x := o_int Try.underlying3 r3
    obtain ⟨v4, q4⟩ : ∃ x, Ent.rd int (fun _ => True) W ((cs.drop 4).take 1) x := o_int Try.underlying3 r4
    obtain ⟨v5, q5⟩ : ∃ x, Ent.rd DpDocument.E (fun _ => True) W ((cs.drop 5).take 3) x := DpDocument.open_cells (by simp [hl]) r5
    obtain ⟨v6, q6⟩ : ∃ x, Ent.rd (sl int) (fun _ => True) W ((cs.drop 8).take 1) x := o_sl Try.underlying94 (by kernel_rfl) (fun hl h => o_int Try.underlying3 h) r6
    exact ⟨_, rd_first (rd_next (o := 0) (o' := 1) rfl rfl q0 (rd_next (o := 1) (o' := 2) rfl rfl q1 (rd_next (o := 2) (o' := 3) rfl rfl q2 (rd_next (o := 3) (o' := 4) rfl rfl q3 (rd_next (o := 4) (o' := 5) rfl rfl q4 (rd_next (o := 5) (o' := 8) rfl rfl q5 (rd_last (o := 8) (by simp [hl]) q6)))))))⟩
set_option maxRecDepth 100000 in
theorem open_val {base : Nat} {v : Value} {d : DataW H} {pl : List MemPlace} (h : DataW.Trod enc Try.prog W 0 (fun _ => true) true 98 v d pl) (hk : Value.okWide Try.prog W .any base 98 v) : ∃ (x0 : Int) (x1 : Int) (x2 : Int) (x3 : Int) (x4 : Int) (x5 : Int) (l6 : List ByteArray) (l7 : List Int) (l8 : List Int) (p6 : Option Addr) (n6 c6 : Nat) (p7 : Option Addr) (n7 c7 : Nat) (p8 : Option Addr) (n8 c8 : Nat), v = .agg #[.int .i64 x0, .int .i64 x1, .int .i64 x2, .int .i64 x3, .int .i64 x4, .int .i64 x5, .slice p6 n6 c6, .slice p7 n7 c7, .slice p8 n8 c8] ∧ InI x0 ∧ InI x1 ∧ InI x2 ∧ InI x3 ∧ InI x4 ∧ InI x5 ∧ RdD str (fun _ => True) W p6 n6 l6 ∧ RdD int (fun _ => True) W p7 n7 l7 ∧ RdD int (fun _ => True) W p8 n8 l8 := by
  have hu : ∃ fs, Try.prog.underlying 98 = some (.struct fs) ∧ Try.prog.cellsOf 98 = 9 := ⟨_, Try.underlying98, by kernel_rfl⟩
  obtain ⟨fs, hs, hC⟩ := hu
  obtain ⟨cs, rfl, hsz⟩ := okWide_struct hs hk
  obtain ⟨fuel, hf⟩ := h
  simp only [Value.cells] at hf
  obtain ⟨x, hx⟩ := open_cells (by rw [Array.length_toList, hsz, hC]) hf
  obtain ⟨x0, x1, x2, x3, x4, ⟨x5, l6, l7⟩, l8⟩ := x
  obtain ⟨p6, n6, c6, p7, n7, c7, p8, n8, c8, hc, b0, b1, b2, b3, b4, b5, h6, h7, h8⟩ := ex hx
  exact ⟨x0, x1, x2, x3, x4, x5, l6, l7, l8, p6, n6, c6, p7, n7, c7, p8, n8, c8, congrArg Value.agg (Array.ext' hc), b0, b1, b2, b3, b4, b5, h6, h7, h8⟩
end
set_option maxRecDepth 100000 in
set_option maxHeartbeats 4000000 in
theorem to_any (x0 : Int) (x1 : Int) (x2 : Int) (x3 : Int) (x4 : Int) (x5 : Int) (l6 : List ByteArray) (p6 : Option Addr) (n6 c6 : Nat) (l7 : List Int) (p7 : Option Addr) (n7 c7 : Nat) (l8 : List Int) (p8 : Option Addr) (n8 c8 : Nat) {S6 S7 S8 : Nat → Prop} (w : World) (h6 : RdD str S6 w p6 n6 l6) (h7 : RdD int S7 w p7 n7 l7) (h8 : RdD int S8 w p8 n8 l8) (hm : E.wt (x0, x1, x2, x3, x4, (x5, l6, l7), l8) ≤ 1048576) : Calls Try.prog 70 #[.agg #[.int .i64 x0, .int .i64 x1, .int .i64 x2, .int .i64 x3, .int .i64 x4, .int .i64 x5, .slice p6 n6 c6, .slice p7 n7 c7, .slice p8 n8 c8]] w fun e w' => ∃ (p6' : Option Addr) (c6' : Nat) (p7' : Option Addr) (c7' : Nat) (p8' : Option Addr) (c8' : Nat), e = .returned (.agg #[.int .i64 x0, .int .i64 x1, .int .i64 x2, .int .i64 x3, .int .i64 x4, .int .i64 x5, .slice p6' n6 c6', .slice p7' n7 c7', .slice p8' n8 c8']) ∧ RdD str (fun b => w.heap.size ≤ b) w' p6' n6 l6 ∧ RdD int (fun b => w.heap.size ≤ b) w' p7' n7 l7 ∧ RdD int (fun b => w.heap.size ≤ b) w' p8' n8 l8 ∧ Below w.heap.size w w' := by
  rw [wt_eq] at hm
  have k6 := h6.len
  have k7 := h7.len
  have k8 := h8.len
  have m5 : DpDocument.E.wt (x5, l6, l7) ≤ 1048576 := by omega
  have m8 : n8 + wts int l8 ≤ 1048576 := by omega
  have HP6 := Lib.hid h6
  have HP7 := Lib.hid h7
  have HP8 := Lib.hid h8
  clear hm h6 k6 h7 k7 h8 k8
  have b0 := ((Bx.new w 98 #[.int .i64 x0, .int .i64 x1, .int .i64 x2, .int .i64 x3, .int .i64 x4, .int .i64 x5, .slice p6 n6 c6, .slice p7 n7 c7, .slice p8 n8 c8]).alloc (.cells #[.int .i64 0, .int .i64 0, .int .i64 0, .int .i64 0, .int .i64 0, .int .i64 0, .slice none 0 0, .slice none 0 0, .slice none 0 0] 101)).alloc (.cells #[.int .i64 x0, .int .i64 x1, .int .i64 x2, .int .i64 x3, .int .i64 x4, .int .i64 0, .slice none 0 0, .slice none 0 0, .slice none 0 0] 101)
  have b1 := (Bx.new (w.alloc (.cells #[.int .i64 x0, .int .i64 x1, .int .i64 x2, .int .i64 x3, .int .i64 x4, .int .i64 x5, .slice p6 n6 c6, .slice p7 n7 c7, .slice p8 n8 c8] 98)) 101 #[.int .i64 0, .int .i64 0, .int .i64 0, .int .i64 0, .int .i64 0, .int .i64 0, .slice none 0 0, .slice none 0 0, .slice none 0 0]).alloc (.cells #[.int .i64 x0, .int .i64 x1, .int .i64 x2, .int .i64 x3, .int .i64 x4, .int .i64 0, .slice none 0 0, .slice none 0 0, .slice none 0 0] 101)
  have b2 := Bx.new ((w.alloc (.cells #[.int .i64 x0, .int .i64 x1, .int .i64 x2, .int .i64 x3, .int .i64 x4, .int .i64 x5, .slice p6 n6 c6, .slice p7 n7 c7, .slice p8 n8 c8] 98)).alloc (.cells #[.int .i64 0, .int .i64 0, .int .i64 0, .int .i64 0, .int .i64 0, .int .i64 0, .slice none 0 0, .slice none 0 0, .slice none 0 0] 101)) 101 #[.int .i64 x0, .int .i64 x1, .int .i64 x2, .int .i64 x3, .int .i64 x4, .int .i64 0, .slice none 0 0, .slice none 0 0, .slice none 0 0]
  rw [World.size_alloc] at b1
  rw [World.size_alloc, World.size_alloc] at b2
  have HA := Lib.hid b0
  have HR := Lib.hid b1
  have HO := Lib.hid b2
  have HB : Hid (Below w.heap.size w (((w.alloc (.cells #[.int .i64 x0, .int .i64 x1, .int .i64 x2, .int .i64 x3, .int .i64 x4, .int .i64 x5, .slice p6 n6 c6, .slice p7 n7 c7, .slice p8 n8 c8] 98)).alloc (.cells #[.int .i64 0, .int .i64 0, .int .i64 0, .int .i64 0, .int .i64 0, .int .i64 0, .slice none 0 0, .slice none 0 0, .slice none 0 0] 101)).alloc (.cells #[.int .i64 x0, .int .i64 x1, .int .i64 x2, .int .i64 x3, .int .i64 x4, .int .i64 0, .slice none 0 0, .slice none 0 0, .slice none 0 0] 101))) := Lib.hid ((((Below.refl w.heap.size w).alloc (Nat.le_refl _) _).alloc (by simp) _).alloc (by simp; omega) _)
  have HSZ : Hid (w.heap.size + 3 ≤ (((w.alloc (.cells #[.int .i64 x0, .int .i64 x1, .int .i64 x2, .int .i64 x3, .int .i64 x4, .int .i64 x5, .slice p6 n6 c6, .slice p7 n7 c7, .slice p8 n8 c8] 98)).alloc (.cells #[.int .i64 0, .int .i64 0, .int .i64 0, .int .i64 0, .int .i64 0, .int .i64 0, .slice none 0 0, .slice none 0 0, .slice none 0 0] 101)).alloc (.cells #[.int .i64 x0, .int .i64 x1, .int .i64 x2, .int .i64 x3, .int .i64 x4, .int .i64 0, .slice none 0 0, .slice none 0 0, .slice none 0 0] 101)).heap.size) := Lib.hid (by simp)
  clear b0 b1 b2
  go_enter Try.func70, Try.ntmps70
  go_wp2_with fail
  generalize (((w.alloc (.cells #[.int .i64 x0, .int .i64 x1, .int .i64 x2, .int .i64 x3, .int .i64 x4, .int .i64 x5, .slice p6 n6 c6, .slice p7 n7 c7, .slice p8 n8 c8] 98)).alloc (.cells #[.int .i64 0, .int .i64 0, .int .i64 0, .int .i64 0, .int .i64 0, .int .i64 0, .slice none 0 0, .slice none 0 0, .slice none 0 0] 101)).alloc (.cells #[.int .i64 x0, .int .i64 x1, .int .i64 x2, .int .i64 x3, .int .i64 x4, .int .i64 0, .slice none 0 0, .slice none 0 0, .slice none 0 0] 101)) = V at HA HR HO HB HSZ ⊢
  obtain ⟨a0, a1, a2, a3, a4, a5, a6, a7, a8⟩ := bxc HA.out
  refine (DpDocument.to_any _ _ _ _ _ _ _ _ _ _ (HP6.out.below HB.out) (HP7.out.below HB.out) m5).mono ?_
  rintro e w1 ⟨p6', c6', p7', c7', rfl, ho6, ho7, hb⟩
  have HQ6 : Hid (RdD str (fun b => w.heap.size + 3 ≤ b) w1 p6' n6 l6) := Lib.hid (ho6.mono fun b hb => Nat.le_trans HSZ.out hb)
  have HQ7 : Hid (RdD int (fun b => w.heap.size + 3 ≤ b) w1 p7' n7 l7) := Lib.hid (ho7.mono fun b hb => Nat.le_trans HSZ.out hb)
  clear ho6 ho7
  clear a0 a1 a2 a3 a4 a5 a6 a7 a8
  replace HA := Lib.hid (HA.out.below hb)
  replace HR := Lib.hid (HR.out.below hb)
  replace HO := Lib.hid (HO.out.below hb)
  replace HB := Lib.hid (below_on HB.out hb)
  replace HSZ := Lib.hid (Nat.le_trans HSZ.out hb.size)
  clear hb
  obtain ⟨a0, a1, a2, a3, a4, a5, a6, a7, a8⟩ := bxc HA.out
  obtain ⟨q0, q1, q2, q3, q4, q5, q6, q7, q8⟩ := bxc HO.out
  have g5 := HO.out.free 5
  have g6 := HO.out.free 6
  have g7 := HO.out.free 7
  go_wp2_with fail
  have ho := (((HO.out.set_ 5 (.int .i64 x5)).set_ 6 (.slice p6' n6 c6')).set_ 7 (.slice p7' n7 c7'))
  simp only [List.setIfInBounds_toArray, List.set_cons_zero, List.set_cons_succ] at ho
  replace HO := Lib.hid ho
  clear ho a0 a1 a2 a3 a4 a5 a6 a7 a8 q0 q1 q2 q3 q4 q5 q6 q7 q8 g5 g6 g7
  replace HA := Lib.hid (((HA.out.far (q := ⟨w.heap.size + 1 + 1, 5, none⟩) (by show w.heap.size ≠ w.heap.size + 1 + 1; omega) (.int .i64 x5)).far (q := ⟨w.heap.size + 1 + 1, 6, none⟩) (by show w.heap.size ≠ w.heap.size + 1 + 1; omega) (.slice p6' n6 c6')).far (q := ⟨w.heap.size + 1 + 1, 7, none⟩) (by show w.heap.size ≠ w.heap.size + 1 + 1; omega) (.slice p7' n7 c7'))
  replace HR := Lib.hid (((HR.out.far (q := ⟨w.heap.size + 1 + 1, 5, none⟩) (by show w.heap.size + 1 ≠ w.heap.size + 1 + 1; omega) (.int .i64 x5)).far (q := ⟨w.heap.size + 1 + 1, 6, none⟩) (by show w.heap.size + 1 ≠ w.heap.size + 1 + 1; omega) (.slice p6' n6 c6')).far (q := ⟨w.heap.size + 1 + 1, 7, none⟩) (by show w.heap.size + 1 ≠ w.heap.size + 1 + 1; omega) (.slice p7' n7 c7'))
  replace HQ6 := Lib.hid (((HQ6.out.far (q := ⟨w.heap.size + 1 + 1, 5, none⟩) (by show ¬ (w.heap.size + 3 ≤ w.heap.size + 1 + 1); omega) (.int .i64 x5)).far (q := ⟨w.heap.size + 1 + 1, 6, none⟩) (by show ¬ (w.heap.size + 3 ≤ w.heap.size + 1 + 1); omega) (.slice p6' n6 c6')).far (q := ⟨w.heap.size + 1 + 1, 7, none⟩) (by show ¬ (w.heap.size + 3 ≤ w.heap.size + 1 + 1); omega) (.slice p7' n7 c7'))
  replace HQ7 := Lib.hid (((HQ7.out.far (q := ⟨w.heap.size + 1 + 1, 5, none⟩) (by show ¬ (w.heap.size + 3 ≤ w.heap.size + 1 + 1); omega) (.int .i64 x5)).far (q := ⟨w.heap.size + 1 + 1, 6, none⟩) (by show ¬ (w.heap.size + 3 ≤ w.heap.size + 1 + 1); omega) (.slice p6' n6 c6')).far (q := ⟨w.heap.size + 1 + 1, 7, none⟩) (by show ¬ (w.heap.size + 3 ≤ w.heap.size + 1 + 1); omega) (.slice p7' n7 c7'))
  replace HB := Lib.hid (((HB.out.setCell (p := ⟨w.heap.size + 1 + 1, 5, none⟩) (by show w.heap.size ≤ w.heap.size + 1 + 1; omega) (.int .i64 x5)).setCell (p := ⟨w.heap.size + 1 + 1, 6, none⟩) (by show w.heap.size ≤ w.heap.size + 1 + 1; omega) (.slice p6' n6 c6')).setCell (p := ⟨w.heap.size + 1 + 1, 7, none⟩) (by show w.heap.size ≤ w.heap.size + 1 + 1; omega) (.slice p7' n7 c7'))
  replace HSZ : Hid (w.heap.size + 3 ≤ (((w1.setCell ⟨w.heap.size + 1 + 1, 5, none⟩ (.int .i64 x5)).setCell ⟨w.heap.size + 1 + 1, 6, none⟩ (.slice p6' n6 c6')).setCell ⟨w.heap.size + 1 + 1, 7, none⟩ (.slice p7' n7 c7')).heap.size) := Lib.hid (by simpa [World.setCell] using HSZ.out)
  generalize (((w1.setCell ⟨w.heap.size + 1 + 1, 5, none⟩ (.int .i64 x5)).setCell ⟨w.heap.size + 1 + 1, 6, none⟩ (.slice p6' n6 c6')).setCell ⟨w.heap.size + 1 + 1, 7, none⟩ (.slice p7' n7 c7')) = V1 at HA HR HO HB HSZ HQ6 HQ7 ⊢
  obtain ⟨a0, a1, a2, a3, a4, a5, a6, a7, a8⟩ := bxc HA.out
  refine (SlI.to_any _ _ _ _ _ (HP8.out.below HB.out).ints (by omega)).mono ?_
  rintro e w2 ⟨p8', n8', c8', rfl, ho, hb⟩
  obtain rfl : n8 = n8' := HP8.out.len.symm.trans ho.len
  have HQ8 : Hid (RdD int (fun b => w.heap.size + 3 ≤ b) w2 p8' n8 l8) := Lib.hid ((RdD.ofOw ho).mono fun b hb => Nat.le_trans HSZ.out hb)
  clear ho
  clear a0 a1 a2 a3 a4 a5 a6 a7 a8
  replace HA := Lib.hid (HA.out.below hb)
  replace HR := Lib.hid (HR.out.below hb)
  replace HO := Lib.hid (HO.out.below hb)
  replace HQ6 := Lib.hid (HQ6.out.below hb)
  replace HQ7 := Lib.hid (HQ7.out.below hb)
  replace HB := Lib.hid (below_on HB.out hb)
  replace HSZ := Lib.hid (Nat.le_trans HSZ.out hb.size)
  clear hb
  obtain ⟨a0, a1, a2, a3, a4, a5, a6, a7, a8⟩ := bxc HA.out
  obtain ⟨q0, q1, q2, q3, q4, q5, q6, q7, q8⟩ := bxc HO.out
  have g8 := HO.out.free 8
  obtain ⟨r0, r1, r2, r3, r4, r5, r6, r7, r8⟩ := bxc HR.out
  have s0 := HR.out.free 0
  have s1 := HR.out.free 1
  have s2 := HR.out.free 2
  have s3 := HR.out.free 3
  have s4 := HR.out.free 4
  have s5 := HR.out.free 5
  have s6 := HR.out.free 6
  have s7 := HR.out.free 7
  have s8 := HR.out.free 8
  go_wp2_with fail
  exact bodyPost_ret (v := .agg #[.int .i64 x0, .int .i64 x1, .int .i64 x2, .int .i64 x3, .int .i64 x4, .int .i64 x5, .slice p6' n6 c6', .slice p7' n7 c7', .slice p8' n8 c8']) (by simp [results, Try.results70, go_sem, r0, r1, r2, r3, r4, r5, r6, r7, r8]) rfl ⟨p6', c6', p7', c7', p8', c8', rfl, ((((((((((((HQ6.out.far (q := ⟨w.heap.size + 1 + 1, 8, none⟩) (by show ¬ (w.heap.size + 3 ≤ w.heap.size + 1 + 1); omega) (.slice p8' n8 c8')).far (q := ⟨w.heap.size + 1, 0, none⟩) (by show ¬ (w.heap.size + 3 ≤ w.heap.size + 1); omega) (.int .i64 x0)).far (q := ⟨w.heap.size + 1, 1, none⟩) (by show ¬ (w.heap.size + 3 ≤ w.heap.size + 1); omega) (.int .i64 x1)).far (q := ⟨w.heap.size + 1, 2, none⟩) (by show ¬ (w.heap.size + 3 ≤ w.heap.size + 1); omega) (.int .i64 x2)).far (q := ⟨w.heap.size + 1, 3, none⟩) (by show ¬ (w.heap.size + 3 ≤ w.heap.size + 1); omega) (.int .i64 x3)).far (q := ⟨w.heap.size + 1, 4, none⟩) (by show ¬ (w.heap.size + 3 ≤ w.heap.size + 1); omega) (.int .i64 x4)).far (q := ⟨w.heap.size + 1, 5, none⟩) (by show ¬ (w.heap.size + 3 ≤ w.heap.size + 1); omega) (.int .i64 x5)).far (q := ⟨w.heap.size + 1, 6, none⟩) (by show ¬ (w.heap.size + 3 ≤ w.heap.size + 1); omega) (.slice p6' n6 c6')).far (q := ⟨w.heap.size + 1, 7, none⟩) (by show ¬ (w.heap.size + 3 ≤ w.heap.size + 1); omega) (.slice p7' n7 c7')).far (q := ⟨w.heap.size + 1, 8, none⟩) (by show ¬ (w.heap.size + 3 ≤ w.heap.size + 1); omega) (.slice p8' n8 c8'))).mono fun b hb => by omega), ((((((((((((HQ7.out.far (q := ⟨w.heap.size + 1 + 1, 8, none⟩) (by show ¬ (w.heap.size + 3 ≤ w.heap.size + 1 + 1); omega) (.slice p8' n8 c8')).far (q := ⟨w.heap.size + 1, 0, none⟩) (by show ¬ (w.heap.size + 3 ≤ w.heap.size + 1); omega) (.int .i64 x0)).far (q := ⟨w.heap.size + 1, 1, none⟩) (by show ¬ (w.heap.size + 3 ≤ w.heap.size + 1); omega) (.int .i64 x1)).far (q := ⟨w.heap.size + 1, 2, none⟩) (by show ¬ (w.heap.size + 3 ≤ w.heap.size + 1); omega) (.int .i64 x2)).far (q := ⟨w.heap.size + 1, 3, none⟩) (by show ¬ (w.heap.size + 3 ≤ w.heap.size + 1); omega) (.int .i64 x3)).far (q := ⟨w.heap.size + 1, 4, none⟩) (by show ¬ (w.heap.size + 3 ≤ w.heap.size + 1); omega) (.int .i64 x4)).far (q := ⟨w.heap.size + 1, 5, none⟩) (by show ¬ (w.heap.size + 3 ≤ w.heap.size + 1); omega) (.int .i64 x5)).far (q := ⟨w.heap.size + 1, 6, none⟩) (by show ¬ (w.heap.size + 3 ≤ w.heap.size + 1); omega) (.slice p6' n6 c6')).far (q := ⟨w.heap.size + 1, 7, none⟩) (by show ¬ (w.heap.size + 3 ≤ w.heap.size + 1); omega) (.slice p7' n7 c7')).far (q := ⟨w.heap.size + 1, 8, none⟩) (by show ¬ (w.heap.size + 3 ≤ w.heap.size + 1); omega) (.slice p8' n8 c8'))).mono fun b hb => by omega), ((((((((((((HQ8.out.far (q := ⟨w.heap.size + 1 + 1, 8, none⟩) (by show ¬ (w.heap.size + 3 ≤ w.heap.size + 1 + 1); omega) (.slice p8' n8 c8')).far (q := ⟨w.heap.size + 1, 0, none⟩) (by show ¬ (w.heap.size + 3 ≤ w.heap.size + 1); omega) (.int .i64 x0)).far (q := ⟨w.heap.size + 1, 1, none⟩) (by show ¬ (w.heap.size + 3 ≤ w.heap.size + 1); omega) (.int .i64 x1)).far (q := ⟨w.heap.size + 1, 2, none⟩) (by show ¬ (w.heap.size + 3 ≤ w.heap.size + 1); omega) (.int .i64 x2)).far (q := ⟨w.heap.size + 1, 3, none⟩) (by show ¬ (w.heap.size + 3 ≤ w.heap.size + 1); omega) (.int .i64 x3)).far (q := ⟨w.heap.size + 1, 4, none⟩) (by show ¬ (w.heap.size + 3 ≤ w.heap.size + 1); omega) (.int .i64 x4)).far (q := ⟨w.heap.size + 1, 5, none⟩) (by show ¬ (w.heap.size + 3 ≤ w.heap.size + 1); omega) (.int .i64 x5)).far (q := ⟨w.heap.size + 1, 6, none⟩) (by show ¬ (w.heap.size + 3 ≤ w.heap.size + 1); omega) (.slice p6' n6 c6')).far (q := ⟨w.heap.size + 1, 7, none⟩) (by show ¬ (w.heap.size + 3 ≤ w.heap.size + 1); omega) (.slice p7' n7 c7')).far (q := ⟨w.heap.size + 1, 8, none⟩) (by show ¬ (w.heap.size + 3 ≤ w.heap.size + 1); omega) (.slice p8' n8 c8'))).mono fun b hb => by omega), ((((((((((HB.out.setCell (p := ⟨w.heap.size + 1 + 1, 8, none⟩) (by show w.heap.size ≤ w.heap.size + 1 + 1; omega) (.slice p8' n8 c8')).setCell (p := ⟨w.heap.size + 1, 0, none⟩) (by show w.heap.size ≤ w.heap.size + 1; omega) (.int .i64 x0)).setCell (p := ⟨w.heap.size + 1, 1, none⟩) (by show w.heap.size ≤ w.heap.size + 1; omega) (.int .i64 x1)).setCell (p := ⟨w.heap.size + 1, 2, none⟩) (by show w.heap.size ≤ w.heap.size + 1; omega) (.int .i64 x2)).setCell (p := ⟨w.heap.size + 1, 3, none⟩) (by show w.heap.size ≤ w.heap.size + 1; omega) (.int .i64 x3)).setCell (p := ⟨w.heap.size + 1, 4, none⟩) (by show w.heap.size ≤ w.heap.size + 1; omega) (.int .i64 x4)).setCell (p := ⟨w.heap.size + 1, 5, none⟩) (by show w.heap.size ≤ w.heap.size + 1; omega) (.int .i64 x5)).setCell (p := ⟨w.heap.size + 1, 6, none⟩) (by show w.heap.size ≤ w.heap.size + 1; omega) (.slice p6' n6 c6')).setCell (p := ⟨w.heap.size + 1, 7, none⟩) (by show w.heap.size ≤ w.heap.size + 1; omega) (.slice p7' n7 c7')).setCell (p := ⟨w.heap.size + 1, 8, none⟩) (by show w.heap.size ≤ w.heap.size + 1; omega) (.slice p8' n8 c8'))⟩
set_option maxRecDepth 100000 in
set_option maxHeartbeats 4000000 in
theorem eq_any (x0 : Int) (x1 : Int) (x2 : Int) (x3 : Int) (x4 : Int) (x5 : Int) (l6 : List ByteArray) (p6 p6' : Option Addr) (n6 c6 c6' : Nat) (l7 : List Int) (p7 p7' : Option Addr) (n7 c7 c7' : Nat) (l8 : List Int) (p8 p8' : Option Addr) (n8 c8 c8' : Nat) {S6 S6' S7 S7' S8 S8' : Nat → Prop} (w : World) (h6 : RdD str S6 w p6 n6 l6) (h6' : RdD str S6' w p6' n6 l6) (h7 : RdD int S7 w p7 n7 l7) (h7' : RdD int S7' w p7' n7 l7) (h8 : RdD int S8 w p8 n8 l8) (h8' : RdD int S8' w p8' n8 l8) : Calls Try.prog 71 #[.agg #[.int .i64 x0, .int .i64 x1, .int .i64 x2, .int .i64 x3, .int .i64 x4, .int .i64 x5, .slice p6 n6 c6, .slice p7 n7 c7, .slice p8 n8 c8], .agg #[.int .i64 x0, .int .i64 x1, .int .i64 x2, .int .i64 x3, .int .i64 x4, .int .i64 x5, .slice p6' n6 c6', .slice p7' n7 c7', .slice p8' n8 c8']] w (Yes w) := by
  have HP6 := Lib.hid h6
  have HP6' := Lib.hid h6'
  have HP7 := Lib.hid h7
  have HP7' := Lib.hid h7'
  have HP8 := Lib.hid h8
  have HP8' := Lib.hid h8'
  clear h6 h6' h7 h7' h8 h8'
  have HB := Lib.hid ((box1 w (.cells #[.int .i64 x0, .int .i64 x1, .int .i64 x2, .int .i64 x3, .int .i64 x4, .int .i64 x5, .slice p6 n6 c6, .slice p7 n7 c7, .slice p8 n8 c8] 101)).alloc (by simp) (.cells #[.int .i64 x0, .int .i64 x1, .int .i64 x2, .int .i64 x3, .int .i64 x4, .int .i64 x5, .slice p6' n6 c6', .slice p7' n7 c7', .slice p8' n8 c8'] 101))
  have HX := Lib.hid ((Bx.new w 101 #[.int .i64 x0, .int .i64 x1, .int .i64 x2, .int .i64 x3, .int .i64 x4, .int .i64 x5, .slice p6 n6 c6, .slice p7 n7 c7, .slice p8 n8 c8]).alloc (.cells #[.int .i64 x0, .int .i64 x1, .int .i64 x2, .int .i64 x3, .int .i64 x4, .int .i64 x5, .slice p6' n6 c6', .slice p7' n7 c7', .slice p8' n8 c8'] 101))
  have hy := Bx.new (w.alloc (.cells #[.int .i64 x0, .int .i64 x1, .int .i64 x2, .int .i64 x3, .int .i64 x4, .int .i64 x5, .slice p6 n6 c6, .slice p7 n7 c7, .slice p8 n8 c8] 101)) 101 #[.int .i64 x0, .int .i64 x1, .int .i64 x2, .int .i64 x3, .int .i64 x4, .int .i64 x5, .slice p6' n6 c6', .slice p7' n7 c7', .slice p8' n8 c8']
  rw [World.size_alloc] at hy
  have HY := Lib.hid hy
  clear hy
  go_enter Try.func71, Try.ntmps71
  go_wp2_with fail
  refine (DpDocument.eq_any _ _ _ _ _ _ _ _ _ _ _ _ _ _ (HP6.out.below HB.out) (HP6'.out.below HB.out) (HP7.out.below HB.out) (HP7'.out.below HB.out)).mono ?_
  rintro e w1 ⟨rfl, hb⟩
  replace HB := Lib.hid (below_on HB.out hb)
  replace HX := Lib.hid (HX.out.below hb)
  replace HY := Lib.hid (HY.out.below hb)
  clear hb
  obtain ⟨x0_, x1_, x2_, x3_, x4_, x5_, x6_, x7_, x8_⟩ := bxc HX.out
  obtain ⟨y0_, y1_, y2_, y3_, y4_, y5_, y6_, y7_, y8_⟩ := bxc HY.out
  go_wp2_with fail
  refine (SlI.eq_any _ _ _ _ _ _ _ (HP8.out.below HB.out).ints (HP8'.out.below HB.out).ints).mono ?_
  rintro e w2 ⟨rfl, hb⟩
  clear x0_ y0_ x1_ y1_ x2_ y2_ x3_ y3_ x4_ y4_ x5_ y5_ x6_ y6_ x7_ y7_ x8_ y8_
  replace HB := Lib.hid (below_on HB.out hb)
  replace HX := Lib.hid (HX.out.below hb)
  replace HY := Lib.hid (HY.out.below hb)
  clear hb
  obtain ⟨x0_, x1_, x2_, x3_, x4_, x5_, x6_, x7_, x8_⟩ := bxc HX.out
  obtain ⟨y0_, y1_, y2_, y3_, y4_, y5_, y6_, y7_, y8_⟩ := bxc HY.out
  go_wp2_with fail
  go_ret
  exact ⟨rfl, HB.out⟩
set_option maxRecDepth 100000 in
set_option maxHeartbeats 4000000 in
theorem sz_fits (x0 : Int) (x1 : Int) (x2 : Int) (x3 : Int) (x4 : Int) (x5 : Int) (l6 : List ByteArray) (p6 : Option Addr) (n6 c6 : Nat) (l7 : List Int) (p7 : Option Addr) (n7 c7 : Nat) (l8 : List Int) (p8 : Option Addr) (n8 c8 : Nat) {S6 S7 S8 : Nat → Prop} (m : Nat) (left : Int) (w : World) (hm : E.wt (x0, x1, x2, x3, x4, (x5, l6, l7), l8) = m) (h6 : RdD str S6 w p6 n6 l6) (h7 : RdD int S7 w p7 n7 l7) (h8 : RdD int S8 w p8 n8 l8) (g1 : left ≤ 1048576) (g2 : m ≤ left) : Calls Try.prog 69 #[.agg #[.int .i64 x0, .int .i64 x1, .int .i64 x2, .int .i64 x3, .int .i64 x4, .int .i64 x5, .slice p6 n6 c6, .slice p7 n7 c7, .slice p8 n8 c8], .int .i64 left] w (Val (.int .i64 (left - m)) w) := by
  rw [wt_eq] at hm
  have k6 := h6.len
  have e6 := h6.le
  have HP6 := Lib.hid h6
  have k7 := h7.len
  have e7 := h7.le
  have HP7 := Lib.hid h7
  have k8 := h8.len
  have e8 := h8.le
  have HP8 := Lib.hid h8
  have m0 : DpDocument.E.wt (x5, l6, l7) = DpDocument.E.wt (x5, l6, l7) := rfl
  have m1 : n8 = n8 := rfl
  have z8 := wts_zero (E := int) (fun _ => rfl) l8
  have ht : DpDocument.E.wt (x5, l6, l7) + n8 = m := by omega
  clear hm h6 k6 h7 k7 h8 k8 m0 m1 z8
  subst ht
  have HB := Lib.hid (box1 w (.cells #[.int .i64 x0, .int .i64 x1, .int .i64 x2, .int .i64 x3, .int .i64 x4, .int .i64 x5, .slice p6 n6 c6, .slice p7 n7 c7, .slice p8 n8 c8] 98))
  have HX := Lib.hid (Bx.new w 98 #[.int .i64 x0, .int .i64 x1, .int .i64 x2, .int .i64 x3, .int .i64 x4, .int .i64 x5, .slice p6 n6 c6, .slice p7 n7 c7, .slice p8 n8 c8])
  go_enter Try.func69, Try.ntmps69
  go_wp2_with fail
  refine (DpDocument.sz_fits _ _ _ _ _ _ _ _ _ _ _ _ rfl (HP6.out.below HB.out) (HP7.out.below HB.out) (by omega) (by omega)).mono ?_
  rintro e w1 ⟨rfl, hb⟩
  replace HB := Lib.hid (below_on HB.out hb)
  replace HX := Lib.hid (HX.out.below hb)
  clear hb
  obtain ⟨x0_, x1_, x2_, x3_, x4_, x5_, x6_, x7_, x8_⟩ := bxc HX.out
  go_wp2_with fail
  refine (Dz.szI_fits _ _ _ _ _ (by omega) (by omega)).mono ?_
  rintro e w2 ⟨rfl, rfl⟩
  clear x0_ x1_ x2_ x3_ x4_ x5_ x6_ x7_ x8_
  go_wp2_with fail
  go_ret
  refine val_of ?_ HB.out
  show Value.int .i64 (left - (((DpDocument.E.wt (x5, l6, l7)) : Nat) : Int) - (((n8) : Nat) : Int)) = _
  first | rfl | (congr 1; omega)
set_option maxRecDepth 100000 in
set_option maxHeartbeats 4000000 in
theorem sz_big (x0 : Int) (x1 : Int) (x2 : Int) (x3 : Int) (x4 : Int) (x5 : Int) (l6 : List ByteArray) (p6 : Option Addr) (n6 c6 : Nat) (l7 : List Int) (p7 : Option Addr) (n7 c7 : Nat) (l8 : List Int) (p8 : Option Addr) (n8 c8 : Nat) {S6 S7 S8 : Nat → Prop} (m : Nat) (left : Int) (w : World) (hm : E.wt (x0, x1, x2, x3, x4, (x5, l6, l7), l8) = m) (h6 : RdD str S6 w p6 n6 l6) (h7 : RdD int S7 w p7 n7 l7) (h8 : RdD int S8 w p8 n8 l8) (g0 : 0 ≤ left) (g1 : left ≤ 1048576) (g2 : left < m) : Calls Try.prog 69 #[.agg #[.int .i64 x0, .int .i64 x1, .int .i64 x2, .int .i64 x3, .int .i64 x4, .int .i64 x5, .slice p6 n6 c6, .slice p7 n7 c7, .slice p8 n8 c8], .int .i64 left] w (Val (.int .i64 (-1)) w) := by
  rw [wt_eq] at hm
  have k6 := h6.len
  have e6 := h6.le
  have HP6 := Lib.hid h6
  have k7 := h7.len
  have e7 := h7.le
  have HP7 := Lib.hid h7
  have k8 := h8.len
  have e8 := h8.le
  have HP8 := Lib.hid h8
  have m0 : DpDocument.E.wt (x5, l6, l7) = DpDocument.E.wt (x5, l6, l7) := rfl
  have m1 : n8 = n8 := rfl
  have z8 := wts_zero (E := int) (fun _ => rfl) l8
  have ht : DpDocument.E.wt (x5, l6, l7) + n8 = m := by omega
  clear hm h6 k6 h7 k7 h8 k8 m0 m1 z8
  subst ht
  have G := Lib.hid g2
  clear g2
  have HB := Lib.hid (box1 w (.cells #[.int .i64 x0, .int .i64 x1, .int .i64 x2, .int .i64 x3, .int .i64 x4, .int .i64 x5, .slice p6 n6 c6, .slice p7 n7 c7, .slice p8 n8 c8] 98))
  have HX := Lib.hid (Bx.new w 98 #[.int .i64 x0, .int .i64 x1, .int .i64 x2, .int .i64 x3, .int .i64 x4, .int .i64 x5, .slice p6 n6 c6, .slice p7 n7 c7, .slice p8 n8 c8])
  by_cases hc0 : left < ((DpDocument.E.wt (x5, l6, l7) : Nat) : Int)
  · go_enter Try.func69, Try.ntmps69
    go_wp2_with fail
    refine (DpDocument.sz_big _ _ _ _ _ _ _ _ _ _ _ _ rfl (HP6.out.below HB.out) (HP7.out.below HB.out) (by omega) (by omega) (by have := G.out; omega)).mono ?_
    rintro e w1 ⟨rfl, hb⟩
    replace HB := Lib.hid (below_on HB.out hb)
    replace HX := Lib.hid (HX.out.below hb)
    clear hb
    go_wp2_with fail
    go_ret
    exact ⟨rfl, HB.out⟩
  go_enter Try.func69, Try.ntmps69
  go_wp2_with fail
  refine (DpDocument.sz_fits _ _ _ _ _ _ _ _ _ _ _ _ rfl (HP6.out.below HB.out) (HP7.out.below HB.out) (by omega) (by omega)).mono ?_
  rintro e w1 ⟨rfl, hb⟩
  replace HB := Lib.hid (below_on HB.out hb)
  replace HX := Lib.hid (HX.out.below hb)
  clear hb
  obtain ⟨x0_, x1_, x2_, x3_, x4_, x5_, x6_, x7_, x8_⟩ := bxc HX.out
  go_wp2_with fail
  refine (Dz.szI_big _ _ _ _ _ (by omega) (by omega) (by have := G.out; omega) e8).mono ?_
  rintro e w2 ⟨rfl, rfl⟩
  clear x0_ x1_ x2_ x3_ x4_ x5_ x6_ x7_ x8_
  go_wp2_with fail
  go_ret
  exact ⟨rfl, HB.out⟩
theorem at_cells {w : World} {b q : Nat} {v0 : Value} {v1 : Value} {v2 : Value} {v3 : Value} {v4 : Value} {v5 : Value} {v6 : Value} {v7 : Value} {v8 : Value} (h : ∀ j v, [v0, v1, v2, v3, v4, v5, v6, v7, v8][j]? = some v → w.cell? ⟨b, q + j, none⟩ = some v) : w.cell? ⟨b, q, none⟩ = some v0 ∧ w.cell? ⟨b, q + 1, none⟩ = some v1 ∧ w.cell? ⟨b, q + 2, none⟩ = some v2 ∧ w.cell? ⟨b, q + 3, none⟩ = some v3 ∧ w.cell? ⟨b, q + 4, none⟩ = some v4 ∧ w.cell? ⟨b, q + 5, none⟩ = some v5 ∧ w.cell? ⟨b, q + 6, none⟩ = some v6 ∧ w.cell? ⟨b, q + 7, none⟩ = some v7 ∧ w.cell? ⟨b, q + 8, none⟩ = some v8 := ⟨h 0 _ rfl, h 1 _ rfl, h 2 _ rfl, h 3 _ rfl, h 4 _ rfl, h 5 _ rfl, h 6 _ rfl, h 7 _ rfl, h 8 _ rfl⟩
theorem info : (Try.prog.info? 101).map (fun i => (i.zero, i.size, i.bytes)) = some (some (.agg #[.int .i64 0, .int .i64 0, .int .i64 0, .int .i64 0, .int .i64 0, .int .i64 0, .slice none 0 0, .slice none 0 0, .slice none 0 0]), 9, 120) := by kernel_rfl
set_option maxRecDepth 100000 in
set_option maxHeartbeats 4000000 in
theorem toS_any (p : Option Addr) (n c : Nat) (xs : List A) {S : Nat → Prop} (w : World) (hr : RdD E S w p n xs) (hm : n + wts E xs ≤ 1048576) : Calls Try.prog 35 #[.slice p n c] w fun e w' => ∃ (q : Option Addr) (d : Nat), e = .returned (.slice q n d) ∧ RdD E (fun b => w.heap.size ≤ b) w' q n xs ∧ Below w.heap.size w w' := by
  obtain ⟨i0, hi, hz0, hz1, hz2⟩ := info_parts info
  have HR := Lib.hid hr
  have hn : n ≤ 1048576 := by omega
  have HM0 := Lib.hid hm
  clear hr hm
  go_enter Try.func35, Try.ntmps35
  go_wp2_with (refine wpList_make_full _ rfl _ _ 50 rfl w.heap.size 101 i0 _ 9 Try.underlying50 hi hz0 hz1 .i64 .i64 _ _ n rfl rfl rfl rfl (by rw [hz2]; omega) (by unfold maxLen; omega) (Nat.le_refl _) ?_; intro w1 hown1 hg1)
  have HM := Lib.hid (MidD.start (E := E) (z := [.int .i64 0, .int .i64 0, .int .i64 0, .int .i64 0, .int .i64 0, .int .i64 0, .slice none 0 0, .slice none 0 0, .slice none 0 0]) (xs := xs) (.agg #[.int .i64 0, .int .i64 0, .int .i64 0, .int .i64 0, .int .i64 0, .int .i64 0, .slice none 0 0, .slice none 0 0, .slice none 0 0]) rfl rfl (by intro u hu; simp only [List.mem_cons, List.not_mem_nil, or_false] at hu; rcases hu with rfl | rfl | rfl | rfl | rfl | rfl | rfl | rfl | rfl <;> rfl) hown1 hg1)
  clear hown1 hg1
  go_loopw [4] (fun i wr => ∃ k : Nat, k ≤ n ∧ i = .int .i64 k ∧ Hid (MidD E 101 [.int .i64 0, .int .i64 0, .int .i64 0, .int .i64 0, .int .i64 0, .int .i64 0, .slice none 0 0, .slice none 0 0, .slice none 0 0] xs n k w wr)) (fun i _ => n - (intOf i).toNat)
  case atStart => exact ⟨0, Nat.zero_le _, rfl, HM⟩
  case round =>
    obtain ⟨k, hk, rfl, HK⟩ := hrel
    by_cases hlt : k < n
    · obtain ⟨b, o, x, cs, rfl, _, hbw, hx, hc, hrd⟩ := HR.out.at_ hlt
      obtain ⟨x0, x1, x2, x3, x4, ⟨x5, l6, l7⟩, l8⟩ := x
      obtain ⟨p6, n6, c6, p7, n7, c7, p8, n8, c8, rfl, b0, b1, b2, b3, b4, b5, h6, h7, h8⟩ := ex hrd
      have hB := HK.out.below
      have hwt : E.wt (x0, x1, x2, x3, x4, (x5, l6, l7), l8) ≤ 1048576 := by have h1 := wts_at (E := E) hx; have h2 := HM0.out; omega
      have hcc : ∀ j v, [.int .i64 x0, .int .i64 x1, .int .i64 x2, .int .i64 x3, .int .i64 x4, .int .i64 x5, .slice p6 n6 c6, .slice p7 n7 c7, .slice p8 n8 c8][j]? = some v → wr.cell? ⟨b, o + k * 9 + j, none⟩ = some v := fun j v hv => (hB.cell (p := ⟨b, o + k * 9 + j, none⟩) hbw).trans (hc j v hv)
      have HX := Lib.hid hx
      have HW := Lib.hid hwt
      have Hb0 := Lib.hid b0
      have Hb1 := Lib.hid b1
      have Hb2 := Lib.hid b2
      have Hb3 := Lib.hid b3
      have Hb4 := Lib.hid b4
      have Hb5 := Lib.hid b5
      have Hh6 := Lib.hid h6
      have Hh7 := Lib.hid h7
      have Hh8 := Lib.hid h8
      have HBB := Lib.hid hB
      obtain ⟨u0, u1, u2, u3, u4, u5, u6, u7, u8⟩ := at_cells hcc
      clear hc hcc hrd hx hwt hB b0 b1 b2 b3 b4 b5 h6 h7 h8
      go_wp2_with fail
      refine (to_any _ _ _ _ _ _ _ _ _ _ _ _ _ _ _ _ _ _ _ (Hh6.out.below HBB.out) (Hh7.out.below HBB.out) (Hh8.out.below HBB.out) HW.out).mono ?_
      rintro e w2 ⟨p6', c6', p7', c7', p8', c8', rfl, ho6, ho7, ho8, hb2⟩
      obtain ⟨hz, hf⟩ := HK.out.cells hlt
      have d0 : w2.cell? ⟨w.heap.size, k * 9, none⟩ = some (.int .i64 0) := (hb2.cell (p := ⟨w.heap.size, k * 9 + 0, none⟩) HK.out.lt).trans (hz 0 _ rfl)
      have d1 : w2.cell? ⟨w.heap.size, k * 9 + 1, none⟩ = some (.int .i64 0) := (hb2.cell (p := ⟨w.heap.size, k * 9 + 1, none⟩) HK.out.lt).trans (hz 1 _ rfl)
      have d2 : w2.cell? ⟨w.heap.size, k * 9 + 2, none⟩ = some (.int .i64 0) := (hb2.cell (p := ⟨w.heap.size, k * 9 + 2, none⟩) HK.out.lt).trans (hz 2 _ rfl)
      have d3 : w2.cell? ⟨w.heap.size, k * 9 + 3, none⟩ = some (.int .i64 0) := (hb2.cell (p := ⟨w.heap.size, k * 9 + 3, none⟩) HK.out.lt).trans (hz 3 _ rfl)
      have d4 : w2.cell? ⟨w.heap.size, k * 9 + 4, none⟩ = some (.int .i64 0) := (hb2.cell (p := ⟨w.heap.size, k * 9 + 4, none⟩) HK.out.lt).trans (hz 4 _ rfl)
      have d5 : w2.cell? ⟨w.heap.size, k * 9 + 5, none⟩ = some (.int .i64 0) := (hb2.cell (p := ⟨w.heap.size, k * 9 + 5, none⟩) HK.out.lt).trans (hz 5 _ rfl)
      have d6 : w2.cell? ⟨w.heap.size, k * 9 + 6, none⟩ = some (.slice none 0 0) := (hb2.cell (p := ⟨w.heap.size, k * 9 + 6, none⟩) HK.out.lt).trans (hz 6 _ rfl)
      have d7 : w2.cell? ⟨w.heap.size, k * 9 + 7, none⟩ = some (.slice none 0 0) := (hb2.cell (p := ⟨w.heap.size, k * 9 + 7, none⟩) HK.out.lt).trans (hz 7 _ rfl)
      have d8 : w2.cell? ⟨w.heap.size, k * 9 + 8, none⟩ = some (.slice none 0 0) := (hb2.cell (p := ⟨w.heap.size, k * 9 + 8, none⟩) HK.out.lt).trans (hz 8 _ rfl)
      have f0 : w2.frozen? ⟨w.heap.size, k * 9, none⟩ = false := (hb2.frozen (p := ⟨w.heap.size, k * 9 + 0, none⟩) HK.out.lt).trans (hf _)
      have f1 : w2.frozen? ⟨w.heap.size, k * 9 + 1, none⟩ = false := (hb2.frozen (p := ⟨w.heap.size, k * 9 + 1, none⟩) HK.out.lt).trans (hf _)
      have f2 : w2.frozen? ⟨w.heap.size, k * 9 + 2, none⟩ = false := (hb2.frozen (p := ⟨w.heap.size, k * 9 + 2, none⟩) HK.out.lt).trans (hf _)
      have f3 : w2.frozen? ⟨w.heap.size, k * 9 + 3, none⟩ = false := (hb2.frozen (p := ⟨w.heap.size, k * 9 + 3, none⟩) HK.out.lt).trans (hf _)
      have f4 : w2.frozen? ⟨w.heap.size, k * 9 + 4, none⟩ = false := (hb2.frozen (p := ⟨w.heap.size, k * 9 + 4, none⟩) HK.out.lt).trans (hf _)
      have f5 : w2.frozen? ⟨w.heap.size, k * 9 + 5, none⟩ = false := (hb2.frozen (p := ⟨w.heap.size, k * 9 + 5, none⟩) HK.out.lt).trans (hf _)
      have f6 : w2.frozen? ⟨w.heap.size, k * 9 + 6, none⟩ = false := (hb2.frozen (p := ⟨w.heap.size, k * 9 + 6, none⟩) HK.out.lt).trans (hf _)
      have f7 : w2.frozen? ⟨w.heap.size, k * 9 + 7, none⟩ = false := (hb2.frozen (p := ⟨w.heap.size, k * 9 + 7, none⟩) HK.out.lt).trans (hf _)
      have f8 : w2.frozen? ⟨w.heap.size, k * 9 + 8, none⟩ = false := (hb2.frozen (p := ⟨w.heap.size, k * 9 + 8, none⟩) HK.out.lt).trans (hf _)
      have HM2 := Lib.hid (HK.out.next hb2 hlt HX.out (mk (c6 := c6') (c7 := c7') (c8 := c8') Hb0.out Hb1.out Hb2.out Hb3.out Hb4.out Hb5.out ho6 ho7 ho8))
      clear hz hf hb2 ho6 ho7 ho8 u0 u1 u2 u3 u4 u5 u6 u7 u8
      go_wp2_with fail
      go_roundw
      case rel => exact ⟨k + 1, by omega, by go_num, HM2⟩
      case measure => simp [intOf]; omega
    · obtain rfl : k = n := by omega
      have HD := Lib.hid (HK.out.done HR.out.len (by unfold maxLen; omega))
      go_wp2_with fail
      go_ret
      exact ⟨_, _, rfl, HD.out.1, HD.out.2⟩
set_option maxRecDepth 100000 in
set_option maxHeartbeats 8000000 in
theorem eqS_any (p p' : Option Addr) (n c c' : Nat) (xs : List A) {S S' : Nat → Prop} (w : World) (hr : RdD E S w p n xs) (hr' : RdD E S' w p' n xs) : Calls Try.prog 37 #[.slice p n c, .slice p' n c'] w (Yes w) := by
  have HR := Lib.hid hr
  have HR' := Lib.hid hr'
  have hle := hr.le
  clear hr hr'
  go_enter Try.func37, Try.ntmps37
  go_wp2_with fail
  go_loopw [5] (fun i wr => ∃ k : Nat, k ≤ n ∧ i = .int .i64 k ∧ Hid (Below w.heap.size w wr)) (fun i _ => n - (intOf i).toNat)
  case atStart => exact ⟨0, Nat.zero_le _, rfl, Below.refl _ _⟩
  case round =>
    obtain ⟨k, hk, rfl, HB⟩ := hrel
    by_cases hlt : k < n
    · obtain ⟨b, o, x, cs, rfl, _, hbw, hx, hc, hrd⟩ := HR.out.at_ hlt
      obtain ⟨b', o', x', cs', rfl, _, hbw', hx', hc', hrd'⟩ := HR'.out.at_ hlt
      rw [hx] at hx'
      obtain rfl := Option.some.inj hx'
      clear hx hx'
      obtain ⟨x0, x1, x2, x3, x4, ⟨x5, l6, l7⟩, l8⟩ := x
      obtain ⟨p6, n6, c6, p7, n7, c7, p8, n8, c8, rfl, b0, b1, b2, b3, b4, b5, h6, h7, h8⟩ := ex hrd
      obtain ⟨p6', n6', c6', p7', n7', c7', p8', n8', c8', rfl, _, _, _, _, _, _, h6', h7', h8'⟩ := ex hrd'
      obtain rfl : n6 = n6' := h6.len.symm.trans h6'.len
      obtain rfl : n7 = n7' := h7.len.symm.trans h7'.len
      obtain rfl : n8 = n8' := h8.len.symm.trans h8'.len
      have hcc : ∀ j v, [.int .i64 x0, .int .i64 x1, .int .i64 x2, .int .i64 x3, .int .i64 x4, .int .i64 x5, .slice p6 n6 c6, .slice p7 n7 c7, .slice p8 n8 c8][j]? = some v → wr.cell? ⟨b, o + k * 9 + j, none⟩ = some v := fun j v hv => (HB.out.cell (p := ⟨b, o + k * 9 + j, none⟩) hbw).trans (hc j v hv)
      have hcc' : ∀ j v, [.int .i64 x0, .int .i64 x1, .int .i64 x2, .int .i64 x3, .int .i64 x4, .int .i64 x5, .slice p6' n6 c6', .slice p7' n7 c7', .slice p8' n8 c8'][j]? = some v → wr.cell? ⟨b', o' + k * 9 + j, none⟩ = some v := fun j v hv => (HB.out.cell (p := ⟨b', o' + k * 9 + j, none⟩) hbw').trans (hc' j v hv)
      have H6 := Lib.hid (h6.below HB.out)
      have H6' := Lib.hid (h6'.below HB.out)
      have H7 := Lib.hid (h7.below HB.out)
      have H7' := Lib.hid (h7'.below HB.out)
      have H8 := Lib.hid (h8.below HB.out)
      have H8' := Lib.hid (h8'.below HB.out)
      have HC := Lib.hid hcc
      have HC' := Lib.hid hcc'
      have hlb : b < wr.heap.size := Nat.lt_of_lt_of_le hbw HB.out.size
      have hlb' : b' < wr.heap.size := Nat.lt_of_lt_of_le hbw' HB.out.size
      have HH := Lib.hid (And.intro (at_cells hcc) (at_cells hcc'))
      obtain ⟨⟨u0, u1, u2, u3, u4, u5, u6, u7, u8⟩, v0, v1, v2, v3, v4, v5, v6, v7, v8⟩ := HH.out
      clear hc hc' hrd hrd' hcc hcc' b0 b1 b2 b3 b4 b5 h6 h7 h8 h6' h7' h8'
      have i1 : (0 : Int) ≤ (k : Int) := by omega
      have i2 : (k : Int) < (n : Int) := by omega
      go_wp2_with fail
      go_region_held3 (fun w' => (w'.cell? ⟨b, o + k * 9, none⟩ = some (.int .i64 x0) ∧ w'.cell? ⟨b, o + k * 9 + 1, none⟩ = some (.int .i64 x1) ∧ w'.cell? ⟨b, o + k * 9 + 2, none⟩ = some (.int .i64 x2) ∧ w'.cell? ⟨b, o + k * 9 + 3, none⟩ = some (.int .i64 x3) ∧ w'.cell? ⟨b, o + k * 9 + 4, none⟩ = some (.int .i64 x4) ∧ w'.cell? ⟨b, o + k * 9 + 5, none⟩ = some (.int .i64 x5) ∧ w'.cell? ⟨b, o + k * 9 + 6, none⟩ = some (.slice p6 n6 c6) ∧ w'.cell? ⟨b, o + k * 9 + 7, none⟩ = some (.slice p7 n7 c7) ∧ w'.cell? ⟨b, o + k * 9 + 8, none⟩ = some (.slice p8 n8 c8)) ∧ w'.cell? ⟨b', o' + k * 9, none⟩ = some (.int .i64 x0) ∧ w'.cell? ⟨b', o' + k * 9 + 1, none⟩ = some (.int .i64 x1) ∧ w'.cell? ⟨b', o' + k * 9 + 2, none⟩ = some (.int .i64 x2) ∧ w'.cell? ⟨b', o' + k * 9 + 3, none⟩ = some (.int .i64 x3) ∧ w'.cell? ⟨b', o' + k * 9 + 4, none⟩ = some (.int .i64 x4) ∧ w'.cell? ⟨b', o' + k * 9 + 5, none⟩ = some (.int .i64 x5) ∧ w'.cell? ⟨b', o' + k * 9 + 6, none⟩ = some (.slice p6' n6 c6') ∧ w'.cell? ⟨b', o' + k * 9 + 7, none⟩ = some (.slice p7' n7 c7') ∧ w'.cell? ⟨b', o' + k * 9 + 8, none⟩ = some (.slice p8' n8 c8')) (first | exact HH.out | exact HH2.out | go_keep) (first | (go_at_call 71; (with_reducible refine (eq_any _ _ _ _ _ _ _ _ _ _ _ _ _ _ _ _ _ _ _ _ _ _ _ _ _ H6.out.drew1 H6'.out.drew1 H7.out.drew1 H7'.out.drew1 H8.out.drew1 H8'.out.drew1).mono ?_); rintro e w2 ⟨rfl, hb2⟩; have HH2 := Lib.hid (And.intro (at_cells (q := o + k * 9) fun j v hv => (hb2.cell (p := ⟨b, o + k * 9 + j, none⟩) hlb).trans (HC.out j v hv)) (at_cells (q := o' + k * 9) fun j v hv => (hb2.cell (p := ⟨b', o' + k * 9 + j, none⟩) hlb').trans (HC'.out j v hv))); have HB2 := Lib.hid (below_on (below_drewN HB.out 1) hb2); clear hb2))
      go_wp2_with fail
      go_roundw
      case rel => exact ⟨k + 1, by omega, by go_num, HB2⟩
      case measure => simp [intOf]; omega
    · obtain rfl : k = n := by omega
      go_wp2_with fail
      go_ret
      exact ⟨rfl, HB.out⟩
set_option maxRecDepth 100000 in
set_option maxHeartbeats 4000000 in
theorem szS_fits (p : Option Addr) (n c : Nat) (xs : List A) {S : Nat → Prop} (left : Int) (w : World) (hr : RdD E S w p n xs) (h1 : left ≤ 1048576) (h : (n + wts E xs : Nat) ≤ left) : Calls Try.prog 33 #[.slice p n c, .int .i64 left] w (Val (.int .i64 (left - (n + wts E xs : Nat))) w) := by
  have HR := Lib.hid hr
  have hle := hr.le
  have HL := Lib.hid hr.len
  have HT := Lib.hid h
  clear hr
  clear h
  have hn : (n : Int) ≤ left := by have := HT.out; omega
  go_enter Try.func33, Try.ntmps33
  go_wp2_with fail
  go_loopw [1, 5] (fun v i wr => ∃ k t : Nat, k ≤ n ∧ i = .int .i64 k ∧ v = .int .i64 (left - n - t) ∧ (n : Int) + t ≤ left ∧ Hid (t = wts E (xs.take k)) ∧ Hid (Below w.heap.size w wr)) (fun _ i _ => n - (intOf i).toNat)
  case atStart => exact ⟨0, 0, Nat.zero_le _, rfl, by congr 1; omega, by omega, Lib.hid rfl, Below.refl _ _⟩
  case round =>
    obtain ⟨k, t, hk, rfl, rfl, ht, HT2, HB⟩ := hrel
    by_cases hlt : k < n
    · obtain ⟨b, o, x, cs, rfl, _, hbw, hx, hc, hrd⟩ := HR.out.at_ hlt
      have hnx := wts_take (E := E) hx
      have hall := wts_le (E := E) xs (k + 1)
      obtain ⟨x0, x1, x2, x3, x4, ⟨x5, l6, l7⟩, l8⟩ := x
      obtain ⟨p6, n6, c6, p7, n7, c7, p8, n8, c8, rfl, b0, b1, b2, b3, b4, b5, h6, h7, h8⟩ := ex hrd
      generalize hm : E.wt (x0, x1, x2, x3, x4, (x5, l6, l7), l8) = m at hnx
      have hcc : ∀ j v, [.int .i64 x0, .int .i64 x1, .int .i64 x2, .int .i64 x3, .int .i64 x4, .int .i64 x5, .slice p6 n6 c6, .slice p7 n7 c7, .slice p8 n8 c8][j]? = some v → wr.cell? ⟨b, o + k * 9 + j, none⟩ = some v := fun j v hv => (HB.out.cell (p := ⟨b, o + k * 9 + j, none⟩) hbw).trans (hc j v hv)
      have H6 := Lib.hid (h6.below HB.out)
      have H7 := Lib.hid (h7.below HB.out)
      have H8 := Lib.hid (h8.below HB.out)
      have HW := Lib.hid hm
      obtain ⟨u0, u1, u2, u3, u4, u5, u6, u7, u8⟩ := at_cells hcc
      have HN : Hid (t + m = wts E (xs.take (k + 1))) := Lib.hid (by rw [hnx, HT2.out])
      have hfit : (n : Int) + t + m ≤ left := by have h1 := HT.out; have h2 := HT2.out; omega
      clear hc hcc hrd hx hnx hall hm b0 b1 b2 b3 b4 b5 h6 h7 h8
      go_wp2_with fail
      refine (sz_fits _ _ _ _ _ _ _ _ _ _ _ _ _ _ _ _ _ _ _ _ _ HW.out H6.out H7.out H8.out (by omega) (by omega)).mono ?_
      rintro e w2 ⟨rfl, hb2⟩
      have HB2 := Lib.hid (below_on HB.out hb2)
      clear hb2 u0 u1 u2 u3 u4 u5 u6 u7 u8
      go_wp2_with fail
      go_roundw
      case rel => exact ⟨k + 1, t + m, by omega, by go_num, by congr 1; omega, by omega, HN, HB2⟩
      case measure => simp [intOf]; omega
    · obtain rfl : k = n := by omega
      have hall := wts_all (E := E) xs HL.out
      have HV : Hid (Value.int .i64 (left - k - t) = .int .i64 (left - (k + wts E xs : Nat))) := Lib.hid (by have h2 := HT2.out; rw [hall] at h2; congr 1; omega)
      clear hall
      go_wp2_with fail
      go_ret
      exact val_of HV.out HB.out
set_option maxRecDepth 100000 in
set_option maxHeartbeats 4000000 in
theorem szS_big (p : Option Addr) (n c : Nat) (xs : List A) {S : Nat → Prop} (left : Int) (w : World) (hr : RdD E S w p n xs) (h0 : 0 ≤ left) (h1 : left ≤ 1048576) (h : left < (n + wts E xs : Nat)) : Calls Try.prog 33 #[.slice p n c, .int .i64 left] w (Val (.int .i64 (-1)) w) := by
  have HR := Lib.hid hr
  have hle := hr.le
  have HL := Lib.hid hr.len
  have HT := Lib.hid h
  clear hr
  by_cases hbig : left < n
  · go_enter Try.func33, Try.ntmps33
    go_wp2_with fail
    go_ret
    exact ⟨rfl, Below.refl _ _⟩
  clear h
  go_enter Try.func33, Try.ntmps33
  go_wp2_with fail
  go_loopw [1, 5] (fun v i wr => ∃ k t : Nat, k ≤ n ∧ i = .int .i64 k ∧ v = .int .i64 (left - n - t) ∧ (n : Int) + t ≤ left ∧ Hid (t = wts E (xs.take k)) ∧ Hid (Below w.heap.size w wr)) (fun _ i _ => n - (intOf i).toNat)
  case atStart => exact ⟨0, 0, Nat.zero_le _, rfl, by congr 1; omega, by omega, Lib.hid rfl, Below.refl _ _⟩
  case round =>
    obtain ⟨k, t, hk, rfl, rfl, ht, HT2, HB⟩ := hrel
    by_cases hlt : k < n
    · obtain ⟨b, o, x, cs, rfl, _, hbw, hx, hc, hrd⟩ := HR.out.at_ hlt
      have hnx := wts_take (E := E) hx
      have hall := wts_le (E := E) xs (k + 1)
      obtain ⟨x0, x1, x2, x3, x4, ⟨x5, l6, l7⟩, l8⟩ := x
      obtain ⟨p6, n6, c6, p7, n7, c7, p8, n8, c8, rfl, b0, b1, b2, b3, b4, b5, h6, h7, h8⟩ := ex hrd
      generalize hm : E.wt (x0, x1, x2, x3, x4, (x5, l6, l7), l8) = m at hnx
      have hcc : ∀ j v, [.int .i64 x0, .int .i64 x1, .int .i64 x2, .int .i64 x3, .int .i64 x4, .int .i64 x5, .slice p6 n6 c6, .slice p7 n7 c7, .slice p8 n8 c8][j]? = some v → wr.cell? ⟨b, o + k * 9 + j, none⟩ = some v := fun j v hv => (HB.out.cell (p := ⟨b, o + k * 9 + j, none⟩) hbw).trans (hc j v hv)
      have H6 := Lib.hid (h6.below HB.out)
      have H7 := Lib.hid (h7.below HB.out)
      have H8 := Lib.hid (h8.below HB.out)
      have HW := Lib.hid hm
      obtain ⟨u0, u1, u2, u3, u4, u5, u6, u7, u8⟩ := at_cells hcc
      have HN : Hid (t + m = wts E (xs.take (k + 1))) := Lib.hid (by rw [hnx, HT2.out])
      by_cases hfit : (n : Int) + t + m ≤ left
      · skip
        clear hc hcc hrd hx hnx hall hm b0 b1 b2 b3 b4 b5 h6 h7 h8
        go_wp2_with fail
        refine (sz_fits _ _ _ _ _ _ _ _ _ _ _ _ _ _ _ _ _ _ _ _ _ HW.out H6.out H7.out H8.out (by omega) (by omega)).mono ?_
        rintro e w2 ⟨rfl, hb2⟩
        have HB2 := Lib.hid (below_on HB.out hb2)
        clear hb2 u0 u1 u2 u3 u4 u5 u6 u7 u8
        go_wp2_with fail
        go_roundw
        case rel => exact ⟨k + 1, t + m, by omega, by go_num, by congr 1; omega, by omega, HN, HB2⟩
        case measure => simp [intOf]; omega
      · skip
        clear hc hcc hrd hx hnx hall hm b0 b1 b2 b3 b4 b5 h6 h7 h8
        go_wp2_with fail
        refine (sz_big _ _ _ _ _ _ _ _ _ _ _ _ _ _ _ _ _ _ _ _ _ HW.out H6.out H7.out H8.out (by omega) (by omega) (by omega)).mono ?_
        rintro e w2 ⟨rfl, hb2⟩
        have HB2 := Lib.hid (below_on HB.out hb2)
        clear hb2 u0 u1 u2 u3 u4 u5 u6 u7 u8
        go_wp2_with fail
        go_ret
        exact ⟨rfl, HB2.out⟩
    · obtain rfl : k = n := by omega
      have hall := wts_all (E := E) xs HL.out
      exact absurd HT.out (by have h2 := HT2.out; rw [hall] at h2; omega)
theorem szM_fits (p : Option Addr) (n c : Nat) (xs : List A) {S : Nat → Prop} (m : Nat) (left : Int) (w : World) (hm : n + wts E xs = m) (hr : RdD E S w p n xs) (h1 : left ≤ 1048576) (h : m ≤ left) : Calls Try.prog 33 #[.slice p n c, .int .i64 left] w (Val (.int .i64 (left - m)) w) := by
  subst hm
  exact szS_fits p n c xs left w hr h1 h
theorem szM_big (p : Option Addr) (n c : Nat) (xs : List A) {S : Nat → Prop} (m : Nat) (left : Int) (w : World) (hm : n + wts E xs = m) (hr : RdD E S w p n xs) (h0 : 0 ≤ left) (h1 : left ≤ 1048576) (h : left < m) : Calls Try.prog 33 #[.slice p n c, .int .i64 left] w (Val (.int .i64 (-1)) w) := by
  subst hm
  exact szS_big p n c xs left w hr h0 h1 h
end Go.Proofs.Ytihnegohhkplbaa.DpEvent
