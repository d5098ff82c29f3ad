/- Contracts of the laws' helpers over Document: opened, measured, copied, compared; by value and in slices. -/
import Derived.Test.YtjaholcmaafenaaEd
import Derived.Test.YtjaholcmaafenaaDz
import Derived.Test.YtjaholcmaafenaaSlI
import Derived.Test.YtjaholcmaafenaaSlI
import Derived.Test.YtjaholcmaafenaaDstr
import Derived.OpenShut
import Derived.Deep.Fields
import Derived.Deep.RegionHeld3
import Derived.LoopTactic
import Derived.Outline
namespace Go.Proofs.Ytjaholcmaafenaa.DpDocument
open Go.ChangeShapes Go.WideShapes Go.ChangeAt Go.RowKit Sl St Ed Dz
abbrev A := Int × (List ByteArray) × (List Int)
def E : Ent A := pair int (pair (sl str) (sl int))
theorem C_eq : E.C = 3 := rfl
theorem exk {S : Nat → Prop} {w : World} {cs : List Value} {x0 : Int} {l1 : List ByteArray} {l2 : List Int} (h : E.rd S w cs (x0, l1, l2)) : ∃ (p1 : Option Addr) (n1 c1 : Nat) (p2 : Option Addr) (n2 c2 : Nat), cs = [.int .i64 x0, .slice p1 n1 c1, .slice p2 n2 c2] ∧ InI x0 ∧ RdD str S w p1 n1 l1 ∧ RdD int S w p2 n2 l2 ∧ n1 ≤ c1 ∧ n2 ≤ c2 := by
  obtain ⟨d0, e0, rfl, ⟨rfl, b0⟩, d1, e1, rfl, ⟨p1, n1, c1, rfl, k1, h1⟩, p2, n2, c2, rfl, k2, h2⟩ := h
  exact ⟨p1, n1, c1, p2, n2, c2, rfl, b0, h1, h2, k1, k2⟩
theorem ex {S : Nat → Prop} {w : World} {cs : List Value} {x0 : Int} {l1 : List ByteArray} {l2 : List Int} (h : E.rd S w cs (x0, l1, l2)) : ∃ (p1 : Option Addr) (n1 c1 : Nat) (p2 : Option Addr) (n2 c2 : Nat), cs = [.int .i64 x0, .slice p1 n1 c1, .slice p2 n2 c2] ∧ InI x0 ∧ RdD str S w p1 n1 l1 ∧ RdD int S w p2 n2 l2 := by
  obtain ⟨p1, n1, c1, p2, n2, c2, e, b0, h1, h2, _⟩ := exk h
  exact ⟨p1, n1, c1, p2, n2, c2, e, b0, h1, h2⟩
theorem mk {S : Nat → Prop} {w : World} {x0 : Int} {l1 : List ByteArray} {l2 : List Int} {p1 : Option Addr} {n1 c1 : Nat} {p2 : Option Addr} {n2 c2 : Nat} (b0 : InI x0) (h1 : RdD str S w p1 n1 l1) (h2 : RdD int S w p2 n2 l2) (k1 : n1 ≤ c1) (k2 : n2 ≤ c2) : E.rd S w [.int .i64 x0, .slice p1 n1 c1, .slice p2 n2 c2] (x0, l1, l2) :=
  ⟨[.int .i64 x0], [.slice p1 n1 c1, .slice p2 n2 c2], rfl, ⟨rfl, b0⟩, [.slice p1 n1 c1], [.slice p2 n2 c2], rfl, ⟨p1, n1, c1, rfl, k1, h1⟩, ⟨p2, n2, c2, rfl, k2, h2⟩⟩
theorem bxc {w : World} {g : Nat} {T : TypeId} {y0 : Value} {y1 : Value} {y2 : Value} (h : Bx w g T #[y0, y1, y2]) : w.cell? ⟨g, 0, none⟩ = some y0 ∧ w.cell? ⟨g, 1, none⟩ = some y1 ∧ w.cell? ⟨g, 2, none⟩ = some y2 := ⟨h.cell rfl, h.cell rfl, h.cell rfl⟩
theorem wt_eq (x0 : Int) (l1 : List ByteArray) (l2 : List Int) : E.wt (x0, l1, l2) = (l1.length + wts str l1) + (l2.length + wts int l2) := by
  show 0 + ((l1.length + wts str l1) + ((l2.length + wts int l2))) = _
  omega
section
variable {H : Type} {enc : TypeId × Value → H} {W : World}
set_option maxRecDepth 100000 in
theorem open_cells {fuel : Nat} {cs : List Value} {X : DataW H × List MemPlace} (hl : cs.length = 3) (h : DataW.trod enc Try.prog W 0 (fun _ => true) true fuel 29 cs = some X) : ∃ x, E.rd (fun _ => True) W cs x := by
  have hi : ∃ f0 f1 f2 : Field, Try.prog.underlying 29 = some (.struct #[f0, f1, f2]) ∧ f0.offset = 0 ∧ f1.offset = 1 ∧ f2.offset = 2 ∧ f0.type = 3 ∧ f1.type = 26 ∧ f2.type = 27 ∧ Try.prog.cellsOf 3 = 1 ∧ Try.prog.cellsOf 26 = 1 ∧ Try.prog.cellsOf 27 = 1 := ⟨_, _, _, Try.underlying29, by kernel_rfl, by kernel_rfl, by kernel_rfl, by kernel_rfl, by kernel_rfl, by kernel_rfl, by kernel_rfl, by kernel_rfl, by kernel_rfl⟩
  obtain ⟨f0, f1, f2, hs, o0, o1, o2, t0, t1, t2, z0, z1, z2⟩ := hi
  obtain ⟨ys, n, _, _, _, hlen, hf⟩ := DataW.trod_struct hs h
  match ys, hlen with
  | [y0, y1, y2], _ =>
    have r0 := hf 0 f0 rfl
    have r1 := hf 1 f1 rfl
    have r2 := hf 2 f2 rfl
    simp only [List.getElem?_cons_zero, List.getElem?_cons_succ] at r0 r1 r2
    rw [o0, t0, z0] at r0
    rw [o1, t1, z1] at r1
    rw [o2, t2, z2] at r2
    obtain ⟨v0, q0⟩ : ∃ x, Ent.rd int (fun _ => True) W ((cs.drop 0).take 1) x := o_int Try.underlying3 r0
    obtain ⟨v1, q1⟩ : ∃ x, Ent.rd (sl str) (fun _ => True) W ((cs.drop 1).take 1) x := Dstr.o_strs r1
    obtain ⟨v2, q2⟩ : ∃ x, Ent.rd (sl int) (fun _ => True) W ((cs.drop 2).take 1) x := o_sl Try.underlying27 (by kernel_rfl) (fun hl h => o_int Try.underlying3 h) r2
    exact ⟨_, rd_first (rd_next (o := 0) (o' := 1) rfl rfl q0 (rd_next (o := 1) (o' := 2) rfl rfl q1 (rd_last (o := 2) (by simp [hl]) q2)))⟩
set_option maxRecDepth 100000 in
theorem open_valk {base : Nat} {v : Value} {d : DataW H} {pl : List MemPlace} (h : DataW.Trod enc Try.prog W 0 (fun _ => true) true 29 v d pl) (hk : Value.okWide Try.prog W .any base 29 v) : ∃ (x0 : Int) (l1 : List ByteArray) (l2 : List Int) (p1 : Option Addr) (n1 c1 : Nat) (p2 : Option Addr) (n2 c2 : Nat), v = .agg #[.int .i64 x0, .slice p1 n1 c1, .slice p2 n2 c2] ∧ InI x0 ∧ RdD str (fun _ => True) W p1 n1 l1 ∧ RdD int (fun _ => True) W p2 n2 l2 ∧ n1 ≤ c1 ∧ n2 ≤ c2 := by
  have hu : ∃ fs, Try.prog.underlying 29 = some (.struct fs) ∧ Try.prog.cellsOf 29 = 3 := ⟨_, Try.underlying29, by kernel_rfl⟩
  obtain ⟨fs, hs, hC⟩ := hu
  obtain ⟨cs, rfl, hsz⟩ := okWide_struct hs hk
  obtain ⟨fuel, hf⟩ := h
  simp only [Value.cells] at hf
  obtain ⟨x, hx⟩ := open_cells (by rw [Array.length_toList, hsz, hC]) hf
  obtain ⟨x0, l1, l2⟩ := x
  obtain ⟨p1, n1, c1, p2, n2, c2, hc, b0, h1, h2, k1, k2⟩ := exk hx
  exact ⟨x0, l1, l2, p1, n1, c1, p2, n2, c2, congrArg Value.agg (Array.ext' hc), b0, h1, h2, k1, k2⟩
set_option maxRecDepth 100000 in
theorem open_val {base : Nat} {v : Value} {d : DataW H} {pl : List MemPlace} (h : DataW.Trod enc Try.prog W 0 (fun _ => true) true 29 v d pl) (hk : Value.okWide Try.prog W .any base 29 v) : ∃ (x0 : Int) (l1 : List ByteArray) (l2 : List Int) (p1 : Option Addr) (n1 c1 : Nat) (p2 : Option Addr) (n2 c2 : Nat), v = .agg #[.int .i64 x0, .slice p1 n1 c1, .slice p2 n2 c2] ∧ InI x0 ∧ RdD str (fun _ => True) W p1 n1 l1 ∧ RdD int (fun _ => True) W p2 n2 l2 := by
  have hu : ∃ fs, Try.prog.underlying 29 = some (.struct fs) ∧ Try.prog.cellsOf 29 = 3 := ⟨_, Try.underlying29, by kernel_rfl⟩
  obtain ⟨fs, hs, hC⟩ := hu
  obtain ⟨cs, rfl, hsz⟩ := okWide_struct hs hk
  obtain ⟨fuel, hf⟩ := h
  simp only [Value.cells] at hf
  obtain ⟨x, hx⟩ := open_cells (by rw [Array.length_toList, hsz, hC]) hf
  obtain ⟨x0, l1, l2⟩ := x
  obtain ⟨p1, n1, c1, p2, n2, c2, hc, b0, h1, h2⟩ := ex hx
  exact ⟨x0, l1, l2, p1, n1, c1, p2, n2, c2, congrArg Value.agg (Array.ext' hc), b0, h1, h2⟩
end
set_option maxRecDepth 100000 in
set_option maxHeartbeats 4000000 in
theorem toK_any (x0 : Int) (l1 : List ByteArray) (p1 : Option Addr) (n1 c1 : Nat) (l2 : List Int) (p2 : Option Addr) (n2 c2 : Nat) {S1 S2 : Nat → Prop} (w : World) (h1 : RdD str S1 w p1 n1 l1) (h2 : RdD int S2 w p2 n2 l2) (hm : E.wt (x0, l1, l2) ≤ 1048576) : Calls Try.prog 14 #[.agg #[.int .i64 x0, .slice p1 n1 c1, .slice p2 n2 c2]] w fun e w' => ∃ (p1' : Option Addr) (c1' : Nat) (p2' : Option Addr) (c2' : Nat), e = .returned (.agg #[.int .i64 x0, .slice p1' n1 c1', .slice p2' n2 c2']) ∧ RdD str (fun b => w.heap.size ≤ b) w' p1' n1 l1 ∧ RdD int (fun b => w.heap.size ≤ b) w' p2' n2 l2 ∧ n1 ≤ c1' ∧ n2 ≤ c2' ∧ Below w.heap.size w w' := by
  rw [wt_eq] at hm
  have k1 := h1.len
  have k2 := h2.len
  have m1 : n1 + wts str l1 ≤ 1048576 := by omega
  have m2 : n2 + wts int l2 ≤ 1048576 := by omega
  have HP1 := Lib.hid h1
  have HP2 := Lib.hid h2
  clear hm h1 k1 h2 k2
  have b0 := ((Bx.new w 29 #[.int .i64 x0, .slice p1 n1 c1, .slice p2 n2 c2]).alloc (.cells #[.int .i64 0, .slice none 0 0, .slice none 0 0] 38)).alloc (.cells #[.int .i64 x0, .slice none 0 0, .slice none 0 0] 38)
  have b1 := (Bx.new (w.alloc (.cells #[.int .i64 x0, .slice p1 n1 c1, .slice p2 n2 c2] 29)) 38 #[.int .i64 0, .slice none 0 0, .slice none 0 0]).alloc (.cells #[.int .i64 x0, .slice none 0 0, .slice none 0 0] 38)
  have b2 := Bx.new ((w.alloc (.cells #[.int .i64 x0, .slice p1 n1 c1, .slice p2 n2 c2] 29)).alloc (.cells #[.int .i64 0, .slice none 0 0, .slice none 0 0] 38)) 38 #[.int .i64 x0, .slice none 0 0, .slice none 0 0]
  rw [World.size_alloc] at b1
  rw [World.size_alloc, World.size_alloc] at b2
  have HA := Lib.hid b0
  have HR := Lib.hid b1
  have HO := Lib.hid b2
  have HB : Hid (Below w.heap.size w (((w.alloc (.cells #[.int .i64 x0, .slice p1 n1 c1, .slice p2 n2 c2] 29)).alloc (.cells #[.int .i64 0, .slice none 0 0, .slice none 0 0] 38)).alloc (.cells #[.int .i64 x0, .slice none 0 0, .slice none 0 0] 38))) := Lib.hid ((((Below.refl w.heap.size w).alloc (Nat.le_refl _) _).alloc (by simp) _).alloc (by simp; omega) _)
  have HSZ : Hid (w.heap.size + 3 ≤ (((w.alloc (.cells #[.int .i64 x0, .slice p1 n1 c1, .slice p2 n2 c2] 29)).alloc (.cells #[.int .i64 0, .slice none 0 0, .slice none 0 0] 38)).alloc (.cells #[.int .i64 x0, .slice none 0 0, .slice none 0 0] 38)).heap.size) := Lib.hid (by simp)
  clear b0 b1 b2
  go_enter Try.func14, Try.ntmps14
  go_wp2_with fail
  generalize (((w.alloc (.cells #[.int .i64 x0, .slice p1 n1 c1, .slice p2 n2 c2] 29)).alloc (.cells #[.int .i64 0, .slice none 0 0, .slice none 0 0] 38)).alloc (.cells #[.int .i64 x0, .slice none 0 0, .slice none 0 0] 38)) = V at HA HR HO HB HSZ ⊢
  obtain ⟨a0, a1, a2⟩ := bxc HA.out
  refine (SlStr.to_any _ _ _ _ _ (RdD.strs SlStr.C_eq SlStr.of_eq (HP1.out.below HB.out)).1 (by omega)).mono ?_
  rintro e w1 ⟨p1', n1', c1', rfl, ho, hb⟩
  obtain rfl : n1 = n1' := HP1.out.len.symm.trans ho.len
  have HK1 := Lib.hid (Ed.cap_owS ho)
  have HQ1 : Hid (RdD str (fun b => w.heap.size + 3 ≤ b) w1 p1' n1 l1) := Lib.hid ((Dstr.ofStrs ho (RdD.strs SlStr.C_eq SlStr.of_eq HP1.out).2).mono fun b hb => Nat.le_trans HSZ.out hb)
  clear ho
  clear a0 a1 a2
  replace HA := Lib.hid (HA.out.below hb)
  replace HR := Lib.hid (HR.out.below hb)
  replace HO := Lib.hid (HO.out.below hb)
  replace HB := Lib.hid (below_on HB.out hb)
  replace HSZ := Lib.hid (Nat.le_trans HSZ.out hb.size)
  clear hb
  obtain ⟨a0, a1, a2⟩ := bxc HA.out
  obtain ⟨q0, q1, q2⟩ := bxc HO.out
  have g1 := HO.out.free 1
  go_wp2_with fail
  have ho := (HO.out.set_ 1 (.slice p1' n1 c1'))
  simp only [List.setIfInBounds_toArray, List.set_cons_zero, List.set_cons_succ] at ho
  replace HO := Lib.hid ho
  clear ho a0 a1 a2 q0 q1 q2 g1
  replace HA := Lib.hid (HA.out.far (q := ⟨w.heap.size + 1 + 1, 1, none⟩) (by show w.heap.size ≠ w.heap.size + 1 + 1; omega) (.slice p1' n1 c1'))
  replace HR := Lib.hid (HR.out.far (q := ⟨w.heap.size + 1 + 1, 1, none⟩) (by show w.heap.size + 1 ≠ w.heap.size + 1 + 1; omega) (.slice p1' n1 c1'))
  replace HQ1 := Lib.hid (HQ1.out.far (q := ⟨w.heap.size + 1 + 1, 1, none⟩) (by show ¬ (w.heap.size + 3 ≤ w.heap.size + 1 + 1); omega) (.slice p1' n1 c1'))
  replace HB := Lib.hid (HB.out.setCell (p := ⟨w.heap.size + 1 + 1, 1, none⟩) (by show w.heap.size ≤ w.heap.size + 1 + 1; omega) (.slice p1' n1 c1'))
  replace HSZ : Hid (w.heap.size + 3 ≤ (w1.setCell ⟨w.heap.size + 1 + 1, 1, none⟩ (.slice p1' n1 c1')).heap.size) := Lib.hid (by simpa [World.setCell] using HSZ.out)
  generalize (w1.setCell ⟨w.heap.size + 1 + 1, 1, none⟩ (.slice p1' n1 c1')) = V1 at HA HR HO HB HSZ HQ1 ⊢
  obtain ⟨a0, a1, a2⟩ := bxc HA.out
  refine (SlI.to_any _ _ _ _ _ (HP2.out.below HB.out).ints (by omega)).mono ?_
  rintro e w2 ⟨p2', n2', c2', rfl, ho, hb⟩
  obtain rfl : n2 = n2' := HP2.out.len.symm.trans ho.len
  have HK2 := Lib.hid (Ed.cap_ow ho)
  have HQ2 : Hid (RdD int (fun b => w.heap.size + 3 ≤ b) w2 p2' n2 l2) := Lib.hid ((RdD.ofOw ho).mono fun b hb => Nat.le_trans HSZ.out hb)
  clear ho
  clear a0 a1 a2
  replace HA := Lib.hid (HA.out.below hb)
  replace HR := Lib.hid (HR.out.below hb)
  replace HO := Lib.hid (HO.out.below hb)
  replace HQ1 := Lib.hid (HQ1.out.below hb)
  replace HB := Lib.hid (below_on HB.out hb)
  replace HSZ := Lib.hid (Nat.le_trans HSZ.out hb.size)
  clear hb
  obtain ⟨a0, a1, a2⟩ := bxc HA.out
  obtain ⟨q0, q1, q2⟩ := bxc HO.out
  have g2 := HO.out.free 2
  obtain ⟨r0, r1, r2⟩ := bxc HR.out
  have s0 := HR.out.free 0
  have s1 := HR.out.free 1
  have s2 := HR.out.free 2
  go_wp2_with fail
  exact bodyPost_ret (v := .agg #[.int .i64 x0, .slice p1' n1 c1', .slice p2' n2 c2']) (by simp [results, Try.results14, go_sem, r0, r1, r2]) rfl ⟨p1', c1', p2', c2', rfl, ((((((HQ1.out.far (q := ⟨w.heap.size + 1 + 1, 2, none⟩) (by show ¬ (w.heap.size + 3 ≤ w.heap.size + 1 + 1); omega) (.slice p2' n2 c2')).far (q := ⟨w.heap.size + 1, 0, none⟩) (by show ¬ (w.heap.size + 3 ≤ w.heap.size + 1); omega) (.int .i64 x0)).far (q := ⟨w.heap.size + 1, 1, none⟩) (by show ¬ (w.heap.size + 3 ≤ w.heap.size + 1); omega) (.slice p1' n1 c1')).far (q := ⟨w.heap.size + 1, 2, none⟩) (by show ¬ (w.heap.size + 3 ≤ w.heap.size + 1); omega) (.slice p2' n2 c2'))).mono fun b hb => by omega), ((((((HQ2.out.far (q := ⟨w.heap.size + 1 + 1, 2, none⟩) (by show ¬ (w.heap.size + 3 ≤ w.heap.size + 1 + 1); omega) (.slice p2' n2 c2')).far (q := ⟨w.heap.size + 1, 0, none⟩) (by show ¬ (w.heap.size + 3 ≤ w.heap.size + 1); omega) (.int .i64 x0)).far (q := ⟨w.heap.size + 1, 1, none⟩) (by show ¬ (w.heap.size + 3 ≤ w.heap.size + 1); omega) (.slice p1' n1 c1')).far (q := ⟨w.heap.size + 1, 2, none⟩) (by show ¬ (w.heap.size + 3 ≤ w.heap.size + 1); omega) (.slice p2' n2 c2'))).mono fun b hb => by omega), HK1.out, HK2.out, ((((HB.out.setCell (p := ⟨w.heap.size + 1 + 1, 2, none⟩) (by show w.heap.size ≤ w.heap.size + 1 + 1; omega) (.slice p2' n2 c2')).setCell (p := ⟨w.heap.size + 1, 0, none⟩) (by show w.heap.size ≤ w.heap.size + 1; omega) (.int .i64 x0)).setCell (p := ⟨w.heap.size + 1, 1, none⟩) (by show w.heap.size ≤ w.heap.size + 1; omega) (.slice p1' n1 c1')).setCell (p := ⟨w.heap.size + 1, 2, none⟩) (by show w.heap.size ≤ w.heap.size + 1; omega) (.slice p2' n2 c2'))⟩
theorem to_any (x0 : Int) (l1 : List ByteArray) (p1 : Option Addr) (n1 c1 : Nat) (l2 : List Int) (p2 : Option Addr) (n2 c2 : Nat) {S1 S2 : Nat → Prop} (w : World) (h1 : RdD str S1 w p1 n1 l1) (h2 : RdD int S2 w p2 n2 l2) (hm : E.wt (x0, l1, l2) ≤ 1048576) : Calls Try.prog 14 #[.agg #[.int .i64 x0, .slice p1 n1 c1, .slice p2 n2 c2]] w fun e w' => ∃ (p1' : Option Addr) (c1' : Nat) (p2' : Option Addr) (c2' : Nat), e = .returned (.agg #[.int .i64 x0, .slice p1' n1 c1', .slice p2' n2 c2']) ∧ RdD str (fun b => w.heap.size ≤ b) w' p1' n1 l1 ∧ RdD int (fun b => w.heap.size ≤ b) w' p2' n2 l2 ∧ Below w.heap.size w w' := by
  refine (toK_any x0 l1 p1 n1 c1 l2 p2 n2 c2 w h1 h2 hm).mono ?_
  rintro e w' ⟨p1', c1', p2', c2', he, o1, o2, _, _, hb⟩
  exact ⟨p1', c1', p2', c2', he, o1, o2, hb⟩
set_option maxRecDepth 100000 in
set_option maxHeartbeats 4000000 in
theorem eq_any (x0 : Int) (l1 : List ByteArray) (p1 p1' : Option Addr) (n1 c1 c1' : Nat) (l2 : List Int) (p2 p2' : Option Addr) (n2 c2 c2' : Nat) {S1 S1' S2 S2' : Nat → Prop} (w : World) (h1 : RdD str S1 w p1 n1 l1) (h1' : RdD str S1' w p1' n1 l1) (h2 : RdD int S2 w p2 n2 l2) (h2' : RdD int S2' w p2' n2 l2) : Calls Try.prog 18 #[.agg #[.int .i64 x0, .slice p1 n1 c1, .slice p2 n2 c2], .agg #[.int .i64 x0, .slice p1' n1 c1', .slice p2' n2 c2']] w (Yes w) := by
  have HP1 := Lib.hid h1
  have HP1' := Lib.hid h1'
  have HP2 := Lib.hid h2
  have HP2' := Lib.hid h2'
  clear h1 h1' h2 h2'
  have HB := Lib.hid ((box1 w (.cells #[.int .i64 x0, .slice p1 n1 c1, .slice p2 n2 c2] 38)).alloc (by simp) (.cells #[.int .i64 x0, .slice p1' n1 c1', .slice p2' n2 c2'] 38))
  have HX := Lib.hid ((Bx.new w 38 #[.int .i64 x0, .slice p1 n1 c1, .slice p2 n2 c2]).alloc (.cells #[.int .i64 x0, .slice p1' n1 c1', .slice p2' n2 c2'] 38))
  have hy := Bx.new (w.alloc (.cells #[.int .i64 x0, .slice p1 n1 c1, .slice p2 n2 c2] 38)) 38 #[.int .i64 x0, .slice p1' n1 c1', .slice p2' n2 c2']
  rw [World.size_alloc] at hy
  have HY := Lib.hid hy
  clear hy
  go_enter Try.func18, Try.ntmps18
  go_wp2_with fail
  refine (SlStr.eq_any _ _ _ _ _ _ _ (RdD.strs SlStr.C_eq SlStr.of_eq (HP1.out.below HB.out)).1 (RdD.strs SlStr.C_eq SlStr.of_eq (HP1'.out.below HB.out)).1).mono ?_
  rintro e w1 ⟨rfl, hb⟩
  replace HB := Lib.hid (below_on HB.out hb)
  replace HX := Lib.hid (HX.out.below hb)
  replace HY := Lib.hid (HY.out.below hb)
  clear hb
  obtain ⟨x0_, x1_, x2_⟩ := bxc HX.out
  obtain ⟨y0_, y1_, y2_⟩ := bxc HY.out
  go_wp2_with fail
  refine (SlI.eq_any _ _ _ _ _ _ _ (HP2.out.below HB.out).ints (HP2'.out.below HB.out).ints).mono ?_
  rintro e w2 ⟨rfl, hb⟩
  clear x0_ y0_ x1_ y1_ x2_ y2_
  replace HB := Lib.hid (below_on HB.out hb)
  replace HX := Lib.hid (HX.out.below hb)
  replace HY := Lib.hid (HY.out.below hb)
  clear hb
  obtain ⟨x0_, x1_, x2_⟩ := bxc HX.out
  obtain ⟨y0_, y1_, y2_⟩ := bxc HY.out
  go_wp2_with fail
  go_ret
  exact ⟨rfl, HB.out⟩
set_option maxRecDepth 100000 in
set_option maxHeartbeats 4000000 in
theorem sz_fits (x0 : Int) (l1 : List ByteArray) (p1 : Option Addr) (n1 c1 : Nat) (l2 : List Int) (p2 : Option Addr) (n2 c2 : Nat) {S1 S2 : Nat → Prop} (m : Nat) (left : Int) (w : World) (hm : E.wt (x0, l1, l2) = m) (h1 : RdD str S1 w p1 n1 l1) (h2 : RdD int S2 w p2 n2 l2) (g1 : left ≤ 1048576) (g2 : m ≤ left) : Calls Try.prog 11 #[.agg #[.int .i64 x0, .slice p1 n1 c1, .slice p2 n2 c2], .int .i64 left] w (Val (.int .i64 (left - m)) w) := by
  rw [wt_eq] at hm
  have k1 := h1.len
  have e1 := h1.le
  have HP1 := Lib.hid h1
  have k2 := h2.len
  have e2 := h2.le
  have HP2 := Lib.hid h2
  have m0 : (n1 + wts str l1) = (n1 + wts str l1) := rfl
  have m1 : n2 = n2 := rfl
  have z2 := wts_zero (E := int) (fun _ => rfl) l2
  have ht : (n1 + wts str l1) + n2 = m := by omega
  clear hm h1 k1 h2 k2 m0 m1 z2
  subst ht
  have HB := Lib.hid (box1 w (.cells #[.int .i64 x0, .slice p1 n1 c1, .slice p2 n2 c2] 29))
  have HX := Lib.hid (Bx.new w 29 #[.int .i64 x0, .slice p1 n1 c1, .slice p2 n2 c2])
  go_enter Try.func11, Try.ntmps11
  go_wp2_with fail
  refine (Dstr.szS_fits _ _ _ _ _ _ (HP1.out.below HB.out) (by omega) (by omega)).mono ?_
  rintro e w1 ⟨rfl, hb⟩
  replace HB := Lib.hid (below_on HB.out hb)
  replace HX := Lib.hid (HX.out.below hb)
  clear hb
  obtain ⟨x0_, x1_, x2_⟩ := bxc HX.out
  go_wp2_with fail
  refine (Dz.szI_fits _ _ _ _ _ (by omega) (by omega)).mono ?_
  rintro e w2 ⟨rfl, rfl⟩
  clear x0_ x1_ x2_
  go_wp2_with fail
  go_ret
  refine val_of ?_ HB.out
  show Value.int .i64 (left - ((((n1 + wts str l1)) : Nat) : Int) - (((n2) : Nat) : Int)) = _
  first | rfl | (congr 1; omega)
set_option maxRecDepth 100000 in
set_option maxHeartbeats 4000000 in
theorem sz_big (x0 : Int) (l1 : List ByteArray) (p1 : Option Addr) (n1 c1 : Nat) (l2 : List Int) (p2 : Option Addr) (n2 c2 : Nat) {S1 S2 : Nat → Prop} (m : Nat) (left : Int) (w : World) (hm : E.wt (x0, l1, l2) = m) (h1 : RdD str S1 w p1 n1 l1) (h2 : RdD int S2 w p2 n2 l2) (g0 : 0 ≤ left) (g1 : left ≤ 1048576) (g2 : left < m) : Calls Try.prog 11 #[.agg #[.int .i64 x0, .slice p1 n1 c1, .slice p2 n2 c2], .int .i64 left] w (Val (.int .i64 (-1)) w) := by
  rw [wt_eq] at hm
  have k1 := h1.len
  have e1 := h1.le
  have HP1 := Lib.hid h1
  have k2 := h2.len
  have e2 := h2.le
  have HP2 := Lib.hid h2
  have m0 : (n1 + wts str l1) = (n1 + wts str l1) := rfl
  have m1 : n2 = n2 := rfl
  have z2 := wts_zero (E := int) (fun _ => rfl) l2
  have ht : (n1 + wts str l1) + n2 = m := by omega
  clear hm h1 k1 h2 k2 m0 m1 z2
  subst ht
  have G := Lib.hid g2
  clear g2
  have HB := Lib.hid (box1 w (.cells #[.int .i64 x0, .slice p1 n1 c1, .slice p2 n2 c2] 29))
  have HX := Lib.hid (Bx.new w 29 #[.int .i64 x0, .slice p1 n1 c1, .slice p2 n2 c2])
  by_cases hc0 : left < (((n1 + wts str l1) : Nat) : Int)
  · go_enter Try.func11, Try.ntmps11
    go_wp2_with fail
    refine (Dstr.szS_big _ _ _ _ _ _ (HP1.out.below HB.out) (by omega) (by omega) (by have := G.out; omega)).mono ?_
    rintro e w1 ⟨rfl, hb⟩
    replace HB := Lib.hid (below_on HB.out hb)
    replace HX := Lib.hid (HX.out.below hb)
    clear hb
    go_wp2_with fail
    go_ret
    exact ⟨rfl, HB.out⟩
  go_enter Try.func11, Try.ntmps11
  go_wp2_with fail
  refine (Dstr.szS_fits _ _ _ _ _ _ (HP1.out.below HB.out) (by omega) (by omega)).mono ?_
  rintro e w1 ⟨rfl, hb⟩
  replace HB := Lib.hid (below_on HB.out hb)
  replace HX := Lib.hid (HX.out.below hb)
  clear hb
  obtain ⟨x0_, x1_, x2_⟩ := bxc HX.out
  go_wp2_with fail
  refine (Dz.szI_big _ _ _ _ _ (by omega) (by omega) (by have := G.out; omega) e2).mono ?_
  rintro e w2 ⟨rfl, rfl⟩
  clear x0_ x1_ x2_
  go_wp2_with fail
  go_ret
  exact ⟨rfl, HB.out⟩
theorem at_cells {w : World} {b q : Nat} {v0 : Value} {v1 : Value} {v2 : Value} (h : ∀ j v, [v0, v1, v2][j]? = some v → w.cell? ⟨b, q + j, none⟩ = some v) : w.cell? ⟨b, q, none⟩ = some v0 ∧ w.cell? ⟨b, q + 1, none⟩ = some v1 ∧ w.cell? ⟨b, q + 2, none⟩ = some v2 := ⟨h 0 _ rfl, h 1 _ rfl, h 2 _ rfl⟩
theorem info : (Try.prog.info? 38).map (fun i => (i.zero, i.size, i.bytes)) = some (some (.agg #[.int .i64 0, .slice none 0 0, .slice none 0 0]), 3, 56) := by kernel_rfl
end Go.Proofs.Ytjaholcmaafenaa.DpDocument
