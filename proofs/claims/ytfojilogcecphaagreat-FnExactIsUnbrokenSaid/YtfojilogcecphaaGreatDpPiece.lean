/- Contracts of the laws' helpers over Piece: opened, measured, copied, compared; by value and in slices. -/
import Derived.Test.YtfojilogcecphaaGreatEd
import Derived.Test.YtfojilogcecphaaGreatDz
import Derived.Test.YtfojilogcecphaaGreatSlI
import Derived.Test.YtfojilogcecphaaGreatSlI
import Derived.OpenShut
import Derived.Deep.Fields
import Derived.Deep.RegionHeld3
import Derived.LoopTactic
import Derived.Outline
namespace Go.Proofs.YtfojilogcecphaaGreat.DpPiece
open Go.ChangeShapes Go.WideShapes Go.ChangeAt Go.RowKit Sl St Ed Dz
abbrev A := Int × (List Int) × Int
def E : Ent A := pair int (pair (sl int) int)
theorem C_eq : E.C = 3 := rfl
theorem exk {S : Nat → Prop} {w : World} {cs : List Value} {x0 : Int} {l1 : List Int} {x2 : Int} (h : E.rd S w cs (x0, l1, x2)) : ∃ (p1 : Option Addr) (n1 c1 : Nat), cs = [.int .i64 x0, .slice p1 n1 c1, .int .i64 x2] ∧ InI x0 ∧ RdD int S w p1 n1 l1 ∧ InI x2 ∧ n1 ≤ c1 := by
  obtain ⟨d0, e0, rfl, ⟨rfl, b0⟩, d1, e1, rfl, ⟨p1, n1, c1, rfl, k1, h1⟩, rfl, b2⟩ := h
  exact ⟨p1, n1, c1, rfl, b0, h1, b2, k1⟩
theorem ex {S : Nat → Prop} {w : World} {cs : List Value} {x0 : Int} {l1 : List Int} {x2 : Int} (h : E.rd S w cs (x0, l1, x2)) : ∃ (p1 : Option Addr) (n1 c1 : Nat), cs = [.int .i64 x0, .slice p1 n1 c1, .int .i64 x2] ∧ InI x0 ∧ RdD int S w p1 n1 l1 ∧ InI x2 := by
  obtain ⟨p1, n1, c1, e, b0, h1, b2, _⟩ := exk h
  exact ⟨p1, n1, c1, e, b0, h1, b2⟩
theorem mk {S : Nat → Prop} {w : World} {x0 : Int} {l1 : List Int} {x2 : Int} {p1 : Option Addr} {n1 c1 : Nat} (b0 : InI x0) (h1 : RdD int S w p1 n1 l1) (b2 : InI x2) (k1 : n1 ≤ c1) : E.rd S w [.int .i64 x0, .slice p1 n1 c1, .int .i64 x2] (x0, l1, x2) :=
  ⟨[.int .i64 x0], [.slice p1 n1 c1, .int .i64 x2], rfl, ⟨rfl, b0⟩, [.slice p1 n1 c1], [.int .i64 x2], rfl, ⟨p1, n1, c1, rfl, k1, h1⟩, ⟨rfl, b2⟩⟩
theorem bxc {w : World} {g : Nat} {T : TypeId} {y0 : Value} {y1 : Value} {y2 : Value} (h : Bx w g T #[y0, y1, y2]) : w.cell? ⟨g, 0, none⟩ = some y0 ∧ w.cell? ⟨g, 1, none⟩ = some y1 ∧ w.cell? ⟨g, 2, none⟩ = some y2 := ⟨h.cell rfl, h.cell rfl, h.cell rfl⟩
theorem wt_eq (x0 : Int) (l1 : List Int) (x2 : Int) : E.wt (x0, l1, x2) = (l1.length + wts int l1) := by
  show 0 + ((l1.length + wts int l1) + 0) = _
  omega
section
variable {H : Type} {enc : TypeId × Value → H} {W : World}
set_option maxRecDepth 100000 in
theorem open_cells {fuel : Nat} {cs : List Value} {X : DataW H × List MemPlace} (hl : cs.length = 3) (h : DataW.trod enc Tryz.prog W 0 (fun _ => true) true fuel 55 cs = some X) : ∃ x, E.rd (fun _ => True) W cs x := by
  have hi : ∃ f0 f1 f2 : Field, Tryz.prog.underlying 55 = some (.struct #[f0, f1, f2]) ∧ f0.offset = 0 ∧ f1.offset = 1 ∧ f2.offset = 2 ∧ f0.type = 3 ∧ f1.type = 31 ∧ f2.type = 3 ∧ Tryz.prog.cellsOf 3 = 1 ∧ Tryz.prog.cellsOf 31 = 1 := ⟨_, _, _, Tryz.underlying55, by kernel_rfl, by kernel_rfl, by kernel_rfl, by kernel_rfl, by kernel_rfl, by kernel_rfl, by kernel_rfl, by kernel_rfl⟩
  obtain ⟨f0, f1, f2, hs, o0, o1, o2, t0, t1, t2, z0, z1⟩ := hi
  obtain ⟨ys, n, _, _, _, hlen, hf⟩ := DataW.trod_struct hs h
  match ys, hlen with
  | [y0, y1, y2], _ =>
    have r0 := hf 0 f0 rfl
    have r1 := hf 1 f1 rfl
    have r2 := hf 2 f2 rfl
    simp only [List.getElem?_cons_zero, List.getElem?_cons_succ] at r0 r1 r2
    rw [o0, t0, z0] at r0
    rw [o1, t1, z1] at r1
    rw [o2, t2, z0] at r2
    obtain ⟨v0, q0⟩ : ∃ x, Ent.rd int (fun _ => True) W ((cs.drop 0).take 1) x := o_int Tryz.underlying3 r0
    obtain ⟨v1, q1⟩ : ∃ x, Ent.rd (sl int) (fun _ => True) W ((cs.drop 1).take 1) x := o_sl Tryz.underlying31 (by kernel_rfl) (fun hl h => o_int Tryz.underlying3 h) r1
    obtain ⟨v2, q2⟩ : ∃ x, Ent.rd int (fun _ => True) W ((cs.drop 2).take 1) x := o_int Tryz.underlying3 r2
    exact ⟨_, rd_first (rd_next (o := 0) (o' := 1) rfl rfl q0 (rd_next (o := 1) (o' := 2) rfl rfl q1 (rd_last (o := 2) (by simp [hl]) q2)))⟩
set_option maxRecDepth 100000 in
theorem open_valk {base : Nat} {v : Value} {d : DataW H} {pl : List MemPlace} (h : DataW.Trod enc Tryz.prog W 0 (fun _ => true) true 55 v d pl) (hk : Value.okWide Tryz.prog W .any base 55 v) : ∃ (x0 : Int) (l1 : List Int) (x2 : Int) (p1 : Option Addr) (n1 c1 : Nat), v = .agg #[.int .i64 x0, .slice p1 n1 c1, .int .i64 x2] ∧ InI x0 ∧ RdD int (fun _ => True) W p1 n1 l1 ∧ InI x2 ∧ n1 ≤ c1 := by
  have hu : ∃ fs, Tryz.prog.underlying 55 = some (.struct fs) ∧ Tryz.prog.cellsOf 55 = 3 := ⟨_, Tryz.underlying55, by kernel_rfl⟩
  obtain ⟨fs, hs, hC⟩ := hu
  obtain ⟨cs, rfl, hsz⟩ := okWide_struct hs hk
  obtain ⟨fuel, hf⟩ := h
  simp only [Value.cells] at hf
  obtain ⟨x, hx⟩ := open_cells (by rw [Array.length_toList, hsz, hC]) hf
  obtain ⟨x0, l1, x2⟩ := x
  obtain ⟨p1, n1, c1, hc, b0, h1, b2, k1⟩ := exk hx
  exact ⟨x0, l1, x2, p1, n1, c1, congrArg Value.agg (Array.ext' hc), b0, h1, b2, k1⟩
set_option maxRecDepth 100000 in
theorem open_val {base : Nat} {v : Value} {d : DataW H} {pl : List MemPlace} (h : DataW.Trod enc Tryz.prog W 0 (fun _ => true) true 55 v d pl) (hk : Value.okWide Tryz.prog W .any base 55 v) : ∃ (x0 : Int) (l1 : List Int) (x2 : Int) (p1 : Option Addr) (n1 c1 : Nat), v = .agg #[.int .i64 x0, .slice p1 n1 c1, .int .i64 x2] ∧ InI x0 ∧ RdD int (fun _ => True) W p1 n1 l1 ∧ InI x2 := by
  have hu : ∃ fs, Tryz.prog.underlying 55 = some (.struct fs) ∧ Tryz.prog.cellsOf 55 = 3 := ⟨_, Tryz.underlying55, by kernel_rfl⟩
  obtain ⟨fs, hs, hC⟩ := hu
  obtain ⟨cs, rfl, hsz⟩ := okWide_struct hs hk
  obtain ⟨fuel, hf⟩ := h
  simp only [Value.cells] at hf
  obtain ⟨x, hx⟩ := open_cells (by rw [Array.length_toList, hsz, hC]) hf
  obtain ⟨x0, l1, x2⟩ := x
  obtain ⟨p1, n1, c1, hc, b0, h1, b2⟩ := ex hx
  exact ⟨x0, l1, x2, p1, n1, c1, congrArg Value.agg (Array.ext' hc), b0, h1, b2⟩
end
set_option maxRecDepth 100000 in
set_option maxHeartbeats 4000000 in
theorem toK_any (x0 : Int) (l1 : List Int) (p1 : Option Addr) (n1 c1 : Nat) (x2 : Int) {S1 : Nat → Prop} (w : World) (h1 : RdD int S1 w p1 n1 l1) (hm : E.wt (x0, l1, x2) ≤ 1048576) : Calls Tryz.prog 24 #[.agg #[.int .i64 x0, .slice p1 n1 c1, .int .i64 x2]] w fun e w' => ∃ (p1' : Option Addr) (c1' : Nat), e = .returned (.agg #[.int .i64 x0, .slice p1' n1 c1', .int .i64 x2]) ∧ RdD int (fun b => w.heap.size ≤ b) w' p1' n1 l1 ∧ n1 ≤ c1' ∧ Below w.heap.size w w' := by
  rw [wt_eq] at hm
  have k1 := h1.len
  have m1 : n1 + wts int l1 ≤ 1048576 := by omega
  have HP1 := Lib.hid h1
  clear hm h1 k1
  have b0 := ((Bx.new w 55 #[.int .i64 x0, .slice p1 n1 c1, .int .i64 x2]).alloc (.cells #[.int .i64 0, .slice none 0 0, .int .i64 0] 58)).alloc (.cells #[.int .i64 x0, .slice none 0 0, .int .i64 0] 58)
  have b1 := (Bx.new (w.alloc (.cells #[.int .i64 x0, .slice p1 n1 c1, .int .i64 x2] 55)) 58 #[.int .i64 0, .slice none 0 0, .int .i64 0]).alloc (.cells #[.int .i64 x0, .slice none 0 0, .int .i64 0] 58)
  have b2 := Bx.new ((w.alloc (.cells #[.int .i64 x0, .slice p1 n1 c1, .int .i64 x2] 55)).alloc (.cells #[.int .i64 0, .slice none 0 0, .int .i64 0] 58)) 58 #[.int .i64 x0, .slice none 0 0, .int .i64 0]
  rw [World.size_alloc] at b1
  rw [World.size_alloc, World.size_alloc] at b2
  have HA := Lib.hid b0
  have HR := Lib.hid b1
  have HO := Lib.hid b2
  have HB : Hid (Below w.heap.size w (((w.alloc (.cells #[.int .i64 x0, .slice p1 n1 c1, .int .i64 x2] 55)).alloc (.cells #[.int .i64 0, .slice none 0 0, .int .i64 0] 58)).alloc (.cells #[.int .i64 x0, .slice none 0 0, .int .i64 0] 58))) := Lib.hid ((((Below.refl w.heap.size w).alloc (Nat.le_refl _) _).alloc (by simp) _).alloc (by simp; omega) _)
  have HSZ : Hid (w.heap.size + 3 ≤ (((w.alloc (.cells #[.int .i64 x0, .slice p1 n1 c1, .int .i64 x2] 55)).alloc (.cells #[.int .i64 0, .slice none 0 0, .int .i64 0] 58)).alloc (.cells #[.int .i64 x0, .slice none 0 0, .int .i64 0] 58)).heap.size) := Lib.hid (by simp)
  clear b0 b1 b2
  go_enter Tryz.func24, Tryz.ntmps24
  go_wp2_with fail
  generalize (((w.alloc (.cells #[.int .i64 x0, .slice p1 n1 c1, .int .i64 x2] 55)).alloc (.cells #[.int .i64 0, .slice none 0 0, .int .i64 0] 58)).alloc (.cells #[.int .i64 x0, .slice none 0 0, .int .i64 0] 58)) = V at HA HR HO HB HSZ ⊢
  obtain ⟨a0, a1, a2⟩ := bxc HA.out
  refine (SlI.to_any _ _ _ _ _ (HP1.out.below HB.out).ints (by omega)).mono ?_
  rintro e w1 ⟨p1', n1', c1', rfl, ho, hb⟩
  obtain rfl : n1 = n1' := HP1.out.len.symm.trans ho.len
  have HK1 := Lib.hid (Ed.cap_ow ho)
  have HQ1 : Hid (RdD int (fun b => w.heap.size + 3 ≤ b) w1 p1' n1 l1) := Lib.hid ((RdD.ofOw ho).mono fun b hb => Nat.le_trans HSZ.out hb)
  clear ho
  clear a0 a1 a2
  replace HA := Lib.hid (HA.out.below hb)
  replace HR := Lib.hid (HR.out.below hb)
  replace HO := Lib.hid (HO.out.below hb)
  replace HB := Lib.hid (below_on HB.out hb)
  replace HSZ := Lib.hid (Nat.le_trans HSZ.out hb.size)
  clear hb
  obtain ⟨a0, a1, a2⟩ := bxc HA.out
  obtain ⟨q0, q1, q2⟩ := bxc HO.out
  have g1 := HO.out.free 1
  have g2 := HO.out.free 2
  obtain ⟨r0, r1, r2⟩ := bxc HR.out
  have s0 := HR.out.free 0
  have s1 := HR.out.free 1
  have s2 := HR.out.free 2
  go_wp2_with fail
  exact bodyPost_ret (v := .agg #[.int .i64 x0, .slice p1' n1 c1', .int .i64 x2]) (by simp [results, Tryz.results24, go_sem, r0, r1, r2]) rfl ⟨p1', c1', rfl, (((((((HQ1.out.far (q := ⟨w.heap.size + 1 + 1, 1, none⟩) (by show ¬ (w.heap.size + 3 ≤ w.heap.size + 1 + 1); omega) (.slice p1' n1 c1')).far (q := ⟨w.heap.size + 1 + 1, 2, none⟩) (by show ¬ (w.heap.size + 3 ≤ w.heap.size + 1 + 1); omega) (.int .i64 x2)).far (q := ⟨w.heap.size + 1, 0, none⟩) (by show ¬ (w.heap.size + 3 ≤ w.heap.size + 1); omega) (.int .i64 x0)).far (q := ⟨w.heap.size + 1, 1, none⟩) (by show ¬ (w.heap.size + 3 ≤ w.heap.size + 1); omega) (.slice p1' n1 c1')).far (q := ⟨w.heap.size + 1, 2, none⟩) (by show ¬ (w.heap.size + 3 ≤ w.heap.size + 1); omega) (.int .i64 x2))).mono fun b hb => by omega), HK1.out, (((((HB.out.setCell (p := ⟨w.heap.size + 1 + 1, 1, none⟩) (by show w.heap.size ≤ w.heap.size + 1 + 1; omega) (.slice p1' n1 c1')).setCell (p := ⟨w.heap.size + 1 + 1, 2, none⟩) (by show w.heap.size ≤ w.heap.size + 1 + 1; omega) (.int .i64 x2)).setCell (p := ⟨w.heap.size + 1, 0, none⟩) (by show w.heap.size ≤ w.heap.size + 1; omega) (.int .i64 x0)).setCell (p := ⟨w.heap.size + 1, 1, none⟩) (by show w.heap.size ≤ w.heap.size + 1; omega) (.slice p1' n1 c1')).setCell (p := ⟨w.heap.size + 1, 2, none⟩) (by show w.heap.size ≤ w.heap.size + 1; omega) (.int .i64 x2))⟩
theorem to_any (x0 : Int) (l1 : List Int) (p1 : Option Addr) (n1 c1 : Nat) (x2 : Int) {S1 : Nat → Prop} (w : World) (h1 : RdD int S1 w p1 n1 l1) (hm : E.wt (x0, l1, x2) ≤ 1048576) : Calls Tryz.prog 24 #[.agg #[.int .i64 x0, .slice p1 n1 c1, .int .i64 x2]] w fun e w' => ∃ (p1' : Option Addr) (c1' : Nat), e = .returned (.agg #[.int .i64 x0, .slice p1' n1 c1', .int .i64 x2]) ∧ RdD int (fun b => w.heap.size ≤ b) w' p1' n1 l1 ∧ Below w.heap.size w w' := by
  refine (toK_any x0 l1 p1 n1 c1 x2 w h1 hm).mono ?_
  rintro e w' ⟨p1', c1', he, o1, _, hb⟩
  exact ⟨p1', c1', he, o1, hb⟩
set_option maxRecDepth 100000 in
set_option maxHeartbeats 4000000 in
theorem eq_any (x0 : Int) (l1 : List Int) (p1 p1' : Option Addr) (n1 c1 c1' : Nat) (x2 : Int) {S1 S1' : Nat → Prop} (w : World) (h1 : RdD int S1 w p1 n1 l1) (h1' : RdD int S1' w p1' n1 l1) : Calls Tryz.prog 26 #[.agg #[.int .i64 x0, .slice p1 n1 c1, .int .i64 x2], .agg #[.int .i64 x0, .slice p1' n1 c1', .int .i64 x2]] w (Yes w) := by
  have HP1 := Lib.hid h1
  have HP1' := Lib.hid h1'
  clear h1 h1'
  have HB := Lib.hid ((box1 w (.cells #[.int .i64 x0, .slice p1 n1 c1, .int .i64 x2] 58)).alloc (by simp) (.cells #[.int .i64 x0, .slice p1' n1 c1', .int .i64 x2] 58))
  have HX := Lib.hid ((Bx.new w 58 #[.int .i64 x0, .slice p1 n1 c1, .int .i64 x2]).alloc (.cells #[.int .i64 x0, .slice p1' n1 c1', .int .i64 x2] 58))
  have hy := Bx.new (w.alloc (.cells #[.int .i64 x0, .slice p1 n1 c1, .int .i64 x2] 58)) 58 #[.int .i64 x0, .slice p1' n1 c1', .int .i64 x2]
  rw [World.size_alloc] at hy
  have HY := Lib.hid hy
  clear hy
  go_enter Tryz.func26, Tryz.ntmps26
  go_wp2_with fail
  refine (SlI.eq_any _ _ _ _ _ _ _ (HP1.out.below HB.out).ints (HP1'.out.below HB.out).ints).mono ?_
  rintro e w1 ⟨rfl, hb⟩
  replace HB := Lib.hid (below_on HB.out hb)
  replace HX := Lib.hid (HX.out.below hb)
  replace HY := Lib.hid (HY.out.below hb)
  clear hb
  obtain ⟨x0_, x1_, x2_⟩ := bxc HX.out
  obtain ⟨y0_, y1_, y2_⟩ := bxc HY.out
  go_wp2_with fail
  go_ret
  exact ⟨rfl, HB.out⟩
set_option maxRecDepth 100000 in
set_option maxHeartbeats 4000000 in
theorem sz_fits (x0 : Int) (l1 : List Int) (p1 : Option Addr) (n1 c1 : Nat) (x2 : Int) {S1 : Nat → Prop} (m : Nat) (left : Int) (w : World) (hm : E.wt (x0, l1, x2) = m) (h1 : RdD int S1 w p1 n1 l1) (g1 : left ≤ 1048576) (g2 : m ≤ left) : Calls Tryz.prog 22 #[.agg #[.int .i64 x0, .slice p1 n1 c1, .int .i64 x2], .int .i64 left] w (Val (.int .i64 (left - m)) w) := by
  rw [wt_eq] at hm
  have k1 := h1.len
  have e1 := h1.le
  have HP1 := Lib.hid h1
  have m0 : n1 = n1 := rfl
  have z1 := wts_zero (E := int) (fun _ => rfl) l1
  have ht : n1 = m := by omega
  clear hm h1 k1 m0 z1
  subst ht
  have HB := Lib.hid (box1 w (.cells #[.int .i64 x0, .slice p1 n1 c1, .int .i64 x2] 55))
  have HX := Lib.hid (Bx.new w 55 #[.int .i64 x0, .slice p1 n1 c1, .int .i64 x2])
  go_enter Tryz.func22, Tryz.ntmps22
  go_wp2_with fail
  refine (Dz.szI_fits _ _ _ _ _ (by omega) (by omega)).mono ?_
  rintro e w1 ⟨rfl, rfl⟩
  go_wp2_with fail
  go_ret
  refine val_of ?_ HB.out
  show Value.int .i64 (left - (((n1) : Nat) : Int)) = _
  first | rfl | (congr 1; omega)
set_option maxRecDepth 100000 in
set_option maxHeartbeats 4000000 in
theorem sz_big (x0 : Int) (l1 : List Int) (p1 : Option Addr) (n1 c1 : Nat) (x2 : Int) {S1 : Nat → Prop} (m : Nat) (left : Int) (w : World) (hm : E.wt (x0, l1, x2) = m) (h1 : RdD int S1 w p1 n1 l1) (g0 : 0 ≤ left) (g1 : left ≤ 1048576) (g2 : left < m) : Calls Tryz.prog 22 #[.agg #[.int .i64 x0, .slice p1 n1 c1, .int .i64 x2], .int .i64 left] w (Val (.int .i64 (-1)) w) := by
  rw [wt_eq] at hm
  have k1 := h1.len
  have e1 := h1.le
  have HP1 := Lib.hid h1
  have m0 : n1 = n1 := rfl
  have z1 := wts_zero (E := int) (fun _ => rfl) l1
  have ht : n1 = m := by omega
  clear hm h1 k1 m0 z1
  subst ht
  have G := Lib.hid g2
  clear g2
  have HB := Lib.hid (box1 w (.cells #[.int .i64 x0, .slice p1 n1 c1, .int .i64 x2] 55))
  have HX := Lib.hid (Bx.new w 55 #[.int .i64 x0, .slice p1 n1 c1, .int .i64 x2])
  go_enter Tryz.func22, Tryz.ntmps22
  go_wp2_with fail
  refine (Dz.szI_big _ _ _ _ _ (by omega) (by omega) (by have := G.out; omega) e1).mono ?_
  rintro e w1 ⟨rfl, rfl⟩
  go_wp2_with fail
  go_ret
  exact ⟨rfl, HB.out⟩
theorem at_cells {w : World} {b q : Nat} {v0 : Value} {v1 : Value} {v2 : Value} (h : ∀ j v, [v0, v1, v2][j]? = some v → w.cell? ⟨b, q + j, none⟩ = some v) : w.cell? ⟨b, q, none⟩ = some v0 ∧ w.cell? ⟨b, q + 1, none⟩ = some v1 ∧ w.cell? ⟨b, q + 2, none⟩ = some v2 := ⟨h 0 _ rfl, h 1 _ rfl, h 2 _ rfl⟩
theorem info : (Tryz.prog.info? 58).map (fun i => (i.zero, i.size, i.bytes)) = some (some (.agg #[.int .i64 0, .slice none 0 0, .int .i64 0]), 3, 40) := by kernel_rfl
set_option maxRecDepth 100000 in
set_option maxHeartbeats 4000000 in
theorem toSK_any (p : Option Addr) (n c : Nat) (xs : List A) {S : Nat → Prop} (w : World) (hr : RdD E S w p n xs) (hm : n + wts E xs ≤ 1048576) : Calls Tryz.prog 44 #[.slice p n c] w fun e w' => ∃ (q : Option Addr) (d : Nat), e = .returned (.slice q n d) ∧ RdD E (fun b => w.heap.size ≤ b) w' q n xs ∧ n ≤ d ∧ Below w.heap.size w w' := by
  obtain ⟨i0, hi, hz0, hz1, hz2⟩ := info_parts info
  have HR := Lib.hid hr
  have hn : n ≤ 1048576 := by omega
  have HM0 := Lib.hid hm
  clear hr hm
  go_enter Tryz.func44, Tryz.ntmps44
  go_wp2_with (refine wpList_make_full _ rfl _ _ 41 rfl w.heap.size 58 i0 _ 3 Tryz.underlying41 hi hz0 hz1 .i64 .i64 _ _ n rfl rfl rfl rfl (by rw [hz2]; omega) (by unfold maxLen; omega) (Nat.le_refl _) ?_; intro w1 hown1 hg1)
  have HM := Lib.hid (MidD.start (E := E) (z := [.int .i64 0, .slice none 0 0, .int .i64 0]) (xs := xs) (.agg #[.int .i64 0, .slice none 0 0, .int .i64 0]) rfl rfl (by intro u hu; simp only [List.mem_cons, List.not_mem_nil, or_false] at hu; rcases hu with rfl | rfl | rfl <;> rfl) hown1 hg1)
  clear hown1 hg1
  go_loopw [4] (fun i wr => ∃ k : Nat, k ≤ n ∧ i = .int .i64 k ∧ Hid (MidD E 58 [.int .i64 0, .slice none 0 0, .int .i64 0] xs n k w wr)) (fun i _ => n - (intOf i).toNat)
  case atStart => exact ⟨0, Nat.zero_le _, rfl, HM⟩
  case round =>
    obtain ⟨k, hk, rfl, HK⟩ := hrel
    by_cases hlt : k < n
    · obtain ⟨b, o, x, cs, rfl, _, hbw, hx, hc, hrd⟩ := HR.out.at_ hlt
      obtain ⟨x0, l1, x2⟩ := x
      obtain ⟨p1, n1, c1, rfl, b0, h1, b2⟩ := ex hrd
      have hB := HK.out.below
      have hwt : E.wt (x0, l1, x2) ≤ 1048576 := by have h1 := wts_at (E := E) hx; have h2 := HM0.out; omega
      have hcc : ∀ j v, [.int .i64 x0, .slice p1 n1 c1, .int .i64 x2][j]? = some v → wr.cell? ⟨b, o + k * 3 + j, none⟩ = some v := fun j v hv => (hB.cell (p := ⟨b, o + k * 3 + j, none⟩) hbw).trans (hc j v hv)
      have HX := Lib.hid hx
      have HW := Lib.hid hwt
      have Hb0 := Lib.hid b0
      have Hh1 := Lib.hid h1
      have Hb2 := Lib.hid b2
      have HBB := Lib.hid hB
      obtain ⟨u0, u1, u2⟩ := at_cells hcc
      clear hc hcc hrd hx hwt hB b0 h1 b2
      go_wp2_with fail
      refine (toK_any _ _ _ _ _ _ _ (Hh1.out.below HBB.out) HW.out).mono ?_
      rintro e w2 ⟨p1', c1', rfl, ho1, hk1, hb2⟩
      obtain ⟨hz, hf⟩ := HK.out.cells hlt
      have d0 : w2.cell? ⟨w.heap.size, k * 3, none⟩ = some (.int .i64 0) := (hb2.cell (p := ⟨w.heap.size, k * 3 + 0, none⟩) HK.out.lt).trans (hz 0 _ rfl)
      have d1 : w2.cell? ⟨w.heap.size, k * 3 + 1, none⟩ = some (.slice none 0 0) := (hb2.cell (p := ⟨w.heap.size, k * 3 + 1, none⟩) HK.out.lt).trans (hz 1 _ rfl)
      have d2 : w2.cell? ⟨w.heap.size, k * 3 + 2, none⟩ = some (.int .i64 0) := (hb2.cell (p := ⟨w.heap.size, k * 3 + 2, none⟩) HK.out.lt).trans (hz 2 _ rfl)
      have f0 : w2.frozen? ⟨w.heap.size, k * 3, none⟩ = false := (hb2.frozen (p := ⟨w.heap.size, k * 3 + 0, none⟩) HK.out.lt).trans (hf _)
      have f1 : w2.frozen? ⟨w.heap.size, k * 3 + 1, none⟩ = false := (hb2.frozen (p := ⟨w.heap.size, k * 3 + 1, none⟩) HK.out.lt).trans (hf _)
      have f2 : w2.frozen? ⟨w.heap.size, k * 3 + 2, none⟩ = false := (hb2.frozen (p := ⟨w.heap.size, k * 3 + 2, none⟩) HK.out.lt).trans (hf _)
      have HM2 := Lib.hid (HK.out.next hb2 hlt HX.out (mk (c1 := c1') Hb0.out ho1 Hb2.out hk1))
      clear hz hf hb2 ho1 hk1 u0 u1 u2
      go_wp2_with fail
      go_roundw
      case rel => exact ⟨k + 1, by omega, by go_num, HM2⟩
      case measure => simp [intOf]; omega
    · obtain rfl : k = n := by omega
      have HD := Lib.hid (HK.out.done HR.out.len (by unfold maxLen; omega))
      go_wp2_with fail
      go_ret
      exact ⟨_, _, rfl, HD.out.1, Nat.le_refl _, HD.out.2⟩
theorem toS_any (p : Option Addr) (n c : Nat) (xs : List A) {S : Nat → Prop} (w : World) (hr : RdD E S w p n xs) (hm : n + wts E xs ≤ 1048576) : Calls Tryz.prog 44 #[.slice p n c] w fun e w' => ∃ (q : Option Addr) (d : Nat), e = .returned (.slice q n d) ∧ RdD E (fun b => w.heap.size ≤ b) w' q n xs ∧ Below w.heap.size w w' := by
  refine (toSK_any p n c xs w hr hm).mono ?_
  rintro e w' ⟨q, d, he, ho, _, hb⟩
  exact ⟨q, d, he, ho, hb⟩
set_option maxRecDepth 100000 in
set_option maxHeartbeats 8000000 in
theorem eqS_any (p p' : Option Addr) (n c c' : Nat) (xs : List A) {S S' : Nat → Prop} (w : World) (hr : RdD E S w p n xs) (hr' : RdD E S' w p' n xs) : Calls Tryz.prog 51 #[.slice p n c, .slice p' n c'] w (Yes w) := by
  have HR := Lib.hid hr
  have HR' := Lib.hid hr'
  have hle := hr.le
  clear hr hr'
  go_enter Tryz.func51, Tryz.ntmps51
  go_wp2_with fail
  go_loopw [5] (fun i wr => ∃ k : Nat, k ≤ n ∧ i = .int .i64 k ∧ Hid (Below w.heap.size w wr)) (fun i _ => n - (intOf i).toNat)
  case atStart => exact ⟨0, Nat.zero_le _, rfl, Below.refl _ _⟩
  case round =>
    obtain ⟨k, hk, rfl, HB⟩ := hrel
    by_cases hlt : k < n
    · obtain ⟨b, o, x, cs, rfl, _, hbw, hx, hc, hrd⟩ := HR.out.at_ hlt
      obtain ⟨b', o', x', cs', rfl, _, hbw', hx', hc', hrd'⟩ := HR'.out.at_ hlt
      rw [hx] at hx'
      obtain rfl := Option.some.inj hx'
      clear hx hx'
      obtain ⟨x0, l1, x2⟩ := x
      obtain ⟨p1, n1, c1, rfl, b0, h1, b2⟩ := ex hrd
      obtain ⟨p1', n1', c1', rfl, _, h1', _⟩ := ex hrd'
      obtain rfl : n1 = n1' := h1.len.symm.trans h1'.len
      have hcc : ∀ j v, [.int .i64 x0, .slice p1 n1 c1, .int .i64 x2][j]? = some v → wr.cell? ⟨b, o + k * 3 + j, none⟩ = some v := fun j v hv => (HB.out.cell (p := ⟨b, o + k * 3 + j, none⟩) hbw).trans (hc j v hv)
      have hcc' : ∀ j v, [.int .i64 x0, .slice p1' n1 c1', .int .i64 x2][j]? = some v → wr.cell? ⟨b', o' + k * 3 + j, none⟩ = some v := fun j v hv => (HB.out.cell (p := ⟨b', o' + k * 3 + j, none⟩) hbw').trans (hc' j v hv)
      have H1 := Lib.hid (h1.below HB.out)
      have H1' := Lib.hid (h1'.below HB.out)
      have HC := Lib.hid hcc
      have HC' := Lib.hid hcc'
      have hlb : b < wr.heap.size := Nat.lt_of_lt_of_le hbw HB.out.size
      have hlb' : b' < wr.heap.size := Nat.lt_of_lt_of_le hbw' HB.out.size
      have HH := Lib.hid (And.intro (at_cells hcc) (at_cells hcc'))
      obtain ⟨⟨u0, u1, u2⟩, v0, v1, v2⟩ := HH.out
      clear hc hc' hrd hrd' hcc hcc' b0 h1 b2 h1'
      have i1 : (0 : Int) ≤ (k : Int) := by omega
      have i2 : (k : Int) < (n : Int) := by omega
      go_wp2_with fail
      go_region_held3 (fun w' => (w'.cell? ⟨b, o + k * 3, none⟩ = some (.int .i64 x0) ∧ w'.cell? ⟨b, o + k * 3 + 1, none⟩ = some (.slice p1 n1 c1) ∧ w'.cell? ⟨b, o + k * 3 + 2, none⟩ = some (.int .i64 x2)) ∧ w'.cell? ⟨b', o' + k * 3, none⟩ = some (.int .i64 x0) ∧ w'.cell? ⟨b', o' + k * 3 + 1, none⟩ = some (.slice p1' n1 c1') ∧ w'.cell? ⟨b', o' + k * 3 + 2, none⟩ = some (.int .i64 x2)) (first | exact HH.out | exact HH2.out | go_keep) (first | (go_at_call 26; (with_reducible refine (eq_any _ _ _ _ _ _ _ _ _ H1.out.drew1 H1'.out.drew1).mono ?_); rintro e w2 ⟨rfl, hb2⟩; have HH2 := Lib.hid (And.intro (at_cells (q := o + k * 3) fun j v hv => (hb2.cell (p := ⟨b, o + k * 3 + j, none⟩) hlb).trans (HC.out j v hv)) (at_cells (q := o' + k * 3) fun j v hv => (hb2.cell (p := ⟨b', o' + k * 3 + j, none⟩) hlb').trans (HC'.out j v hv))); have HB2 := Lib.hid (below_on (below_drewN HB.out 1) hb2); clear hb2))
      go_wp2_with fail
      go_roundw
      case rel => exact ⟨k + 1, by omega, by go_num, HB2⟩
      case measure => simp [intOf]; omega
    · obtain rfl : k = n := by omega
      go_wp2_with fail
      go_ret
      exact ⟨rfl, HB.out⟩
set_option maxRecDepth 100000 in
set_option maxHeartbeats 4000000 in
theorem szS_fits (p : Option Addr) (n c : Nat) (xs : List A) {S : Nat → Prop} (left : Int) (w : World) (hr : RdD E S w p n xs) (h1 : left ≤ 1048576) (h : (n + wts E xs : Nat) ≤ left) : Calls Tryz.prog 38 #[.slice p n c, .int .i64 left] w (Val (.int .i64 (left - (n + wts E xs : Nat))) w) := by
  have HR := Lib.hid hr
  have hle := hr.le
  have HL := Lib.hid hr.len
  have HT := Lib.hid h
  clear hr
  clear h
  have hn : (n : Int) ≤ left := by have := HT.out; omega
  go_enter Tryz.func38, Tryz.ntmps38
  go_wp2_with fail
  go_loopw [1, 5] (fun v i wr => ∃ k t : Nat, k ≤ n ∧ i = .int .i64 k ∧ v = .int .i64 (left - n - t) ∧ (n : Int) + t ≤ left ∧ Hid (t = wts E (xs.take k)) ∧ Hid (Below w.heap.size w wr)) (fun _ i _ => n - (intOf i).toNat)
  case atStart => exact ⟨0, 0, Nat.zero_le _, rfl, by congr 1; omega, by omega, Lib.hid rfl, Below.refl _ _⟩
  case round =>
    obtain ⟨k, t, hk, rfl, rfl, ht, HT2, HB⟩ := hrel
    by_cases hlt : k < n
    · obtain ⟨b, o, x, cs, rfl, _, hbw, hx, hc, hrd⟩ := HR.out.at_ hlt
      have hnx := wts_take (E := E) hx
      have hall := wts_le (E := E) xs (k + 1)
      obtain ⟨x0, l1, x2⟩ := x
      obtain ⟨p1, n1, c1, rfl, b0, h1, b2⟩ := ex hrd
      generalize hm : E.wt (x0, l1, x2) = m at hnx
      have hcc : ∀ j v, [.int .i64 x0, .slice p1 n1 c1, .int .i64 x2][j]? = some v → wr.cell? ⟨b, o + k * 3 + j, none⟩ = some v := fun j v hv => (HB.out.cell (p := ⟨b, o + k * 3 + j, none⟩) hbw).trans (hc j v hv)
      have H1 := Lib.hid (h1.below HB.out)
      have HW := Lib.hid hm
      obtain ⟨u0, u1, u2⟩ := at_cells hcc
      have HN : Hid (t + m = wts E (xs.take (k + 1))) := Lib.hid (by rw [hnx, HT2.out])
      have hfit : (n : Int) + t + m ≤ left := by have h1 := HT.out; have h2 := HT2.out; omega
      clear hc hcc hrd hx hnx hall hm b0 h1 b2
      go_wp2_with fail
      refine (sz_fits _ _ _ _ _ _ _ _ _ HW.out H1.out (by omega) (by omega)).mono ?_
      rintro e w2 ⟨rfl, hb2⟩
      have HB2 := Lib.hid (below_on HB.out hb2)
      clear hb2 u0 u1 u2
      go_wp2_with fail
      go_roundw
      case rel => exact ⟨k + 1, t + m, by omega, by go_num, by congr 1; omega, by omega, HN, HB2⟩
      case measure => simp [intOf]; omega
    · obtain rfl : k = n := by omega
      have hall := wts_all (E := E) xs HL.out
      have HV : Hid (Value.int .i64 (left - k - t) = .int .i64 (left - (k + wts E xs : Nat))) := Lib.hid (by have h2 := HT2.out; rw [hall] at h2; congr 1; omega)
      clear hall
      go_wp2_with fail
      go_ret
      exact val_of HV.out HB.out
set_option maxRecDepth 100000 in
set_option maxHeartbeats 4000000 in
theorem szS_big (p : Option Addr) (n c : Nat) (xs : List A) {S : Nat → Prop} (left : Int) (w : World) (hr : RdD E S w p n xs) (h0 : 0 ≤ left) (h1 : left ≤ 1048576) (h : left < (n + wts E xs : Nat)) : Calls Tryz.prog 38 #[.slice p n c, .int .i64 left] w (Val (.int .i64 (-1)) w) := by
  have HR := Lib.hid hr
  have hle := hr.le
  have HL := Lib.hid hr.len
  have HT := Lib.hid h
  clear hr
  by_cases hbig : left < n
  · go_enter Tryz.func38, Tryz.ntmps38
    go_wp2_with fail
    go_ret
    exact ⟨rfl, Below.refl _ _⟩
  clear h
  go_enter Tryz.func38, Tryz.ntmps38
  go_wp2_with fail
  go_loopw [1, 5] (fun v i wr => ∃ k t : Nat, k ≤ n ∧ i = .int .i64 k ∧ v = .int .i64 (left - n - t) ∧ (n : Int) + t ≤ left ∧ Hid (t = wts E (xs.take k)) ∧ Hid (Below w.heap.size w wr)) (fun _ i _ => n - (intOf i).toNat)
  case atStart => exact ⟨0, 0, Nat.zero_le _, rfl, by congr 1; omega, by omega, Lib.hid rfl, Below.refl _ _⟩
  case round =>
    obtain ⟨k, t, hk, rfl, rfl, ht, HT2, HB⟩ := hrel
    by_cases hlt : k < n
    · obtain ⟨b, o, x, cs, rfl, _, hbw, hx, hc, hrd⟩ := HR.out.at_ hlt
      have hnx := wts_take (E := E) hx
      have hall := wts_le (E := E) xs (k + 1)
      obtain ⟨x0, l1, x2⟩ := x
      obtain ⟨p1, n1, c1, rfl, b0, h1, b2⟩ := ex hrd
      generalize hm : E.wt (x0, l1, x2) = m at hnx
      have hcc : ∀ j v, [.int .i64 x0, .slice p1 n1 c1, .int .i64 x2][j]? = some v → wr.cell? ⟨b, o + k * 3 + j, none⟩ = some v := fun j v hv => (HB.out.cell (p := ⟨b, o + k * 3 + j, none⟩) hbw).trans (hc j v hv)
      have H1 := Lib.hid (h1.below HB.out)
      have HW := Lib.hid hm
      obtain ⟨u0, u1, u2⟩ := at_cells hcc
      have HN : Hid (t + m = wts E (xs.take (k + 1))) := Lib.hid (by rw [hnx, HT2.out])
      by_cases hfit : (n : Int) + t + m ≤ left
      · skip
        clear hc hcc hrd hx hnx hall hm b0 h1 b2
        go_wp2_with fail
        refine (sz_fits _ _ _ _ _ _ _ _ _ HW.out H1.out (by omega) (by omega)).mono ?_
        rintro e w2 ⟨rfl, hb2⟩
        have HB2 := Lib.hid (below_on HB.out hb2)
        clear hb2 u0 u1 u2
        go_wp2_with fail
        go_roundw
        case rel => exact ⟨k + 1, t + m, by omega, by go_num, by congr 1; omega, by omega, HN, HB2⟩
        case measure => simp [intOf]; omega
      · skip
        clear hc hcc hrd hx hnx hall hm b0 h1 b2
        go_wp2_with fail
        refine (sz_big _ _ _ _ _ _ _ _ _ HW.out H1.out (by omega) (by omega) (by omega)).mono ?_
        rintro e w2 ⟨rfl, hb2⟩
        have HB2 := Lib.hid (below_on HB.out hb2)
        clear hb2 u0 u1 u2
        go_wp2_with fail
        go_ret
        exact ⟨rfl, HB2.out⟩
    · obtain rfl : k = n := by omega
      have hall := wts_all (E := E) xs HL.out
      exact absurd HT.out (by have h2 := HT2.out; rw [hall] at h2; omega)
theorem szM_fits (p : Option Addr) (n c : Nat) (xs : List A) {S : Nat → Prop} (m : Nat) (left : Int) (w : World) (hm : n + wts E xs = m) (hr : RdD E S w p n xs) (h1 : left ≤ 1048576) (h : m ≤ left) : Calls Tryz.prog 38 #[.slice p n c, .int .i64 left] w (Val (.int .i64 (left - m)) w) := by
  subst hm
  exact szS_fits p n c xs left w hr h1 h
theorem szM_big (p : Option Addr) (n c : Nat) (xs : List A) {S : Nat → Prop} (m : Nat) (left : Int) (w : World) (hm : n + wts E xs = m) (hr : RdD E S w p n xs) (h0 : 0 ≤ left) (h1 : left ≤ 1048576) (h : left < m) : Calls Tryz.prog 38 #[.slice p n c, .int .i64 left] w (Val (.int .i64 (-1)) w) := by
  subst hm
  exact szS_big p n c xs left w hr h0 h1 h
end Go.Proofs.YtfojilogcecphaaGreat.DpPiece
