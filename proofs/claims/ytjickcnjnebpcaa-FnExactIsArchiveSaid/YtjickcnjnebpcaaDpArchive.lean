/- Contracts of the laws' helpers over Archive: opened, measured, copied, compared; by value and in slices. -/
import Derived.Test.YtjickcnjnebpcaaEd
import Derived.Test.YtjickcnjnebpcaaDz
import Derived.Test.YtjickcnjnebpcaaSlI
import Derived.Test.YtjickcnjnebpcaaSlI
import Derived.Test.YtjickcnjnebpcaaDpItem
import Derived.OpenShut
import Derived.Deep.Fields
import Derived.Deep.RegionHeld3
import Derived.LoopTactic
import Derived.Outline
namespace Go.Proofs.Ytjickcnjnebpcaa.DpArchive
open Go.ChangeShapes Go.WideShapes Go.ChangeAt Go.RowKit Sl St Ed Dz
abbrev A := Int × (List DpItem.A)
def E : Ent A := pair int (sl DpItem.E)
theorem C_eq : E.C = 2 := rfl
theorem exk {S : Nat → Prop} {w : World} {cs : List Value} {x0 : Int} {l1 : List DpItem.A} (h : E.rd S w cs (x0, l1)) : ∃ (p1 : Option Addr) (n1 c1 : Nat), cs = [.int .i64 x0, .slice p1 n1 c1] ∧ InI x0 ∧ RdD DpItem.E S w p1 n1 l1 ∧ n1 ≤ c1 := by
  obtain ⟨d0, e0, rfl, ⟨rfl, b0⟩, p1, n1, c1, rfl, k1, h1⟩ := h
  exact ⟨p1, n1, c1, rfl, b0, h1, k1⟩
theorem ex {S : Nat → Prop} {w : World} {cs : List Value} {x0 : Int} {l1 : List DpItem.A} (h : E.rd S w cs (x0, l1)) : ∃ (p1 : Option Addr) (n1 c1 : Nat), cs = [.int .i64 x0, .slice p1 n1 c1] ∧ InI x0 ∧ RdD DpItem.E S w p1 n1 l1 := by
  obtain ⟨p1, n1, c1, e, b0, h1, _⟩ := exk h
  exact ⟨p1, n1, c1, e, b0, h1⟩
theorem mk {S : Nat → Prop} {w : World} {x0 : Int} {l1 : List DpItem.A} {p1 : Option Addr} {n1 c1 : Nat} (b0 : InI x0) (h1 : RdD DpItem.E S w p1 n1 l1) (k1 : n1 ≤ c1) : E.rd S w [.int .i64 x0, .slice p1 n1 c1] (x0, l1) :=
  ⟨[.int .i64 x0], [.slice p1 n1 c1], rfl, ⟨rfl, b0⟩, ⟨p1, n1, c1, rfl, k1, h1⟩⟩
theorem bxc {w : World} {g : Nat} {T : TypeId} {y0 : Value} {y1 : Value} (h : Bx w g T #[y0, y1]) : w.cell? ⟨g, 0, none⟩ = some y0 ∧ w.cell? ⟨g, 1, none⟩ = some y1 := ⟨h.cell rfl, h.cell rfl⟩
theorem wt_eq (x0 : Int) (l1 : List DpItem.A) : E.wt (x0, l1) = (l1.length + wts DpItem.E l1) := by
  show 0 + ((l1.length + wts DpItem.E l1)) = _
  omega
section
variable {H : Type} {enc : TypeId × Value → H} {W : World}
set_option maxRecDepth 100000 in
theorem open_cells {fuel : Nat} {cs : List Value} {X : DataW H × List MemPlace} (hl : cs.length = 2) (h : DataW.trod enc Try.prog W 0 (fun _ => true) true fuel 49 cs = some X) : ∃ x, E.rd (fun _ => True) W cs x := by
  have hi : ∃ f0 f1 : Field, Try.prog.underlying 49 = some (.struct #[f0, f1]) ∧ f0.offset = 0 ∧ f1.offset = 1 ∧ f0.type = 3 ∧ f1.type = 47 ∧ Try.prog.cellsOf 3 = 1 ∧ Try.prog.cellsOf 47 = 1 := ⟨_, _, Try.underlying49, by kernel_rfl, by kernel_rfl, by kernel_rfl, by kernel_rfl, by kernel_rfl, by kernel_rfl⟩
  obtain ⟨f0, f1, hs, o0, o1, t0, t1, z0, z1⟩ := hi
  obtain ⟨ys, n, _, _, _, hlen, hf⟩ := DataW.trod_struct hs h
  match ys, hlen with
  | [y0, y1], _ =>
    have r0 := hf 0 f0 rfl
    have r1 := hf 1 f1 rfl
    simp only [List.getElem?_cons_zero, List.getElem?_cons_succ] at r0 r1
    rw [o0, t0, z0] at r0
    rw [o1, t1, z1] at r1
    obtain ⟨v0, q0⟩ : ∃ x, Ent.rd int (fun _ => True) W ((cs.drop 0).take 1) x := o_int Try.underlying3 r0
    obtain ⟨v1, q1⟩ : ∃ x, Ent.rd (sl DpItem.E) (fun _ => True) W ((cs.drop 1).take 1) x := o_sl Try.underlying47 (by kernel_rfl) (fun hl h => DpItem.open_cells hl h) r1
    exact ⟨_, rd_first (rd_next (o := 0) (o' := 1) rfl rfl q0 (rd_last (o := 1) (by simp [hl]) q1))⟩
set_option maxRecDepth 100000 in
theorem open_valk {base : Nat} {v : Value} {d : DataW H} {pl : List MemPlace} (h : DataW.Trod enc Try.prog W 0 (fun _ => true) true 49 v d pl) (hk : Value.okWide Try.prog W .any base 49 v) : ∃ (x0 : Int) (l1 : List DpItem.A) (p1 : Option Addr) (n1 c1 : Nat), v = .agg #[.int .i64 x0, .slice p1 n1 c1] ∧ InI x0 ∧ RdD DpItem.E (fun _ => True) W p1 n1 l1 ∧ n1 ≤ c1 := by
  have hu : ∃ fs, Try.prog.underlying 49 = some (.struct fs) ∧ Try.prog.cellsOf 49 = 2 := ⟨_, Try.underlying49, by kernel_rfl⟩
  obtain ⟨fs, hs, hC⟩ := hu
  obtain ⟨cs, rfl, hsz⟩ := okWide_struct hs hk
  obtain ⟨fuel, hf⟩ := h
  simp only [Value.cells] at hf
  obtain ⟨x, hx⟩ := open_cells (by rw [Array.length_toList, hsz, hC]) hf
  obtain ⟨x0, l1⟩ := x
  obtain ⟨p1, n1, c1, hc, b0, h1, k1⟩ := exk hx
  exact ⟨x0, l1, p1, n1, c1, congrArg Value.agg (Array.ext' hc), b0, h1, k1⟩
set_option maxRecDepth 100000 in
theorem open_val {base : Nat} {v : Value} {d : DataW H} {pl : List MemPlace} (h : DataW.Trod enc Try.prog W 0 (fun _ => true) true 49 v d pl) (hk : Value.okWide Try.prog W .any base 49 v) : ∃ (x0 : Int) (l1 : List DpItem.A) (p1 : Option Addr) (n1 c1 : Nat), v = .agg #[.int .i64 x0, .slice p1 n1 c1] ∧ InI x0 ∧ RdD DpItem.E (fun _ => True) W p1 n1 l1 := by
  have hu : ∃ fs, Try.prog.underlying 49 = some (.struct fs) ∧ Try.prog.cellsOf 49 = 2 := ⟨_, Try.underlying49, by kernel_rfl⟩
  obtain ⟨fs, hs, hC⟩ := hu
  obtain ⟨cs, rfl, hsz⟩ := okWide_struct hs hk
  obtain ⟨fuel, hf⟩ := h
  simp only [Value.cells] at hf
  obtain ⟨x, hx⟩ := open_cells (by rw [Array.length_toList, hsz, hC]) hf
  obtain ⟨x0, l1⟩ := x
  obtain ⟨p1, n1, c1, hc, b0, h1⟩ := ex hx
  exact ⟨x0, l1, p1, n1, c1, congrArg Value.agg (Array.ext' hc), b0, h1⟩
end
set_option maxRecDepth 100000 in
set_option maxHeartbeats 4000000 in
theorem toK_any (x0 : Int) (l1 : List DpItem.A) (p1 : Option Addr) (n1 c1 : Nat) {S1 : Nat → Prop} (w : World) (h1 : RdD DpItem.E S1 w p1 n1 l1) (hm : E.wt (x0, l1) ≤ 1048576) : Calls Try.prog 15 #[.agg #[.int .i64 x0, .slice p1 n1 c1]] w fun e w' => ∃ (p1' : Option Addr) (c1' : Nat), e = .returned (.agg #[.int .i64 x0, .slice p1' n1 c1']) ∧ RdD DpItem.E (fun b => w.heap.size ≤ b) w' p1' n1 l1 ∧ n1 ≤ c1' ∧ Below w.heap.size w w' := by
  rw [wt_eq] at hm
  have k1 := h1.len
  have m1 : n1 + wts DpItem.E l1 ≤ 1048576 := by omega
  have HP1 := Lib.hid h1
  clear hm h1 k1
  have b0 := ((Bx.new w 49 #[.int .i64 x0, .slice p1 n1 c1]).alloc (.cells #[.int .i64 0, .slice none 0 0] 54)).alloc (.cells #[.int .i64 x0, .slice none 0 0] 54)
  have b1 := (Bx.new (w.alloc (.cells #[.int .i64 x0, .slice p1 n1 c1] 49)) 54 #[.int .i64 0, .slice none 0 0]).alloc (.cells #[.int .i64 x0, .slice none 0 0] 54)
  have b2 := Bx.new ((w.alloc (.cells #[.int .i64 x0, .slice p1 n1 c1] 49)).alloc (.cells #[.int .i64 0, .slice none 0 0] 54)) 54 #[.int .i64 x0, .slice none 0 0]
  rw [World.size_alloc] at b1
  rw [World.size_alloc, World.size_alloc] at b2
  have HA := Lib.hid b0
  have HR := Lib.hid b1
  have HO := Lib.hid b2
  have HB : Hid (Below w.heap.size w (((w.alloc (.cells #[.int .i64 x0, .slice p1 n1 c1] 49)).alloc (.cells #[.int .i64 0, .slice none 0 0] 54)).alloc (.cells #[.int .i64 x0, .slice none 0 0] 54))) := Lib.hid ((((Below.refl w.heap.size w).alloc (Nat.le_refl _) _).alloc (by simp) _).alloc (by simp; omega) _)
  have HSZ : Hid (w.heap.size + 3 ≤ (((w.alloc (.cells #[.int .i64 x0, .slice p1 n1 c1] 49)).alloc (.cells #[.int .i64 0, .slice none 0 0] 54)).alloc (.cells #[.int .i64 x0, .slice none 0 0] 54)).heap.size) := Lib.hid (by simp)
  clear b0 b1 b2
  go_enter Try.func15, Try.ntmps15
  go_wp2_with fail
  generalize (((w.alloc (.cells #[.int .i64 x0, .slice p1 n1 c1] 49)).alloc (.cells #[.int .i64 0, .slice none 0 0] 54)).alloc (.cells #[.int .i64 x0, .slice none 0 0] 54)) = V at HA HR HO HB HSZ ⊢
  obtain ⟨a0, a1⟩ := bxc HA.out
  refine (DpItem.toSK_any _ _ _ _ _ (HP1.out.below HB.out) m1).mono ?_
  rintro e w1 ⟨p1', c1', rfl, ho, hk, hb⟩
  have HK1 := Lib.hid hk
  clear hk
  have HQ1 : Hid (RdD DpItem.E (fun b => w.heap.size + 3 ≤ b) w1 p1' n1 l1) := Lib.hid (ho.mono fun b hb => Nat.le_trans HSZ.out hb)
  clear ho
  clear a0 a1
  replace HA := Lib.hid (HA.out.below hb)
  replace HR := Lib.hid (HR.out.below hb)
  replace HO := Lib.hid (HO.out.below hb)
  replace HB := Lib.hid (below_on HB.out hb)
  replace HSZ := Lib.hid (Nat.le_trans HSZ.out hb.size)
  clear hb
  obtain ⟨a0, a1⟩ := bxc HA.out
  obtain ⟨q0, q1⟩ := bxc HO.out
  have g1 := HO.out.free 1
  obtain ⟨r0, r1⟩ := bxc HR.out
  have s0 := HR.out.free 0
  have s1 := HR.out.free 1
  go_wp2_with fail
  exact bodyPost_ret (v := .agg #[.int .i64 x0, .slice p1' n1 c1']) (by simp [results, Try.results15, go_sem, r0, r1]) rfl ⟨p1', c1', rfl, (((((HQ1.out.far (q := ⟨w.heap.size + 1 + 1, 1, none⟩) (by show ¬ (w.heap.size + 3 ≤ w.heap.size + 1 + 1); omega) (.slice p1' n1 c1')).far (q := ⟨w.heap.size + 1, 0, none⟩) (by show ¬ (w.heap.size + 3 ≤ w.heap.size + 1); omega) (.int .i64 x0)).far (q := ⟨w.heap.size + 1, 1, none⟩) (by show ¬ (w.heap.size + 3 ≤ w.heap.size + 1); omega) (.slice p1' n1 c1'))).mono fun b hb => by omega), HK1.out, (((HB.out.setCell (p := ⟨w.heap.size + 1 + 1, 1, none⟩) (by show w.heap.size ≤ w.heap.size + 1 + 1; omega) (.slice p1' n1 c1')).setCell (p := ⟨w.heap.size + 1, 0, none⟩) (by show w.heap.size ≤ w.heap.size + 1; omega) (.int .i64 x0)).setCell (p := ⟨w.heap.size + 1, 1, none⟩) (by show w.heap.size ≤ w.heap.size + 1; omega) (.slice p1' n1 c1'))⟩
theorem to_any (x0 : Int) (l1 : List DpItem.A) (p1 : Option Addr) (n1 c1 : Nat) {S1 : Nat → Prop} (w : World) (h1 : RdD DpItem.E S1 w p1 n1 l1) (hm : E.wt (x0, l1) ≤ 1048576) : Calls Try.prog 15 #[.agg #[.int .i64 x0, .slice p1 n1 c1]] w fun e w' => ∃ (p1' : Option Addr) (c1' : Nat), e = .returned (.agg #[.int .i64 x0, .slice p1' n1 c1']) ∧ RdD DpItem.E (fun b => w.heap.size ≤ b) w' p1' n1 l1 ∧ Below w.heap.size w w' := by
  refine (toK_any x0 l1 p1 n1 c1 w h1 hm).mono ?_
  rintro e w' ⟨p1', c1', he, o1, _, hb⟩
  exact ⟨p1', c1', he, o1, hb⟩
set_option maxRecDepth 100000 in
set_option maxHeartbeats 4000000 in
theorem eq_any (x0 : Int) (l1 : List DpItem.A) (p1 p1' : Option Addr) (n1 c1 c1' : Nat) {S1 S1' : Nat → Prop} (w : World) (h1 : RdD DpItem.E S1 w p1 n1 l1) (h1' : RdD DpItem.E S1' w p1' n1 l1) : Calls Try.prog 17 #[.agg #[.int .i64 x0, .slice p1 n1 c1], .agg #[.int .i64 x0, .slice p1' n1 c1']] w (Yes w) := by
  have HP1 := Lib.hid h1
  have HP1' := Lib.hid h1'
  clear h1 h1'
  have HB := Lib.hid ((box1 w (.cells #[.int .i64 x0, .slice p1 n1 c1] 54)).alloc (by simp) (.cells #[.int .i64 x0, .slice p1' n1 c1'] 54))
  have HX := Lib.hid ((Bx.new w 54 #[.int .i64 x0, .slice p1 n1 c1]).alloc (.cells #[.int .i64 x0, .slice p1' n1 c1'] 54))
  have hy := Bx.new (w.alloc (.cells #[.int .i64 x0, .slice p1 n1 c1] 54)) 54 #[.int .i64 x0, .slice p1' n1 c1']
  rw [World.size_alloc] at hy
  have HY := Lib.hid hy
  clear hy
  go_enter Try.func17, Try.ntmps17
  go_wp2_with fail
  refine (DpItem.eqS_any _ _ _ _ _ _ _ (HP1.out.below HB.out) (HP1'.out.below HB.out)).mono ?_
  rintro e w1 ⟨rfl, hb⟩
  replace HB := Lib.hid (below_on HB.out hb)
  replace HX := Lib.hid (HX.out.below hb)
  replace HY := Lib.hid (HY.out.below hb)
  clear hb
  obtain ⟨x0_, x1_⟩ := bxc HX.out
  obtain ⟨y0_, y1_⟩ := bxc HY.out
  go_wp2_with fail
  go_ret
  exact ⟨rfl, HB.out⟩
set_option maxRecDepth 100000 in
set_option maxHeartbeats 4000000 in
theorem sz_fits (x0 : Int) (l1 : List DpItem.A) (p1 : Option Addr) (n1 c1 : Nat) {S1 : Nat → Prop} (m : Nat) (left : Int) (w : World) (hm : E.wt (x0, l1) = m) (h1 : RdD DpItem.E S1 w p1 n1 l1) (g1 : left ≤ 1048576) (g2 : m ≤ left) : Calls Try.prog 13 #[.agg #[.int .i64 x0, .slice p1 n1 c1], .int .i64 left] w (Val (.int .i64 (left - m)) w) := by
  rw [wt_eq] at hm
  have k1 := h1.len
  have e1 := h1.le
  have HP1 := Lib.hid h1
  have m0 : (n1 + wts DpItem.E l1) = (n1 + wts DpItem.E l1) := rfl
  have ht : (n1 + wts DpItem.E l1) = m := by omega
  clear hm h1 k1 m0 
  subst ht
  have HB := Lib.hid (box1 w (.cells #[.int .i64 x0, .slice p1 n1 c1] 49))
  have HX := Lib.hid (Bx.new w 49 #[.int .i64 x0, .slice p1 n1 c1])
  go_enter Try.func13, Try.ntmps13
  go_wp2_with fail
  refine (DpItem.szS_fits _ _ _ _ _ _ (HP1.out.below HB.out) (by omega) (by omega)).mono ?_
  rintro e w1 ⟨rfl, hb⟩
  replace HB := Lib.hid (below_on HB.out hb)
  replace HX := Lib.hid (HX.out.below hb)
  clear hb
  go_wp2_with fail
  go_ret
  refine val_of ?_ HB.out
  show Value.int .i64 (left - ((((n1 + wts DpItem.E l1)) : Nat) : Int)) = _
  first | rfl | (congr 1; omega)
set_option maxRecDepth 100000 in
set_option maxHeartbeats 4000000 in
theorem sz_big (x0 : Int) (l1 : List DpItem.A) (p1 : Option Addr) (n1 c1 : Nat) {S1 : Nat → Prop} (m : Nat) (left : Int) (w : World) (hm : E.wt (x0, l1) = m) (h1 : RdD DpItem.E S1 w p1 n1 l1) (g0 : 0 ≤ left) (g1 : left ≤ 1048576) (g2 : left < m) : Calls Try.prog 13 #[.agg #[.int .i64 x0, .slice p1 n1 c1], .int .i64 left] w (Val (.int .i64 (-1)) w) := by
  rw [wt_eq] at hm
  have k1 := h1.len
  have e1 := h1.le
  have HP1 := Lib.hid h1
  have m0 : (n1 + wts DpItem.E l1) = (n1 + wts DpItem.E l1) := rfl
  have ht : (n1 + wts DpItem.E l1) = m := by omega
  clear hm h1 k1 m0 
  subst ht
  have G := Lib.hid g2
  clear g2
  have HB := Lib.hid (box1 w (.cells #[.int .i64 x0, .slice p1 n1 c1] 49))
  have HX := Lib.hid (Bx.new w 49 #[.int .i64 x0, .slice p1 n1 c1])
  go_enter Try.func13, Try.ntmps13
  go_wp2_with fail
  refine (DpItem.szS_big _ _ _ _ _ _ (HP1.out.below HB.out) (by omega) (by omega) (by have := G.out; omega)).mono ?_
  rintro e w1 ⟨rfl, hb⟩
  replace HB := Lib.hid (below_on HB.out hb)
  replace HX := Lib.hid (HX.out.below hb)
  clear hb
  go_wp2_with fail
  go_ret
  exact ⟨rfl, HB.out⟩
theorem at_cells {w : World} {b q : Nat} {v0 : Value} {v1 : Value} (h : ∀ j v, [v0, v1][j]? = some v → w.cell? ⟨b, q + j, none⟩ = some v) : w.cell? ⟨b, q, none⟩ = some v0 ∧ w.cell? ⟨b, q + 1, none⟩ = some v1 := ⟨h 0 _ rfl, h 1 _ rfl⟩
theorem info : (Try.prog.info? 54).map (fun i => (i.zero, i.size, i.bytes)) = some (some (.agg #[.int .i64 0, .slice none 0 0]), 2, 32) := by kernel_rfl
end Go.Proofs.Ytjickcnjnebpcaa.DpArchive
