/- Contracts of the laws' helpers over pieces: opened, copied, compared, measured, marks written and found. -/
import Derived.Test.YtjaholcmaafenaaSlI
import Derived.Test.YtjaholcmaafenaaSlC
import Derived.Test.YtjaholcmaafenaaSlStr
import Derived.Test.YtjaholcmaafenaaBx
import Derived.Test.YtjaholcmaafenaaInt
import Derived.OpenShut
import Derived.Deep.Fields
import Derived.LoopTactic
import Derived.Outline
namespace Go.Proofs.Ytjaholcmaafenaa.SlPiece
open Go.ChangeShapes Go.WideShapes Go.ChangeAt Go.RowKit Sl St
set_option maxRecDepth 100000 in
theorem open_val {H : Type} {enc : TypeId × Value → H} {W : World} {base : Nat} {v : Value} {D : DataW H} {pl : List MemPlace} (h : DataW.Trod enc Try.prog W 0 (fun _ => true) true 93 v D pl) (hk : Value.okWide Try.prog W .any base 93 v) :
    ∃ (k : Int) (p : Option Addr) (n c : Nat) (m : Int) (zs : List Int), v = .agg #[.int .i64 k, .slice p n c, .int .i64 m] ∧ Rd .i64 W p n zs ∧ (-9223372036854775808 ≤ k ∧ k ≤ 9223372036854775807) ∧ (-9223372036854775808 ≤ m ∧ m ≤ 9223372036854775807) := by
  have hi : ∃ f0 f1 f2 : Field, Try.prog.underlying 93 = some (.struct #[f0, f1, f2]) ∧ f0.offset = 0 ∧ f1.offset = 1 ∧ f2.offset = 2 ∧ f0.type = 3 ∧ f1.type = 27 ∧ f2.type = 3 ∧ Try.prog.cellsOf 3 = 1 ∧ Try.prog.cellsOf 27 = 1 ∧ Try.prog.cellsOf 93 = 3 := ⟨_, _, _, Try.underlying93, by kernel_rfl, by kernel_rfl, by kernel_rfl, by kernel_rfl, by kernel_rfl, by kernel_rfl, by kernel_rfl, by kernel_rfl, by kernel_rfl⟩
  obtain ⟨f0, f1, f2, hs, o0, o1, o2, t0, t1, t2, c0, c1, c3⟩ := hi
  obtain ⟨cs, rfl, hsz⟩ := okWide_struct hs hk
  obtain ⟨fuel, hf⟩ := h
  have hl : cs.toList.length = 3 := by simp only [Array.length_toList]; rw [hsz, c3]
  simp only [Value.cells] at hf
  generalize hcl : cs.toList = l at hf hl
  obtain ⟨y0, y1, y2, n', _, _, h0, h1, h2⟩ := Go.Deep.trod_struct3 hs hf
  rw [o0, t0, c0] at h0
  rw [o1, t1, c1] at h1
  rw [o2, t2, c0] at h2
  obtain ⟨e0, e1, e2, rfl⟩ : ∃ e0 e1 e2, l = [e0, e1, e2] := by
    match l, hl with
    | [e0, e1, e2], _ => exact ⟨e0, e1, e2, rfl⟩
  simp only [List.drop_zero, List.take_succ_cons, List.take_zero, List.drop_succ_cons] at h0 h1 h2
  obtain ⟨k, hz0, _, w0⟩ := DataW.trod_int Try.underlying3 h0
  obtain ⟨p, n, c, zs, hz1, hr⟩ := SlStr.open_cellsI h1
  obtain ⟨m, hz2, _, w2⟩ := DataW.trod_int Try.underlying3 h2
  simp only [List.cons.injEq, and_true] at hz0 hz1 hz2
  refine ⟨k, p, n, c, m, zs, ?_, hr, bounds_i64 w0, bounds_i64 w2⟩
  have : cs = #[.int .i64 k, .slice p n c, .int .i64 m] := by
    apply Array.ext'
    rw [hcl, hz0, hz1, hz2]
  rw [this]
theorem bx3 {w : World} {g : Nat} {T : TypeId} {x0 x1 x2 : Value} (h : Bx w g T #[x0, x1, x2]) : w.cell? ⟨g, 0, none⟩ = some x0 ∧ w.cell? ⟨g, 1, none⟩ = some x1 ∧ w.cell? ⟨g, 2, none⟩ = some x2 := ⟨h.cell rfl, h.cell rfl, h.cell rfl⟩
/-- The call answers a piece whose numbers lie in memory of its own, whatever the capacity says; what lay before is as it was. -/
def Makes (k : Int) (zs : List Int) (m : Int) (w : World) (e : Ending) (w' : World) : Prop := ∃ (p : Option Addr) (n c d : Nat), e = .returned (.agg #[.int .i64 k, .slice p n c, .int .i64 m]) ∧ Ow .i64 3 w' w.heap.size w'.heap.size p n d zs ∧ Below w.heap.size w w'
def Yes (w : World) (e : Ending) (w' : World) : Prop := e = .returned (.bool true) ∧ Below w.heap.size w w'
def Val (v : Value) (w : World) (e : Ending) (w' : World) : Prop := e = .returned v ∧ Below w.heap.size w w'
theorem box1 (w : World) (o : Obj) : Below w.heap.size w (w.alloc o) := (Below.refl _ _).alloc (Nat.le_refl _) _
theorem grown_set {w : World} (g j : Nat) (v : Value) : w.grownBy (w.setCell ⟨g, j, none⟩ v) (some g) := ⟨rfl, rfl, rfl, by simp [World.setCell], fun i hi hne => Below.heap_setCell w ⟨g, j, none⟩ v i (by rintro rfl; exact hne rfl)⟩
set_option maxRecDepth 100000 in
set_option maxHeartbeats 4000000 in
theorem to_any (k : Int) (p : Option Addr) (n c : Nat) (m : Int) (zs : List Int) (w : World) (hr : Rd .i64 w p n zs) (hn : n ≤ 1048576) : Calls Try.prog 52 #[.agg #[.int .i64 k, .slice p n c, .int .i64 m]] w fun e w' => ∃ (p1 : Option Addr) (n1 c1 : Nat), e = .returned (.agg #[.int .i64 k, .slice p1 n1 c1, .int .i64 m]) ∧ Ow .i64 3 w' w.heap.size w'.heap.size p1 n1 c1 zs ∧ Below w.heap.size w w' := by
  have b0 := ((Bx.new w 93 #[.int .i64 k, .slice p n c, .int .i64 m]).alloc (.cells #[.int .i64 0, .slice none 0 0, .int .i64 0] 97)).alloc (.cells #[.int .i64 k, .slice none 0 0, .int .i64 0] 97)
  have b1 := (Bx.new (w.alloc (.cells #[.int .i64 k, .slice p n c, .int .i64 m] 93)) 97 #[.int .i64 0, .slice none 0 0, .int .i64 0]).alloc (.cells #[.int .i64 k, .slice none 0 0, .int .i64 0] 97)
  have b2 := Bx.new ((w.alloc (.cells #[.int .i64 k, .slice p n c, .int .i64 m] 93)).alloc (.cells #[.int .i64 0, .slice none 0 0, .int .i64 0] 97)) 97 #[.int .i64 k, .slice none 0 0, .int .i64 0]
  rw [World.size_alloc] at b1
  rw [World.size_alloc, World.size_alloc] at b2
  have HA := Lib.hid b0
  have HR := Lib.hid b1
  have HO := Lib.hid b2
  have HB : Hid (Below w.heap.size w (((w.alloc (.cells #[.int .i64 k, .slice p n c, .int .i64 m] 93)).alloc (.cells #[.int .i64 0, .slice none 0 0, .int .i64 0] 97)).alloc (.cells #[.int .i64 k, .slice none 0 0, .int .i64 0] 97))) := Lib.hid ((((Below.refl w.heap.size w).alloc (Nat.le_refl _) _).alloc (by simp) _).alloc (by simp; omega) _)
  have HSZ : Hid ((((w.alloc (.cells #[.int .i64 k, .slice p n c, .int .i64 m] 93)).alloc (.cells #[.int .i64 0, .slice none 0 0, .int .i64 0] 97)).alloc (.cells #[.int .i64 k, .slice none 0 0, .int .i64 0] 97)).heap.size = w.heap.size + 3) := Lib.hid (by simp)
  have HP := Lib.hid hr
  clear b0 b1 b2 hr
  go_enter Try.func52, Try.ntmps52
  go_wp2_with fail
  generalize (((w.alloc (.cells #[.int .i64 k, .slice p n c, .int .i64 m] 93)).alloc (.cells #[.int .i64 0, .slice none 0 0, .int .i64 0] 97)).alloc (.cells #[.int .i64 k, .slice none 0 0, .int .i64 0] 97)) = V at HA HR HO HB HSZ ⊢
  refine (SlI.to_any _ _ _ _ _ (HP.out.below HB.out) (by omega)).mono ?_
  rintro e w1 ⟨p1, n1, c1, rfl, ho, hb⟩
  have hs1 := hb.size
  have hs0 := HSZ.out
  have HA1 := Lib.hid (HA.out.below hb)
  have HR1 := Lib.hid (HR.out.below hb)
  have HO1 := Lib.hid (HO.out.below hb)
  have HB1 := Lib.hid (below_on HB.out hb)
  have HP1 := Lib.hid ho
  obtain ⟨a0, a1, a2⟩ := bx3 HA1.out
  obtain ⟨o0, o1, o2⟩ := bx3 HO1.out
  obtain ⟨r0, r1, r2⟩ := bx3 HR1.out
  have of1 := HO1.out.free 1
  have of2 := HO1.out.free 2
  have rf0 := HR1.out.free 0
  have rf1 := HR1.out.free 1
  have rf2 := HR1.out.free 2
  clear ho hb
  go_wp2_with fail
  refine bodyPost_ret (v := .agg #[.int .i64 k, .slice p1 n1 c1, .int .i64 m]) (by simp [results, Try.results52, go_sem, r0, r1, r2]) rfl ⟨p1, n1, c1, rfl, ?_, ((((HB1.out.setCell (p := ⟨w.heap.size + 1 + 1, 1, none⟩) (by simp; omega) _).setCell (p := ⟨w.heap.size + 1 + 1, 2, none⟩) (by simp; omega) _).setCell (p := ⟨w.heap.size + 1, 0, none⟩) (by simp) _).setCell (p := ⟨w.heap.size + 1, 1, none⟩) (by simp) _).setCell (p := ⟨w.heap.size + 1, 2, none⟩) (by simp) _⟩
  exact (((((HP1.out.kept (grown_set _ _ _) (fun g e => by cases e; omega)).kept (grown_set _ _ _) (fun g e => by cases e; omega)).kept (grown_set _ _ _) (fun g e => by cases e; omega)).kept (grown_set _ _ _) (fun g e => by cases e; omega)).kept (grown_set _ _ _) (fun g e => by cases e; omega)).wide (by omega) (by simp [World.setCell]) (Nat.le_refl _)
set_option maxRecDepth 100000 in
set_option maxHeartbeats 4000000 in
theorem eq_any (k : Int) (p p' : Option Addr) (n c c' : Nat) (m : Int) (zs : List Int) (w : World) (hr : Rd .i64 w p n zs) (hr' : Rd .i64 w p' n zs) : Calls Try.prog 54 #[.agg #[.int .i64 k, .slice p n c, .int .i64 m], .agg #[.int .i64 k, .slice p' n c', .int .i64 m]] w (Yes w) := by
  have HP := Lib.hid hr
  have HP' := Lib.hid hr'
  have HB := Lib.hid ((box1 w (.cells #[.int .i64 k, .slice p n c, .int .i64 m] 97)).alloc (by simp) (.cells #[.int .i64 k, .slice p' n c', .int .i64 m] 97))
  have HX := Lib.hid ((Bx.new w 97 #[.int .i64 k, .slice p n c, .int .i64 m]).alloc (.cells #[.int .i64 k, .slice p' n c', .int .i64 m] 97))
  have hy := Bx.new (w.alloc (.cells #[.int .i64 k, .slice p n c, .int .i64 m] 97)) 97 #[.int .i64 k, .slice p' n c', .int .i64 m]
  rw [World.size_alloc] at hy
  have HY := Lib.hid hy
  clear hr hr' hy
  go_enter Try.func54, Try.ntmps54
  go_wp2_with fail
  refine (SlI.eq_any _ _ _ _ _ _ _ (HP.out.below HB.out) (HP'.out.below HB.out)).mono ?_
  rintro e w1 ⟨rfl, hb⟩
  have HB1 := Lib.hid (below_on HB.out hb)
  obtain ⟨x0, x1, x2⟩ := bx3 (HX.out.below hb)
  obtain ⟨y0, y1, y2⟩ := bx3 (HY.out.below hb)
  clear hb
  go_wp2_with fail
  go_ret
  exact ⟨rfl, HB1.out⟩
theorem szI_big (q : Option Addr) (m d : Nat) (left : Int) (w : World) (h0 : 0 ≤ left) (h1 : left ≤ 1048576) (h : left < m) (hn : m ≤ 9223372036854775807) : Calls Try.prog 66 #[.slice q m d, .int .i64 left] w fun e w' => e = .returned (.int .i64 (-1)) ∧ w = w' := by
  go_enter Try.func66, Try.ntmps66
  go_wp2_with fail
  go_ret
  exact ⟨rfl, rfl⟩
theorem szI_fits (q : Option Addr) (m d : Nat) (left : Int) (w : World) (h1 : left ≤ 1048576) (h : m ≤ left) : Calls Try.prog 66 #[.slice q m d, .int .i64 left] w fun e w' => e = .returned (.int .i64 (left - m)) ∧ w = w' := by
  go_enter Try.func66, Try.ntmps66
  go_wp2_with fail
  go_ret
  exact ⟨rfl, rfl⟩
set_option maxRecDepth 100000 in
theorem sz_fits (k : Int) (p : Option Addr) (n c : Nat) (m : Int) (left : Int) (w : World) (h1 : left ≤ 1048576) (h : n ≤ left) : Calls Try.prog 50 #[.agg #[.int .i64 k, .slice p n c, .int .i64 m], .int .i64 left] w (Val (.int .i64 (left - n)) w) := by
  have HB := Lib.hid (box1 w (.cells #[.int .i64 k, .slice p n c, .int .i64 m] 93))
  go_enter Try.func50, Try.ntmps50
  go_wp2_with fail
  refine (szI_fits _ _ _ _ _ (by omega) (by omega)).mono ?_
  rintro e w1 ⟨rfl, rfl⟩
  go_wp2_with fail
  go_ret
  exact ⟨rfl, HB.out⟩
set_option maxRecDepth 100000 in
theorem sz_big (k : Int) (p : Option Addr) (n c : Nat) (m : Int) (left : Int) (w : World) (h0 : 0 ≤ left) (h1 : left ≤ 1048576) (h : left < n) (hn : n ≤ 9223372036854775807) : Calls Try.prog 50 #[.agg #[.int .i64 k, .slice p n c, .int .i64 m], .int .i64 left] w (Val (.int .i64 (-1)) w) := by
  have HB := Lib.hid (box1 w (.cells #[.int .i64 k, .slice p n c, .int .i64 m] 93))
  go_enter Try.func50, Try.ntmps50
  go_wp2_with fail
  refine (szI_big _ _ _ _ _ (by omega) (by omega) (by omega) hn).mono ?_
  rintro e w1 ⟨rfl, rfl⟩
  go_wp2_with fail
  go_ret
  exact ⟨rfl, HB.out⟩
theorem grown_from {w w' : World} {o : Obj} {r : Option Nat} (h : (w.alloc o).grownBy w' r) : w.grownBy w' r :=
  ⟨h.os, h.tape, h.output, Nat.le_trans (by simp) h.size, fun i hi hne => (h.block i (by simp; omega) hne).trans (Below.heap_alloc w o i hi)⟩
set_option maxRecDepth 100000 in
theorem mark_any (lo hi : Nat) (k : Int) (p : Option Addr) (n c d : Nat) (mm : Int) (zs : List Int) (m : Int) (w : World) (ho : Ow .i64 3 w lo hi p n d zs) (hm : 0 ≤ m) (hm' : m + n ≤ 9223372036854775000) : Calls Try.prog 55 #[.agg #[.int .i64 k, .slice p n c, .int .i64 mm], .int .i64 m] w (SlI.Marked lo hi p n d m w) := by
  have HO := Lib.hid (ho.alloc (.cells #[.int .i64 k, .slice p n c, .int .i64 mm] 97))
  clear ho
  go_enter Try.func55, Try.ntmps55
  go_wp2_with fail
  refine (SlC.mark_any lo hi p n c d zs m _ HO.out hm hm').mono ?_
  rintro e w1 ⟨rfl, h1, h2⟩
  have H1 := Lib.hid h1
  have H2 := Lib.hid (grown_from h2)
  clear h1 h2
  go_wp2_with fail
  go_ret
  exact ⟨rfl, H1.out, H2.out⟩
end Go.Proofs.Ytjaholcmaafenaa.SlPiece
