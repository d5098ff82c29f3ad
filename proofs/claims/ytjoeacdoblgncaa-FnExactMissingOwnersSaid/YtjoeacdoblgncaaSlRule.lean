/- The laws' helpers over a rule for signing together: opened, copied, compared, measured. -/
import Derived.Test.YtjoeacdoblgncaaSlI
import Derived.Test.YtjoeacdoblgncaaStM
import Derived.Test.YtjoeacdoblgncaaBx
import Derived.OpenShut
import Derived.Deep.Fields
import Derived.Deep.Strs
import Derived.LoopTactic
import Derived.Outline
namespace Go.Proofs.Ytjoeacdoblgncaa.SlRule
open Go.ChangeShapes Go.WideShapes Go.ChangeAt Go.RowKit Sl St
set_option maxRecDepth 100000 in
theorem open_cellsI {H : Type} {enc : TypeId × Value → H} {W : World} {fuel : Nat} {cs : List Value} {x : DataW H × List MemPlace} (h : DataW.trod enc Try.prog W 0 (fun _ => true) true fuel 23 cs = some x) :
    ∃ p n c zs, cs = [.slice p n c] ∧ Rd .i64 W p n zs := by
  have c1 : Try.prog.cellsOf 3 = 1 := by kernel_rfl
  rcases open_ints Try.underlying23 Try.underlying3 c1 h with ⟨hcs, _⟩ | ⟨a, len, cap, zs, hcs, _, hl, hm, hz, _, hcell, hwz⟩
  · exact ⟨_, _, _, [], hcs, Rd.nil_ _ _ _⟩
  · simp only [if_true] at hz
    refine ⟨_, _, _, zs.take len, hcs, by rw [List.length_take]; omega, by omega, fun x hx => SlI.wf_in (hwz x (List.mem_of_mem_take hx)), fun hpos => ?_⟩
    obtain ⟨ab, ao, spot⟩ := a
    have hspot : spot = none := by simpa [Addr.add] using World.cell?_spot (hcell 0 (by omega))
    subst hspot
    refine ⟨ab, ao, rfl, World.block_lt_of_cell? W _ (hcell 0 (by omega)), fun j hj => ?_⟩
    have hcj := hcell j (by omega)
    rw [Addr.add_lit] at hcj
    rw [getD_take _ hj]
    exact hcj
set_option maxRecDepth 100000 in
theorem open_val {H : Type} {enc : TypeId × Value → H} {W : World} {base : Nat} {v : Value} {D : DataW H} {pl : List MemPlace} (h : DataW.Trod enc Try.prog W 0 (fun _ => true) true 25 v D pl) (hk : Value.okWide Try.prog W .any base 25 v) :
    ∃ (p : Option Addr) (n c : Nat) (m : Bool) (zs : List Int), v = .agg #[.slice p n c, .bool m] ∧ Rd .i64 W p n zs := by
  have hi : ∃ f0 f1 : Field, Try.prog.underlying 25 = some (.struct #[f0, f1]) ∧ f0.offset = 0 ∧ f1.offset = 1 ∧ f0.type = 23 ∧ f1.type = 4 ∧ Try.prog.cellsOf 23 = 1 ∧ Try.prog.cellsOf 4 = 1 ∧ Try.prog.cellsOf 25 = 2 := ⟨_, _, Try.underlying25, by kernel_rfl, by kernel_rfl, by kernel_rfl, by kernel_rfl, by kernel_rfl, by kernel_rfl, by kernel_rfl⟩
  obtain ⟨f0, f1, hs, o0, o1, t0, t1, c0, c1, c3⟩ := hi
  obtain ⟨cs, rfl, hsz⟩ := okWide_struct hs hk
  obtain ⟨fuel, hf⟩ := h
  have hl : cs.toList.length = 2 := by simp only [Array.length_toList]; rw [hsz, c3]
  simp only [Value.cells] at hf
  generalize hcl : cs.toList = l at hf hl
  obtain ⟨xs, n', _, _, _, hlen, hfe⟩ := DataW.trod_struct hs hf
  match xs, hlen with
  | [y0, y1], _ =>
    have h0 := hfe 0 f0 rfl
    have h1 := hfe 1 f1 rfl
    simp only [List.getElem?_cons_zero, List.getElem?_cons_succ] at h0 h1
    rw [o0, t0, c0] at h0
    rw [o1, t1, c1] at h1
    obtain ⟨e0, e1, rfl⟩ : ∃ e0 e1, l = [e0, e1] := by
      match l, hl with
      | [e0, e1], _ => exact ⟨e0, e1, rfl⟩
    simp only [List.drop_zero, List.take_succ_cons, List.take_zero, List.drop_succ_cons] at h0 h1
    obtain ⟨p, n, c, zs, hz0, hr⟩ := open_cellsI h0
    obtain ⟨m, hz1, _⟩ := DataW.trod_bool Try.underlying4 h1
    simp only [List.cons.injEq, and_true] at hz0 hz1
    refine ⟨p, n, c, m, zs, ?_, hr⟩
    have : cs = #[.slice p n c, .bool m] := by
      apply Array.ext'
      rw [hcl, hz0, hz1]
    rw [this]
theorem bx2 {w : World} {g : Nat} {T : TypeId} {x0 x1 : Value} (h : Bx w g T #[x0, x1]) : w.cell? ⟨g, 0, none⟩ = some x0 ∧ w.cell? ⟨g, 1, none⟩ = some x1 := ⟨h.cell rfl, h.cell rfl⟩
def Yes (w : World) (e : Ending) (w' : World) : Prop := e = .returned (.bool true) ∧ Below w.heap.size w w'
def Val (v : Value) (w : World) (e : Ending) (w' : World) : Prop := e = .returned v ∧ Below w.heap.size w w'
theorem box1 (w : World) (o : Obj) : Below w.heap.size w (w.alloc o) := (Below.refl _ _).alloc (Nat.le_refl _) _
theorem grown_set {w : World} (g j : Nat) (v : Value) : w.grownBy (w.setCell ⟨g, j, none⟩ v) (some g) := ⟨rfl, rfl, rfl, by simp [World.setCell], fun i hi hne => Below.heap_setCell w ⟨g, j, none⟩ v i (by rintro rfl; exact hne rfl)⟩
set_option maxRecDepth 100000 in
set_option maxHeartbeats 4000000 in
theorem to_any (p : Option Addr) (n c : Nat) (m : Bool) (zs : List Int) (w : World) (hr : Rd .i64 w p n zs) (hn : n ≤ 1048576) : Calls Try.prog 14 #[.agg #[.slice p n c, .bool m]] w fun e w' => ∃ (p1 : Option Addr) (n1 c1 : Nat), e = .returned (.agg #[.slice p1 n1 c1, .bool m]) ∧ Ow .i64 3 w' w.heap.size w'.heap.size p1 n1 c1 zs ∧ Below w.heap.size w w' := by
  have b0 := ((Bx.new w 25 #[.slice p n c, .bool m]).alloc (.cells #[.slice none 0 0, .bool false] 33)).alloc (.cells #[.slice none 0 0, .bool false] 33)
  have b1 := (Bx.new (w.alloc (.cells #[.slice p n c, .bool m] 25)) 33 #[.slice none 0 0, .bool false]).alloc (.cells #[.slice none 0 0, .bool false] 33)
  have b2 := Bx.new ((w.alloc (.cells #[.slice p n c, .bool m] 25)).alloc (.cells #[.slice none 0 0, .bool false] 33)) 33 #[.slice none 0 0, .bool false]
  rw [World.size_alloc] at b1
  rw [World.size_alloc, World.size_alloc] at b2
  have HA := Lib.hid b0
  have HR := Lib.hid b1
  have HO := Lib.hid b2
  have HB : Hid (Below w.heap.size w (((w.alloc (.cells #[.slice p n c, .bool m] 25)).alloc (.cells #[.slice none 0 0, .bool false] 33)).alloc (.cells #[.slice none 0 0, .bool false] 33))) := Lib.hid ((((Below.refl w.heap.size w).alloc (Nat.le_refl _) _).alloc (by simp) _).alloc (by simp; omega) _)
  have HSZ : Hid ((((w.alloc (.cells #[.slice p n c, .bool m] 25)).alloc (.cells #[.slice none 0 0, .bool false] 33)).alloc (.cells #[.slice none 0 0, .bool false] 33)).heap.size = w.heap.size + 3) := Lib.hid (by simp)
  have HP := Lib.hid hr
  clear b0 b1 b2 hr
  go_enter Try.func14, Try.ntmps14
  go_wp2_with fail
  generalize (((w.alloc (.cells #[.slice p n c, .bool m] 25)).alloc (.cells #[.slice none 0 0, .bool false] 33)).alloc (.cells #[.slice none 0 0, .bool false] 33)) = V at HA HR HO HB HSZ ⊢
  refine (SlI.to_any _ _ _ _ _ (HP.out.below HB.out) (by omega)).mono ?_
  rintro e w1 ⟨p1, n1, c1, rfl, ho, hb⟩
  have hs1 := hb.size
  have hs0 := HSZ.out
  have HA1 := Lib.hid (HA.out.below hb)
  have HR1 := Lib.hid (HR.out.below hb)
  have HO1 := Lib.hid (HO.out.below hb)
  have HB1 := Lib.hid (below_on HB.out hb)
  have HP1 := Lib.hid ho
  obtain ⟨a0, a1⟩ := bx2 HA1.out
  obtain ⟨o0, o1⟩ := bx2 HO1.out
  obtain ⟨r0, r1⟩ := bx2 HR1.out
  have of0 := HO1.out.free 0
  have of1 := HO1.out.free 1
  have rf0 := HR1.out.free 0
  have rf1 := HR1.out.free 1
  clear ho hb
  go_wp2_with fail
  refine bodyPost_ret (v := .agg #[.slice p1 n1 c1, .bool m]) (by simp [results, Try.results14, go_sem, r0, r1]) rfl ⟨p1, n1, c1, rfl, ?_, ((((HB1.out.setCell (p := ⟨w.heap.size + 1 + 1, 0, none⟩) (by simp; omega) _).setCell (p := ⟨w.heap.size + 1 + 1, 1, none⟩) (by simp; omega) _).setCell (p := ⟨w.heap.size + 1, 0, none⟩) (by simp) _).setCell (p := ⟨w.heap.size + 1, 1, none⟩) (by simp) _)⟩
  exact ((((HP1.out.kept (grown_set _ _ _) (fun g e => by cases e; omega)).kept (grown_set _ _ _) (fun g e => by cases e; omega)).kept (grown_set _ _ _) (fun g e => by cases e; omega)).kept (grown_set _ _ _) (fun g e => by cases e; omega)).wide (by omega) (by simp [World.setCell]) (Nat.le_refl _)
set_option maxRecDepth 100000 in
set_option maxHeartbeats 4000000 in
theorem eq_any (p p' : Option Addr) (n c c' : Nat) (m : Bool) (zs : List Int) (w : World) (hr : Rd .i64 w p n zs) (hr' : Rd .i64 w p' n zs) : Calls Try.prog 18 #[.agg #[.slice p n c, .bool m], .agg #[.slice p' n c', .bool m]] w (Yes w) := by
  have HP := Lib.hid hr
  have HP' := Lib.hid hr'
  have HB := Lib.hid ((box1 w (.cells #[.slice p n c, .bool m] 33)).alloc (by simp) (.cells #[.slice p' n c', .bool m] 33))
  have HX := Lib.hid ((Bx.new w 33 #[.slice p n c, .bool m]).alloc (.cells #[.slice p' n c', .bool m] 33))
  have hy := Bx.new (w.alloc (.cells #[.slice p n c, .bool m] 33)) 33 #[.slice p' n c', .bool m]
  rw [World.size_alloc] at hy
  have HY := Lib.hid hy
  clear hr hr' hy
  go_enter Try.func18, Try.ntmps18
  go_wp2_with fail
  refine (SlI.eq_any _ _ _ _ _ _ _ (HP.out.below HB.out) (HP'.out.below HB.out)).mono ?_
  rintro e w1 ⟨rfl, hb⟩
  have HB1 := Lib.hid (below_on HB.out hb)
  obtain ⟨x0, x1⟩ := bx2 (HX.out.below hb)
  obtain ⟨y0, y1⟩ := bx2 (HY.out.below hb)
  clear hb
  go_wp2_with fail
  go_ret
  exact ⟨rfl, HB1.out⟩
theorem szI_big (q : Option Addr) (m d : Nat) (left : Int) (w : World) (h0 : 0 ≤ left) (h1 : left ≤ 1048576) (h : left < m) (hn : m ≤ 9223372036854775807) : Calls Try.prog 44 #[.slice q m d, .int .i64 left] w fun e w' => e = .returned (.int .i64 (-1)) ∧ w = w' := by
  go_enter Try.func44, Try.ntmps44
  go_wp2_with fail
  go_ret
  exact ⟨rfl, rfl⟩
theorem szI_fits (q : Option Addr) (m d : Nat) (left : Int) (w : World) (h1 : left ≤ 1048576) (h : m ≤ left) : Calls Try.prog 44 #[.slice q m d, .int .i64 left] w fun e w' => e = .returned (.int .i64 (left - m)) ∧ w = w' := by
  go_enter Try.func44, Try.ntmps44
  go_wp2_with fail
  go_ret
  exact ⟨rfl, rfl⟩
set_option maxRecDepth 100000 in
theorem sz_fits (p : Option Addr) (n c : Nat) (m : Bool) (left : Int) (w : World) (h1 : left ≤ 1048576) (h : n ≤ left) : Calls Try.prog 10 #[.agg #[.slice p n c, .bool m], .int .i64 left] w (Val (.int .i64 (left - n)) w) := by
  have HB := Lib.hid (box1 w (.cells #[.slice p n c, .bool m] 25))
  go_enter Try.func10, Try.ntmps10
  go_wp2_with fail
  refine (szI_fits _ _ _ _ _ (by omega) (by omega)).mono ?_
  rintro e w1 ⟨rfl, rfl⟩
  go_wp2_with fail
  go_ret
  exact ⟨rfl, HB.out⟩
set_option maxRecDepth 100000 in
theorem sz_big (p : Option Addr) (n c : Nat) (m : Bool) (left : Int) (w : World) (h0 : 0 ≤ left) (h1 : left ≤ 1048576) (h : left < n) (hn : n ≤ 9223372036854775807) : Calls Try.prog 10 #[.agg #[.slice p n c, .bool m], .int .i64 left] w (Val (.int .i64 (-1)) w) := by
  have HB := Lib.hid (box1 w (.cells #[.slice p n c, .bool m] 25))
  go_enter Try.func10, Try.ntmps10
  go_wp2_with fail
  refine (szI_big _ _ _ _ _ (by omega) (by omega) (by omega) hn).mono ?_
  rintro e w1 ⟨rfl, rfl⟩
  go_wp2_with fail
  go_ret
  exact ⟨rfl, HB.out⟩
end Go.Proofs.Ytjoeacdoblgncaa.SlRule
