/- Contracts of the laws' helpers over documents: opened, copied, compared, measured. -/
import Derived.Test.YtjlckfbacphblaaDk
import Derived.OpenShut
import Derived.Deep.Fields
namespace Go.Proofs.Ytjlckfbacphblaa.SlDoc
open Go.ChangeShapes Go.WideShapes Go.ChangeAt Go.RowKit Sl St Dm Dk

set_option maxRecDepth 100000 in
/-- what a document that came in gives, as cells -/
theorem open_cells {H : Type} {enc : TypeId × Value → H} {W : World} {fuel : Nat} {cs : List Value} {x : DataW H × List MemPlace} (h : DataW.trod enc Try.prog W 0 (fun _ => true) true fuel 53 cs = some x) (hl : cs.length = 3) :
    ∃ (t : Int) (p : Option Addr) (n c : Nat) (q : Option Addr) (m d : Nat) (parts : List ByteArray) (salts : List Int), cs = [.int .i64 t, .slice p n c, .slice q m d] ∧ RdS SlStr.E W p n parts ∧ Rd .i64 W q m salts ∧ (∀ s ∈ parts, s.size ≤ 9223372036854775807) ∧ (-9223372036854775808 ≤ t ∧ t ≤ 9223372036854775807) := by
  have hi : ∃ f0 f1 f2 : Field, Try.prog.underlying 53 = some (.struct #[f0, f1, f2]) ∧ f0.offset = 0 ∧ f1.offset = 1 ∧ f2.offset = 2 ∧ f0.type = 3 ∧ f1.type = 24 ∧ f2.type = 25 ∧ Try.prog.cellsOf 3 = 1 ∧ Try.prog.cellsOf 24 = 1 ∧ Try.prog.cellsOf 25 = 1 := ⟨_, _, _, Try.underlying53, by kernel_rfl, by kernel_rfl, by kernel_rfl, by kernel_rfl, by kernel_rfl, by kernel_rfl, by kernel_rfl, by kernel_rfl, by kernel_rfl⟩
  obtain ⟨f0, f1, f2, hs, o0, o1, o2, t0, t1, t2, c0, c1, c2⟩ := hi
  obtain ⟨y0, y1, y2, n', _, _, h0, h1, h2⟩ := Go.Deep.trod_struct3 hs h
  rw [o0, t0, c0] at h0
  rw [o1, t1, c1] at h1
  rw [o2, t2, c2] at h2
  obtain ⟨a0, a1, a2, rfl⟩ : ∃ a0 a1 a2, cs = [a0, a1, a2] := by
    match cs, hl with
    | [a0, a1, a2], _ => exact ⟨a0, a1, a2, rfl⟩
  simp only [List.drop_zero, List.take_succ_cons, List.take_zero, List.drop_succ_cons] at h0 h1 h2
  obtain ⟨z, hz, _, hw⟩ := DataW.trod_int Try.underlying3 h0
  obtain ⟨p, n, c, parts, hp, hr, hsz⟩ := SlStr.open_cells h1
  obtain ⟨q, m, d, salts, hq, hr2⟩ := SlStr.open_cellsI h2
  simp only [List.cons.injEq, and_true] at hz hp hq
  exact ⟨z, p, n, c, q, m, d, parts, salts, by rw [hz, hp, hq], hr, hr2, hsz, bounds_i64 hw⟩
set_option maxRecDepth 100000 in
theorem open_val {H : Type} {enc : TypeId × Value → H} {W : World} {base : Nat} {v : Value} {D : DataW H} {pl : List MemPlace} (h : DataW.Trod enc Try.prog W 0 (fun _ => true) true 53 v D pl) (hk : Value.okWide Try.prog W .any base 53 v) :
    ∃ (t : Int) (p : Option Addr) (n c : Nat) (q : Option Addr) (m d : Nat) (parts : List ByteArray) (salts : List Int), v = .agg #[.int .i64 t, .slice p n c, .slice q m d] ∧ RdS SlStr.E W p n parts ∧ Rd .i64 W q m salts ∧ (∀ s ∈ parts, s.size ≤ 9223372036854775807) ∧ (-9223372036854775808 ≤ t ∧ t ≤ 9223372036854775807) := by
  have hi : ∃ fs, Try.prog.underlying 53 = some (.struct fs) ∧ Try.prog.cellsOf 53 = 3 := ⟨_, Try.underlying53, by kernel_rfl⟩
  obtain ⟨fs, hs, hC⟩ := hi
  obtain ⟨cs, rfl, hsz⟩ := okWide_struct hs hk
  obtain ⟨fuel, hf⟩ := h
  obtain ⟨t, p, n, c, q, m, d, parts, salts, e, h1, h2, h3, h4⟩ := open_cells hf (by simp only [Value.cells, Array.length_toList]; rw [hsz, hC])
  simp only [Value.cells] at e
  have e2 : cs = #[.int .i64 t, .slice p n c, .slice q m d] := by
    apply Array.ext'
    rw [e]
  exact ⟨t, p, n, c, q, m, d, parts, salts, by rw [e2], h1, h2, h3, h4⟩

/-! ### a copy -/
/-- The call answers a document with slices of its own, the parts' block below the salts'; what lay before is as it was. -/
def MakesD (D : Dc) (w : World) (e : Ending) (w' : World) : Prop := ∃ (p : Option Addr) (n c : Nat) (q : Option Addr) (m d : Nat) (mid : Nat), e = .returned (.agg #[.int .i64 D.1, .slice p n c, .slice q m d]) ∧ OwS SlStr.E 9 w' w.heap.size mid p n c D.2.1 ∧ Ow .i64 3 w' mid w'.heap.size q m d D.2.2 ∧ Below w.heap.size w w'
/-- .. and both lie behind what was there -/
def MakesD2 (D : Dc) (w : World) (e : Ending) (w' : World) : Prop := ∃ (p : Option Addr) (n c : Nat) (q : Option Addr) (m d : Nat) (mid : Nat), e = .returned (.agg #[.int .i64 D.1, .slice p n c, .slice q m d]) ∧ OwS SlStr.E 9 w' w.heap.size mid p n c D.2.1 ∧ Ow .i64 3 w' mid w'.heap.size q m d D.2.2 ∧ Below w.heap.size w w' ∧ w.heap.size ≤ mid
/-- the world behind the three boxes and the title's store -/
def bxs (t : Int) (p : Option Addr) (n c : Nat) (q : Option Addr) (m d : Nat) (w : World) : World := ((w.alloc (.cells #[.int .i64 t, .slice p n c, .slice q m d] 53)).alloc (.cells #[.int .i64 0, .slice none 0 0, .slice none 0 0] 27)).alloc (.cells #[.int .i64 t, .slice none 0 0, .slice none 0 0] 27)
theorem bxs_def (t : Int) (p : Option Addr) (n c : Nat) (q : Option Addr) (m d : Nat) (w : World) : ((w.alloc (.cells #[.int .i64 t, .slice p n c, .slice q m d] 53)).alloc (.cells #[.int .i64 0, .slice none 0 0, .slice none 0 0] 27)).alloc (.cells #[.int .i64 t, .slice none 0 0, .slice none 0 0] 27) = bxs t p n c q m d w := rfl
theorem bxs_at (t : Int) (p : Option Addr) (n c : Nat) (q : Option Addr) (m d : Nat) (w : World) : Bx (bxs t p n c q m d w) w.heap.size 53 #[.int .i64 t, .slice p n c, .slice q m d] ∧ Bx (bxs t p n c q m d w) (w.heap.size + 1) 27 #[.int .i64 0, .slice none 0 0, .slice none 0 0] ∧ Bx (bxs t p n c q m d w) (w.heap.size + 1 + 1) 27 #[.int .i64 t, .slice none 0 0, .slice none 0 0] ∧ Below w.heap.size w (bxs t p n c q m d w) ∧ (bxs t p n c q m d w).heap.size = w.heap.size + 3 := by
  have b0 := ((Bx.new w 53 #[.int .i64 t, .slice p n c, .slice q m d]).alloc (.cells #[.int .i64 0, .slice none 0 0, .slice none 0 0] 27)).alloc (.cells #[.int .i64 t, .slice none 0 0, .slice none 0 0] 27)
  have b1 := (Bx.new (w.alloc (.cells #[.int .i64 t, .slice p n c, .slice q m d] 53)) 27 #[.int .i64 0, .slice none 0 0, .slice none 0 0]).alloc (.cells #[.int .i64 t, .slice none 0 0, .slice none 0 0] 27)
  have b2 := Bx.new ((w.alloc (.cells #[.int .i64 t, .slice p n c, .slice q m d] 53)).alloc (.cells #[.int .i64 0, .slice none 0 0, .slice none 0 0] 27)) 27 #[.int .i64 t, .slice none 0 0, .slice none 0 0]
  rw [World.size_alloc] at b1
  rw [World.size_alloc, World.size_alloc] at b2
  exact ⟨b0, b1, b2, (((Below.refl w.heap.size w).alloc (Nat.le_refl _) _).alloc (by simp) _).alloc (by simp; omega) _, by simp [bxs]⟩
theorem grown_more {w w1 : World} {r : Option Nat} {g : Nat} (h : w.grownBy w1 r) (hr : r = some g) (j : Nat) (v : Value) : w.grownBy (w1.setCell ⟨g, j, none⟩ v) (some g) := by
  subst hr
  exact ⟨h.os, h.tape, h.output, by simpa [World.setCell] using h.size, fun i hi hne => (Below.heap_setCell w1 ⟨g, j, none⟩ v i (by rintro rfl; exact hne rfl)).trans (h.block i hi hne)⟩
theorem grown_set {w : World} (g j : Nat) (v : Value) : w.grownBy (w.setCell ⟨g, j, none⟩ v) (some g) :=
  grown_more (w := w) (w1 := w) ⟨rfl, rfl, rfl, Nat.le_refl _, fun _ _ _ => rfl⟩ rfl j v
set_option maxRecDepth 100000 in
set_option maxHeartbeats 4000000 in
theorem to2_any (t : Int) (p : Option Addr) (n c : Nat) (q : Option Addr) (m d : Nat) (parts : List ByteArray) (salts : List Int) (w : World) (hr : RdS SlStr.E w p n parts) (hs : Rd .i64 w q m salts) (hn : n ≤ 1048576) (hm : m ≤ 1048576) :
    Calls Try.prog 29 #[.agg #[.int .i64 t, .slice p n c, .slice q m d]] w (MakesD2 (t, parts, salts) w) := by
  obtain ⟨b0, b1, b2, bb, bs⟩ := bxs_at t p n c q m d w
  have HA := Lib.hid b0
  have HR := Lib.hid b1
  have HO := Lib.hid b2
  have HB := Lib.hid bb
  have hsz := bs
  have HP0 := Lib.hid hr
  have HQ0 := Lib.hid hs
  clear b0 b1 b2 bb bs hr hs
  go_enter Try.func29, Try.ntmps29
  go_wp2_with fail
  rw [bxs_def]
  refine (SlStr.to_any _ _ _ _ _ (HP0.out.below HB.out) (by omega)).mono ?_
  rintro e w1 ⟨p1, n1, c1, rfl, ho1, hb1⟩
  have hs1 := hb1.size
  have HA1 := Lib.hid (HA.out.below hb1)
  have HR1 := Lib.hid (HR.out.below hb1)
  have HO1 := Lib.hid (HO.out.below hb1)
  have HB1 := Lib.hid (below_on HB.out hb1)
  have hg1 : w1.grownBy (w1.setCell ⟨w.heap.size + 1 + 1, 1, none⟩ (.slice p1 n1 c1)) (some (w.heap.size + 1 + 1)) := grown_set _ _ _
  have hs1' : (w1.setCell ⟨w.heap.size + 1 + 1, 1, none⟩ (.slice p1 n1 c1)).heap.size = w1.heap.size := by simp [World.setCell]
  have HA2 := Lib.hid (HA1.out.far (q := ⟨w.heap.size + 1 + 1, 1, none⟩) (by simp; omega) (.slice p1 n1 c1))
  have HR2 := Lib.hid (HR1.out.far (q := ⟨w.heap.size + 1 + 1, 1, none⟩) (by simp) (.slice p1 n1 c1))
  have HO2 := Lib.hid (HO1.out.set_ 1 (.slice p1 n1 c1))
  have HB2 := Lib.hid (HB1.out.setCell (p := ⟨w.heap.size + 1 + 1, 1, none⟩) (by simp; omega) (.slice p1 n1 c1))
  have HP2 := Lib.hid (ho1.kept hg1 (fun g e => by cases e; rw [hsz]; omega))
  obtain ⟨a0, a1, a2⟩ := bx3 HA1.out
  have of1 := HO1.out.free 1
  have o1 := HO1.out.cell (j := 1) rfl
  clear hb1 ho1 hg1
  go_wp2_with fail
  refine (SlI.to_any _ _ _ _ _ (HQ0.out.below HB2.out) (by omega)).mono ?_
  rintro e w2 ⟨p2, n2, c2, rfl, ho2, hb2⟩
  have hs2 := hb2.size
  have HR3 := Lib.hid (HR2.out.below hb2)
  have HO3 := Lib.hid (HO2.out.below hb2)
  have HP3 := Lib.hid (HP2.out.below hb2)
  have HB3 := Lib.hid (below_on HB2.out hb2)
  have HQ3 := Lib.hid ho2
  obtain ⟨o0, o1', o2⟩ := bx3 HO3.out
  obtain ⟨r0, r1, r2⟩ := bx3 HR3.out
  have of2 := HO3.out.free 2
  have rf0 := HR3.out.free 0
  have rf1 := HR3.out.free 1
  have rf2 := HR3.out.free 2
  rw [hs1'] at hs2
  have hgo : w2.grownBy (w2.setCell ⟨w.heap.size + 1 + 1, 2, none⟩ (.slice p2 n2 c2)) (some (w.heap.size + 1 + 1)) := grown_set _ _ _
  have HB4 := Lib.hid ((((HB3.out.setCell (p := ⟨w.heap.size + 1 + 1, 2, none⟩) (by simp; omega) (.slice p2 n2 c2)).setCell (p := ⟨w.heap.size + 1, 0, none⟩) (by simp) (.int .i64 t)).setCell (p := ⟨w.heap.size + 1, 1, none⟩) (by simp) (.slice p1 n1 c1)).setCell (p := ⟨w.heap.size + 1, 2, none⟩) (by simp) (.slice p2 n2 c2))
  have g0 := grown_set (w := w2.setCell ⟨w.heap.size + 1 + 1, 2, none⟩ (.slice p2 n2 c2)) (w.heap.size + 1) 0 (.int .i64 t)
  have g1 := grown_more g0 rfl 1 (.slice p1 n1 c1)
  have g2 := grown_more g1 rfl 2 (.slice p2 n2 c2)
  have HP4 := Lib.hid ((HP3.out.kept hgo (fun g e => by cases e; rw [hsz]; omega)).kept g2 (fun g e => by cases e; rw [hsz]; omega))
  have HQ4 := Lib.hid ((HQ3.out.kept hgo (fun g e => by cases e; rw [hs1']; omega)).kept g2 (fun g e => by cases e; rw [hs1']; omega))
  clear hb2 ho2 hgo g0 g1 g2 a0 a1 a2
  go_wp2_with fail
  exact bodyPost_ret (v := .agg #[.int .i64 t, .slice p1 n1 c1, .slice p2 n2 c2]) (by simp [results, Try.results29, go_sem, r0, r1, r2]) rfl ⟨p1, n1, c1, p2, n2, c2, w1.heap.size, rfl, HP4.out.wide (by omega) (Nat.le_refl _) (by simp [World.setCell]; omega), HQ4.out.wide (by omega) (by simp [World.setCell]) (Nat.le_refl _), HB4.out, by omega⟩
theorem to_any (t : Int) (p : Option Addr) (n c : Nat) (q : Option Addr) (m d : Nat) (parts : List ByteArray) (salts : List Int) (w : World) (hr : RdS SlStr.E w p n parts) (hs : Rd .i64 w q m salts) (hn : n ≤ 1048576) (hm : m ≤ 1048576) :
    Calls Try.prog 29 #[.agg #[.int .i64 t, .slice p n c, .slice q m d]] w (MakesD (t, parts, salts) w) := by
  refine (to2_any t p n c q m d parts salts w hr hs hn hm).mono ?_
  rintro e w' ⟨p1, n1, c1, q1, m1, d1, mid, rfl, h1, h2, h3, _⟩
  exact ⟨p1, n1, c1, q1, m1, d1, mid, rfl, h1, h2, h3⟩
/-! ### equality -/
/-- The call answers true; what lay before is as it was. -/
def Yes (w : World) (e : Ending) (w' : World) : Prop := e = .returned (.bool true) ∧ Below w.heap.size w w'
set_option maxRecDepth 100000 in
set_option maxHeartbeats 4000000 in
theorem eq_any (t : Int) (p p' : Option Addr) (n c c' : Nat) (q q' : Option Addr) (m d d' : Nat) (parts : List ByteArray) (salts : List Int) (w : World) (hr : RdS SlStr.E w p n parts) (hr' : RdS SlStr.E w p' n parts) (hs : Rd .i64 w q m salts) (hs' : Rd .i64 w q' m salts) :
    Calls Try.prog 32 #[.agg #[.int .i64 t, .slice p n c, .slice q m d], .agg #[.int .i64 t, .slice p' n c', .slice q' m d']] w (Yes w) := by
  have HP := Lib.hid hr
  have HP' := Lib.hid hr'
  have HQ := Lib.hid hs
  have HQ' := Lib.hid hs'
  have HB := Lib.hid ((box1 w (.cells #[.int .i64 t, .slice p n c, .slice q m d] 27)).alloc (by simp) (.cells #[.int .i64 t, .slice p' n c', .slice q' m d'] 27))
  have HX := Lib.hid ((Bx.new w 27 #[.int .i64 t, .slice p n c, .slice q m d]).alloc (.cells #[.int .i64 t, .slice p' n c', .slice q' m d'] 27))
  have hy := Bx.new (w.alloc (.cells #[.int .i64 t, .slice p n c, .slice q m d] 27)) 27 #[.int .i64 t, .slice p' n c', .slice q' m d']
  rw [World.size_alloc] at hy
  have HY := Lib.hid hy
  clear hr hr' hs hs' hy
  go_enter Try.func32, Try.ntmps32
  go_wp2_with fail
  refine (SlStr.eq_any _ _ _ _ _ _ _ (HP.out.below HB.out) (HP'.out.below HB.out)).mono ?_
  rintro e w1 ⟨rfl, hb⟩
  have HB1 := Lib.hid (below_on HB.out hb)
  obtain ⟨x0, x1, x2⟩ := bx3 (HX.out.below hb)
  obtain ⟨y0, y1, y2⟩ := bx3 (HY.out.below hb)
  clear hb
  go_wp2_with fail
  refine (SlI.eq_any _ _ _ _ _ _ _ (HQ.out.below HB1.out) (HQ'.out.below HB1.out)).mono ?_
  rintro e w2 ⟨rfl, hb⟩
  have HB2 := Lib.hid (below_on HB1.out hb)
  clear hb
  go_wp2_with fail
  go_ret
  exact ⟨rfl, HB2.out⟩

/-! ### the measure -/
theorem szI_big (q : Option Addr) (m d : Nat) (left : Int) (w : World) (h0 : 0 ≤ left) (h1 : left ≤ 1048576) (h : left < m) (hn : m ≤ 9223372036854775807) : Calls Try.prog 75 #[.slice q m d, .int .i64 left] w fun e w' => e = .returned (.int .i64 (-1)) ∧ w = w' := by
  go_enter Try.func75, Try.ntmps75
  go_wp2_with fail
  go_ret
  exact ⟨rfl, rfl⟩
theorem szI_fits (q : Option Addr) (m d : Nat) (left : Int) (w : World) (h1 : left ≤ 1048576) (h : m ≤ left) : Calls Try.prog 75 #[.slice q m d, .int .i64 left] w fun e w' => e = .returned (.int .i64 (left - m)) ∧ w = w' := by
  go_enter Try.func75, Try.ntmps75
  go_wp2_with fail
  go_ret
  exact ⟨rfl, rfl⟩
def fits (parts : List ByteArray) (salts : List Int) (left : Nat) : Prop := parts.length + SlStr.tot parts + salts.length ≤ left
set_option maxRecDepth 100000 in
set_option maxHeartbeats 2000000 in
theorem sz_fits (t : Int) (p : Option Addr) (n c : Nat) (q : Option Addr) (m d : Nat) (parts : List ByteArray) (salts : List Int) (left : Nat) (w : World) (hr : RdS SlStr.E w p n parts) (hs : Rd .i64 w q m salts) (hz : ∀ s ∈ parts, s.size ≤ 9223372036854775807) (hleft : left ≤ 1048576) (hf : fits parts salts left) :
    Calls Try.prog 27 #[.agg #[.int .i64 t, .slice p n c, .slice q m d], .int .i64 left] w (SlStr.Val (.int .i64 ((left : Int) - n - SlStr.tot parts - m)) w) := by
  have hl := hr.len
  have hl2 := hs.len
  unfold fits at hf
  have HS : Hid (SlStr.szI parts left = (left : Int) - n - SlStr.tot parts) := Lib.hid (by unfold SlStr.szI; rw [if_pos (by omega), hl])
  have HP := Lib.hid hr
  have HB := Lib.hid (box1 w (.cells #[.int .i64 t, .slice p n c, .slice q m d] 53))
  obtain ⟨τ, hτ⟩ : ∃ τ, SlStr.tot parts = τ := ⟨_, rfl⟩
  rw [hτ] at hf HS ⊢
  clear hr hs
  go_enter Try.func27, Try.ntmps27
  go_wp2_with fail
  refine (SlStr.sz_any _ _ _ _ left _ (HP.out.below HB.out) hz hleft).mono ?_
  rintro e w1 ⟨rfl, rfl⟩
  rw [HS.out]
  go_wp2_with fail
  refine (szI_fits _ _ _ _ _ (by omega) (by omega)).mono ?_
  rintro e w1 ⟨rfl, rfl⟩
  go_wp2_with fail
  go_ret
  exact ⟨rfl, HB.out⟩
set_option maxRecDepth 100000 in
set_option maxHeartbeats 2000000 in
theorem sz_big (t : Int) (p : Option Addr) (n c : Nat) (q : Option Addr) (m d : Nat) (parts : List ByteArray) (salts : List Int) (left : Nat) (w : World) (hr : RdS SlStr.E w p n parts) (hs : Rd .i64 w q m salts) (hz : ∀ s ∈ parts, s.size ≤ 9223372036854775807) (hleft : left ≤ 1048576) (hf : ¬ fits parts salts left) :
    Calls Try.prog 27 #[.agg #[.int .i64 t, .slice p n c, .slice q m d], .int .i64 left] w (SlStr.Val (.int .i64 (-1)) w) := by
  have hl := hr.len
  have hl2 := hs.len
  have hle := hs.le
  unfold fits at hf
  have HP := Lib.hid hr
  have HB := Lib.hid (box1 w (.cells #[.int .i64 t, .slice p n c, .slice q m d] 53))
  obtain ⟨τ, hτ⟩ : ∃ τ, SlStr.tot parts = τ := ⟨_, rfl⟩
  rw [hτ] at hf
  clear hr hs
  by_cases h1 : n + τ ≤ left
  · have HS : Hid (SlStr.szI parts left = (left : Int) - n - τ) := Lib.hid (by unfold SlStr.szI; rw [if_pos (by omega), hl, hτ])
    go_enter Try.func27, Try.ntmps27
    go_wp2_with fail
    refine (SlStr.sz_any _ _ _ _ left _ (HP.out.below HB.out) hz hleft).mono ?_
    rintro e w1 ⟨rfl, rfl⟩
    rw [HS.out]
    go_wp2_with fail
    refine (szI_big _ _ _ _ _ (by omega) (by omega) (by omega) hle).mono ?_
    rintro e w1 ⟨rfl, rfl⟩
    go_wp2_with fail
    go_ret
    exact ⟨rfl, HB.out⟩
  · have HS : Hid (SlStr.szI parts left = -1) := Lib.hid (by unfold SlStr.szI; rw [if_neg (by omega)])
    go_enter Try.func27, Try.ntmps27
    go_wp2_with fail
    refine (SlStr.sz_any _ _ _ _ left _ (HP.out.below HB.out) hz hleft).mono ?_
    rintro e w1 ⟨rfl, rfl⟩
    rw [HS.out]
    go_wp2_with fail
    go_ret
    exact ⟨rfl, HB.out⟩
theorem sz_fitsL (L : Int) (t : Int) (p : Option Addr) (n c : Nat) (q : Option Addr) (m d : Nat) (parts : List ByteArray) (salts : List Int) (left : Nat) (hL : L = (left : Int)) (w : World) (hr : RdS SlStr.E w p n parts) (hs : Rd .i64 w q m salts) (hz : ∀ s ∈ parts, s.size ≤ 9223372036854775807) (hleft : left ≤ 1048576) (hf : fits parts salts left) :
    Calls Try.prog 27 #[.agg #[.int .i64 t, .slice p n c, .slice q m d], .int .i64 L] w (SlStr.Val (.int .i64 (L - n - SlStr.tot parts - m)) w) := by
  subst hL
  exact sz_fits t p n c q m d parts salts left w hr hs hz hleft hf
theorem sz_bigL (L : Int) (t : Int) (p : Option Addr) (n c : Nat) (q : Option Addr) (m d : Nat) (parts : List ByteArray) (salts : List Int) (left : Nat) (hL : L = (left : Int)) (w : World) (hr : RdS SlStr.E w p n parts) (hs : Rd .i64 w q m salts) (hz : ∀ s ∈ parts, s.size ≤ 9223372036854775807) (hleft : left ≤ 1048576) (hf : ¬ fits parts salts left) :
    Calls Try.prog 27 #[.agg #[.int .i64 t, .slice p n c, .slice q m d], .int .i64 L] w (SlStr.Val (.int .i64 (-1)) w) := by
  subst hL
  exact sz_big t p n c q m d parts salts left w hr hs hz hleft hf
theorem two3 {w : World} {g g' : Nat} {T T' : TypeId} {a b c x y z : Value} (h : Bx w g T #[a, b, c]) (h' : Bx w g' T' #[x, y, z]) : w.cell? ⟨g, 0, none⟩ = some a ∧ w.cell? ⟨g, 1, none⟩ = some b ∧ w.cell? ⟨g, 2, none⟩ = some c ∧ w.cell? ⟨g', 0, none⟩ = some x ∧ w.cell? ⟨g', 1, none⟩ = some y ∧ w.cell? ⟨g', 2, none⟩ = some z :=
  ⟨h.cell rfl, h.cell rfl, h.cell rfl, h'.cell rfl, h'.cell rfl, h'.cell rfl⟩
end Go.Proofs.Ytjlckfbacphblaa.SlDoc
