/- Contracts of verdicts: opened, copied; better, kept, narrower; in the program and in the reference. -/
import Derived.Test.YtkekmaomkcmalacSp
import Derived.Test.YtkekmaomkcmalacSlSpan
import Derived.Test.YtkekmaomkcmalacBx
import Derived.Test.YtkekmaomkcmalacStI
import Derived.OpenShut
import Derived.Deep.Fields
import Derived.Deep.RegionHeld3
import Derived.Outline
namespace Go.Proofs.Ytkekmaomkcmalac.Vd
open Go.ChangeShapes Go.WideShapes Go.ChangeAt Go.RowKit Sl St Jn Sps
set_option maxRecDepth 100000 in
theorem open_val {H : Type} {enc : TypeId × Value → H} {W : World} {base : Nat} {v : Value} {D : DataW H} {pl : List MemPlace} (h : DataW.Trod enc Try.prog W 0 (fun _ => true) true 28 v D pl) (hk : Value.okWide Try.prog W .any base 28 v) :
    ∃ x0 x1 x2 x3 : Int, v = .agg #[.int .i64 x0, .int .i64 x1, .int .i64 x2, .int .i64 x3] := by
  have hi : ∃ f0 f1 f2 : Field, Try.prog.underlying 28 = some (.struct #[f0, f1, f2]) ∧ f0.offset = 0 ∧ f1.offset = 1 ∧ f2.offset = 2 ∧ f0.type = 3 ∧ f1.type = 3 ∧ f2.type = 26 ∧ Try.prog.cellsOf 3 = 1 ∧ Try.prog.cellsOf 26 = 2 ∧ Try.prog.cellsOf 28 = 4 := ⟨_, _, _, Try.underlying28, by kernel_rfl, by kernel_rfl, by kernel_rfl, by kernel_rfl, by kernel_rfl, by kernel_rfl, by kernel_rfl, by kernel_rfl, by kernel_rfl⟩
  obtain ⟨f0, f1, f2, hs, o0, o1, o2, t0, t1, t2, c0, c2, c4⟩ := hi
  have hj : ∃ fs, Try.prog.underlying 26 = some (.struct fs) ∧ intFields Try.prog fs = true ∧ fs.size = 2 := ⟨_, Try.underlying26, by kernel_rfl, by kernel_rfl⟩
  obtain ⟨fs, j1, j2, j3⟩ := hj
  obtain ⟨cs, rfl, hsz⟩ := okWide_struct hs hk
  obtain ⟨fuel, hf⟩ := h
  have hl : cs.toList.length = 4 := by simp only [Array.length_toList]; rw [hsz, c4]
  simp only [Value.cells] at hf
  generalize hcl : cs.toList = l at hf hl
  obtain ⟨y0, y1, y2, n', _, _, h0, h1, h2⟩ := Go.Deep.trod_struct3 hs hf
  rw [o0, t0, c0] at h0
  rw [o1, t1, c0] at h1
  rw [o2, t2, c2] at h2
  obtain ⟨e0, e1, e2, e3, rfl⟩ : ∃ e0 e1 e2 e3, l = [e0, e1, e2, e3] := by
    match l, hl with
    | [e0, e1, e2, e3], _ => exact ⟨e0, e1, e2, e3, rfl⟩
  simp only [List.drop_zero, List.take_succ_cons, List.take_zero, List.drop_succ_cons] at h0 h1 h2
  obtain ⟨z0, hz0, _, _⟩ := DataW.trod_int Try.underlying3 h0
  obtain ⟨z1, hz1, _, _⟩ := DataW.trod_int Try.underlying3 h1
  obtain ⟨f, hf2, _⟩ := ints_of j1 j2 (by rw [j3]; rfl) h2
  rw [j3] at hf2
  have hf3 : [e2, e3] = [.int .i64 (f 0), .int .i64 (f 1)] := hf2
  simp only [List.cons.injEq, and_true] at hz0 hz1 hf3
  refine ⟨z0, z1, f 0, f 1, ?_⟩
  have : cs = #[.int .i64 z0, .int .i64 z1, .int .i64 (f 0), .int .i64 (f 1)] := by
    apply Array.ext'
    rw [hcl, hz0, hz1, hf3.1, hf3.2]
  rw [this]
theorem bx4 {w : World} {g : Nat} {T : TypeId} {x0 x1 x2 x3 : Value} (h : Bx w g T #[x0, x1, x2, x3]) : w.cell? ⟨g, 0, none⟩ = some x0 ∧ w.cell? ⟨g, 1, none⟩ = some x1 ∧ w.cell? ⟨g, 2, none⟩ = some x2 ∧ w.cell? ⟨g, 3, none⟩ = some x3 := ⟨h.cell rfl, h.cell rfl, h.cell rfl, h.cell rfl⟩
def Val (v : Value) (w : World) (e : Ending) (w' : World) : Prop := e = .returned v ∧ Below w.heap.size w w'
set_option maxRecDepth 100000 in
set_option maxHeartbeats 4000000 in
theorem val_any (x0 x1 x2 x3 : Int) (w : World) : Calls Try.prog 18 #[.agg #[.int .i64 x0, .int .i64 x1, .int .i64 x2, .int .i64 x3]] w (Val (.agg #[.int .i64 x0, .int .i64 x1, .int .i64 x2, .int .i64 x3]) w) := by
  have b1 := (Bx.new (w.alloc (.cells #[.int .i64 x0, .int .i64 x1, .int .i64 x2, .int .i64 x3] 28)) 32 #[.int .i64 0, .int .i64 0, .int .i64 0, .int .i64 0]).alloc (.cells #[.int .i64 x0, .int .i64 x1, .int .i64 0, .int .i64 0] 32)
  have b2 := Bx.new ((w.alloc (.cells #[.int .i64 x0, .int .i64 x1, .int .i64 x2, .int .i64 x3] 28)).alloc (.cells #[.int .i64 0, .int .i64 0, .int .i64 0, .int .i64 0] 32)) 32 #[.int .i64 x0, .int .i64 x1, .int .i64 0, .int .i64 0]
  rw [World.size_alloc] at b1
  rw [World.size_alloc, World.size_alloc] at b2
  have HR := Lib.hid b1
  have HO := Lib.hid b2
  have HB : Hid (Below w.heap.size w (((w.alloc (.cells #[.int .i64 x0, .int .i64 x1, .int .i64 x2, .int .i64 x3] 28)).alloc (.cells #[.int .i64 0, .int .i64 0, .int .i64 0, .int .i64 0] 32)).alloc (.cells #[.int .i64 x0, .int .i64 x1, .int .i64 0, .int .i64 0] 32))) := Lib.hid ((((Below.refl w.heap.size w).alloc (Nat.le_refl _) _).alloc (by simp) _).alloc (by simp; omega) _)
  clear b1 b2
  go_enter Try.func18, Try.ntmps18
  go_wp2_with fail
  generalize (((w.alloc (.cells #[.int .i64 x0, .int .i64 x1, .int .i64 x2, .int .i64 x3] 28)).alloc (.cells #[.int .i64 0, .int .i64 0, .int .i64 0, .int .i64 0] 32)).alloc (.cells #[.int .i64 x0, .int .i64 x1, .int .i64 0, .int .i64 0] 32)) = V at HR HO HB ⊢
  refine (SlSpan.val_any x2 x3 _).mono ?_
  rintro e w1 ⟨rfl, hb⟩
  replace HR := Lib.hid (HR.out.below hb)
  replace HO := Lib.hid (HO.out.below hb)
  replace HB := Lib.hid (below_on HB.out hb)
  obtain ⟨o0, o1, o2, o3⟩ := bx4 HO.out
  obtain ⟨r0, r1, r2, r3⟩ := bx4 HR.out
  have of2 := HO.out.free 2
  have of3 := HO.out.free 3
  have rf0 := HR.out.free 0
  have rf1 := HR.out.free 1
  have rf2 := HR.out.free 2
  have rf3 := HR.out.free 3
  clear hb
  go_wp2_with fail
  exact bodyPost_ret (v := .agg #[.int .i64 x0, .int .i64 x1, .int .i64 x2, .int .i64 x3]) (by simp [results, Try.results18, go_sem, r0, r1, r2, r3]) rfl ⟨rfl, (((((HB.out.setCell (p := ⟨w.heap.size + 1 + 1, 2, none⟩) (by simp; omega) _).setCell (p := ⟨w.heap.size + 1 + 1, 3, none⟩) (by simp; omega) _).setCell (p := ⟨w.heap.size + 1, 0, none⟩) (by simp) _).setCell (p := ⟨w.heap.size + 1, 1, none⟩) (by simp) _).setCell (p := ⟨w.heap.size + 1, 2, none⟩) (by simp) _).setCell (p := ⟨w.heap.size + 1, 3, none⟩) (by simp) _⟩
def better (a b : Int) : Bool := (a == 1 || a == 2) && b == 3
def kept (a b : Int) : Bool := a == 3 || b == a
theorem says {b b' : Bool} {w w' : World} (h : b' = b) (hb : Below w.heap.size w w') : Val (.bool b) w (.returned (.bool b')) w' := ⟨by rw [h], hb⟩
set_option maxRecDepth 100000 in
set_option maxHeartbeats 4000000 in
theorem better_any (a0 a1 a2 a3 b0 b1 b2 b3 : Int) (w : World) : Calls Try.prog 19 #[.agg #[.int .i64 a0, .int .i64 a1, .int .i64 a2, .int .i64 a3], .agg #[.int .i64 b0, .int .i64 b1, .int .i64 b2, .int .i64 b3]] w (Val (.bool (better a0 b0)) w) := by
  have HB : Hid (Below w.heap.size w ((w.alloc (.cells #[.int .i64 a0, .int .i64 a1, .int .i64 a2, .int .i64 a3] 32)).alloc (.cells #[.int .i64 b0, .int .i64 b1, .int .i64 b2, .int .i64 b3] 32))) := Lib.hid (((Below.refl w.heap.size w).alloc (Nat.le_refl _) (.cells #[.int .i64 a0, .int .i64 a1, .int .i64 a2, .int .i64 a3] 32)).alloc (by simp) (.cells #[.int .i64 b0, .int .i64 b1, .int .i64 b2, .int .i64 b3] 32))
  by_cases h1 : a0 = 1
  rotate_left
  by_cases h2 : a0 = 2
  rotate_left
  all_goals by_cases h3 : b0 = 3
  all_goals
    first | subst h1 | (have e1 : (a0 == 1) = false := by simpa using h1) | skip
    first | subst h2 | (have e2 : (a0 == 2) = false := by simpa using h2) | skip
    first | subst h3 | (have e3 : (b0 == 3) = false := by simpa using h3)
    go_enter Try.func19, Try.ntmps19
    go_wp2_with fail
    go_ret
    exact says (by simp [better, *]) HB.out
set_option maxRecDepth 100000 in
set_option maxHeartbeats 4000000 in
theorem spec_better_any (a0 a1 a2 a3 b0 b1 b2 b3 : Int) (w : World) : Calls Try.prog 17 #[.agg #[.int .i64 a0, .int .i64 a1, .int .i64 a2, .int .i64 a3], .agg #[.int .i64 b0, .int .i64 b1, .int .i64 b2, .int .i64 b3]] w (Val (.bool (better a0 b0)) w) := by
  have HB : Hid (Below w.heap.size w ((w.alloc (.cells #[.int .i64 a0, .int .i64 a1, .int .i64 a2, .int .i64 a3] 32)).alloc (.cells #[.int .i64 b0, .int .i64 b1, .int .i64 b2, .int .i64 b3] 32))) := Lib.hid (((Below.refl w.heap.size w).alloc (Nat.le_refl _) (.cells #[.int .i64 a0, .int .i64 a1, .int .i64 a2, .int .i64 a3] 32)).alloc (by simp) (.cells #[.int .i64 b0, .int .i64 b1, .int .i64 b2, .int .i64 b3] 32))
  by_cases h1 : a0 = 1
  rotate_left
  by_cases h2 : a0 = 2
  rotate_left
  all_goals by_cases h3 : b0 = 3
  all_goals
    first | subst h1 | (have e1 : (a0 == 1) = false := by simpa using h1) | skip
    first | subst h2 | (have e2 : (a0 == 2) = false := by simpa using h2) | skip
    first | subst h3 | (have e3 : (b0 == 3) = false := by simpa using h3)
    go_enter Try.func17, Try.ntmps17
    go_wp2_with fail
    go_ret
    exact says (by simp [better, *]) HB.out
set_option maxRecDepth 100000 in
set_option maxHeartbeats 4000000 in
theorem kept_any (a0 a1 a2 a3 b0 b1 b2 b3 : Int) (w : World) : Calls Try.prog 21 #[.agg #[.int .i64 a0, .int .i64 a1, .int .i64 a2, .int .i64 a3], .agg #[.int .i64 b0, .int .i64 b1, .int .i64 b2, .int .i64 b3]] w (Val (.bool (kept a0 b0)) w) := by
  have HB : Hid (Below w.heap.size w ((w.alloc (.cells #[.int .i64 a0, .int .i64 a1, .int .i64 a2, .int .i64 a3] 32)).alloc (.cells #[.int .i64 b0, .int .i64 b1, .int .i64 b2, .int .i64 b3] 32))) := Lib.hid (((Below.refl w.heap.size w).alloc (Nat.le_refl _) (.cells #[.int .i64 a0, .int .i64 a1, .int .i64 a2, .int .i64 a3] 32)).alloc (by simp) (.cells #[.int .i64 b0, .int .i64 b1, .int .i64 b2, .int .i64 b3] 32))
  by_cases h1 : a0 = 3
  rotate_left
  by_cases h2 : b0 = a0
  rotate_left
  all_goals
    first | subst h1 | (have e1 : (a0 == 3) = false := by simpa using h1)
    first | subst h2 | (have e2 : (b0 == a0) = false := beq_eq_false_iff_ne.2 h2; have e3 : (a0 == b0) = false := beq_eq_false_iff_ne.2 (Ne.symm h2)) | skip
    go_enter Try.func21, Try.ntmps21
    go_wp2_with fail
    go_ret
    exact says (by simp [kept, *]) HB.out
set_option maxRecDepth 100000 in
set_option maxHeartbeats 4000000 in
theorem spec_kept_any (a0 a1 a2 a3 b0 b1 b2 b3 : Int) (w : World) : Calls Try.prog 20 #[.agg #[.int .i64 a0, .int .i64 a1, .int .i64 a2, .int .i64 a3], .agg #[.int .i64 b0, .int .i64 b1, .int .i64 b2, .int .i64 b3]] w (Val (.bool (kept a0 b0)) w) := by
  have HB : Hid (Below w.heap.size w ((w.alloc (.cells #[.int .i64 a0, .int .i64 a1, .int .i64 a2, .int .i64 a3] 32)).alloc (.cells #[.int .i64 b0, .int .i64 b1, .int .i64 b2, .int .i64 b3] 32))) := Lib.hid (((Below.refl w.heap.size w).alloc (Nat.le_refl _) (.cells #[.int .i64 a0, .int .i64 a1, .int .i64 a2, .int .i64 a3] 32)).alloc (by simp) (.cells #[.int .i64 b0, .int .i64 b1, .int .i64 b2, .int .i64 b3] 32))
  by_cases h1 : a0 = 3
  rotate_left
  by_cases h2 : b0 = a0
  rotate_left
  all_goals
    first | subst h1 | (have e1 : (a0 == 3) = false := by simpa using h1)
    first | subst h2 | (have e2 : (b0 == a0) = false := beq_eq_false_iff_ne.2 h2; have e3 : (a0 == b0) = false := beq_eq_false_iff_ne.2 (Ne.symm h2)) | skip
    go_enter Try.func20, Try.ntmps20
    go_wp2_with fail
    go_ret
    exact says (by simp [kept, *]) HB.out
set_option maxRecDepth 100000 in
set_option maxHeartbeats 4000000 in
theorem narrower_any (a0 a1 a2 a3 b0 b1 b2 b3 : Int) (w : World) : Calls Try.prog 23 #[.agg #[.int .i64 a0, .int .i64 a1, .int .i64 a2, .int .i64 a3], .agg #[.int .i64 b0, .int .i64 b1, .int .i64 b2, .int .i64 b3]] w (Val (.bool (inside (a2, a3) (b2, b3))) w) := by
  have HB : Hid (Below w.heap.size w ((w.alloc (.cells #[.int .i64 a0, .int .i64 a1, .int .i64 a2, .int .i64 a3] 32)).alloc (.cells #[.int .i64 b0, .int .i64 b1, .int .i64 b2, .int .i64 b3] 32))) := Lib.hid (((Below.refl w.heap.size w).alloc (Nat.le_refl _) (.cells #[.int .i64 a0, .int .i64 a1, .int .i64 a2, .int .i64 a3] 32)).alloc (by simp) (.cells #[.int .i64 b0, .int .i64 b1, .int .i64 b2, .int .i64 b3] 32))
  go_enter Try.func23, Try.ntmps23
  go_wp2_with fail
  generalize ((w.alloc (.cells #[.int .i64 a0, .int .i64 a1, .int .i64 a2, .int .i64 a3] 32)).alloc (.cells #[.int .i64 b0, .int .i64 b1, .int .i64 b2, .int .i64 b3] 32)) = V at HB ⊢
  refine (inside_any a2 a3 b2 b3 _).mono ?_
  rintro e w1 ⟨rfl, hb⟩
  replace HB := Lib.hid (below_on HB.out hb)
  clear hb
  go_wp2_with fail
  go_ret
  exact says rfl HB.out
set_option maxRecDepth 100000 in
set_option maxHeartbeats 4000000 in
theorem spec_narrower_any (a0 a1 a2 a3 b0 b1 b2 b3 : Int) (w : World) : Calls Try.prog 22 #[.agg #[.int .i64 a0, .int .i64 a1, .int .i64 a2, .int .i64 a3], .agg #[.int .i64 b0, .int .i64 b1, .int .i64 b2, .int .i64 b3]] w (Val (.bool (inside (a2, a3) (b2, b3))) w) := by
  have HB : Hid (Below w.heap.size w ((w.alloc (.cells #[.int .i64 a0, .int .i64 a1, .int .i64 a2, .int .i64 a3] 32)).alloc (.cells #[.int .i64 b0, .int .i64 b1, .int .i64 b2, .int .i64 b3] 32))) := Lib.hid (((Below.refl w.heap.size w).alloc (Nat.le_refl _) (.cells #[.int .i64 a0, .int .i64 a1, .int .i64 a2, .int .i64 a3] 32)).alloc (by simp) (.cells #[.int .i64 b0, .int .i64 b1, .int .i64 b2, .int .i64 b3] 32))
  go_enter Try.func22, Try.ntmps22
  go_wp2_with fail
  generalize ((w.alloc (.cells #[.int .i64 a0, .int .i64 a1, .int .i64 a2, .int .i64 a3] 32)).alloc (.cells #[.int .i64 b0, .int .i64 b1, .int .i64 b2, .int .i64 b3] 32)) = V at HB ⊢
  refine (spec_inside_any a2 a3 b2 b3 _).mono ?_
  rintro e w1 ⟨rfl, hb⟩
  replace HB := Lib.hid (below_on HB.out hb)
  clear hb
  go_wp2_with fail
  go_ret
  exact says rfl HB.out
end Go.Proofs.Ytkekmaomkcmalac.Vd
