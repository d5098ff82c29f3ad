/- Contracts: the authority of a stamp, its key; in the program and in the reference. -/
import Derived.Test.YtfojilogcecphaaGreatFAuthority
import Derived.Test.YtfojilogcecphaaGreatSlStamp
import Derived.Test.YtfojilogcecphaaGreatKnA
namespace Go.Proofs.YtfojilogcecphaaGreat.Ao
open Go.ChangeShapes Go.WideShapes Go.ChangeAt Go.RowKit Sl St Fnd SlAuthority Ki
abbrev z3 : I3 := SlAuthority.zero
def aut (xs : List I3) (id : Int) : I3 × Bool := match Fnd.look z3 xs id with | some a => (a, true) | none => ((0, 0, 0), false)
theorem aut_some {xs : List I3} {id : Int} {a : I3} (h : Fnd.look z3 xs id = some a) : aut xs id = (a, true) := by simp [aut, h]
theorem aut_none {xs : List I3} {id : Int} (h : Fnd.look z3 xs id = none) : aut xs id = ((0, 0, 0), false) := by simp [aut, h]
theorem aut_cases (xs : List I3) (id : Int) {a0 a1 a2 : Int} {b : Bool} (h : aut xs id = ((a0, a1, a2), b)) : (∃ k : Nat, k < xs.length ∧ find xs id = k ∧ xs.getD k z3 = (a0, a1, a2) ∧ b = true) ∨ (find xs id = -1 ∧ a0 = 0 ∧ a1 = 0 ∧ a2 = 0 ∧ b = false) := by
  rcases look_cases z3 xs id with ⟨k, h1, h2, h3, _, _⟩ | ⟨h2, h3, _⟩
  · rw [aut_some h3] at h
    exact Or.inl ⟨k, h1, h2, (Prod.mk.inj h).1, (Prod.mk.inj h).2.symm⟩
  · rw [aut_none h3] at h
    cases h
    exact Or.inr ⟨h2, rfl, rfl, rfl, rfl⟩
def Auts (a : Value) (b : Bool) (w : World) (e : Ending) (w' : World) : Prop := e = .returned (.tuple #[a, .bool b]) ∧ Below w.heap.size w w'
set_option maxRecDepth 100000 in
set_option maxHeartbeats 4000000 in
theorem authorityOf_any (p : Option Addr) (n c : Nat) (xs : List I3) (x0 x1 x2 x3 x4 : Int) (a0 a1 a2 : Int) (b : Bool) (h : aut xs x0 = ((a0, a1, a2), b)) (w : World) (hr : RdS E w p n xs) : Calls Tryz.prog 155 #[.slice p n c, .agg #[.int .i64 x0, .int .i64 x1, .int .i64 x2, .int .i64 x3, .int .i64 x4]] w (Auts (.agg #[.int .i64 a0, .int .i64 a1, .int .i64 a2]) b w) := by
  have HL := Lib.hid hr.len
  have hle := hr.le
  have hv : Below w.heap.size w ((w.alloc (.cells #[.int .i64 x0, .int .i64 x1, .int .i64 x2, .int .i64 x3, .int .i64 x4] 154)).alloc (.cells #[.int .i64 0, .int .i64 0, .int .i64 0] 134)) := ((Below.refl _ _).alloc (Nat.le_refl _) _).alloc (by simp) _
  have HR := Lib.hid (hr.below hv)
  have HB := Lib.hid hv
  have HY : Hid (Bx ((w.alloc (.cells #[.int .i64 x0, .int .i64 x1, .int .i64 x2, .int .i64 x3, .int .i64 x4] 154)).alloc (.cells #[.int .i64 0, .int .i64 0, .int .i64 0] 134)) (w.heap.size + 1) 134 #[.int .i64 0, .int .i64 0, .int .i64 0]) := Lib.hid (by
    have h := Bx.new (w.alloc (.cells #[.int .i64 x0, .int .i64 x1, .int .i64 x2, .int .i64 x3, .int .i64 x4] 154)) 134 #[.int .i64 0, .int .i64 0, .int .i64 0]
    rw [World.size_alloc] at h
    exact h)
  clear hr hv
  rcases aut_cases xs x0 h with ⟨k, h1, h2, h3, h4⟩ | ⟨h2, h3, h4, h5, h6⟩
  · subst h4
    have HF := Lib.hid h2
    have hkn : k < n := by have := HL.out; omega
    have H3 := Lib.hid h3
    clear h h1 h2 h3
    go_enter Tryz.func155, Tryz.ntmps155
    go_wp2_with fail
    refine (FAuthority.find_any p n c xs x0 _ HR.out).mono ?_
    rintro e w1 ⟨rfl, hb⟩
    rw [HF.out]
    obtain ⟨bb, o, rfl, hbb, hat⟩ := rd_at (HR.out.below hb) hkn
    have hat' := hat
    rw [H3.out] at hat'
    obtain ⟨c0, c1, c2⟩ := hat'
    replace HB := Lib.hid (below_on HB.out hb)
    replace HY := Lib.hid (HY.out.below hb)
    obtain ⟨q0, q1, q2⟩ := bxc HY.out
    have f0 := HY.out.free 0
    have f1 := HY.out.free 1
    have f2 := HY.out.free 2
    clear hb hat hbb
    go_wp2_with fail
    exact bodyPost_ret (v := .tuple #[.agg #[.int .i64 a0, .int .i64 a1, .int .i64 a2], .bool true]) (by simp [results, Tryz.results155, go_sem, q0, q1, q2]) rfl ⟨rfl, ((HB.out.setCell (p := ⟨w.heap.size + 1, 0, none⟩) (by simp) _).setCell (p := ⟨w.heap.size + 1, 1, none⟩) (by simp) _).setCell (p := ⟨w.heap.size + 1, 2, none⟩) (by simp) _⟩
  · subst h3 h4 h5 h6
    have HF := Lib.hid h2
    clear h h2
    go_enter Tryz.func155, Tryz.ntmps155
    go_wp2_with fail
    refine (FAuthority.find_any p n c xs x0 _ HR.out).mono ?_
    rintro e w1 ⟨rfl, hb⟩
    rw [HF.out]
    replace HB := Lib.hid (below_on HB.out hb)
    replace HY := Lib.hid (HY.out.below hb)
    obtain ⟨q0, q1, q2⟩ := bxc HY.out
    have f0 := HY.out.free 0
    have f1 := HY.out.free 1
    have f2 := HY.out.free 2
    clear hb
    go_wp2_with fail
    exact bodyPost_ret (v := .tuple #[.agg #[.int .i64 0, .int .i64 0, .int .i64 0], .bool false]) (by simp [results, Tryz.results155, go_sem, q0, q1, q2]) rfl ⟨rfl, ((HB.out.setCell (p := ⟨w.heap.size + 1, 0, none⟩) (by simp) _).setCell (p := ⟨w.heap.size + 1, 1, none⟩) (by simp) _).setCell (p := ⟨w.heap.size + 1, 2, none⟩) (by simp) _⟩
set_option maxRecDepth 100000 in
set_option maxHeartbeats 4000000 in
theorem stampKey_any (p : Option Addr) (n c : Nat) (xs : List I3) (x0 x1 x2 x3 x4 : Int) (w : World) (hr : RdS E w p n xs) : Calls Tryz.prog 171 #[.slice p n c, .agg #[.int .i64 x0, .int .i64 x1, .int .i64 x2, .int .i64 x3, .int .i64 x4]] w (Val (.int .i64 (aut xs x0).1.2.1) w) := by
  rcases ha : aut xs x0 with ⟨⟨a0, a1, a2⟩, b⟩
  have HA := Lib.hid ha
  have HR := Lib.hid (hr.below ((Below.refl w.heap.size w).alloc (Nat.le_refl _) (.cells #[.int .i64 x0, .int .i64 x1, .int .i64 x2, .int .i64 x3, .int .i64 x4] 154)))
  clear hr ha
  go_enter Tryz.func171, Tryz.ntmps171
  go_wp2_with fail
  refine (authorityOf_any p n c xs x0 x1 x2 x3 x4 a0 a1 a2 b HA.out _ HR.out).mono ?_
  rintro e w1 ⟨rfl, hb⟩
  have HB := Lib.hid (below_on ((Below.refl w.heap.size w).alloc (Nat.le_refl _) (.cells #[.int .i64 x0, .int .i64 x1, .int .i64 x2, .int .i64 x3, .int .i64 x4] 154)) hb)
  clear hb
  go_wp2_with fail
  go_ret
  exact ⟨rfl, HB.out.alloc HB.out.size _⟩
set_option maxRecDepth 100000 in
set_option maxHeartbeats 4000000 in
theorem spec_stampKey_any (p : Option Addr) (n c : Nat) (xs : List I3) (x0 x1 x2 x3 x4 : Int) (w : World) (hr : RdS E w p n xs) : Calls Tryz.prog 129 #[.slice p n c, .agg #[.int .i64 x0, .int .i64 x1, .int .i64 x2, .int .i64 x3, .int .i64 x4]] w (Val (.int .i64 (aut xs x0).1.2.1) w) := by
  rcases ha : aut xs x0 with ⟨⟨a0, a1, a2⟩, b⟩
  have HL := Lib.hid hr.len
  have hle := hr.le
  have HB := Lib.hid ((Below.refl w.heap.size w).alloc (Nat.le_refl _) (.cells #[.int .i64 x0, .int .i64 x1, .int .i64 x2, .int .i64 x3, .int .i64 x4] 154))
  have HR := Lib.hid (hr.below HB.out)
  clear hr
  rcases aut_cases xs x0 ha with ⟨k, h1, h2, h3, _⟩ | ⟨h2, h3, h4, _, _⟩
  · have HF := Lib.hid h2
    have hkn : k < n := by have := HL.out; omega
    have H3 := Lib.hid h3
    clear ha h1 h2 h3
    go_enter Tryz.func129, Tryz.ntmps129
    go_wp2_with fail
    refine (FAuthority.spec_find_any p n c xs x0 _ HR.out).mono ?_
    rintro e w1 ⟨rfl, rfl⟩
    rw [HF.out]
    obtain ⟨bb, o, rfl, hbb, hat⟩ := rd_at HR.out hkn
    have hat' := hat
    rw [H3.out] at hat'
    obtain ⟨c0, c1, c2⟩ := hat'
    clear hat hbb
    go_wp2_with fail
    go_ret
    exact ⟨rfl, HB.out⟩
  · subst h4
    have HF := Lib.hid h2
    clear ha h2 h3
    go_enter Tryz.func129, Tryz.ntmps129
    go_wp2_with fail
    refine (FAuthority.spec_find_any p n c xs x0 _ HR.out).mono ?_
    rintro e w1 ⟨rfl, rfl⟩
    rw [HF.out]
    go_wp2_with fail
    go_ret
    exact ⟨rfl, HB.out⟩
end Go.Proofs.YtfojilogcecphaaGreat.Ao
