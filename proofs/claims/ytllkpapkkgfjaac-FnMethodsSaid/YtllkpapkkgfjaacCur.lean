/- The cursor of the reference's draws: what its block holds, and contracts of its readers: each answers some number in range, and turns the cursor's block alone. -/
import Derived.Test.YtllkpapkkgfjaacInt
import Derived.Below
import Derived.Laws.Rows
import Derived.Laws.BitsAllLaws
import Derived.Laws.BitsLemmas
import Derived.ChangeSlices
import Derived.Laws.AppendOwn
import Derived.OwnWalk
import Derived.Deep.QuietTactic
import Derived.BigQuiet
import Derived.LoopTactic
import Derived.OpenShut

import Derived.Lib.Hide
namespace Go.Proofs.Ytllkpapkkgfjaac.Cur
open Go.ChangeShapes Go.WideShapes Go.ChangeAt Go.RowKit

/-! ### frames: one block, and what is new, may have turned -/
theorem only_refl (w : World) (row : Option Nat) : w.grownBy w row := ⟨rfl, rfl, rfl, Nat.le_refl _, fun _ _ _ => rfl⟩
theorem only_drewN {a w : World} {row : Option Nat} (h : a.grownBy w row) (n : Nat) : a.grownBy (w.drewN n) row := ⟨h.os, h.tape, h.output, h.size, h.block⟩
theorem only_trans {a b c : World} {row : Option Nat} (h : a.grownBy b row) (k : b.grownBy c row) : a.grownBy c row :=
  ⟨k.os.trans h.os, k.tape.trans h.tape, k.output.trans h.output, Nat.le_trans h.size k.size, fun i hi hne => (k.block i (Nat.lt_of_lt_of_le hi h.size) hne).trans (h.block i hi hne)⟩
theorem only_alloc {a w : World} {row : Option Nat} (h : a.grownBy w row) (o : Obj) : a.grownBy (w.alloc o) row :=
  ⟨h.os, h.tape, h.output, Nat.le_trans h.size (by simp), fun i hi hne => (Below.heap_alloc w o i (Nat.lt_of_lt_of_le hi h.size)).trans (h.block i hi hne)⟩
theorem only_setCell {a w : World} {g : Nat} (h : a.grownBy w (some g)) {p : Addr} (hp : p.block = g ∨ a.heap.size ≤ p.block) (u : Value) : a.grownBy (w.setCell p u) (some g) :=
  ⟨h.os, h.tape, h.output, by simpa [World.setCell] using h.size, fun i hi hne => (Below.heap_setCell w p u i (by
    rintro rfl
    rcases hp with hp | hp
    · exact hne (by rw [hp])
    · omega)).trans (h.block i hi hne)⟩
theorem only_of_below {a w : World} (h : Below a.heap.size a w) (row : Option Nat) : a.grownBy w row := ⟨h.os, h.tape, h.output, h.size, fun i hi _ => h.block i hi⟩

/-! ### the code: a slice of bytes that came in -/
/-- v is a slice of n bytes, in a block other than g. -/
def CodeAt (g : Nat) (v : Value) (n : Nat) (w : World) : Prop :=
  n ≤ maxLen ∧ ((n = 0 ∧ ∃ a cap, v = .slice a 0 cap) ∨ ∃ b off cap, v = .slice (some ⟨b, off, none⟩) n cap ∧ b < g ∧ ∀ j, j < n → ∃ x : Int, w.cell? ⟨b, off + j, none⟩ = some (.int .u8 x) ∧ 0 ≤ x ∧ x ≤ 255)
theorem CodeAt.on {g : Nat} {v : Value} {n : Nat} {w w' : World} (h : CodeAt g v n w) (hg : w.grownBy w' (some g)) : CodeAt g v n w' := by
  obtain ⟨hm, h⟩ := h
  refine ⟨hm, ?_⟩
  rcases h with h | ⟨b, off, cap, hv, hb, hc⟩
  · exact Or.inl h
  · exact Or.inr ⟨b, off, cap, hv, hb, fun j hj => by
      obtain ⟨x, hx, h0, h1⟩ := hc j hj
      exact ⟨x, hg.cell hx (by simp; omega), h0, h1⟩⟩

/-- THE CURSOR: block g holds the code, how much of it is read, and the state; its code lies elsewhere. -/
theorem ofInt_i64_lt (x : Int) : ((BitVec.ofInt 64 x &&& BitVec.ofInt 64 255).toNat : Int) ≤ 255 := by
  have h : (BitVec.ofInt 64 255).toNat = 255 := by decide
  rw [BitVec.toNat_and, h]
  have := Nat.and_le_right (n := (BitVec.ofInt 64 x).toNat) (m := 255)
  omega
theorem and255 (x : Int) : 0 ≤ bits .and .i64 x 255 ∧ bits .and .i64 x 255 ≤ 255 := by
  have h := ofInt_i64_lt x
  have e : bits .and .i64 x 255 = IntKind.i64.wrap ((BitVec.ofInt 64 x &&& BitVec.ofInt 64 255).toNat : Int) := rfl
  rw [e, IntKind.wrap_i64]
  omega
def Cur (g : Nat) (w : World) : Prop :=
  ∃ (v : Value) (n k : Nat) (h : Int), w.heap[g]? = some (.cells #[v, .int .i64 k, .int .i64 h] 170 (0, 0)) ∧ CodeAt g v n w ∧ k ≤ n ∧ -9223372036854775808 ≤ h ∧ h ≤ 9223372036854775807

theorem CodeAt.keep {g : Nat} {v : Value} {n : Nat} {w w' : World} {row : Option Nat} (h : CodeAt g v n w) (hg : w.grownBy w' row) (hr : ∀ k, row = some k → g ≤ k) : CodeAt g v n w' := by
  obtain ⟨hm, h⟩ := h
  refine ⟨hm, ?_⟩
  rcases h with h | ⟨b, off, cap, hv, hb, hc⟩
  · exact Or.inl h
  · exact Or.inr ⟨b, off, cap, hv, hb, fun j hj => by
      obtain ⟨x, hx, h0, h1⟩ := hc j hj
      exact ⟨x, hg.cell hx (fun e => by have := hr _ e.symm; simp at this; omega), h0, h1⟩⟩
theorem Cur.lt {g : Nat} {w : World} (h : Cur g w) : g < w.heap.size := by
  obtain ⟨v, n, k, z, hb, _⟩ := h
  exact (Array.getElem?_eq_some_iff.1 hb).1
/-- the cursor stands while other blocks above it turn -/
theorem Cur.keep {g : Nat} {w w' : World} {row : Option Nat} (h : Cur g w) (hg : w.grownBy w' row) (hr : ∀ k, row = some k → g < k) : Cur g w' := by
  have hlt := h.lt
  obtain ⟨v, n, k, z, hc, hcode, h1⟩ := h
  exact ⟨v, n, k, z, (hg.block g hlt (fun e => by have := hr _ e.symm; omega)).trans hc, hcode.keep hg (fun k e => Nat.le_of_lt (hr k e)), h1⟩
/-- The call answers an int of which P holds; the cursor stands on; its block alone has turned. -/
def Gives (g : Nat) (w : World) (P : Int → Prop) (e : Ending) (w' : World) : Prop := ∃ x : Int, e = .returned (.int .i64 x) ∧ P x ∧ Cur g w' ∧ w.grownBy w' (some g)
theorem Gives.weak {g : Nat} {w : World} {P Q : Int → Prop} {e : Ending} {w' : World} (h : Gives g w P e w') (hq : ∀ x, P x → Q x) : Gives g w Q e w' := by
  obtain ⟨x, he, hp, hc, hg⟩ := h
  exact ⟨x, he, hq x hp, hc, hg⟩
theorem cur_two {g : Nat} {w : World} {v : Value} {T : TypeId} {a b : Value} (x y : Value) (h : w.heap[g]? = some (.cells #[v, a, b] T (0, 0))) : ((w.setCell ⟨g, 2, none⟩ y).setCell ⟨g, 1, none⟩ x).heap[g]? = some (.cells #[v, x, y] T (0, 0)) := by
  have h1 := heap_setCell_same w g 2 _ T y h
  exact heap_setCell_same (w.setCell ⟨g, 2, none⟩ y) g 1 _ T x h1
theorem cur_one {g : Nat} {w : World} {v : Value} {T : TypeId} {a b : Value} (y : Value) (h : w.heap[g]? = some (.cells #[v, a, b] T (0, 0))) : (w.setCell ⟨g, 2, none⟩ y).heap[g]? = some (.cells #[v, a, y] T (0, 0)) :=
  heap_setCell_same w g 2 _ T y h
theorem wrap64_in (n : Int) : -9223372036854775808 ≤ wrap64 n ∧ wrap64 n ≤ 9223372036854775807 := by
  unfold wrap64; omega
theorem only_two {w : World} {g : Nat} (x y : Value) (n : Nat) : w.grownBy (((w.setCell ⟨g, 2, none⟩ y).drewN n).setCell ⟨g, 1, none⟩ x) (some g) := by
  have h1 := only_setCell (only_refl w (some g)) (p := ⟨g, 2, none⟩) (Or.inl rfl) y
  exact only_setCell (p := ⟨g, 1, none⟩) (only_drewN h1 n) (Or.inl rfl) x
theorem only_one {w : World} {g : Nat} (y : Value) (n m : Nat) : w.grownBy (((w.setCell ⟨g, 2, none⟩ y).drewN n).drewN m) (some g) := by
  have h1 := only_setCell (only_refl w (some g)) (p := ⟨g, 2, none⟩) (Or.inl rfl) y
  exact only_drewN (only_drewN h1 n) m
set_option maxHeartbeats 400000 in
theorem byte_any (g : Nat) (w : World) (hc : Cur g w) : Calls Try.prog 145 #[.pointer (some ⟨g, 0, none⟩)] w (Gives g w fun x => 0 ≤ x ∧ x ≤ 255) := by
  obtain ⟨v, n, k, h, hb, hcode, hk, h0, h1⟩ := hc
  have c0 : w.cell? ⟨g, 0, none⟩ = some v := by simp [World.cell?, hb]
  have c1 : w.cell? ⟨g, 1, none⟩ = some (.int .i64 k) := by simp [World.cell?, hb]
  have c2 : w.cell? ⟨g, 2, none⟩ = some (.int .i64 h) := by simp [World.cell?, hb]
  have f2 : w.frozen? ⟨g, 2, none⟩ = false := by simp [World.frozen?, hb]
  have f1 : w.frozen? ⟨g, 1, none⟩ = false := by simp [World.frozen?, hb]
  have HC0 := Lib.hid hcode
  obtain ⟨hm, hcode⟩ := hcode
  unfold maxLen at hm
  have HB := Lib.hid hb
  clear hb
  rcases hcode with ⟨hn, a0, cap0, rfl⟩ | ⟨b, off, cap, rfl, hbg, hcell⟩
  · subst hn
    have hk0 : k = 0 := by omega
    subst hk0
    go_enter Try.func145, Try.ntmps145
    go_wp2
    go_quiet (fail)
    go_wp2
    go_quiet (fail)
    go_wp2
    go_ret
    refine ⟨_, rfl, and255 _, ?_, only_one _ _ _⟩
    exact ⟨_, 0, 0, _, cur_one _ HB.out, (HC0.out.on (only_one _ _ _)), by omega, (wrap64_in _).1, (wrap64_in _).2⟩
  · have HC := Lib.hid hcell
    have hbg := Nat.ne_of_lt hbg
    clear hcell
    by_cases hlt : k < n
    · obtain ⟨x, hx, x0, x1⟩ := HC.out k hlt
      go_enter Try.func145, Try.ntmps145
      go_wp2
      go_quiet (fail)
      go_wp2
      go_quiet (fail)
      go_wp2
      go_quiet (fail)
      go_wp2
      go_ret
      refine ⟨_, rfl, and255 _, ?_, only_two _ _ _⟩
      exact ⟨_, n, k + 1, _, cur_two _ _ HB.out, (HC0.out.on (only_two _ _ _)), by omega, (wrap64_in _).1, (wrap64_in _).2⟩
    · go_enter Try.func145, Try.ntmps145
      go_wp2
      go_quiet (fail)
      go_wp2
      go_quiet (fail)
      go_wp2
      go_ret
      refine ⟨_, rfl, and255 _, ?_, only_one _ _ _⟩
      exact ⟨_, n, k, _, cur_one _ HB.out, (HC0.out.on (only_one _ _ _)), by omega, (wrap64_in _).1, (wrap64_in _).2⟩
set_option maxHeartbeats 400000 in
theorem below_any (g : Nat) (n : Int) (w : World) (hc : Cur g w) (_hn : n ≤ 9223372036854775807) : Calls Try.prog 88 #[.pointer (some ⟨g, 0, none⟩), .int .i64 n] w (Gives g w fun x => 0 ≤ x ∧ (1 ≤ n → x < n) ∧ (n ≤ 0 → x = 0)) := by
  have HC := Lib.hid hc
  clear hc
  by_cases hz : n ≤ 0
  · go_enter Try.func88, Try.ntmps88
    go_wp2_with fail
    go_ret
    exact ⟨0, rfl, ⟨by omega, by omega, by omega⟩, HC.out, only_refl _ _⟩
  · by_cases hs : n ≤ 256
    · go_enter Try.func88, Try.ntmps88
      go_wp2_with fail
      refine (byte_any g _ HC.out).mono ?_
      rintro e w1 ⟨x, rfl, ⟨x0, x1⟩, hc1, hg1⟩
      have HC1 := Lib.hid hc1
      have HG1 := Lib.hid hg1
      clear hc1 hg1
      go_wp2_with fail
      go_ret
      exact ⟨_, rfl, ⟨Int.emod_nonneg _ (by omega), fun _ => Int.emod_lt_of_pos _ (by omega), by omega⟩, HC1.out, HG1.out⟩
    · go_enter Try.func88, Try.ntmps88
      go_wp2_with fail
      refine (byte_any g _ HC.out).mono ?_
      rintro e w1 ⟨x, rfl, ⟨x0, x1⟩, hc1, hg1⟩
      have HC1 := Lib.hid hc1
      have HG1 := Lib.hid hg1
      clear hc1 hg1
      go_wp2_with fail
      refine (byte_any g _ HC1.out).mono ?_
      rintro e w2 ⟨y, rfl, ⟨y0, y1⟩, hc2, hg2⟩
      have HC2 := Lib.hid hc2
      have HG2 := Lib.hid hg2
      clear hc2 hg2
      go_wp2_with fail
      refine (byte_any g _ HC2.out).mono ?_
      rintro e w3 ⟨z, rfl, ⟨z0, z1⟩, hc3, hg3⟩
      have HC3 := Lib.hid hc3
      have HG3 := Lib.hid hg3
      clear hc3 hg3
      go_wp2_with fail
      go_ret
      exact ⟨_, rfl, ⟨Int.emod_nonneg _ (by omega), fun _ => Int.emod_lt_of_pos _ (by omega), by omega⟩, HC3.out, only_trans HG1.out (only_trans HG2.out HG3.out)⟩
def GivesB (g : Nat) (w : World) (e : Ending) (w' : World) : Prop := ∃ b : Bool, e = .returned (.bool b) ∧ Cur g w' ∧ w.grownBy w' (some g)
set_option maxHeartbeats 400000 in
theorem once_any (g : Nat) (n : Int) (w : World) (hc : Cur g w) (hn : n ≤ 9223372036854775807) : Calls Try.prog 160 #[.pointer (some ⟨g, 0, none⟩), .int .i64 n] w (GivesB g w) := by
  have HC := Lib.hid hc
  clear hc
  go_enter Try.func160, Try.ntmps160
  go_wp2_with fail
  refine (below_any g n _ HC.out hn).mono ?_
  rintro e w1 ⟨x, rfl, ⟨x0, _, _⟩, hc1, hg1⟩
  have HC1 := Lib.hid hc1
  have HG1 := Lib.hid hg1
  clear hc1 hg1
  go_wp2_with fail
  go_ret
  exact ⟨_, rfl, HC1.out, HG1.out⟩
set_option maxHeartbeats 400000 in
theorem int_any (g b m cap : Nat) (P : Int → Prop) (w : World) (hc : Cur g w) (hb : b ≠ g) (hm : 1 ≤ m) (hm2 : m ≤ 9223372036854775807) (hl : ∀ j, j < m → ∃ x : Int, w.cell? ⟨b, j, none⟩ = some (.int .i64 x) ∧ P x) : Calls Try.prog 87 #[.pointer (some ⟨g, 0, none⟩), .slice (some ⟨b, 0, none⟩) m cap] w (Gives g w P) := by
  have HC := Lib.hid hc
  have HL := Lib.hid hl
  clear hc hl
  go_enter Try.func87, Try.ntmps87
  go_wp2_with fail
  refine (below_any g m _ HC.out (by omega)).mono ?_
  rintro e w1 ⟨x, rfl, ⟨x0, x1, _⟩, hc1, hg1⟩
  obtain ⟨k, rfl⟩ := Int.eq_ofNat_of_zero_le x0
  have hk : k < m := by omega
  obtain ⟨y, hy, hp⟩ := HL.out k hk
  have hy1 := hg1.cell hy (by simpa using hb)
  have HC1 := Lib.hid hc1
  have HG1 := Lib.hid hg1
  have HP := Lib.hid hp
  clear hc1 hg1 hy hp x1
  go_wp2_with fail
  go_ret
  exact ⟨_, rfl, HP.out, HC1.out, HG1.out⟩
def GivesS (g : Nat) (w : World) (P : ByteArray → Prop) (e : Ending) (w' : World) : Prop := ∃ s : ByteArray, e = .returned (.string s) ∧ P s ∧ Cur g w' ∧ w.grownBy w' (some g)
set_option maxHeartbeats 400000 in
theorem str_any (g b m cap : Nat) (P : ByteArray → Prop) (w : World) (hc : Cur g w) (hb : b ≠ g) (hm : 1 ≤ m) (hm2 : m ≤ 9223372036854775807) (hl : ∀ j, j < m → ∃ s : ByteArray, w.cell? ⟨b, j, none⟩ = some (.string s) ∧ P s) : Calls Try.prog 180 #[.pointer (some ⟨g, 0, none⟩), .slice (some ⟨b, 0, none⟩) m cap] w (GivesS g w P) := by
  have HC := Lib.hid hc
  have HL := Lib.hid hl
  clear hc hl
  go_enter Try.func180, Try.ntmps180
  go_wp2_with fail
  refine (below_any g m _ HC.out (by omega)).mono ?_
  rintro e w1 ⟨x, rfl, ⟨x0, x1, _⟩, hc1, hg1⟩
  obtain ⟨k, rfl⟩ := Int.eq_ofNat_of_zero_le x0
  have hk : k < m := by omega
  obtain ⟨y, hy, hp⟩ := HL.out k hk
  have hy1 := hg1.cell hy (by simpa using hb)
  have HC1 := Lib.hid hc1
  have HG1 := Lib.hid hg1
  have HP := Lib.hid hp
  clear hc1 hg1 hy hp x1
  go_wp2_with fail
  go_ret
  exact ⟨_, rfl, HP.out, HC1.out, HG1.out⟩
end Go.Proofs.Ytllkpapkkgfjaac.Cur
