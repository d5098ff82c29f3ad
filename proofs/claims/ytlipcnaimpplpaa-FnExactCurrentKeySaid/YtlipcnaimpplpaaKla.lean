/- A list of distinct elements that grows in a box: add. -/
import Derived.Test.YtlipcnaimpplpaaKls
import Derived.LoopTactic
import Derived.Outline
namespace Go.Proofs.Ytlipcnaimpplpaa.Kl
open Go.ChangeShapes Go.WideShapes Go.ChangeAt Go.RowKit Sl St Fnd Hx
/-- the box at g holds a slice of the call's own, which lies behind g, and reads as out -/
def Dl (g : Nat) (out : List Int) (w : World) : Prop := ∃ (p : Option Addr) (n c : Nat), Bx w g 80 #[.slice p n c] ∧ Ow .i64 3 w (g + 1) w.heap.size p n c out
theorem grown_set0 {w : World} (g j : Nat) (v : Value) : w.grownBy (w.setCell ⟨g, j, none⟩ v) (some g) := ⟨rfl, rfl, rfl, by simp [World.setCell], fun i hi hne => Below.heap_setCell w ⟨g, j, none⟩ v i (by rintro rfl; exact hne rfl)⟩
theorem own_far {w : World} {lo hi g n c : Nat} {p : Option Addr} {out : List Int} (h : Ow .i64 3 w lo hi p n c out) (hg : g < lo) : (Value.slice p n c).ownBlock ≠ some g := by
  rcases h.form with ⟨rfl, rfl, rfl⟩ | ⟨b, rfl, hb, _⟩
  · simp [Value.ownBlock]
  · simp only [Value.ownBlock, ne_eq, Option.some.injEq]
    omega
set_option maxRecDepth 100000 in
set_option maxHeartbeats 4000000 in
theorem add_there (g : Nat) (out : List Int) (x : Int) (w : World) (h : Dl g out w) (hh : hasI out x = true) : Calls Try.prog 47 #[.pointer (some ⟨g, 0, none⟩), .int .i64 x] w fun e w' => e = .returned (.bool false) ∧ w = w' := by
  obtain ⟨p, n, c, hb, ho⟩ := h
  have x0 := hb.cell (j := 0) rfl
  have HO := Lib.hid ho
  have HH := Lib.hid hh
  clear hb ho hh
  go_enter Try.func47, Try.ntmps47
  go_wp2_with fail
  refine (contains_any _ _ _ _ _ _ HO.out.rd).mono ?_
  rintro e w1 ⟨rfl, rfl⟩
  rw [HH.out]
  go_wp2_with fail
  go_ret
  exact ⟨rfl, rfl⟩
set_option maxRecDepth 100000 in
set_option maxHeartbeats 4000000 in
theorem add_new (g : Nat) (out : List Int) (x : Int) (w : World) (h : Dl g out w) (hh : hasI out x = false) (hx : inK .i64 x) (hl : out.length ≤ 20000000) : Calls Try.prog 47 #[.pointer (some ⟨g, 0, none⟩), .int .i64 x] w fun e w' => e = .returned (.bool true) ∧ Dl g (out ++ [x]) w' ∧ Below g w w' := by
  obtain ⟨i0, hi, hz0, hz1, hz2⟩ := info_parts SlI.info
  obtain ⟨p, n, c, hb, ho⟩ := h
  have x0 := hb.cell (j := 0) rfl
  have hn : n ≤ 20000000 := by rw [← ho.len]; exact hl
  have hg := hb.lt
  have HO := Lib.hid ho
  have HH := Lib.hid hh
  have HX := Lib.hid hx
  have HBX := Lib.hid hb
  clear hb ho hh hx hl
  go_enter Try.func47, Try.ntmps47
  go_wp2_with fail
  refine (contains_any _ _ _ _ _ _ HO.out.rd).mono ?_
  rintro e w1 ⟨rfl, rfl⟩
  rw [HH.out]
  go_wp2_with (at_builtin; refine wpList_app1 rfl (.tmp 15) (.tmp 17) 28 rfl i0 _ 8 Try.underlying28 hi hz0 hz1 hz2 rfl rfl (HO.out.alloc _) w.heap.size 1 x rfl (by go_simp) HX.out (by simp; omega) (by omega) (by omega) ?_; intro p2 c2 w2 how2 hg2; have hf := own_far (HO.out) (Nat.lt_succ_self g); have HB2 := Lib.hid (Bx.grown (HBX.out.alloc _) hg2 (fun e => hf e.symm)); have HO2 := Lib.hid how2; have HE2 := Lib.hid (((Below.refl g w).alloc (Nat.le_of_lt hg) _).grown hg2 (by simp; omega) (fun k e => by rcases HO.out.form with ⟨rfl, rfl, rfl⟩ | ⟨b, rfl, hb, _⟩; simp [Value.ownBlock] at e; simp only [Value.ownBlock, Option.some.injEq] at e; omega)); have b0 := HB2.out.cell (j := 0) rfl; have bf := HB2.out.free 0; clear how2 hg2 hf)
  go_ret
  refine ⟨rfl, ⟨p2, n + 1, c2, HB2.out.set_ 0 _, ?_⟩, HE2.out.setCell (p := ⟨g, 0, none⟩) (Nat.le_refl _) _⟩
  exact (HO2.out.kept (grown_set0 _ _ _) (fun k e => by cases e; omega)).wide (Nat.le_refl _) (by simp [World.setCell]) (Nat.le_refl _)
end Go.Proofs.Ytlipcnaimpplpaa.Kl
