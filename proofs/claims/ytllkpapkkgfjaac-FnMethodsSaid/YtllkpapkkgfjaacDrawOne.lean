/- Contracts of the reference's draws of integers: each answers some number; the cursor is made anew. -/
import Derived.Test.YtllkpapkkgfjaacCur
import Derived.Test.YtllkpapkkgfjaacFmt
namespace Go.Proofs.Ytllkpapkkgfjaac.Cur
open Go.ChangeShapes Go.WideShapes Go.ChangeAt Go.RowKit

/-- v is a slice of n bytes of the world w. -/
def Code (v : Value) (n : Nat) (w : World) : Prop :=
  n ≤ maxLen ∧ ((n = 0 ∧ ∃ a cap, v = .slice a 0 cap) ∨ ∃ b off cap, v = .slice (some ⟨b, off, none⟩) n cap ∧ b < w.heap.size ∧ ∀ j, j < n → ∃ x : Int, w.cell? ⟨b, off + j, none⟩ = some (.int .u8 x) ∧ 0 ≤ x ∧ x ≤ 255)
theorem Code.on {v : Value} {n : Nat} {w w' : World} (h : Code v n w) (hb : Below w.heap.size w w') : Code v n w' := by
  obtain ⟨hm, h⟩ := h
  refine ⟨hm, ?_⟩
  rcases h with h | ⟨b, off, cap, hv, hlt, hc⟩
  · exact Or.inl h
  · exact Or.inr ⟨b, off, cap, hv, Nat.lt_of_lt_of_le hlt hb.size, fun j hj => by
      obtain ⟨x, hx, h0⟩ := hc j hj
      exact ⟨x, (hb.cell (p := ⟨b, off + j, none⟩) hlt).trans hx, h0⟩⟩
theorem Code.at_new {v : Value} {n : Nat} {w w' : World} (h : Code v n w) (hb : Below w.heap.size w w') : CodeAt w.heap.size v n w' := by
  obtain ⟨hm, h⟩ := h
  refine ⟨hm, ?_⟩
  rcases h with h | ⟨b, off, cap, hv, hlt, hc⟩
  · exact Or.inl h
  · exact Or.inr ⟨b, off, cap, hv, by omega, fun j hj => by
      obtain ⟨x, hx, h0⟩ := hc j hj
      exact ⟨x, (hb.cell (p := ⟨b, off + j, none⟩) hlt).trans hx, h0⟩⟩
set_option maxRecDepth 100000 in
/-- WHAT A SLICE OF BYTES THAT CAME IN GIVES. -/
theorem code_of {H : Type} {enc : TypeId × Value → H} {W : World} {base : Nat} {v : Value} {d : DataW H} {p : List MemPlace} (h : DataW.Trod enc Try.prog W 0 (fun _ => true) true 22 v d p) (k : Value.okWide Try.prog W .any base 22 v) : ∃ n, Code v n W := by
  obtain ⟨a1, len, cap, rfl⟩ := okWide_slice Try.underlying22 k
  obtain ⟨fuel, hf⟩ := h
  have c1 : Try.prog.cellsOf 5 = 1 := by kernel_rfl
  rcases open_ints Try.underlying22 Try.underlying5 c1 hf with ⟨hcs, hx⟩ | ⟨a, len', cap', zs, hcs, _, hl, hm, hz, hx, hcell, hwz⟩
  · simp [Value.cells] at hcs
    obtain ⟨rfl, rfl, rfl⟩ := hcs
    exact ⟨0, Nat.zero_le _, Or.inl ⟨rfl, _, _, rfl⟩⟩
  · simp [Value.cells] at hcs
    obtain ⟨rfl, rfl, rfl⟩ := hcs
    simp only [if_true] at hz
    rcases Nat.eq_zero_or_pos len with rfl | hpos
    · exact ⟨0, Nat.zero_le _, Or.inl ⟨rfl, _, _, rfl⟩⟩
    · obtain ⟨ab, ao, spot⟩ := a
      have hspot : spot = none := by simpa [Addr.add] using World.cell?_spot (hcell 0 (by omega))
      subst hspot
      refine ⟨len, by omega, Or.inr ⟨ab, ao, cap, rfl, World.block_lt_of_cell? W _ (hcell 0 (by omega)), fun j hj => ?_⟩⟩
      have hcj := hcell j (by omega)
      rw [Addr.add_lit] at hcj
      have hb := range_u8 hwz j
      rw [List.getD_eq_getElem?_getD] at hcj
      exact ⟨_, hcj, hb.1, hb.2⟩

theorem and30 (x : Int) : -9223372036854775808 ≤ bits .and .i64 x 1073741823 ∧ bits .and .i64 x 1073741823 ≤ 9223372036854775807 := by
  have e : bits .and .i64 x 1073741823 = IntKind.i64.wrap ((BitVec.ofInt 64 x &&& BitVec.ofInt 64 1073741823).toNat : Int) := rfl
  rw [e, IntKind.wrap_i64]
  omega

/-- The cursor is made: a new block. -/
def Made (w : World) (e : Ending) (w' : World) : Prop := e = .returned (.pointer (some ⟨w.heap.size, 0, none⟩)) ∧ Cur w.heap.size w' ∧ Below w.heap.size w w'
theorem made_mk {v : Value} {n : Nat} {w : World} {z : Int} (h : Code v n w) (hz : -9223372036854775808 ≤ z ∧ z ≤ 9223372036854775807) :
    Made w (.returned (.pointer (some ⟨w.heap.size, 0, none⟩))) (w.alloc (.cells #[v, .int .i64 0, .int .i64 z] 170)) := by
  have hb : Below w.heap.size w (w.alloc (.cells #[v, .int .i64 0, .int .i64 z] 170)) := (Below.refl _ _).alloc (Nat.le_refl _) _
  exact ⟨rfl, ⟨v, n, 0, z, heap_alloc_new w _, h.at_new hb, Nat.zero_le _, hz⟩, hb⟩
set_option maxHeartbeats 400000 in
theorem new_any (v : Value) (n : Nat) (w : World) (hc : Code v n w) : Calls Try.prog 84 #[v] w (Made w) := by
  have HC := Lib.hid hc
  obtain ⟨hm, hc⟩ := hc
  unfold maxLen at hm
  rcases hc with ⟨hn, a0, cap0, rfl⟩ | ⟨b, off, cap, rfl, hlt, hcell⟩
  · subst hn
    go_enter Try.func84, Try.ntmps84
    go_wp2_with fail
    go_loop [3, 4] (fun h i => i = .int .i64 0 ∧ ∃ z : Int, h = .int .i64 z ∧ -9223372036854775808 ≤ z ∧ z ≤ 9223372036854775807) (fun _ _ => 0)
    case atStart => exact ⟨rfl, _, rfl, by omega, by omega⟩
    case round =>
      obtain ⟨rfl, z, rfl, hz⟩ := hrel
      go_wp2_with fail
      go_ret
      exact made_mk HC.out hz
  · have HL := Lib.hid hcell
    clear hcell
    go_enter Try.func84, Try.ntmps84
    go_wp2_with fail
    go_loop [3, 4] (fun h i => ∃ (k : Nat) (z : Int), k ≤ n ∧ i = .int .i64 k ∧ h = .int .i64 z ∧ -9223372036854775808 ≤ z ∧ z ≤ 9223372036854775807) (fun _ i => n - (intOf i).toNat)
    case atStart => exact ⟨0, _, Nat.zero_le _, rfl, rfl, wrap64_in _⟩
    case round =>
      obtain ⟨k, z, hk, rfl, rfl, hz⟩ := hrel
      by_cases h1 : k < n
      · by_cases h2 : k < 4000
        · obtain ⟨x, hx, x0, x1⟩ := HL.out k h1
          have hd : decide ((k : Int) < 4000) = true := by rw [decide_eq_true_iff]; omega
          have H2 := Lib.hid h2
          clear h2
          go_wp2_with fail
          exact ⟨⟨k + 1, _, by omega, by go_num, rfl, and30 _⟩, by simp [intOf]; omega⟩
        · have hd : decide ((k : Int) < 4000) = false := by rw [decide_eq_false_iff_not]; omega
          have H2 := Lib.hid h2
          clear h2
          go_wp2_with fail
          go_ret
          exact made_mk HC.out hz
      · go_wp2_with fail
        go_ret
        exact made_mk HC.out hz
theorem Cur.on {g : Nat} {w w' : World} (h : Cur g w) (hb : Below w.heap.size w w') : Cur g w' := by
  have hg := h.lt
  obtain ⟨v, n, k, z, hc, hcode, h1⟩ := h
  exact ⟨v, n, k, z, (hb.block g hg).trans hc, hcode.on (only_of_below hb _), h1⟩
theorem below_alloc (w : World) (o : Obj) : Below w.heap.size w (w.alloc o) := (Below.refl _ _).alloc (Nat.le_refl _) _
theorem lits_at (w : World) (zs : List Int) (T : TypeId) (j : Nat) (hj : j < zs.length) : ∃ x, (w.alloc (.cells (zs.map (Value.int .i64)).toArray T)).cell? ⟨w.heap.size, j, none⟩ = some (.int .i64 x) ∧ x ∈ zs := by
  refine ⟨zs[j], ?_, List.getElem_mem hj⟩
  rw [World.cell?_alloc_new]
  simp [hj]
theorem strs_at (w : World) (zs : List ByteArray) (T : TypeId) (j : Nat) (hj : j < zs.length) : ∃ x, (w.alloc (.cells (zs.map Value.string).toArray T)).cell? ⟨w.heap.size, j, none⟩ = some (.string x) ∧ x ∈ zs := by
  refine ⟨zs[j], ?_, List.getElem_mem hj⟩
  rw [World.cell?_alloc_new]
  simp [hj]
theorem Gives.from {g : Nat} {w w1 : World} {P : Int → Prop} {e : Ending} {w' : World} (h : Gives g w1 P e w') (hg : w.grownBy w1 (some g)) : Gives g w P e w' := by
  obtain ⟨x, he, hp, hc, h1⟩ := h
  exact ⟨x, he, hp, hc, only_trans hg h1⟩
theorem GivesS.from {g : Nat} {w w1 : World} {P : ByteArray → Prop} {e : Ending} {w' : World} (h : GivesS g w1 P e w') (hg : w.grownBy w1 (some g)) : GivesS g w P e w' := by
  obtain ⟨x, he, hp, hc, h1⟩ := h
  exact ⟨x, he, hp, hc, only_trans hg h1⟩
/-- one of a literal's ints -/
theorem int_lit (g : Nat) (zs : List Int) (w : World) (hc : Cur g w) (h1 : 1 ≤ zs.length) (h2 : zs.length ≤ 9223372036854775807) : Calls Try.prog 87 #[.pointer (some ⟨g, 0, none⟩), .slice (some ⟨w.heap.size, 0, none⟩) zs.length zs.length] (w.alloc (.cells (zs.map (Value.int .i64)).toArray 3)) (Gives g w fun x => x ∈ zs) := by
  have hlt := hc.lt
  refine (int_any g w.heap.size zs.length zs.length (fun x => x ∈ zs) _ (hc.on (below_alloc w _)) (by omega) h1 h2 (lits_at w zs _)).mono ?_
  intro e w' h
  exact h.from (only_of_below (below_alloc w _) _)
theorem str_lit (g : Nat) (zs : List ByteArray) (w : World) (hc : Cur g w) (h1 : 1 ≤ zs.length) (h2 : zs.length ≤ 9223372036854775807) : Calls Try.prog 180 #[.pointer (some ⟨g, 0, none⟩), .slice (some ⟨w.heap.size, 0, none⟩) zs.length zs.length] (w.alloc (.cells (zs.map Value.string).toArray 9)) (GivesS g w fun x => x ∈ zs) := by
  have hlt := hc.lt
  refine (str_any g w.heap.size zs.length zs.length (fun x => x ∈ zs) _ (hc.on (below_alloc w _)) (by omega) h1 h2 (strs_at w zs _)).mono ?_
  intro e w' h
  exact h.from (only_of_below (below_alloc w _) _)
def isInt (x : Int) : Prop := -9223372036854775808 ≤ x ∧ x ≤ 9223372036854775807
def isNum (x : Int) : Prop := 0 ≤ x ∧ x ≤ 1000000000000
theorem isNum.isInt {x : Int} (h : isNum x) : isInt x := ⟨by have := h.1; omega, by have := h.2; omega⟩

end Go.Proofs.Ytllkpapkkgfjaac.Cur
