/- What is of no program: arguments that are structs of ints, by value and in slices, opened to their numbers. -/
import Derived.Test.YtfojilogcecphaaGreatSt
import Derived.Deep.Slices
import Derived.Deep.Fields
import Derived.ChangeSame
import Derived.ChangeSlices
import Derived.Lib.SmallJoins
namespace Go.Proofs.YtfojilogcecphaaGreat.St
open Go.ChangeShapes Go.WideShapes Go.ChangeAt Go.RowKit Go.Deep Sl

/-- all fields are ints of 64 bits, one cell each -/
def intFields (P : Program) (fs : Array Field) : Bool := oneCellFields P fs && fs.all fun f => match P.underlying f.type with | some (.int .i64) => true | _ => false
/-- n numbers as cells -/
def ints (n : Nat) (f : Nat → Int) : List Value := (List.range n).map fun j => .int .i64 (f j)
theorem ints_len (n : Nat) (f : Nat → Int) : (ints n f).length = n := by simp [ints]
theorem ints_at {n j : Nat} (f : Nat → Int) (h : j < n) : (ints n f)[j]? = some (.int .i64 (f j)) := by simp [ints, h]
section
variable {H : Type} {enc : TypeId × Value → H} {P : Program} {W : World} {base : Nat} {spare : Nat → Bool} {held : Bool}
theorem int_field {fs : Array Field} (h : intFields P fs = true) {j : Nat} {f : Field} (hj : fs[j]? = some f) : P.underlying f.type = some (.int .i64) := by
  unfold intFields at h
  rw [Bool.and_eq_true] at h
  have h2 := h.2
  rw [Array.all_eq_true] at h2
  obtain ⟨hlt, he⟩ := Array.getElem?_eq_some_iff.1 hj
  have := h2 j hlt
  rw [he] at this
  split at this
  · assumption
  · cases this
/-- the cells of one struct of ints -/
theorem ints_of {fs : Array Field} {fuel : Nat} {t : TypeId} {cs : List Value} {x : DataW H × List MemPlace} (he : P.underlying t = some (.struct fs)) (hi : intFields P fs = true) (hl : cs.length = fs.size) (h : DataW.trod enc P W base spare held fuel t cs = some x) :
    ∃ f : Nat → Int, cs = ints fs.size f ∧ ∀ j, j < fs.size → -9223372036854775808 ≤ f j ∧ f j ≤ 9223372036854775807 := by
  have hone : oneCellFields P fs = true := by unfold intFields at hi; rw [Bool.and_eq_true] at hi; exact hi.1
  obtain ⟨ys, n', _, _, _, hyl, hf⟩ := DataW.trod_struct he h
  have key : ∀ j, j < fs.size → ∃ z : Int, cs[j]? = some (.int .i64 z) ∧ -9223372036854775808 ≤ z ∧ z ≤ 9223372036854775807 := by
    intro j hj
    have hfj : fs[j]? = some fs[j] := Array.getElem?_eq_getElem hj
    obtain ⟨ho, hk⟩ := hone_of hone j _ hfj
    have h1 := hf j _ hfj
    rw [ho, hk] at h1
    have hc : cs[j]? = some (cs[j]'(by omega)) := List.getElem?_eq_getElem (by omega)
    have hd : (cs.drop j).take 1 = [cs[j]'(by omega)] := by
      rw [List.drop_eq_getElem_cons (by omega)]
      rfl
    rw [hd, List.getElem?_eq_getElem (show j < ys.length by omega)] at h1
    obtain ⟨z, hz, _, hw⟩ := DataW.trod_int (int_field hi hfj) h1
    simp only [List.cons.injEq, and_true] at hz
    exact ⟨z, by rw [hc, hz], bounds_i64 hw⟩
  refine ⟨fun j => if h : j < fs.size then Classical.choose (key j h) else 0, ?_, fun j hj => ?_⟩
  · apply List.ext_getElem?
    intro j
    by_cases hj : j < fs.size
    · rw [ints_at _ hj, dif_pos hj]
      exact (Classical.choose_spec (key j hj)).1
    · rw [List.getElem?_eq_none (by omega), List.getElem?_eq_none (by rw [ints_len]; omega)]
  · simp only [dif_pos hj]
    exact (Classical.choose_spec (key j hj)).2
/-- a struct of ints by value -/
theorem open_ints_val {r : Reach} {b0 : Nat} {t : TypeId} {fs : Array Field} {v : Value} {d : DataW H} {p : List MemPlace} (hs : P.underlying t = some (.struct fs)) (hi : intFields P fs = true) (hC : P.cellsOf t = fs.size)
    (hv : Value.okWide P W r b0 t v) (h : DataW.Trod enc P W base spare held t v d p) :
    ∃ f : Nat → Int, v = .agg (ints fs.size f).toArray ∧ ∀ j, j < fs.size → -9223372036854775808 ≤ f j ∧ f j ≤ 9223372036854775807 := by
  obtain ⟨cs, rfl, hsz⟩ := okWide_struct hs hv
  obtain ⟨fuel, hf⟩ := h
  obtain ⟨f, hc, hr⟩ := ints_of hs hi (by simp only [Value.cells, Array.length_toList]; rw [hsz, hC]) hf
  refine ⟨f, ?_, hr⟩
  simp only [Value.cells] at hc
  rw [← hc]
/-- a slice of structs of ints -/
theorem open_ints_slice {t e : TypeId} {fs : Array Field} {v : Value} {d : DataW H} {pl : List MemPlace} (ht : P.underlying t = some (.slice e)) (he : P.underlying e = some (.struct fs)) (hi : intFields P fs = true) (hC : P.cellsOf e = fs.size)
    (hk : Value.okWide P W .any base t v) (h : DataW.Trod enc P W 0 spare held t v d pl) :
    ∃ p n c, v = .slice p n c ∧ n ≤ maxLen ∧ ∃ f : Nat → Nat → Int, (∀ i, i < n → ∀ j, j < fs.size → -9223372036854775808 ≤ f i j ∧ f i j ≤ 9223372036854775807) ∧ (0 < n → 0 < fs.size → ∃ b o, p = some ⟨b, o, none⟩ ∧ b < W.heap.size ∧ ∀ i, i < n → ∀ j, j < fs.size → W.cell? ⟨b, o + i * fs.size + j, none⟩ = some (.int .i64 (f i j))) := by
  obtain ⟨a1, len, cap, rfl⟩ := okWide_slice ht hk
  obtain ⟨fuel, hf⟩ := h
  rcases Go.Deep.open_slice ht hf with ⟨hcs, _⟩ | ⟨a, len', cap', m, n', D, Pl, hcs, _, hl, hm, hmm, _, hel⟩
  · simp only [Value.cells, List.cons.injEq, Value.slice.injEq, and_true] at hcs
    obtain ⟨rfl, rfl, rfl⟩ := hcs
    exact ⟨_, _, _, rfl, Nat.zero_le _, fun _ _ => 0, fun i h => absurd h (Nat.not_lt_zero _), fun h => absurd h (Nat.lt_irrefl 0)⟩
  · simp only [Value.cells, List.cons.injEq, Value.slice.injEq, and_true] at hcs
    obtain ⟨rfl, rfl, rfl⟩ := hcs
    have hle : len ≤ m := by rw [hmm]; split <;> omega
    have key : ∀ i, i < len → ∃ f : Nat → Int, W.cells? 0 (a.add (i * fs.size)) fs.size = some (ints fs.size f) ∧ ∀ j, j < fs.size → -9223372036854775808 ≤ f j ∧ f j ≤ 9223372036854775807 := by
      intro i hil
      obtain ⟨cs', hc, ht'⟩ := hel i (by omega)
      rw [hC] at hc
      obtain ⟨_, hcl, _⟩ := World.cells?_some hc
      obtain ⟨f, hcf, hr⟩ := ints_of he hi hcl ht'
      exact ⟨f, by rw [hc, hcf], hr⟩
    refine ⟨some a, len, cap, rfl, by omega, fun i j => if h : i < len then Classical.choose (key i h) j else 0, fun i hil j hj => ?_, fun hpos hfs => ?_⟩
    · simp only [dif_pos hil]
      exact (Classical.choose_spec (key i hil)).2 j hj
    · have cell : ∀ i, (hil : i < len) → ∀ j, j < fs.size → W.cell? (a.add (i * fs.size + j)) = some (.int .i64 (Classical.choose (key i hil) j)) := by
        intro i hil j hj
        obtain ⟨_, _, hat⟩ := World.cells?_some (Classical.choose_spec (key i hil)).1
        have h1 := hat j hj
        rw [ints_at _ hj] at h1
        rw [← Go.Deep.add_add]
        exact h1
      obtain ⟨ab, ao, spot⟩ := a
      have hspot : spot = none := by simpa [Addr.add] using World.cell?_spot (cell 0 hpos 0 hfs)
      subst hspot
      have h00 := cell 0 hpos 0 hfs
      rw [Addr.add_lit] at h00
      refine ⟨ab, ao, rfl, World.block_lt_of_cell? W _ h00, fun i hil j hj => ?_⟩
      have h1 := cell i hil j hj
      rw [Addr.add_lit, ← Nat.add_assoc] at h1
      simp only [dif_pos hil]
      exact h1
end
end Go.Proofs.YtfojilogcecphaaGreat.St
