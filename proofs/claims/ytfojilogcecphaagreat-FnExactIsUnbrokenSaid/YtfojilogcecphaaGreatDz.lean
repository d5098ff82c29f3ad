/- Small contracts and openings, for data of any depth. -/
import Derived.Test.YtfojilogcecphaaGreatEd
import Derived.Test.YtfojilogcecphaaGreatStI
import Derived.Test.YtfojilogcecphaaGreatSlI
import Derived.OpenShut
import Derived.Deep.Fields
import Derived.LoopTactic
namespace Go.Proofs.YtfojilogcecphaaGreat.Dz
open Go.ChangeShapes Go.WideShapes Go.ChangeAt Go.RowKit Sl St Ed

/-- The call answers a value; what lay before is as it was. -/
def Val (v : Value) (w : World) (e : Ending) (w' : World) : Prop := e = .returned v ∧ Below w.heap.size w w'
def Yes (w : World) (e : Ending) (w' : World) : Prop := e = .returned (.bool true) ∧ Below w.heap.size w w'
theorem val_of {v v' : Value} {w w' : World} (h : v' = v) (hb : Below w.heap.size w w') : Val v w (.returned v') w' := ⟨by rw [h], hb⟩
theorem box1 (w : World) (o : Obj) : Below w.heap.size w (w.alloc o) := (Below.refl _ _).alloc (Nat.le_refl _) _
/-! ### openings -/
section
variable {H : Type} {enc : TypeId × Value → H} {P : Program} {W : World} {fuel : Nat} {cs : List Value} {X : DataW H × List MemPlace}
theorem o_int {t : TypeId} (ht : P.underlying t = some (.int .i64)) (h : DataW.trod enc P W 0 (fun _ => true) true fuel t cs = some X) : ∃ x, int.rd (fun _ => True) W cs x := by
  by_cases hl : cs.length = 1
  · obtain ⟨c, rfl⟩ : ∃ c, cs = [c] := by
      match cs, hl with
      | [c], _ => exact ⟨c, rfl⟩
    obtain ⟨z, hz, _, hw⟩ := DataW.trod_int ht h
    exact ⟨z, hz, bounds_i64 hw⟩
  · obtain ⟨z, hz, _, hw⟩ := DataW.trod_int ht h
    exact ⟨z, hz, bounds_i64 hw⟩
theorem o_bool {t : TypeId} (ht : P.underlying t = some .bool) (h : DataW.trod enc P W 0 (fun _ => true) true fuel t cs = some X) : ∃ x, bool.rd (fun _ => True) W cs x := by
  obtain ⟨z, hz, _⟩ := DataW.trod_bool ht h
  exact ⟨z, hz⟩
theorem o_flat {α : Type} {E : En α} {Q : α → Prop} {t : TypeId} {fs : Array Field} {n : Nat} (hs : P.underlying t = some (.struct fs)) (hi : intFields P fs = true) (hN : fs.size = n) (mk : (Nat → Int) → α) (hof : ∀ f, E.of (mk f) = ints n f)
    (hQ : ∀ f : Nat → Int, (∀ j, j < n → -9223372036854775808 ≤ f j ∧ f j ≤ 9223372036854775807) → Q (mk f)) (hl : cs.length = n) (h : DataW.trod enc P W 0 (fun _ => true) true fuel t cs = some X) : ∃ x, (flat E Q).rd (fun _ => True) W cs x := by
  obtain ⟨f, hc, hr⟩ := ints_of hs hi (by rw [hl, hN]) h
  rw [hN] at hc hr
  exact ⟨mk f, by rw [hof]; exact hc, hQ f hr⟩
theorem o_sl {α : Type} {E : Ent α} {t e : TypeId} (ht : P.underlying t = some (.slice e)) (hC : P.cellsOf e = E.C)
    (hel : ∀ {fuel : Nat} {cs : List Value} {X : DataW H × List MemPlace}, cs.length = E.C → DataW.trod enc P W 0 (fun _ => true) true fuel e cs = some X → ∃ x, E.rd (fun _ => True) W cs x)
    (h : DataW.trod enc P W 0 (fun _ => true) true fuel t cs = some X) : ∃ x, (sl E).rd (fun _ => True) W cs x := by
  rcases Go.Deep.open_slice ht h with ⟨rfl, _⟩ | ⟨a, len, cap, m, n', D, Pl, rfl, _, hl, hm, hmm, _, hcell⟩
  · exact ⟨[], _, _, _, rfl, Nat.le_refl 0, RdD.nil_ _ _ _ _⟩
  · have hle : len ≤ m := by rw [hmm]; split <;> omega
    rw [hC] at hcell
    have key : ∀ i, i < len → ∃ z : α × List Value, W.cells? 0 (a.add (i * E.C)) E.C = some z.2 ∧ E.rd (fun _ => True) W z.2 z.1 := by
      intro i hil
      obtain ⟨cs', hc, ht'⟩ := hcell i (by omega)
      obtain ⟨_, hcl, _⟩ := World.cells?_some hc
      obtain ⟨z, hz⟩ := hel hcl ht'
      exact ⟨(z, cs'), hc, hz⟩
    rcases Nat.eq_zero_or_pos len with rfl | hpos
    · exact ⟨[], _, _, _, rfl, Nat.zero_le _, RdD.nil_ _ _ _ _⟩
    obtain ⟨f, hf⟩ : ∃ f : Nat → α × List Value, ∀ i, i < len → W.cells? 0 (a.add (i * E.C)) E.C = some (f i).2 ∧ E.rd (fun _ => True) W (f i).2 (f i).1 :=
      ⟨fun i => if h : i < len then Classical.choose (key i h) else Classical.choose (key 0 hpos), fun i hil => by simp only [dif_pos hil]; exact Classical.choose_spec (key i hil)⟩
    have cell : ∀ i, i < len → ∀ j v, (f i).2[j]? = some v → W.cell? (a.add (i * E.C + j)) = some v := by
      intro i hil j v hv
      obtain ⟨_, hcl, hat⟩ := World.cells?_some (hf i hil).1
      have hj : j < E.C := by rw [← hcl]; exact (List.getElem?_eq_some_iff.1 hv).1
      have h1 := hat j hj
      rw [hv] at h1
      rw [← Go.Deep.add_add]
      exact h1
    have c0 : ∃ v, (f 0).2[0]? = some v := by
      obtain ⟨_, hcl, _⟩ := World.cells?_some (hf 0 hpos).1
      have hp := E.pos
      exact ⟨_, List.getElem?_eq_getElem (show 0 < (f 0).2.length by omega)⟩
    obtain ⟨v0, hv0⟩ := c0
    obtain ⟨ab, ao, spot⟩ := a
    have h0 := cell 0 hpos 0 v0 hv0
    have hspot : spot = none := by simpa [Addr.add] using World.cell?_spot h0
    subst hspot
    rw [Addr.add_lit] at h0
    refine ⟨(List.range len).map fun i => (f i).1, _, len, cap, rfl, hl, by simp, by omega, fun _ => ⟨ab, ao, rfl, trivial, World.block_lt_of_cell? W _ h0, fun i x hx => ?_⟩⟩
    have hi : i < len := by
      have := (List.getElem?_eq_some_iff.1 hx).1
      simpa using this
    rw [List.getElem?_map, List.getElem?_range hi, Option.map_some, Option.some.injEq] at hx
    subst hx
    refine ⟨(f i).2, fun j v hv => ?_, (hf i hi).2⟩
    have h1 := cell i hi j v hv
    rw [Addr.add_lit, ← Nat.add_assoc] at h1
    exact h1
theorem open_slk {α : Type} {E : Ent α} {t e : TypeId} {base : Nat} {v : Value} {d : DataW H} {pl : List MemPlace} (ht : P.underlying t = some (.slice e)) (hC : P.cellsOf e = E.C)
    (hel : ∀ {fuel : Nat} {cs : List Value} {X : DataW H × List MemPlace}, cs.length = E.C → DataW.trod enc P W 0 (fun _ => true) true fuel e cs = some X → ∃ x, E.rd (fun _ => True) W cs x)
    (h : DataW.Trod enc P W 0 (fun _ => true) true t v d pl) (hk : Value.okWide P W .any base t v) : ∃ (p : Option Addr) (n c : Nat) (l : List α), v = .slice p n c ∧ n ≤ c ∧ RdD E (fun _ => True) W p n l := by
  obtain ⟨a1, len, cap, rfl⟩ := okWide_slice ht hk
  obtain ⟨fuel, hf⟩ := h
  simp only [Value.cells] at hf
  obtain ⟨x, p, n, c, e, hk0, hr⟩ := o_sl ht hC hel hf
  have e' : [Value.slice a1 len cap] = [Value.slice p n c] := e
  simp only [List.cons.injEq, Value.slice.injEq, and_true] at e'
  obtain ⟨rfl, rfl, rfl⟩ := e'
  exact ⟨_, _, _, x, rfl, hk0, hr⟩
theorem open_sl {α : Type} {E : Ent α} {t e : TypeId} {base : Nat} {v : Value} {d : DataW H} {pl : List MemPlace} (ht : P.underlying t = some (.slice e)) (hC : P.cellsOf e = E.C)
    (hel : ∀ {fuel : Nat} {cs : List Value} {X : DataW H × List MemPlace}, cs.length = E.C → DataW.trod enc P W 0 (fun _ => true) true fuel e cs = some X → ∃ x, E.rd (fun _ => True) W cs x)
    (h : DataW.Trod enc P W 0 (fun _ => true) true t v d pl) (hk : Value.okWide P W .any base t v) : ∃ (p : Option Addr) (n c : Nat) (l : List α), v = .slice p n c ∧ RdD E (fun _ => True) W p n l := by
  obtain ⟨p, n, c, l, e, _, hr⟩ := open_slk ht hC hel h hk
  exact ⟨p, n, c, l, e, hr⟩
end
/-! ### a struct's cells, part by part -/
section
variable {α β : Type} {E : Ent α} {F : Ent β} {S : Nat → Prop} {W : World} {cs : List Value} {x : α} {y : β}
theorem rd_last {o n : Nat} (hl : (cs.drop o).length = n) (h : E.rd S W ((cs.drop o).take n) x) : E.rd S W (cs.drop o) x := by
  rwa [List.take_of_length_le (by omega)] at h
theorem rd_next {o n o' : Nat} (hn : E.C = n) (ho : o + n = o') (h1 : E.rd S W ((cs.drop o).take n) x) (h2 : F.rd S W (cs.drop o') y) : (pair E F).rd S W (cs.drop o) (x, y) := by
  subst hn ho
  refine ⟨(cs.drop o).take E.C, (cs.drop o).drop E.C, (List.take_append_drop _ _).symm, h1, ?_⟩
  rw [List.drop_drop]
  exact h2
theorem rd_first (h : E.rd S W (cs.drop 0) x) : E.rd S W cs x := by
  rwa [List.drop_zero] at h
end
/-! ### sizes -/
theorem szI_big (p : Option Addr) (n c : Nat) (left : Int) (w : World) (h0 : 0 ≤ left) (h1 : left ≤ 1048576) (h : left < n) (hn : n ≤ 9223372036854775807) : Calls Tryz.prog 56 #[.slice p n c, .int .i64 left] w fun e w' => e = .returned (.int .i64 (-1)) ∧ w = w' := by
  go_enter Tryz.func56, Tryz.ntmps56
  go_wp2_with fail
  go_ret
  exact ⟨rfl, rfl⟩
theorem szI_fits (p : Option Addr) (n c : Nat) (left : Int) (w : World) (h1 : left ≤ 1048576) (h : n ≤ left) : Calls Tryz.prog 56 #[.slice p n c, .int .i64 left] w fun e w' => e = .returned (.int .i64 (left - n)) ∧ w = w' := by
  go_enter Tryz.func56, Tryz.ntmps56
  go_wp2_with fail
  go_ret
  exact ⟨rfl, rfl⟩
end Go.Proofs.YtfojilogcecphaaGreat.Dz
