/- Contracts of the laws' helpers over slices of strings: opened, copied, compared, measured. -/
import Derived.Test.YtgmoldianhkifaaStM
import Derived.Test.YtgmoldianhkifaaSlI
import Derived.Deep.Strs
import Derived.Deep.QuietTactic
import Derived.BigQuiet
import Derived.LoopTactic
import Derived.Outline
namespace Go.Proofs.Ytgmoldianhkifaa.SlStr
open Go.ChangeShapes Go.WideShapes Go.ChangeAt Go.RowKit Sl St

def E : En ByteArray := ⟨fun s => [.string s], 1, fun _ => rfl, fun x v h => by simp only [List.mem_cons, List.not_mem_nil, or_false] at h; subst h; rfl, by decide⟩
theorem C_eq : E.C = 1 := rfl
theorem of_eq (x : ByteArray) : E.of x = [.string x] := rfl
theorem info : (Try.prog.info? 9).map (fun i => (i.zero, i.size, i.bytes)) = some (some (.string ByteArray.empty), 1, 16) := by kernel_rfl
set_option maxRecDepth 100000 in
/-- what a slice of ints gives, as cells -/
theorem open_cellsI {H : Type} {enc : TypeId × Value → H} {W : World} {fuel : Nat} {cs : List Value} {x : DataW H × List MemPlace} (h : DataW.trod enc Try.prog W 0 (fun _ => true) true fuel 23 cs = some x) :
    ∃ p n c zs, cs = [.slice p n c] ∧ Rd .i64 W p n zs := by
  have c1 : Try.prog.cellsOf 3 = 1 := by kernel_rfl
  rcases open_ints Try.underlying23 Try.underlying3 c1 h with ⟨hcs, _⟩ | ⟨a, len, cap, zs, hcs, _, hl, hm, hz, _, hcell, hwz⟩
  · exact ⟨_, _, _, [], hcs, Rd.nil_ _ _ _⟩
  · simp only [if_true] at hz
    refine ⟨_, _, _, zs.take len, hcs, by rw [List.length_take]; omega, by omega, fun x hx => SlI.wf_in (hwz x (List.mem_of_mem_take hx)), fun hpos => ?_⟩
    obtain ⟨ab, ao, spot⟩ := a
    have hspot : spot = none := by simpa [Addr.add] using World.cell?_spot (hcell 0 (by omega))
    subst hspot
    refine ⟨ab, ao, rfl, World.block_lt_of_cell? W _ (hcell 0 (by omega)), fun j hj => ?_⟩
    have hcj := hcell j (by omega)
    rw [Addr.add_lit] at hcj
    rw [getD_take _ hj]
    exact hcj
/-- The call answers a value; what lay before is as it was. -/
def Val (v : Value) (w : World) (e : Ending) (w' : World) : Prop := e = .returned v ∧ Below w.heap.size w w'
/-- The call answers a new slice that reads as xs; what lay before is as it was. -/
def Makes (xs : List ByteArray) (w : World) (e : Ending) (w' : World) : Prop := ∃ p n c, e = .returned (.slice p n c) ∧ OwS E 9 w' w.heap.size w'.heap.size p n c xs ∧ Below w.heap.size w w'
/-- The call answers true; what lay before is as it was. -/
def Yes (w : World) (e : Ending) (w' : World) : Prop := e = .returned (.bool true) ∧ Below w.heap.size w w'
theorem rd_at {w : World} {p : Option Addr} {n k : Nat} {xs : List ByteArray} (h : RdS E w p n xs) (hk : k < n) : ∃ b o, p = some ⟨b, o, none⟩ ∧ b < w.heap.size ∧ w.cell? ⟨b, o + k, none⟩ = some (.string (xs.getD k ByteArray.empty)) := by
  obtain ⟨b, o, x, e, hb, hx, hc⟩ := h.at_ hk
  have hd : xs.getD k ByteArray.empty = x := by rw [List.getD_eq_getElem?_getD, hx]; rfl
  have h0 := hc 0 _ rfl
  rw [C_eq, Nat.mul_one, Nat.add_zero] at h0
  rw [hd]
  exact ⟨b, o, e, hb, h0⟩

/-! ### a copy -/
/-- the copy after j elements -/
def Mid (xs : List ByteArray) (n j : Nat) (w wr : World) : Prop := OwS E 9 wr w.heap.size wr.heap.size (some ⟨w.heap.size, 0, none⟩) n n (xs.take j ++ List.replicate (n - j) ByteArray.empty) ∧ Below w.heap.size w wr
theorem Mid.start {xs : List ByteArray} {n : Nat} {w w1 : World} (hown : w1.ownsRow w.heap.size 9 1 (.slice (some ⟨w.heap.size, 0, none⟩) n n) n (madeCells (Value.cells (.string ByteArray.empty)) (n * 1)).toList) (hg : w.grownBy w1 none) : Mid xs n 0 w w1 := by
  have e := made_fl (E := E) (.string ByteArray.empty) ByteArray.empty rfl n
  rw [C_eq] at e
  rw [e] at hown
  exact ⟨OwS.of_row hown, (Below.refl _ _).grown hg (Nat.le_refl _) (fun _ h => by cases h)⟩
theorem Mid.next {xs : List ByteArray} {n j : Nat} {w wr : World} {x : ByteArray} (h : Mid xs n j w wr) (hj : j < n) (hl : xs.length = n) (hx : xs.getD j ByteArray.empty = x) : Mid xs n (j + 1) w (wr.setCell ⟨w.heap.size, j, none⟩ (.string x)) := by
  obtain ⟨h3, h4⟩ := h.1.elem (i := j) hj x
  have e : wr.setCells w.heap.size (j * E.C) (E.of x) = wr.setCell ⟨w.heap.size, j, none⟩ (.string x) := by rw [C_eq, Nat.mul_one]; rfl
  rw [e] at h3 h4
  have hw : xs[j]'(by omega) = x := by rw [← hx, List.getD_eq_getElem?_getD, List.getElem?_eq_getElem (by omega)]; rfl
  clear hx
  subst hw hl
  rw [set_mid hj] at h3
  exact ⟨h3.wide (Nat.le_refl _) (Nat.le_trans h3.2.2.1 (Nat.le_refl _)) (Nat.le_refl _), h.2.grown h4 h.2.size (fun k e => by cases e; exact Nat.le_refl _)⟩
theorem Mid.done {xs : List ByteArray} {n : Nat} {w wr : World} (h : Mid xs n n w wr) (hl : xs.length = n) : Makes xs w (.returned (.slice (some ⟨w.heap.size, 0, none⟩) n n)) wr := by
  subst hl
  obtain ⟨h1, h2⟩ := h
  rw [List.take_length, Nat.sub_self, List.replicate_zero, List.append_nil] at h1
  exact ⟨_, _, _, rfl, h1, h2⟩
theorem Mid.cell {xs : List ByteArray} {n j : Nat} {w wr : World} (h : Mid xs n j w wr) (hj : j < n) (hl : xs.length = n) : wr.cell? ⟨w.heap.size, j, none⟩ = some (.string ByteArray.empty) := by
  have hx : (xs.take j ++ List.replicate (n - j) ByteArray.empty)[j]? = some ByteArray.empty := by
    rw [List.getElem?_append_right (by rw [List.length_take]; omega), List.length_take, List.getElem?_replicate, if_pos (by omega)]
  have h0 := h.1.cell (j := 0) hx rfl
  rw [C_eq, Nat.mul_one, Nat.add_zero] at h0
  exact h0
/-! ### the measure -/
def tot (xs : List ByteArray) : Nat := (xs.map fun s => s.size).sum
theorem tot_take {xs : List ByteArray} {k : Nat} (h : k < xs.length) : tot (xs.take (k + 1)) = tot (xs.take k) + (xs.getD k ByteArray.empty).size := by
  unfold tot
  rw [List.take_succ_eq_append_getElem h, List.map_append, List.sum_append, List.getD_eq_getElem?_getD, List.getElem?_eq_getElem h]
  simp
theorem tot_le (xs : List ByteArray) (k : Nat) : tot (xs.take k) ≤ tot xs := by
  have h : tot xs = tot (xs.take k) + tot (xs.drop k) := by unfold tot; rw [← List.sum_append, ← List.map_append, List.take_append_drop]
  omega
theorem tot_cons (x : ByteArray) (xs : List ByteArray) : tot (x :: xs) = x.size + tot xs := by simp [tot]
theorem size_le {s : ByteArray} : ∀ {xs : List ByteArray}, s ∈ xs → s.size ≤ tot xs
  | [], h => by cases h
  | x :: xs, h => by
    rw [tot_cons]
    rcases List.mem_cons.1 h with rfl | h
    · omega
    · have := size_le h
      omega
/-- the whole is within the limit, or the measure says -1 -/
def szI (xs : List ByteArray) (left : Nat) : Int := if xs.length + tot xs ≤ left then (left : Int) - xs.length - tot xs else -1
end Go.Proofs.Ytgmoldianhkifaa.SlStr
