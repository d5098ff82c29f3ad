/- Contracts of the laws' helpers over Key, by value and in slices: copies, equality, marks written and found. -/
import Derived.Test.YtpjckbdljbpliaaFnd
import Derived.Test.YtpjckbdljbpliaaStI
import Derived.Test.YtpjckbdljbpliaaStM
import Derived.Test.YtpjckbdljbpliaaBx
import Derived.Test.YtpjckbdljbpliaaInt
import Derived.LoopTactic
import Derived.Outline
namespace Go.Proofs.Ytpjckbdljbpliaa.SlKey
open Go.ChangeShapes Go.WideShapes Go.ChangeAt Go.RowKit Sl St Fnd

def E : En I5 := ⟨fun x => [.int .i64 x.1, .int .i64 x.2.1, .int .i64 x.2.2.1, .int .i64 x.2.2.2.1, .int .i64 x.2.2.2.2], 5, fun _ => rfl, fun x v h => by simp only [List.mem_cons, List.not_mem_nil, or_false] at h; rcases h with rfl | rfl | rfl | rfl | rfl <;> rfl, by decide⟩
theorem C_eq : E.C = 5 := rfl
theorem of_eq (x : I5) : E.of x = [.int .i64 x.1, .int .i64 x.2.1, .int .i64 x.2.2.1, .int .i64 x.2.2.2.1, .int .i64 x.2.2.2.2] := rfl
def zero : I5 := (0, 0, 0, 0, 0)
/-- the element of numbers -/
def mk (f : Nat → Int) : I5 := (f 0, f 1, f 2, f 3, f 4)
theorem of_mk (f : Nat → Int) : E.of (mk f) = ints 5 f := rfl
theorem agg_ints (f : Nat → Int) : Value.agg (ints 5 f).toArray = .agg #[.int .i64 (f 0), .int .i64 (f 1), .int .i64 (f 2), .int .i64 (f 3), .int .i64 (f 4)] := rfl
/-- every field is an int of 64 bits -/
def InR (x : I5) : Prop := (-9223372036854775808 ≤ x.1 ∧ x.1 ≤ 9223372036854775807) ∧ (-9223372036854775808 ≤ x.2.1 ∧ x.2.1 ≤ 9223372036854775807) ∧ (-9223372036854775808 ≤ x.2.2.1 ∧ x.2.2.1 ≤ 9223372036854775807) ∧ (-9223372036854775808 ≤ x.2.2.2.1 ∧ x.2.2.2.1 ≤ 9223372036854775807) ∧ (-9223372036854775808 ≤ x.2.2.2.2 ∧ x.2.2.2.2 ≤ 9223372036854775807)
/-- The call answers a value; what lay before is as it was. -/
def Val (v : Value) (w : World) (e : Ending) (w' : World) : Prop := e = .returned v ∧ Below w.heap.size w w'
/-- The call answers true; what lay before is as it was. -/
def Yes (w : World) (e : Ending) (w' : World) : Prop := e = .returned (.bool true) ∧ Below w.heap.size w w'
theorem bxc {w : World} {g : Nat} {T : TypeId} {x0 x1 x2 x3 x4 : Value} (h : Bx w g T #[x0, x1, x2, x3, x4]) : w.cell? ⟨g, 0, none⟩ = some x0 ∧ w.cell? ⟨g, 1, none⟩ = some x1 ∧ w.cell? ⟨g, 2, none⟩ = some x2 ∧ w.cell? ⟨g, 3, none⟩ = some x3 ∧ w.cell? ⟨g, 4, none⟩ = some x4 := ⟨h.cell rfl, h.cell rfl, h.cell rfl, h.cell rfl, h.cell rfl⟩
/-! ### slices -/
/-- an element's cells at an address -/
def At (w : World) (b q : Nat) (x : I5) : Prop := w.cell? ⟨b, q, none⟩ = some (.int .i64 x.1) ∧ w.cell? ⟨b, q + 1, none⟩ = some (.int .i64 x.2.1) ∧ w.cell? ⟨b, q + 2, none⟩ = some (.int .i64 x.2.2.1) ∧ w.cell? ⟨b, q + 3, none⟩ = some (.int .i64 x.2.2.2.1) ∧ w.cell? ⟨b, q + 4, none⟩ = some (.int .i64 x.2.2.2.2)
theorem rd_at {w : World} {p : Option Addr} {n k : Nat} {xs : List I5} (h : RdS E w p n xs) (hk : k < n) : ∃ b o, p = some ⟨b, o, none⟩ ∧ b < w.heap.size ∧ At w b (o + k * 5) (xs.getD k zero) := by
  obtain ⟨b, o, x, e, hb, hx, hc⟩ := h.at_ hk
  have hd : xs.getD k zero = x := by rw [List.getD_eq_getElem?_getD, hx]; rfl
  rw [hd]
  exact ⟨b, o, e, hb, hc 0 _ rfl, hc 1 _ rfl, hc 2 _ rfl, hc 3 _ rfl, hc 4 _ rfl⟩
theorem At.below {w w' : World} {b q : Nat} {x : I5} (h : At w b q x) (hb : Below w.heap.size w w') (hlt : b < w.heap.size) : At w' b q x :=
  ⟨(hb.cell (p := ⟨b, q, none⟩) hlt).trans h.1, (hb.cell (p := ⟨b, q + 1, none⟩) hlt).trans h.2.1, (hb.cell (p := ⟨b, q + 2, none⟩) hlt).trans h.2.2.1, (hb.cell (p := ⟨b, q + 3, none⟩) hlt).trans h.2.2.2.1, (hb.cell (p := ⟨b, q + 4, none⟩) hlt).trans h.2.2.2.2⟩
/-- all cells of two elements -/
def At2 (w : World) (b q b' q' : Nat) (z0 z1 z2 z3 z4 : Int) : Prop := w.cell? ⟨b, q, none⟩ = some (.int .i64 z0) ∧ w.cell? ⟨b', q', none⟩ = some (.int .i64 z0) ∧ w.cell? ⟨b, q + 1, none⟩ = some (.int .i64 z1) ∧ w.cell? ⟨b', q' + 1, none⟩ = some (.int .i64 z1) ∧ w.cell? ⟨b, q + 2, none⟩ = some (.int .i64 z2) ∧ w.cell? ⟨b', q' + 2, none⟩ = some (.int .i64 z2) ∧ w.cell? ⟨b, q + 3, none⟩ = some (.int .i64 z3) ∧ w.cell? ⟨b', q' + 3, none⟩ = some (.int .i64 z3) ∧ w.cell? ⟨b, q + 4, none⟩ = some (.int .i64 z4) ∧ w.cell? ⟨b', q' + 4, none⟩ = some (.int .i64 z4)
theorem At2.mk {w : World} {b q b' q' : Nat} {x : I5} (h : At w b q x) (h' : At w b' q' x) : At2 w b q b' q' x.1 x.2.1 x.2.2.1 x.2.2.2.1 x.2.2.2.2 := by
  obtain ⟨h0, h1, h2, h3, h4⟩ := h
  obtain ⟨g0, g1, g2, g3, g4⟩ := h'
  exact ⟨h0, g0, h1, g1, h2, g2, h3, g3, h4, g4⟩
theorem At2.below {w w' : World} {b q b' q' : Nat} {z0 z1 z2 z3 z4 : Int} (h : At2 w b q b' q' z0 z1 z2 z3 z4) (hb : Below w.heap.size w w') (l1 : b < w.heap.size) (l2 : b' < w.heap.size) : At2 w' b q b' q' z0 z1 z2 z3 z4 := by
  obtain ⟨h0, g0, h1, g1, h2, g2, h3, g3, h4, g4⟩ := h
  exact ⟨(hb.cell (p := ⟨b, q, none⟩) l1).trans h0, (hb.cell (p := ⟨b', q', none⟩) l2).trans g0, (hb.cell (p := ⟨b, q + 1, none⟩) l1).trans h1, (hb.cell (p := ⟨b', q' + 1, none⟩) l2).trans g1, (hb.cell (p := ⟨b, q + 2, none⟩) l1).trans h2, (hb.cell (p := ⟨b', q' + 2, none⟩) l2).trans g2, (hb.cell (p := ⟨b, q + 3, none⟩) l1).trans h3, (hb.cell (p := ⟨b', q' + 3, none⟩) l2).trans g3, (hb.cell (p := ⟨b, q + 4, none⟩) l1).trans h4, (hb.cell (p := ⟨b', q' + 4, none⟩) l2).trans g4⟩
/-! ### marks -/
/-- n elements that bear the numbers from m on -/
def marks (m : Int) (n : Nat) : List I5 := (List.range n).map fun i => mk fun j => m + ((i * 5 + j : Nat) : Int)
theorem marks_len (m : Int) (n : Nat) : (marks m n).length = n := by simp [marks]
theorem marks_at (m : Int) {n k : Nat} (h : k < n) : (marks m n).getD k zero = mk fun j => m + ((k * 5 + j : Nat) : Int) := by
  rw [List.getD_eq_getElem?_getD, marks, List.getElem?_map, List.getElem?_range h]
  rfl
theorem marks_set (m : Int) (xs : List I5) (j : Nat) (h : j < xs.length) {x : I5} (hx : x = mk fun q => m + ((j * 5 + q : Nat) : Int)) : (marks m j ++ xs.drop j).set j x = marks m (j + 1) ++ xs.drop (j + 1) := by
  subst hx
  rw [List.drop_eq_getElem_cons h, List.set_append_right _ _ (by rw [marks_len]; exact Nat.le_refl _), marks_len, Nat.sub_self, List.set_cons_zero]
  simp [marks, List.range_succ]
/-! ### sizes -/
end Go.Proofs.Ytpjckbdljbpliaa.SlKey
