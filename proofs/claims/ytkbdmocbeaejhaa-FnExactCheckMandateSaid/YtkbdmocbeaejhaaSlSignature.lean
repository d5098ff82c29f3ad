/- Contracts of the laws' helpers over Signature, by value and in slices: copies, equality, marks written and found. -/
import Derived.Test.YtkbdmocbeaejhaaFnd
import Derived.Test.YtkbdmocbeaejhaaStI
import Derived.Test.YtkbdmocbeaejhaaStM
import Derived.Test.YtkbdmocbeaejhaaBx
import Derived.Test.YtkbdmocbeaejhaaInt
import Derived.LoopTactic
import Derived.Outline
namespace Go.Proofs.Ytkbdmocbeaejhaa.SlSignature
open Go.ChangeShapes Go.WideShapes Go.ChangeAt Go.RowKit Sl St Fnd

def E : En I9 := ⟨fun x => [.int .i64 x.1, .int .i64 x.2.1, .int .i64 x.2.2.1, .int .i64 x.2.2.2.1, .int .i64 x.2.2.2.2.1, .int .i64 x.2.2.2.2.2.1, .int .i64 x.2.2.2.2.2.2.1, .int .i64 x.2.2.2.2.2.2.2.1, .int .i64 x.2.2.2.2.2.2.2.2], 9, fun _ => rfl, fun x v h => by simp only [List.mem_cons, List.not_mem_nil, or_false] at h; rcases h with rfl | rfl | rfl | rfl | rfl | rfl | rfl | rfl | rfl <;> rfl, by decide⟩
theorem C_eq : E.C = 9 := rfl
theorem of_eq (x : I9) : E.of x = [.int .i64 x.1, .int .i64 x.2.1, .int .i64 x.2.2.1, .int .i64 x.2.2.2.1, .int .i64 x.2.2.2.2.1, .int .i64 x.2.2.2.2.2.1, .int .i64 x.2.2.2.2.2.2.1, .int .i64 x.2.2.2.2.2.2.2.1, .int .i64 x.2.2.2.2.2.2.2.2] := rfl
def zero : I9 := (0, 0, 0, 0, 0, 0, 0, 0, 0)
/-- the element of numbers -/
def mk (f : Nat → Int) : I9 := (f 0, f 1, f 2, f 3, f 4, f 5, f 6, f 7, f 8)
theorem of_mk (f : Nat → Int) : E.of (mk f) = ints 9 f := rfl
theorem agg_ints (f : Nat → Int) : Value.agg (ints 9 f).toArray = .agg #[.int .i64 (f 0), .int .i64 (f 1), .int .i64 (f 2), .int .i64 (f 3), .int .i64 (f 4), .int .i64 (f 5), .int .i64 (f 6), .int .i64 (f 7), .int .i64 (f 8)] := rfl
/-- every field is an int of 64 bits -/
def InR (x : I9) : Prop := (-9223372036854775808 ≤ x.1 ∧ x.1 ≤ 9223372036854775807) ∧ (-9223372036854775808 ≤ x.2.1 ∧ x.2.1 ≤ 9223372036854775807) ∧ (-9223372036854775808 ≤ x.2.2.1 ∧ x.2.2.1 ≤ 9223372036854775807) ∧ (-9223372036854775808 ≤ x.2.2.2.1 ∧ x.2.2.2.1 ≤ 9223372036854775807) ∧ (-9223372036854775808 ≤ x.2.2.2.2.1 ∧ x.2.2.2.2.1 ≤ 9223372036854775807) ∧ (-9223372036854775808 ≤ x.2.2.2.2.2.1 ∧ x.2.2.2.2.2.1 ≤ 9223372036854775807) ∧ (-9223372036854775808 ≤ x.2.2.2.2.2.2.1 ∧ x.2.2.2.2.2.2.1 ≤ 9223372036854775807) ∧ (-9223372036854775808 ≤ x.2.2.2.2.2.2.2.1 ∧ x.2.2.2.2.2.2.2.1 ≤ 9223372036854775807) ∧ (-9223372036854775808 ≤ x.2.2.2.2.2.2.2.2 ∧ x.2.2.2.2.2.2.2.2 ≤ 9223372036854775807)
/-- The call answers a value; what lay before is as it was. -/
def Val (v : Value) (w : World) (e : Ending) (w' : World) : Prop := e = .returned v ∧ Below w.heap.size w w'
/-- The call answers true; what lay before is as it was. -/
def Yes (w : World) (e : Ending) (w' : World) : Prop := e = .returned (.bool true) ∧ Below w.heap.size w w'
theorem bxc {w : World} {g : Nat} {T : TypeId} {x0 x1 x2 x3 x4 x5 x6 x7 x8 : Value} (h : Bx w g T #[x0, x1, x2, x3, x4, x5, x6, x7, x8]) : w.cell? ⟨g, 0, none⟩ = some x0 ∧ w.cell? ⟨g, 1, none⟩ = some x1 ∧ w.cell? ⟨g, 2, none⟩ = some x2 ∧ w.cell? ⟨g, 3, none⟩ = some x3 ∧ w.cell? ⟨g, 4, none⟩ = some x4 ∧ w.cell? ⟨g, 5, none⟩ = some x5 ∧ w.cell? ⟨g, 6, none⟩ = some x6 ∧ w.cell? ⟨g, 7, none⟩ = some x7 ∧ w.cell? ⟨g, 8, none⟩ = some x8 := ⟨h.cell rfl, h.cell rfl, h.cell rfl, h.cell rfl, h.cell rfl, h.cell rfl, h.cell rfl, h.cell rfl, h.cell rfl⟩
/-! ### slices -/
/-- an element's cells at an address -/
def At (w : World) (b q : Nat) (x : I9) : Prop := w.cell? ⟨b, q, none⟩ = some (.int .i64 x.1) ∧ w.cell? ⟨b, q + 1, none⟩ = some (.int .i64 x.2.1) ∧ w.cell? ⟨b, q + 2, none⟩ = some (.int .i64 x.2.2.1) ∧ w.cell? ⟨b, q + 3, none⟩ = some (.int .i64 x.2.2.2.1) ∧ w.cell? ⟨b, q + 4, none⟩ = some (.int .i64 x.2.2.2.2.1) ∧ w.cell? ⟨b, q + 5, none⟩ = some (.int .i64 x.2.2.2.2.2.1) ∧ w.cell? ⟨b, q + 6, none⟩ = some (.int .i64 x.2.2.2.2.2.2.1) ∧ w.cell? ⟨b, q + 7, none⟩ = some (.int .i64 x.2.2.2.2.2.2.2.1) ∧ w.cell? ⟨b, q + 8, none⟩ = some (.int .i64 x.2.2.2.2.2.2.2.2)
theorem rd_at {w : World} {p : Option Addr} {n k : Nat} {xs : List I9} (h : RdS E w p n xs) (hk : k < n) : ∃ b o, p = some ⟨b, o, none⟩ ∧ b < w.heap.size ∧ At w b (o + k * 9) (xs.getD k zero) := by
  obtain ⟨b, o, x, e, hb, hx, hc⟩ := h.at_ hk
  have hd : xs.getD k zero = x := by rw [List.getD_eq_getElem?_getD, hx]; rfl
  rw [hd]
  exact ⟨b, o, e, hb, hc 0 _ rfl, hc 1 _ rfl, hc 2 _ rfl, hc 3 _ rfl, hc 4 _ rfl, hc 5 _ rfl, hc 6 _ rfl, hc 7 _ rfl, hc 8 _ rfl⟩
theorem At.below {w w' : World} {b q : Nat} {x : I9} (h : At w b q x) (hb : Below w.heap.size w w') (hlt : b < w.heap.size) : At w' b q x :=
  ⟨(hb.cell (p := ⟨b, q, none⟩) hlt).trans h.1, (hb.cell (p := ⟨b, q + 1, none⟩) hlt).trans h.2.1, (hb.cell (p := ⟨b, q + 2, none⟩) hlt).trans h.2.2.1, (hb.cell (p := ⟨b, q + 3, none⟩) hlt).trans h.2.2.2.1, (hb.cell (p := ⟨b, q + 4, none⟩) hlt).trans h.2.2.2.2.1, (hb.cell (p := ⟨b, q + 5, none⟩) hlt).trans h.2.2.2.2.2.1, (hb.cell (p := ⟨b, q + 6, none⟩) hlt).trans h.2.2.2.2.2.2.1, (hb.cell (p := ⟨b, q + 7, none⟩) hlt).trans h.2.2.2.2.2.2.2.1, (hb.cell (p := ⟨b, q + 8, none⟩) hlt).trans h.2.2.2.2.2.2.2.2⟩
/-- all cells of two elements -/
def At2 (w : World) (b q b' q' : Nat) (z0 z1 z2 z3 z4 z5 z6 z7 z8 : Int) : Prop := w.cell? ⟨b, q, none⟩ = some (.int .i64 z0) ∧ w.cell? ⟨b', q', none⟩ = some (.int .i64 z0) ∧ w.cell? ⟨b, q + 1, none⟩ = some (.int .i64 z1) ∧ w.cell? ⟨b', q' + 1, none⟩ = some (.int .i64 z1) ∧ w.cell? ⟨b, q + 2, none⟩ = some (.int .i64 z2) ∧ w.cell? ⟨b', q' + 2, none⟩ = some (.int .i64 z2) ∧ w.cell? ⟨b, q + 3, none⟩ = some (.int .i64 z3) ∧ w.cell? ⟨b', q' + 3, none⟩ = some (.int .i64 z3) ∧ w.cell? ⟨b, q + 4, none⟩ = some (.int .i64 z4) ∧ w.cell? ⟨b', q' + 4, none⟩ = some (.int .i64 z4) ∧ w.cell? ⟨b, q + 5, none⟩ = some (.int .i64 z5) ∧ w.cell? ⟨b', q' + 5, none⟩ = some (.int .i64 z5) ∧ w.cell? ⟨b, q + 6, none⟩ = some (.int .i64 z6) ∧ w.cell? ⟨b', q' + 6, none⟩ = some (.int .i64 z6) ∧ w.cell? ⟨b, q + 7, none⟩ = some (.int .i64 z7) ∧ w.cell? ⟨b', q' + 7, none⟩ = some (.int .i64 z7) ∧ w.cell? ⟨b, q + 8, none⟩ = some (.int .i64 z8) ∧ w.cell? ⟨b', q' + 8, none⟩ = some (.int .i64 z8)
theorem At2.mk {w : World} {b q b' q' : Nat} {x : I9} (h : At w b q x) (h' : At w b' q' x) : At2 w b q b' q' x.1 x.2.1 x.2.2.1 x.2.2.2.1 x.2.2.2.2.1 x.2.2.2.2.2.1 x.2.2.2.2.2.2.1 x.2.2.2.2.2.2.2.1 x.2.2.2.2.2.2.2.2 := by
  obtain ⟨h0, h1, h2, h3, h4, h5, h6, h7, h8⟩ := h
  obtain ⟨g0, g1, g2, g3, g4, g5, g6, g7, g8⟩ := h'
  exact ⟨h0, g0, h1, g1, h2, g2, h3, g3, h4, g4, h5, g5, h6, g6, h7, g7, h8, g8⟩
theorem At2.below {w w' : World} {b q b' q' : Nat} {z0 z1 z2 z3 z4 z5 z6 z7 z8 : Int} (h : At2 w b q b' q' z0 z1 z2 z3 z4 z5 z6 z7 z8) (hb : Below w.heap.size w w') (l1 : b < w.heap.size) (l2 : b' < w.heap.size) : At2 w' b q b' q' z0 z1 z2 z3 z4 z5 z6 z7 z8 := by
  obtain ⟨h0, g0, h1, g1, h2, g2, h3, g3, h4, g4, h5, g5, h6, g6, h7, g7, h8, g8⟩ := h
  exact ⟨(hb.cell (p := ⟨b, q, none⟩) l1).trans h0, (hb.cell (p := ⟨b', q', none⟩) l2).trans g0, (hb.cell (p := ⟨b, q + 1, none⟩) l1).trans h1, (hb.cell (p := ⟨b', q' + 1, none⟩) l2).trans g1, (hb.cell (p := ⟨b, q + 2, none⟩) l1).trans h2, (hb.cell (p := ⟨b', q' + 2, none⟩) l2).trans g2, (hb.cell (p := ⟨b, q + 3, none⟩) l1).trans h3, (hb.cell (p := ⟨b', q' + 3, none⟩) l2).trans g3, (hb.cell (p := ⟨b, q + 4, none⟩) l1).trans h4, (hb.cell (p := ⟨b', q' + 4, none⟩) l2).trans g4, (hb.cell (p := ⟨b, q + 5, none⟩) l1).trans h5, (hb.cell (p := ⟨b', q' + 5, none⟩) l2).trans g5, (hb.cell (p := ⟨b, q + 6, none⟩) l1).trans h6, (hb.cell (p := ⟨b', q' + 6, none⟩) l2).trans g6, (hb.cell (p := ⟨b, q + 7, none⟩) l1).trans h7, (hb.cell (p := ⟨b', q' + 7, none⟩) l2).trans g7, (hb.cell (p := ⟨b, q + 8, none⟩) l1).trans h8, (hb.cell (p := ⟨b', q' + 8, none⟩) l2).trans g8⟩
/-! ### marks -/
/-- n elements that bear the numbers from m on -/
def marks (m : Int) (n : Nat) : List I9 := (List.range n).map fun i => mk fun j => m + ((i * 9 + j : Nat) : Int)
theorem marks_len (m : Int) (n : Nat) : (marks m n).length = n := by simp [marks]
theorem marks_at (m : Int) {n k : Nat} (h : k < n) : (marks m n).getD k zero = mk fun j => m + ((k * 9 + j : Nat) : Int) := by
  rw [List.getD_eq_getElem?_getD, marks, List.getElem?_map, List.getElem?_range h]
  rfl
theorem marks_set (m : Int) (xs : List I9) (j : Nat) (h : j < xs.length) {x : I9} (hx : x = mk fun q => m + ((j * 9 + q : Nat) : Int)) : (marks m j ++ xs.drop j).set j x = marks m (j + 1) ++ xs.drop (j + 1) := by
  subst hx
  rw [List.drop_eq_getElem_cons h, List.set_append_right _ _ (by rw [marks_len]; exact Nat.le_refl _), marks_len, Nat.sub_self, List.set_cons_zero]
  simp [marks, List.range_succ]
/-! ### sizes -/
end Go.Proofs.Ytkbdmocbeaejhaa.SlSignature
