/- Contracts of the laws' helpers over Span, by value and in slices: copies, equality, marks written and found. -/
import Derived.Test.YtfojilogcecphaaGreatJn
import Derived.Test.YtfojilogcecphaaGreatStI
import Derived.Test.YtfojilogcecphaaGreatStM
import Derived.Test.YtfojilogcecphaaGreatBx
import Derived.Test.YtfojilogcecphaaGreatInt
import Derived.LoopTactic
import Derived.Outline
namespace Go.Proofs.YtfojilogcecphaaGreat.SlSpan
open Go.ChangeShapes Go.WideShapes Go.ChangeAt Go.RowKit Sl St Jn

def E : En Sp := ⟨fun x => [.int .i64 x.1, .int .i64 x.2], 2, fun _ => rfl, fun x v h => by simp only [List.mem_cons, List.not_mem_nil, or_false] at h; rcases h with rfl | rfl <;> rfl, by decide⟩
theorem C_eq : E.C = 2 := rfl
theorem of_eq (x : Sp) : E.of x = [.int .i64 x.1, .int .i64 x.2] := rfl
def zero : Sp := (0, 0)
theorem info : (Tryz.prog.info? 105).map (fun i => (i.zero, i.size, i.bytes)) = some (some (.agg #[.int .i64 0, .int .i64 0]), 2, 16) := by kernel_rfl
/-- the element of numbers -/
def mk (f : Nat → Int) : Sp := (f 0, f 1)
theorem of_mk (f : Nat → Int) : E.of (mk f) = ints 2 f := rfl
theorem agg_ints (f : Nat → Int) : Value.agg (ints 2 f).toArray = .agg #[.int .i64 (f 0), .int .i64 (f 1)] := rfl
/-- The call answers a value; what lay before is as it was. -/
def Val (v : Value) (w : World) (e : Ending) (w' : World) : Prop := e = .returned v ∧ Below w.heap.size w w'
/-- The call answers a new slice, not nil, that reads as xs; what lay before is as it was. -/
def Makes (xs : List Sp) (w : World) (e : Ending) (w' : World) : Prop := ∃ p n c, e = .returned (.slice p n c) ∧ OwS E 105 w' w.heap.size w'.heap.size p n c xs ∧ Below w.heap.size w w'
/-- The call answers true; what lay before is as it was. -/
def Yes (w : World) (e : Ending) (w' : World) : Prop := e = .returned (.bool true) ∧ Below w.heap.size w w'
/-! ### slices -/
/-- an element's cells at an address -/
def At (w : World) (b q : Nat) (x : Sp) : Prop := w.cell? ⟨b, q, none⟩ = some (.int .i64 x.1) ∧ w.cell? ⟨b, q + 1, none⟩ = some (.int .i64 x.2)
theorem rd_at {w : World} {p : Option Addr} {n k : Nat} {xs : List Sp} (h : RdS E w p n xs) (hk : k < n) : ∃ b o, p = some ⟨b, o, none⟩ ∧ b < w.heap.size ∧ At w b (o + k * 2) (xs.getD k zero) := by
  obtain ⟨b, o, x, e, hb, hx, hc⟩ := h.at_ hk
  have hd : xs.getD k zero = x := by rw [List.getD_eq_getElem?_getD, hx]; rfl
  rw [hd]
  exact ⟨b, o, e, hb, hc 0 _ rfl, hc 1 _ rfl⟩
theorem At.below {w w' : World} {b q : Nat} {x : Sp} (h : At w b q x) (hb : Below w.heap.size w w') (hlt : b < w.heap.size) : At w' b q x :=
  ⟨(hb.cell (p := ⟨b, q, none⟩) hlt).trans h.1, (hb.cell (p := ⟨b, q + 1, none⟩) hlt).trans h.2⟩
/-- the copy after j elements -/
def Mid (xs : List Sp) (n j : Nat) (w wr : World) : Prop := OwS E 105 wr w.heap.size wr.heap.size (some ⟨w.heap.size, 0, none⟩) n n (xs.take j ++ List.replicate (n - j) zero) ∧ Below w.heap.size w wr
theorem Mid.start {xs : List Sp} {n : Nat} {w w1 : World} (hown : w1.ownsRow w.heap.size 105 2 (.slice (some ⟨w.heap.size, 0, none⟩) n n) n (madeCells (Value.cells (.agg #[.int .i64 0, .int .i64 0])) (n * 2)).toList) (hg : w.grownBy w1 none) : Mid xs n 0 w w1 := by
  have e := made_fl (E := E) (.agg #[.int .i64 0, .int .i64 0]) zero rfl n
  rw [C_eq] at e
  rw [e] at hown
  exact ⟨OwS.of_row hown, (Below.refl _ _).grown hg (Nat.le_refl _) (fun _ h => by cases h)⟩
theorem Mid.next {xs : List Sp} {n j : Nat} {w wr w2 : World} {x : Sp} (h : Mid xs n j w wr) (hb : Below wr.heap.size wr w2) (hj : j < n) (hl : xs.length = n) (hx : xs.getD j zero = x) : Mid xs n (j + 1) w (w2.setCells w.heap.size (j * 2) (E.of x)) := by
  have h2 := h.1.below hb
  obtain ⟨h3, h4⟩ := h2.elem (i := j) hj x
  have hw : xs[j]'(by omega) = x := by rw [← hx, List.getD_eq_getElem?_getD, List.getElem?_eq_getElem (by omega)]; rfl
  clear hx
  subst hw hl
  rw [set_mid hj] at h3
  exact ⟨h3.wide (Nat.le_refl _) (Nat.le_trans h3.2.2.1 (Nat.le_refl _)) (Nat.le_refl _), (below_on h.2 hb).grown h4 (Nat.le_trans h.2.size hb.size) (fun k e => by cases e; exact Nat.le_refl _)⟩
theorem Mid.done {xs : List Sp} {n : Nat} {w wr : World} (h : Mid xs n n w wr) (hl : xs.length = n) : Makes xs w (.returned (.slice (some ⟨w.heap.size, 0, none⟩) n n)) wr := by
  subst hl
  obtain ⟨h1, h2⟩ := h
  rw [List.take_length, Nat.sub_self, List.replicate_zero, List.append_nil] at h1
  exact ⟨_, _, _, rfl, h1, h2⟩
theorem Mid.cells {xs : List Sp} {n j : Nat} {w wr : World} (h : Mid xs n j w wr) (hj : j < n) (hl : xs.length = n) : At wr w.heap.size (j * 2) zero := by
  have hx : (xs.take j ++ List.replicate (n - j) zero)[j]? = some zero := by
    rw [List.getElem?_append_right (by rw [List.length_take]; omega), List.length_take, List.getElem?_replicate, if_pos (by omega)]
  exact ⟨h.1.cell (j := 0) hx rfl, h.1.cell (j := 1) hx rfl⟩
/-- all cells of two elements -/
def At2 (w : World) (b q b' q' : Nat) (z0 z1 : Int) : Prop := w.cell? ⟨b, q, none⟩ = some (.int .i64 z0) ∧ w.cell? ⟨b', q', none⟩ = some (.int .i64 z0) ∧ w.cell? ⟨b, q + 1, none⟩ = some (.int .i64 z1) ∧ w.cell? ⟨b', q' + 1, none⟩ = some (.int .i64 z1)
theorem At2.mk {w : World} {b q b' q' : Nat} {x : Sp} (h : At w b q x) (h' : At w b' q' x) : At2 w b q b' q' x.1 x.2 := by
  obtain ⟨h0, h1⟩ := h
  obtain ⟨g0, g1⟩ := h'
  exact ⟨h0, g0, h1, g1⟩
theorem At2.below {w w' : World} {b q b' q' : Nat} {z0 z1 : Int} (h : At2 w b q b' q' z0 z1) (hb : Below w.heap.size w w') (l1 : b < w.heap.size) (l2 : b' < w.heap.size) : At2 w' b q b' q' z0 z1 := by
  obtain ⟨h0, g0, h1, g1⟩ := h
  exact ⟨(hb.cell (p := ⟨b, q, none⟩) l1).trans h0, (hb.cell (p := ⟨b', q', none⟩) l2).trans g0, (hb.cell (p := ⟨b, q + 1, none⟩) l1).trans h1, (hb.cell (p := ⟨b', q' + 1, none⟩) l2).trans g1⟩
/-! ### marks -/
/-- n elements that bear the numbers from m on -/
def marks (m : Int) (n : Nat) : List Sp := (List.range n).map fun i => mk fun j => m + ((i * 2 + j : Nat) : Int)
theorem marks_len (m : Int) (n : Nat) : (marks m n).length = n := by simp [marks]
theorem marks_at (m : Int) {n k : Nat} (h : k < n) : (marks m n).getD k zero = mk fun j => m + ((k * 2 + j : Nat) : Int) := by
  rw [List.getD_eq_getElem?_getD, marks, List.getElem?_map, List.getElem?_range h]
  rfl
theorem marks_set (m : Int) (xs : List Sp) (j : Nat) (h : j < xs.length) {x : Sp} (hx : x = mk fun q => m + ((j * 2 + q : Nat) : Int)) : (marks m j ++ xs.drop j).set j x = marks m (j + 1) ++ xs.drop (j + 1) := by
  subst hx
  rw [List.drop_eq_getElem_cons h, List.set_append_right _ _ (by rw [marks_len]; exact Nat.le_refl _), marks_len, Nat.sub_self, List.set_cons_zero]
  simp [marks, List.range_succ]
/-- the slice after j marks -/
def MarkMid (lo hi : Nat) (p : Option Addr) (n c : Nat) (xs : List Sp) (m : Int) (j : Nat) (w wr : World) : Prop :=
  OwS E 105 wr lo hi p n c (marks m j ++ xs.drop j) ∧ w.grownBy wr (Value.slice p n c).ownBlock
theorem MarkMid.next {lo hi g n c j : Nat} {xs : List Sp} {m : Int} {w wr : World} (h : MarkMid lo hi (some ⟨g, 0, none⟩) n c xs m j w wr) (hj : j < n) (hl : xs.length = n) {x : Sp} (hx : x = mk fun q => m + ((j * 2 + q : Nat) : Int)) : MarkMid lo hi (some ⟨g, 0, none⟩) n c xs m (j + 1) w (wr.setCells g (j * 2) (E.of x)) := by
  obtain ⟨h1, h2⟩ := h.1.elem (i := j) hj x
  rw [marks_set m xs j (by omega) hx] at h1
  exact ⟨h1, ⟨h2.os.trans h.2.os, h2.tape.trans h.2.tape, h2.output.trans h.2.output, Nat.le_trans h.2.size h2.size, fun i hi hne => (h2.block i (Nat.lt_of_lt_of_le hi h.2.size) hne).trans (h.2.block i hi hne)⟩⟩
theorem MarkMid.cells {lo hi g n c j : Nat} {xs : List Sp} {m : Int} {w wr : World} (h : MarkMid lo hi (some ⟨g, 0, none⟩) n c xs m j w wr) (hj : j < n) (hl : xs.length = n) : At wr g (j * 2) xs[j] := by
  have hx : (marks m j ++ xs.drop j)[j]? = some xs[j] := by
    rw [List.getElem?_append_right (by rw [marks_len]; exact Nat.le_refl _), marks_len, Nat.sub_self, List.drop_eq_getElem_cons (by omega)]
    rfl
  exact ⟨h.1.cell (j := 0) hx rfl, h.1.cell (j := 1) hx rfl⟩
/-- The call answers the next mark; the slice bears the marks; no other block has turned. -/
def Marked (lo hi : Nat) (p : Option Addr) (n c : Nat) (m : Int) (w : World) (e : Ending) (w' : World) : Prop := e = .returned (.int .i64 (m + (n * 2 : Nat))) ∧ OwS E 105 w' lo hi p n c (marks m n) ∧ w.grownBy w' (Value.slice p n c).ownBlock
theorem MarkMid.done {lo hi n c : Nat} {p : Option Addr} {xs : List Sp} {m : Int} {w wr : World} (h : MarkMid lo hi p n c xs m n w wr) (hl : xs.length = n) : Marked lo hi p n c m w (.returned (.int .i64 (m + (n * 2 : Nat)))) wr := by
  subst hl
  obtain ⟨h1, h2⟩ := h
  rw [List.drop_length, List.append_nil] at h1
  exact ⟨rfl, h1, h2⟩
/-! ### sizes -/
end Go.Proofs.YtfojilogcecphaaGreat.SlSpan
