/- Contracts of the laws' helpers over Signature, by value and in slices: copies, equality, marks written and found. -/
import Derived.Test.YtpjckbdljbpliaaFnd
import Derived.Test.YtpjckbdljbpliaaStI
import Derived.Test.YtpjckbdljbpliaaStM
import Derived.Test.YtpjckbdljbpliaaBx
import Derived.Test.YtpjckbdljbpliaaInt
import Derived.LoopTactic
import Derived.Outline
namespace Go.Proofs.Ytpjckbdljbpliaa.SlSignature
open Go.ChangeShapes Go.WideShapes Go.ChangeAt Go.RowKit Sl St Fnd

def E : En I9 := ⟨fun x => [.int .i64 x.1, .int .i64 x.2.1, .int .i64 x.2.2.1, .int .i64 x.2.2.2.1, .int .i64 x.2.2.2.2.1, .int .i64 x.2.2.2.2.2.1, .int .i64 x.2.2.2.2.2.2.1, .int .i64 x.2.2.2.2.2.2.2.1, .int .i64 x.2.2.2.2.2.2.2.2], 9, fun _ => rfl, fun x v h => by simp only [List.mem_cons, List.not_mem_nil, or_false] at h; rcases h with rfl | rfl | rfl | rfl | rfl | rfl | rfl | rfl | rfl <;> rfl, by decide⟩
theorem C_eq : E.C = 9 := rfl
theorem of_eq (x : I9) : E.of x = [.int .i64 x.1, .int .i64 x.2.1, .int .i64 x.2.2.1, .int .i64 x.2.2.2.1, .int .i64 x.2.2.2.2.1, .int .i64 x.2.2.2.2.2.1, .int .i64 x.2.2.2.2.2.2.1, .int .i64 x.2.2.2.2.2.2.2.1, .int .i64 x.2.2.2.2.2.2.2.2] := rfl
def zero : I9 := (0, 0, 0, 0, 0, 0, 0, 0, 0)
theorem info : (Try.prog.info? 56).map (fun i => (i.zero, i.size, i.bytes)) = some (some (.agg #[.int .i64 0, .int .i64 0, .int .i64 0, .int .i64 0, .int .i64 0, .int .i64 0, .int .i64 0, .int .i64 0, .int .i64 0]), 9, 72) := by kernel_rfl
/-- the element of numbers -/
def mk (f : Nat → Int) : I9 := (f 0, f 1, f 2, f 3, f 4, f 5, f 6, f 7, f 8)
theorem of_mk (f : Nat → Int) : E.of (mk f) = ints 9 f := rfl
theorem agg_ints (f : Nat → Int) : Value.agg (ints 9 f).toArray = .agg #[.int .i64 (f 0), .int .i64 (f 1), .int .i64 (f 2), .int .i64 (f 3), .int .i64 (f 4), .int .i64 (f 5), .int .i64 (f 6), .int .i64 (f 7), .int .i64 (f 8)] := rfl
set_option maxRecDepth 100000 in
/-- what a struct that came in gives -/
theorem open_val {H : Type} {enc : TypeId × Value → H} {W : World} {base : Nat} {v : Value} {d : DataW H} {pl : List MemPlace} (h : DataW.Trod enc Try.prog W 0 (fun _ => true) true 47 v d pl) (hk : Value.okWide Try.prog W .any base 47 v) :
    ∃ x0 x1 x2 x3 x4 x5 x6 x7 x8 : Int, v = .agg #[.int .i64 x0, .int .i64 x1, .int .i64 x2, .int .i64 x3, .int .i64 x4, .int .i64 x5, .int .i64 x6, .int .i64 x7, .int .i64 x8] ∧ (-9223372036854775808 ≤ x0 ∧ x0 ≤ 9223372036854775807) ∧ (-9223372036854775808 ≤ x1 ∧ x1 ≤ 9223372036854775807) ∧ (-9223372036854775808 ≤ x2 ∧ x2 ≤ 9223372036854775807) ∧ (-9223372036854775808 ≤ x3 ∧ x3 ≤ 9223372036854775807) ∧ (-9223372036854775808 ≤ x4 ∧ x4 ≤ 9223372036854775807) ∧ (-9223372036854775808 ≤ x5 ∧ x5 ≤ 9223372036854775807) ∧ (-9223372036854775808 ≤ x6 ∧ x6 ≤ 9223372036854775807) ∧ (-9223372036854775808 ≤ x7 ∧ x7 ≤ 9223372036854775807) ∧ (-9223372036854775808 ≤ x8 ∧ x8 ≤ 9223372036854775807) := by
  have hi : ∃ fs, Try.prog.underlying 47 = some (.struct fs) ∧ intFields Try.prog fs = true ∧ fs.size = 9 ∧ Try.prog.cellsOf 47 = fs.size := ⟨_, Try.underlying47, by kernel_rfl, by kernel_rfl, by kernel_rfl⟩
  obtain ⟨fs, h1, h2, h3, h4⟩ := hi
  obtain ⟨f, rfl, hr⟩ := open_ints_val h1 h2 h4 hk h
  rw [h3] at hr ⊢
  exact ⟨f 0, f 1, f 2, f 3, f 4, f 5, f 6, f 7, f 8, agg_ints f, hr 0 (by decide), hr 1 (by decide), hr 2 (by decide), hr 3 (by decide), hr 4 (by decide), hr 5 (by decide), hr 6 (by decide), hr 7 (by decide), hr 8 (by decide)⟩
/-- every field is an int of 64 bits -/
def InR (x : I9) : Prop := (-9223372036854775808 ≤ x.1 ∧ x.1 ≤ 9223372036854775807) ∧ (-9223372036854775808 ≤ x.2.1 ∧ x.2.1 ≤ 9223372036854775807) ∧ (-9223372036854775808 ≤ x.2.2.1 ∧ x.2.2.1 ≤ 9223372036854775807) ∧ (-9223372036854775808 ≤ x.2.2.2.1 ∧ x.2.2.2.1 ≤ 9223372036854775807) ∧ (-9223372036854775808 ≤ x.2.2.2.2.1 ∧ x.2.2.2.2.1 ≤ 9223372036854775807) ∧ (-9223372036854775808 ≤ x.2.2.2.2.2.1 ∧ x.2.2.2.2.2.1 ≤ 9223372036854775807) ∧ (-9223372036854775808 ≤ x.2.2.2.2.2.2.1 ∧ x.2.2.2.2.2.2.1 ≤ 9223372036854775807) ∧ (-9223372036854775808 ≤ x.2.2.2.2.2.2.2.1 ∧ x.2.2.2.2.2.2.2.1 ≤ 9223372036854775807) ∧ (-9223372036854775808 ≤ x.2.2.2.2.2.2.2.2 ∧ x.2.2.2.2.2.2.2.2 ≤ 9223372036854775807)
/-- The call answers a value; what lay before is as it was. -/
def Val (v : Value) (w : World) (e : Ending) (w' : World) : Prop := e = .returned v ∧ Below w.heap.size w w'
/-- The call answers a new slice, not nil, that reads as xs; what lay before is as it was. -/
def Makes (xs : List I9) (w : World) (e : Ending) (w' : World) : Prop := ∃ p n c, e = .returned (.slice p n c) ∧ OwS E 56 w' w.heap.size w'.heap.size p n c xs ∧ Below w.heap.size w w'
/-- The call answers true; what lay before is as it was. -/
def Yes (w : World) (e : Ending) (w' : World) : Prop := e = .returned (.bool true) ∧ Below w.heap.size w w'
set_option maxRecDepth 100000 in
set_option maxHeartbeats 1000000 in
theorem val_any (x0 x1 x2 x3 x4 x5 x6 x7 x8 : Int) (w : World) : Calls Try.prog 45 #[.agg #[.int .i64 x0, .int .i64 x1, .int .i64 x2, .int .i64 x3, .int .i64 x4, .int .i64 x5, .int .i64 x6, .int .i64 x7, .int .i64 x8]] w (Val (.agg #[.int .i64 x0, .int .i64 x1, .int .i64 x2, .int .i64 x3, .int .i64 x4, .int .i64 x5, .int .i64 x6, .int .i64 x7, .int .i64 x8]) w) := by
  go_enter Try.func45, Try.ntmps45
  go_wp2_with fail
  exact bodyPost_ret (v := .agg #[.int .i64 x0, .int .i64 x1, .int .i64 x2, .int .i64 x3, .int .i64 x4, .int .i64 x5, .int .i64 x6, .int .i64 x7, .int .i64 x8]) (by simp [results, Try.results45, go_sem]) rfl ⟨rfl, (((Below.refl _ _).alloc (Nat.le_refl _) _).alloc (by simp) _).alloc (by simp; omega) _⟩
set_option maxRecDepth 100000 in
set_option maxHeartbeats 1000000 in
theorem same_any (x0 x1 x2 x3 x4 x5 x6 x7 x8 : Int) (w : World) : Calls Try.prog 50 #[.agg #[.int .i64 x0, .int .i64 x1, .int .i64 x2, .int .i64 x3, .int .i64 x4, .int .i64 x5, .int .i64 x6, .int .i64 x7, .int .i64 x8], .agg #[.int .i64 x0, .int .i64 x1, .int .i64 x2, .int .i64 x3, .int .i64 x4, .int .i64 x5, .int .i64 x6, .int .i64 x7, .int .i64 x8]] w (Yes w) := by
  go_enter Try.func50, Try.ntmps50
  go_wp2_with fail
  go_ret
  exact ⟨rfl, ((Below.refl _ _).alloc (Nat.le_refl _) _).alloc (by simp) _⟩

theorem bxc {w : World} {g : Nat} {T : TypeId} {x0 x1 x2 x3 x4 x5 x6 x7 x8 : Value} (h : Bx w g T #[x0, x1, x2, x3, x4, x5, x6, x7, x8]) : w.cell? ⟨g, 0, none⟩ = some x0 ∧ w.cell? ⟨g, 1, none⟩ = some x1 ∧ w.cell? ⟨g, 2, none⟩ = some x2 ∧ w.cell? ⟨g, 3, none⟩ = some x3 ∧ w.cell? ⟨g, 4, none⟩ = some x4 ∧ w.cell? ⟨g, 5, none⟩ = some x5 ∧ w.cell? ⟨g, 6, none⟩ = some x6 ∧ w.cell? ⟨g, 7, none⟩ = some x7 ∧ w.cell? ⟨g, 8, none⟩ = some x8 := ⟨h.cell rfl, h.cell rfl, h.cell rfl, h.cell rfl, h.cell rfl, h.cell rfl, h.cell rfl, h.cell rfl, h.cell rfl⟩
/-! ### slices -/
/-- an element's cells at an address -/
def At (w : World) (b q : Nat) (x : I9) : Prop := w.cell? ⟨b, q, none⟩ = some (.int .i64 x.1) ∧ w.cell? ⟨b, q + 1, none⟩ = some (.int .i64 x.2.1) ∧ w.cell? ⟨b, q + 2, none⟩ = some (.int .i64 x.2.2.1) ∧ w.cell? ⟨b, q + 3, none⟩ = some (.int .i64 x.2.2.2.1) ∧ w.cell? ⟨b, q + 4, none⟩ = some (.int .i64 x.2.2.2.2.1) ∧ w.cell? ⟨b, q + 5, none⟩ = some (.int .i64 x.2.2.2.2.2.1) ∧ w.cell? ⟨b, q + 6, none⟩ = some (.int .i64 x.2.2.2.2.2.2.1) ∧ w.cell? ⟨b, q + 7, none⟩ = some (.int .i64 x.2.2.2.2.2.2.2.1) ∧ w.cell? ⟨b, q + 8, none⟩ = some (.int .i64 x.2.2.2.2.2.2.2.2)
theorem rd_at {w : World} {p : Option Addr} {n k : Nat} {xs : List I9} (h : RdS E w p n xs) (hk : k < n) : ∃ b o, p = some ⟨b, o, none⟩ ∧ b < w.heap.size ∧ At w b (o + k * 9) (xs.getD k zero) := by
  obtain ⟨b, o, x, e, hb, hx, hc⟩ := h.at_ hk
  have hd : xs.getD k zero = x := by rw [List.getD_eq_getElem?_getD, hx]; rfl
  rw [hd]
  exact ⟨b, o, e, hb, hc 0 _ rfl, hc 1 _ rfl, hc 2 _ rfl, hc 3 _ rfl, hc 4 _ rfl, hc 5 _ rfl, hc 6 _ rfl, hc 7 _ rfl, hc 8 _ rfl⟩
theorem At.below {w w' : World} {b q : Nat} {x : I9} (h : At w b q x) (hb : Below w.heap.size w w') (hlt : b < w.heap.size) : At w' b q x :=
  ⟨(hb.cell (p := ⟨b, q, none⟩) hlt).trans h.1, (hb.cell (p := ⟨b, q + 1, none⟩) hlt).trans h.2.1, (hb.cell (p := ⟨b, q + 2, none⟩) hlt).trans h.2.2.1, (hb.cell (p := ⟨b, q + 3, none⟩) hlt).trans h.2.2.2.1, (hb.cell (p := ⟨b, q + 4, none⟩) hlt).trans h.2.2.2.2.1, (hb.cell (p := ⟨b, q + 5, none⟩) hlt).trans h.2.2.2.2.2.1, (hb.cell (p := ⟨b, q + 6, none⟩) hlt).trans h.2.2.2.2.2.2.1, (hb.cell (p := ⟨b, q + 7, none⟩) hlt).trans h.2.2.2.2.2.2.2.1, (hb.cell (p := ⟨b, q + 8, none⟩) hlt).trans h.2.2.2.2.2.2.2.2⟩
/-- the copy after j elements -/
def Mid (xs : List I9) (n j : Nat) (w wr : World) : Prop := OwS E 56 wr w.heap.size wr.heap.size (some ⟨w.heap.size, 0, none⟩) n n (xs.take j ++ List.replicate (n - j) zero) ∧ Below w.heap.size w wr
theorem Mid.start {xs : List I9} {n : Nat} {w w1 : World} (hown : w1.ownsRow w.heap.size 56 9 (.slice (some ⟨w.heap.size, 0, none⟩) n n) n (madeCells (Value.cells (.agg #[.int .i64 0, .int .i64 0, .int .i64 0, .int .i64 0, .int .i64 0, .int .i64 0, .int .i64 0, .int .i64 0, .int .i64 0])) (n * 9)).toList) (hg : w.grownBy w1 none) : Mid xs n 0 w w1 := by
  have e := made_fl (E := E) (.agg #[.int .i64 0, .int .i64 0, .int .i64 0, .int .i64 0, .int .i64 0, .int .i64 0, .int .i64 0, .int .i64 0, .int .i64 0]) zero rfl n
  rw [C_eq] at e
  rw [e] at hown
  exact ⟨OwS.of_row hown, (Below.refl _ _).grown hg (Nat.le_refl _) (fun _ h => by cases h)⟩
theorem Mid.next {xs : List I9} {n j : Nat} {w wr w2 : World} {x : I9} (h : Mid xs n j w wr) (hb : Below wr.heap.size wr w2) (hj : j < n) (hl : xs.length = n) (hx : xs.getD j zero = x) : Mid xs n (j + 1) w (w2.setCells w.heap.size (j * 9) (E.of x)) := by
  have h2 := h.1.below hb
  obtain ⟨h3, h4⟩ := h2.elem (i := j) hj x
  have hw : xs[j]'(by omega) = x := by rw [← hx, List.getD_eq_getElem?_getD, List.getElem?_eq_getElem (by omega)]; rfl
  clear hx
  subst hw hl
  rw [set_mid hj] at h3
  exact ⟨h3.wide (Nat.le_refl _) (Nat.le_trans h3.2.2.1 (Nat.le_refl _)) (Nat.le_refl _), (below_on h.2 hb).grown h4 (Nat.le_trans h.2.size hb.size) (fun k e => by cases e; exact Nat.le_refl _)⟩
theorem Mid.done {xs : List I9} {n : Nat} {w wr : World} (h : Mid xs n n w wr) (hl : xs.length = n) : Makes xs w (.returned (.slice (some ⟨w.heap.size, 0, none⟩) n n)) wr := by
  subst hl
  obtain ⟨h1, h2⟩ := h
  rw [List.take_length, Nat.sub_self, List.replicate_zero, List.append_nil] at h1
  exact ⟨_, _, _, rfl, h1, h2⟩
theorem Mid.cells {xs : List I9} {n j : Nat} {w wr : World} (h : Mid xs n j w wr) (hj : j < n) (hl : xs.length = n) : At wr w.heap.size (j * 9) zero := by
  have hx : (xs.take j ++ List.replicate (n - j) zero)[j]? = some zero := by
    rw [List.getElem?_append_right (by rw [List.length_take]; omega), List.length_take, List.getElem?_replicate, if_pos (by omega)]
  exact ⟨h.1.cell (j := 0) hx rfl, h.1.cell (j := 1) hx rfl, h.1.cell (j := 2) hx rfl, h.1.cell (j := 3) hx rfl, h.1.cell (j := 4) hx rfl, h.1.cell (j := 5) hx rfl, h.1.cell (j := 6) hx rfl, h.1.cell (j := 7) hx rfl, h.1.cell (j := 8) hx rfl⟩
/-- all cells of two elements -/
def At2 (w : World) (b q b' q' : Nat) (z0 z1 z2 z3 z4 z5 z6 z7 z8 : Int) : Prop := w.cell? ⟨b, q, none⟩ = some (.int .i64 z0) ∧ w.cell? ⟨b', q', none⟩ = some (.int .i64 z0) ∧ w.cell? ⟨b, q + 1, none⟩ = some (.int .i64 z1) ∧ w.cell? ⟨b', q' + 1, none⟩ = some (.int .i64 z1) ∧ w.cell? ⟨b, q + 2, none⟩ = some (.int .i64 z2) ∧ w.cell? ⟨b', q' + 2, none⟩ = some (.int .i64 z2) ∧ w.cell? ⟨b, q + 3, none⟩ = some (.int .i64 z3) ∧ w.cell? ⟨b', q' + 3, none⟩ = some (.int .i64 z3) ∧ w.cell? ⟨b, q + 4, none⟩ = some (.int .i64 z4) ∧ w.cell? ⟨b', q' + 4, none⟩ = some (.int .i64 z4) ∧ w.cell? ⟨b, q + 5, none⟩ = some (.int .i64 z5) ∧ w.cell? ⟨b', q' + 5, none⟩ = some (.int .i64 z5) ∧ w.cell? ⟨b, q + 6, none⟩ = some (.int .i64 z6) ∧ w.cell? ⟨b', q' + 6, none⟩ = some (.int .i64 z6) ∧ w.cell? ⟨b, q + 7, none⟩ = some (.int .i64 z7) ∧ w.cell? ⟨b', q' + 7, none⟩ = some (.int .i64 z7) ∧ w.cell? ⟨b, q + 8, none⟩ = some (.int .i64 z8) ∧ w.cell? ⟨b', q' + 8, none⟩ = some (.int .i64 z8)
theorem At2.mk {w : World} {b q b' q' : Nat} {x : I9} (h : At w b q x) (h' : At w b' q' x) : At2 w b q b' q' x.1 x.2.1 x.2.2.1 x.2.2.2.1 x.2.2.2.2.1 x.2.2.2.2.2.1 x.2.2.2.2.2.2.1 x.2.2.2.2.2.2.2.1 x.2.2.2.2.2.2.2.2 := by
  obtain ⟨h0, h1, h2, h3, h4, h5, h6, h7, h8⟩ := h
  obtain ⟨g0, g1, g2, g3, g4, g5, g6, g7, g8⟩ := h'
  exact ⟨h0, g0, h1, g1, h2, g2, h3, g3, h4, g4, h5, g5, h6, g6, h7, g7, h8, g8⟩
theorem At2.below {w w' : World} {b q b' q' : Nat} {z0 z1 z2 z3 z4 z5 z6 z7 z8 : Int} (h : At2 w b q b' q' z0 z1 z2 z3 z4 z5 z6 z7 z8) (hb : Below w.heap.size w w') (l1 : b < w.heap.size) (l2 : b' < w.heap.size) : At2 w' b q b' q' z0 z1 z2 z3 z4 z5 z6 z7 z8 := by
  obtain ⟨h0, g0, h1, g1, h2, g2, h3, g3, h4, g4, h5, g5, h6, g6, h7, g7, h8, g8⟩ := h
  exact ⟨(hb.cell (p := ⟨b, q, none⟩) l1).trans h0, (hb.cell (p := ⟨b', q', none⟩) l2).trans g0, (hb.cell (p := ⟨b, q + 1, none⟩) l1).trans h1, (hb.cell (p := ⟨b', q' + 1, none⟩) l2).trans g1, (hb.cell (p := ⟨b, q + 2, none⟩) l1).trans h2, (hb.cell (p := ⟨b', q' + 2, none⟩) l2).trans g2, (hb.cell (p := ⟨b, q + 3, none⟩) l1).trans h3, (hb.cell (p := ⟨b', q' + 3, none⟩) l2).trans g3, (hb.cell (p := ⟨b, q + 4, none⟩) l1).trans h4, (hb.cell (p := ⟨b', q' + 4, none⟩) l2).trans g4, (hb.cell (p := ⟨b, q + 5, none⟩) l1).trans h5, (hb.cell (p := ⟨b', q' + 5, none⟩) l2).trans g5, (hb.cell (p := ⟨b, q + 6, none⟩) l1).trans h6, (hb.cell (p := ⟨b', q' + 6, none⟩) l2).trans g6, (hb.cell (p := ⟨b, q + 7, none⟩) l1).trans h7, (hb.cell (p := ⟨b', q' + 7, none⟩) l2).trans g7, (hb.cell (p := ⟨b, q + 8, none⟩) l1).trans h8, (hb.cell (p := ⟨b', q' + 8, none⟩) l2).trans g8⟩
/-! ### marks -/
/-- n elements that bear the numbers from m on -/
def marks (m : Int) (n : Nat) : List I9 := (List.range n).map fun i => mk fun j => m + ((i * 9 + j : Nat) : Int)
theorem marks_len (m : Int) (n : Nat) : (marks m n).length = n := by simp [marks]
theorem marks_at (m : Int) {n k : Nat} (h : k < n) : (marks m n).getD k zero = mk fun j => m + ((k * 9 + j : Nat) : Int) := by
  rw [List.getD_eq_getElem?_getD, marks, List.getElem?_map, List.getElem?_range h]
  rfl
theorem marks_set (m : Int) (xs : List I9) (j : Nat) (h : j < xs.length) {x : I9} (hx : x = mk fun q => m + ((j * 9 + q : Nat) : Int)) : (marks m j ++ xs.drop j).set j x = marks m (j + 1) ++ xs.drop (j + 1) := by
  subst hx
  rw [List.drop_eq_getElem_cons h, List.set_append_right _ _ (by rw [marks_len]; exact Nat.le_refl _), marks_len, Nat.sub_self, List.set_cons_zero]
  simp [marks, List.range_succ]
/-- the slice after j marks -/
def MarkMid (lo hi : Nat) (p : Option Addr) (n c : Nat) (xs : List I9) (m : Int) (j : Nat) (w wr : World) : Prop :=
  OwS E 56 wr lo hi p n c (marks m j ++ xs.drop j) ∧ w.grownBy wr (Value.slice p n c).ownBlock
theorem MarkMid.next {lo hi g n c j : Nat} {xs : List I9} {m : Int} {w wr : World} (h : MarkMid lo hi (some ⟨g, 0, none⟩) n c xs m j w wr) (hj : j < n) (hl : xs.length = n) {x : I9} (hx : x = mk fun q => m + ((j * 9 + q : Nat) : Int)) : MarkMid lo hi (some ⟨g, 0, none⟩) n c xs m (j + 1) w (wr.setCells g (j * 9) (E.of x)) := by
  obtain ⟨h1, h2⟩ := h.1.elem (i := j) hj x
  rw [marks_set m xs j (by omega) hx] at h1
  exact ⟨h1, ⟨h2.os.trans h.2.os, h2.tape.trans h.2.tape, h2.output.trans h.2.output, Nat.le_trans h.2.size h2.size, fun i hi hne => (h2.block i (Nat.lt_of_lt_of_le hi h.2.size) hne).trans (h.2.block i hi hne)⟩⟩
theorem MarkMid.cells {lo hi g n c j : Nat} {xs : List I9} {m : Int} {w wr : World} (h : MarkMid lo hi (some ⟨g, 0, none⟩) n c xs m j w wr) (hj : j < n) (hl : xs.length = n) : At wr g (j * 9) xs[j] := by
  have hx : (marks m j ++ xs.drop j)[j]? = some xs[j] := by
    rw [List.getElem?_append_right (by rw [marks_len]; exact Nat.le_refl _), marks_len, Nat.sub_self, List.drop_eq_getElem_cons (by omega)]
    rfl
  exact ⟨h.1.cell (j := 0) hx rfl, h.1.cell (j := 1) hx rfl, h.1.cell (j := 2) hx rfl, h.1.cell (j := 3) hx rfl, h.1.cell (j := 4) hx rfl, h.1.cell (j := 5) hx rfl, h.1.cell (j := 6) hx rfl, h.1.cell (j := 7) hx rfl, h.1.cell (j := 8) hx rfl⟩
/-- The call answers the next mark; the slice bears the marks; no other block has turned. -/
def Marked (lo hi : Nat) (p : Option Addr) (n c : Nat) (m : Int) (w : World) (e : Ending) (w' : World) : Prop := e = .returned (.int .i64 (m + (n * 9 : Nat))) ∧ OwS E 56 w' lo hi p n c (marks m n) ∧ w.grownBy w' (Value.slice p n c).ownBlock
theorem MarkMid.done {lo hi n c : Nat} {p : Option Addr} {xs : List I9} {m : Int} {w wr : World} (h : MarkMid lo hi p n c xs m n w wr) (hl : xs.length = n) : Marked lo hi p n c m w (.returned (.int .i64 (m + (n * 9 : Nat)))) wr := by
  subst hl
  obtain ⟨h1, h2⟩ := h
  rw [List.drop_length, List.append_nil] at h1
  exact ⟨rfl, h1, h2⟩
/-! ### sizes -/
end Go.Proofs.Ytpjckbdljbpliaa.SlSignature
