/- A slice of the call's own whose capacity was cut off: marks are written into it. Contracts of the laws' helpers over slices of strings: opened, copied, compared, measured. Contracts of the laws' helpers over Key, by value and in slices: copies, equality, marks written and found. Contracts of the laws' helpers over Cert, by value and in slices: copies, equality, marks written and found. Contracts of the laws' helpers over Status, by value and in slices: copies, equality, marks written and found. Contracts of the laws' helpers over Stamp, by value and in slices: copies, equality, marks written and found. Contracts of the laws' helpers over Signature, by value and in slices: copies, equality, marks written and found. Contracts of the laws' helpers over Mandate, by value and in slices: copies, equality, marks written and found. Contracts of the laws' helpers over pieces: opened, copied, compared, measured, marks written and found. -/
import Derived.Test.YtgmoldianhkifaaSlI
import Derived.LoopTactic
import Derived.Test.YtgmoldianhkifaaStM
import Derived.Deep.Strs
import Derived.Deep.QuietTactic
import Derived.BigQuiet
import Derived.Outline
import Derived.Test.YtgmoldianhkifaaFnd
import Derived.Test.YtgmoldianhkifaaStI
import Derived.Test.YtgmoldianhkifaaBx
import Derived.Test.YtgmoldianhkifaaInt
import Derived.OpenShut
import Derived.Deep.Fields
namespace Go.Proofs.Ytgmoldianhkifaa.SlC
open Go.ChangeShapes Go.WideShapes Go.ChangeAt Go.RowKit Sl Sl SlI
set_option maxHeartbeats 1000000 in
theorem mark_any (lo hi : Nat) (p : Option Addr) (n c d : Nat) (zs : List Int) (m : Int) (w : World) (ho : Ow .i64 3 w lo hi p n d zs) (hm : 0 ≤ m) (hm' : m + n ≤ 9223372036854775000) : Calls Try.prog 65 #[.slice p n c, .int .i64 m] w (SlI.Marked lo hi p n d m w) := by
  have HL := Lib.hid ho.len
  have hle := ho.rd.le
  have HM : Hid (SlI.MarkMid lo hi p n d zs m 0 w w) := ⟨ho, ⟨rfl, rfl, rfl, Nat.le_refl _, fun _ _ _ => rfl⟩⟩
  clear ho
  go_enter Try.func65, Try.ntmps65
  go_wp2_with fail
  go_loopw [1, 5] (fun x i wr => ∃ k : Nat, k ≤ n ∧ i = .int .i64 k ∧ x = .int .i64 (m + k) ∧ Hid (SlI.MarkMid lo hi p n d zs m k w wr)) (fun _ i _ => n - (intOf i).toNat)
  case atStart => exact ⟨0, Nat.zero_le _, rfl, by simp, HM⟩
  case round =>
    obtain ⟨k, hk, rfl, rfl, HK⟩ := hrel
    by_cases hlt : k < n
    · rcases HK.out.1.form with ⟨_, hn0, _⟩ | ⟨g, rfl, _, _, hnc, _⟩
      · omega
      have hcd := HK.out.1.cell hlt
      have hfd := HK.out.1.free (i := k)
      go_wp2_with fail
      go_roundw
      case rel => exact ⟨k + 1, by omega, by go_num, by go_num, HK.out.next hlt HL.out (intK_of (by omega)).symm⟩
      case measure => simp [intOf]; omega
    · obtain rfl : k = n := by omega
      go_wp2_with fail
      go_ret
      exact HK.out.done HL.out
end Go.Proofs.Ytgmoldianhkifaa.SlC

namespace Go.Proofs.Ytgmoldianhkifaa.SlStr
open Go.ChangeShapes Go.WideShapes Go.ChangeAt Go.RowKit Sl St

def E : En ByteArray := ⟨fun s => [.string s], 1, fun _ => rfl, fun x v h => by simp only [List.mem_cons, List.not_mem_nil, or_false] at h; subst h; rfl, by decide⟩
theorem C_eq : E.C = 1 := rfl
theorem of_eq (x : ByteArray) : E.of x = [.string x] := rfl
theorem info : (Try.prog.info? 9).map (fun i => (i.zero, i.size, i.bytes)) = some (some (.string ByteArray.empty), 1, 16) := by kernel_rfl
set_option maxRecDepth 100000 in
/-- what a slice of ints gives, as cells -/
theorem open_cellsI {H : Type} {enc : TypeId × Value → H} {W : World} {fuel : Nat} {cs : List Value} {x : DataW H × List MemPlace} (h : DataW.trod enc Try.prog W 0 (fun _ => true) true fuel 23 cs = some x) :
    ∃ p n c zs, cs = [.slice p n c] ∧ Rd .i64 W p n zs := by
  have c1 : Try.prog.cellsOf 3 = 1 := by kernel_rfl
  rcases open_ints Try.underlying23 Try.underlying3 c1 h with ⟨hcs, _⟩ | ⟨a, len, cap, zs, hcs, _, hl, hm, hz, _, hcell, hwz⟩
  · exact ⟨_, _, _, [], hcs, Rd.nil_ _ _ _⟩
  · simp only [if_true] at hz
    refine ⟨_, _, _, zs.take len, hcs, by rw [List.length_take]; omega, by omega, fun x hx => SlI.wf_in (hwz x (List.mem_of_mem_take hx)), fun hpos => ?_⟩
    obtain ⟨ab, ao, spot⟩ := a
    have hspot : spot = none := by simpa [Addr.add] using World.cell?_spot (hcell 0 (by omega))
    subst hspot
    refine ⟨ab, ao, rfl, World.block_lt_of_cell? W _ (hcell 0 (by omega)), fun j hj => ?_⟩
    have hcj := hcell j (by omega)
    rw [Addr.add_lit] at hcj
    rw [getD_take _ hj]
    exact hcj
/-- The call answers a value; what lay before is as it was. -/
def Val (v : Value) (w : World) (e : Ending) (w' : World) : Prop := e = .returned v ∧ Below w.heap.size w w'
/-- The call answers a new slice that reads as xs; what lay before is as it was. -/
def Makes (xs : List ByteArray) (w : World) (e : Ending) (w' : World) : Prop := ∃ p n c, e = .returned (.slice p n c) ∧ OwS E 9 w' w.heap.size w'.heap.size p n c xs ∧ Below w.heap.size w w'
/-- The call answers true; what lay before is as it was. -/
def Yes (w : World) (e : Ending) (w' : World) : Prop := e = .returned (.bool true) ∧ Below w.heap.size w w'
theorem rd_at {w : World} {p : Option Addr} {n k : Nat} {xs : List ByteArray} (h : RdS E w p n xs) (hk : k < n) : ∃ b o, p = some ⟨b, o, none⟩ ∧ b < w.heap.size ∧ w.cell? ⟨b, o + k, none⟩ = some (.string (xs.getD k ByteArray.empty)) := by
  obtain ⟨b, o, x, e, hb, hx, hc⟩ := h.at_ hk
  have hd : xs.getD k ByteArray.empty = x := by rw [List.getD_eq_getElem?_getD, hx]; rfl
  have h0 := hc 0 _ rfl
  rw [C_eq, Nat.mul_one, Nat.add_zero] at h0
  rw [hd]
  exact ⟨b, o, e, hb, h0⟩

/-! ### a copy -/
/-- the copy after j elements -/
def Mid (xs : List ByteArray) (n j : Nat) (w wr : World) : Prop := OwS E 9 wr w.heap.size wr.heap.size (some ⟨w.heap.size, 0, none⟩) n n (xs.take j ++ List.replicate (n - j) ByteArray.empty) ∧ Below w.heap.size w wr
theorem Mid.start {xs : List ByteArray} {n : Nat} {w w1 : World} (hown : w1.ownsRow w.heap.size 9 1 (.slice (some ⟨w.heap.size, 0, none⟩) n n) n (madeCells (Value.cells (.string ByteArray.empty)) (n * 1)).toList) (hg : w.grownBy w1 none) : Mid xs n 0 w w1 := by
  have e := made_fl (E := E) (.string ByteArray.empty) ByteArray.empty rfl n
  rw [C_eq] at e
  rw [e] at hown
  exact ⟨OwS.of_row hown, (Below.refl _ _).grown hg (Nat.le_refl _) (fun _ h => by cases h)⟩
theorem Mid.next {xs : List ByteArray} {n j : Nat} {w wr : World} {x : ByteArray} (h : Mid xs n j w wr) (hj : j < n) (hl : xs.length = n) (hx : xs.getD j ByteArray.empty = x) : Mid xs n (j + 1) w (wr.setCell ⟨w.heap.size, j, none⟩ (.string x)) := by
  obtain ⟨h3, h4⟩ := h.1.elem (i := j) hj x
  have e : wr.setCells w.heap.size (j * E.C) (E.of x) = wr.setCell ⟨w.heap.size, j, none⟩ (.string x) := by rw [C_eq, Nat.mul_one]; rfl
  rw [e] at h3 h4
  have hw : xs[j]'(by omega) = x := by rw [← hx, List.getD_eq_getElem?_getD, List.getElem?_eq_getElem (by omega)]; rfl
  clear hx
  subst hw hl
  rw [set_mid hj] at h3
  exact ⟨h3.wide (Nat.le_refl _) (Nat.le_trans h3.2.2.1 (Nat.le_refl _)) (Nat.le_refl _), h.2.grown h4 h.2.size (fun k e => by cases e; exact Nat.le_refl _)⟩
theorem Mid.done {xs : List ByteArray} {n : Nat} {w wr : World} (h : Mid xs n n w wr) (hl : xs.length = n) : Makes xs w (.returned (.slice (some ⟨w.heap.size, 0, none⟩) n n)) wr := by
  subst hl
  obtain ⟨h1, h2⟩ := h
  rw [List.take_length, Nat.sub_self, List.replicate_zero, List.append_nil] at h1
  exact ⟨_, _, _, rfl, h1, h2⟩
theorem Mid.cell {xs : List ByteArray} {n j : Nat} {w wr : World} (h : Mid xs n j w wr) (hj : j < n) (hl : xs.length = n) : wr.cell? ⟨w.heap.size, j, none⟩ = some (.string ByteArray.empty) := by
  have hx : (xs.take j ++ List.replicate (n - j) ByteArray.empty)[j]? = some ByteArray.empty := by
    rw [List.getElem?_append_right (by rw [List.length_take]; omega), List.length_take, List.getElem?_replicate, if_pos (by omega)]
  have h0 := h.1.cell (j := 0) hx rfl
  rw [C_eq, Nat.mul_one, Nat.add_zero] at h0
  exact h0
/-! ### the measure -/
def tot (xs : List ByteArray) : Nat := (xs.map fun s => s.size).sum
theorem tot_take {xs : List ByteArray} {k : Nat} (h : k < xs.length) : tot (xs.take (k + 1)) = tot (xs.take k) + (xs.getD k ByteArray.empty).size := by
  unfold tot
  rw [List.take_succ_eq_append_getElem h, List.map_append, List.sum_append, List.getD_eq_getElem?_getD, List.getElem?_eq_getElem h]
  simp
theorem tot_le (xs : List ByteArray) (k : Nat) : tot (xs.take k) ≤ tot xs := by
  have h : tot xs = tot (xs.take k) + tot (xs.drop k) := by unfold tot; rw [← List.sum_append, ← List.map_append, List.take_append_drop]
  omega
theorem tot_cons (x : ByteArray) (xs : List ByteArray) : tot (x :: xs) = x.size + tot xs := by simp [tot]
theorem size_le {s : ByteArray} : ∀ {xs : List ByteArray}, s ∈ xs → s.size ≤ tot xs
  | [], h => by cases h
  | x :: xs, h => by
    rw [tot_cons]
    rcases List.mem_cons.1 h with rfl | h
    · omega
    · have := size_le h
      omega
/-- the whole is within the limit, or the measure says -1 -/
def szI (xs : List ByteArray) (left : Nat) : Int := if xs.length + tot xs ≤ left then (left : Int) - xs.length - tot xs else -1
end Go.Proofs.Ytgmoldianhkifaa.SlStr

namespace Go.Proofs.Ytgmoldianhkifaa.SlKey
open Go.ChangeShapes Go.WideShapes Go.ChangeAt Go.RowKit Sl St Fnd

def E : En I5 := ⟨fun x => [.int .i64 x.1, .int .i64 x.2.1, .int .i64 x.2.2.1, .int .i64 x.2.2.2.1, .int .i64 x.2.2.2.2], 5, fun _ => rfl, fun x v h => by simp only [List.mem_cons, List.not_mem_nil, or_false] at h; rcases h with rfl | rfl | rfl | rfl | rfl <;> rfl, by decide⟩
theorem C_eq : E.C = 5 := rfl
theorem of_eq (x : I5) : E.of x = [.int .i64 x.1, .int .i64 x.2.1, .int .i64 x.2.2.1, .int .i64 x.2.2.2.1, .int .i64 x.2.2.2.2] := rfl
def zero : I5 := (0, 0, 0, 0, 0)
theorem info : (Try.prog.info? 84).map (fun i => (i.zero, i.size, i.bytes)) = some (some (.agg #[.int .i64 0, .int .i64 0, .int .i64 0, .int .i64 0, .int .i64 0]), 5, 40) := by kernel_rfl
/-- the element of numbers -/
def mk (f : Nat → Int) : I5 := (f 0, f 1, f 2, f 3, f 4)
theorem of_mk (f : Nat → Int) : E.of (mk f) = ints 5 f := rfl
theorem agg_ints (f : Nat → Int) : Value.agg (ints 5 f).toArray = .agg #[.int .i64 (f 0), .int .i64 (f 1), .int .i64 (f 2), .int .i64 (f 3), .int .i64 (f 4)] := rfl
set_option maxRecDepth 100000 in
/-- what a struct that came in gives -/
theorem open_val {H : Type} {enc : TypeId × Value → H} {W : World} {base : Nat} {v : Value} {d : DataW H} {pl : List MemPlace} (h : DataW.Trod enc Try.prog W 0 (fun _ => true) true 86 v d pl) (hk : Value.okWide Try.prog W .any base 86 v) :
    ∃ x0 x1 x2 x3 x4 : Int, v = .agg #[.int .i64 x0, .int .i64 x1, .int .i64 x2, .int .i64 x3, .int .i64 x4] ∧ (-9223372036854775808 ≤ x0 ∧ x0 ≤ 9223372036854775807) ∧ (-9223372036854775808 ≤ x1 ∧ x1 ≤ 9223372036854775807) ∧ (-9223372036854775808 ≤ x2 ∧ x2 ≤ 9223372036854775807) ∧ (-9223372036854775808 ≤ x3 ∧ x3 ≤ 9223372036854775807) ∧ (-9223372036854775808 ≤ x4 ∧ x4 ≤ 9223372036854775807) := by
  have hi : ∃ fs, Try.prog.underlying 86 = some (.struct fs) ∧ intFields Try.prog fs = true ∧ fs.size = 5 ∧ Try.prog.cellsOf 86 = fs.size := ⟨_, Try.underlying86, by kernel_rfl, by kernel_rfl, by kernel_rfl⟩
  obtain ⟨fs, h1, h2, h3, h4⟩ := hi
  obtain ⟨f, rfl, hr⟩ := open_ints_val h1 h2 h4 hk h
  rw [h3] at hr ⊢
  exact ⟨f 0, f 1, f 2, f 3, f 4, agg_ints f, hr 0 (by decide), hr 1 (by decide), hr 2 (by decide), hr 3 (by decide), hr 4 (by decide)⟩
/-- every field is an int of 64 bits -/
def InR (x : I5) : Prop := (-9223372036854775808 ≤ x.1 ∧ x.1 ≤ 9223372036854775807) ∧ (-9223372036854775808 ≤ x.2.1 ∧ x.2.1 ≤ 9223372036854775807) ∧ (-9223372036854775808 ≤ x.2.2.1 ∧ x.2.2.1 ≤ 9223372036854775807) ∧ (-9223372036854775808 ≤ x.2.2.2.1 ∧ x.2.2.2.1 ≤ 9223372036854775807) ∧ (-9223372036854775808 ≤ x.2.2.2.2 ∧ x.2.2.2.2 ≤ 9223372036854775807)
set_option maxRecDepth 100000 in
/-- what a slice that came in gives -/
theorem open_argR {H : Type} {enc : TypeId × Value → H} {W : World} {base : Nat} {v : Value} {d : DataW H} {pl : List MemPlace} (h : DataW.Trod enc Try.prog W 0 (fun _ => true) true 22 v d pl) (hk : Value.okWide Try.prog W .any base 22 v) :
    ∃ p n c xs, v = .slice p n c ∧ RdS E W p n xs ∧ ∀ x ∈ xs, InR x := by
  have hi : ∃ fs, Try.prog.underlying 86 = some (.struct fs) ∧ intFields Try.prog fs = true ∧ fs.size = 5 ∧ Try.prog.cellsOf 86 = fs.size := ⟨_, Try.underlying86, by kernel_rfl, by kernel_rfl, by kernel_rfl⟩
  obtain ⟨fs, h1, h2, h3, h4⟩ := hi
  obtain ⟨p, n, c, rfl, hn, f, hrg, hc⟩ := open_ints_slice Try.underlying22 h1 h2 h4 hk h
  rw [h3] at hc hrg
  refine ⟨p, n, c, (List.range n).map fun i => mk (f i), rfl, ⟨by simp, hn, fun hpos => ?_⟩, fun x hx => ?_⟩
  rotate_left
  · simp only [List.mem_map, List.mem_range] at hx
    obtain ⟨i, hi, rfl⟩ := hx
    exact ⟨hrg i hi 0 (by decide), hrg i hi 1 (by decide), hrg i hi 2 (by decide), hrg i hi 3 (by decide), hrg i hi 4 (by decide)⟩
  obtain ⟨b, o, e, hb, hc⟩ := hc hpos (by decide)
  refine ⟨b, o, e, hb, fun i x hx j v hv => ?_⟩
  have hi : i < n := by
    have := (List.getElem?_eq_some_iff.1 hx).1
    simpa using this
  rw [List.getElem?_map, List.getElem?_range hi, Option.map_some, Option.some.injEq] at hx
  subst hx
  have hj : j < 5 := by
    have := (List.getElem?_eq_some_iff.1 hv).1
    rw [E.len] at this
    exact this
  have hv2 : (ints 5 (f i))[j]? = some v := hv
  rw [St.ints_at _ hj, Option.some.injEq] at hv2
  subst hv2
  exact hc i hi j hj
set_option maxRecDepth 100000 in
theorem open_arg {H : Type} {enc : TypeId × Value → H} {W : World} {base : Nat} {v : Value} {d : DataW H} {pl : List MemPlace} (h : DataW.Trod enc Try.prog W 0 (fun _ => true) true 22 v d pl) (hk : Value.okWide Try.prog W .any base 22 v) :
    ∃ p n c xs, v = .slice p n c ∧ RdS E W p n xs := by
  obtain ⟨p, n, c, xs, e, h, _⟩ := open_argR h hk
  exact ⟨p, n, c, xs, e, h⟩
/-- The call answers a value; what lay before is as it was. -/
def Val (v : Value) (w : World) (e : Ending) (w' : World) : Prop := e = .returned v ∧ Below w.heap.size w w'
/-- The call answers a new slice, not nil, that reads as xs; what lay before is as it was. -/
def Makes (xs : List I5) (w : World) (e : Ending) (w' : World) : Prop := ∃ p n c, e = .returned (.slice p n c) ∧ OwS E 84 w' w.heap.size w'.heap.size p n c xs ∧ Below w.heap.size w w'
/-- The call answers true; what lay before is as it was. -/
def Yes (w : World) (e : Ending) (w' : World) : Prop := e = .returned (.bool true) ∧ Below w.heap.size w w'
set_option maxRecDepth 100000 in
set_option maxHeartbeats 1000000 in
theorem val_any (x0 x1 x2 x3 x4 : Int) (w : World) : Calls Try.prog 52 #[.agg #[.int .i64 x0, .int .i64 x1, .int .i64 x2, .int .i64 x3, .int .i64 x4]] w (Val (.agg #[.int .i64 x0, .int .i64 x1, .int .i64 x2, .int .i64 x3, .int .i64 x4]) w) := by
  go_enter Try.func52, Try.ntmps52
  go_wp2_with fail
  exact bodyPost_ret (v := .agg #[.int .i64 x0, .int .i64 x1, .int .i64 x2, .int .i64 x3, .int .i64 x4]) (by simp [results, Try.results52, go_sem]) rfl ⟨rfl, (((Below.refl _ _).alloc (Nat.le_refl _) _).alloc (by simp) _).alloc (by simp; omega) _⟩
set_option maxRecDepth 100000 in
set_option maxHeartbeats 1000000 in
theorem same_any (x0 x1 x2 x3 x4 : Int) (w : World) : Calls Try.prog 56 #[.agg #[.int .i64 x0, .int .i64 x1, .int .i64 x2, .int .i64 x3, .int .i64 x4], .agg #[.int .i64 x0, .int .i64 x1, .int .i64 x2, .int .i64 x3, .int .i64 x4]] w (Yes w) := by
  go_enter Try.func56, Try.ntmps56
  go_wp2_with fail
  go_ret
  exact ⟨rfl, ((Below.refl _ _).alloc (Nat.le_refl _) _).alloc (by simp) _⟩

theorem bxc {w : World} {g : Nat} {T : TypeId} {x0 x1 x2 x3 x4 : Value} (h : Bx w g T #[x0, x1, x2, x3, x4]) : w.cell? ⟨g, 0, none⟩ = some x0 ∧ w.cell? ⟨g, 1, none⟩ = some x1 ∧ w.cell? ⟨g, 2, none⟩ = some x2 ∧ w.cell? ⟨g, 3, none⟩ = some x3 ∧ w.cell? ⟨g, 4, none⟩ = some x4 := ⟨h.cell rfl, h.cell rfl, h.cell rfl, h.cell rfl, h.cell rfl⟩
/-! ### slices -/
/-- an element's cells at an address -/
def At (w : World) (b q : Nat) (x : I5) : Prop := w.cell? ⟨b, q, none⟩ = some (.int .i64 x.1) ∧ w.cell? ⟨b, q + 1, none⟩ = some (.int .i64 x.2.1) ∧ w.cell? ⟨b, q + 2, none⟩ = some (.int .i64 x.2.2.1) ∧ w.cell? ⟨b, q + 3, none⟩ = some (.int .i64 x.2.2.2.1) ∧ w.cell? ⟨b, q + 4, none⟩ = some (.int .i64 x.2.2.2.2)
theorem rd_at {w : World} {p : Option Addr} {n k : Nat} {xs : List I5} (h : RdS E w p n xs) (hk : k < n) : ∃ b o, p = some ⟨b, o, none⟩ ∧ b < w.heap.size ∧ At w b (o + k * 5) (xs.getD k zero) := by
  obtain ⟨b, o, x, e, hb, hx, hc⟩ := h.at_ hk
  have hd : xs.getD k zero = x := by rw [List.getD_eq_getElem?_getD, hx]; rfl
  rw [hd]
  exact ⟨b, o, e, hb, hc 0 _ rfl, hc 1 _ rfl, hc 2 _ rfl, hc 3 _ rfl, hc 4 _ rfl⟩
theorem At.below {w w' : World} {b q : Nat} {x : I5} (h : At w b q x) (hb : Below w.heap.size w w') (hlt : b < w.heap.size) : At w' b q x :=
  ⟨(hb.cell (p := ⟨b, q, none⟩) hlt).trans h.1, (hb.cell (p := ⟨b, q + 1, none⟩) hlt).trans h.2.1, (hb.cell (p := ⟨b, q + 2, none⟩) hlt).trans h.2.2.1, (hb.cell (p := ⟨b, q + 3, none⟩) hlt).trans h.2.2.2.1, (hb.cell (p := ⟨b, q + 4, none⟩) hlt).trans h.2.2.2.2⟩
/-- the copy after j elements -/
def Mid (xs : List I5) (n j : Nat) (w wr : World) : Prop := OwS E 84 wr w.heap.size wr.heap.size (some ⟨w.heap.size, 0, none⟩) n n (xs.take j ++ List.replicate (n - j) zero) ∧ Below w.heap.size w wr
theorem Mid.start {xs : List I5} {n : Nat} {w w1 : World} (hown : w1.ownsRow w.heap.size 84 5 (.slice (some ⟨w.heap.size, 0, none⟩) n n) n (madeCells (Value.cells (.agg #[.int .i64 0, .int .i64 0, .int .i64 0, .int .i64 0, .int .i64 0])) (n * 5)).toList) (hg : w.grownBy w1 none) : Mid xs n 0 w w1 := by
  have e := made_fl (E := E) (.agg #[.int .i64 0, .int .i64 0, .int .i64 0, .int .i64 0, .int .i64 0]) zero rfl n
  rw [C_eq] at e
  rw [e] at hown
  exact ⟨OwS.of_row hown, (Below.refl _ _).grown hg (Nat.le_refl _) (fun _ h => by cases h)⟩
theorem Mid.next {xs : List I5} {n j : Nat} {w wr w2 : World} {x : I5} (h : Mid xs n j w wr) (hb : Below wr.heap.size wr w2) (hj : j < n) (hl : xs.length = n) (hx : xs.getD j zero = x) : Mid xs n (j + 1) w (w2.setCells w.heap.size (j * 5) (E.of x)) := by
  have h2 := h.1.below hb
  obtain ⟨h3, h4⟩ := h2.elem (i := j) hj x
  have hw : xs[j]'(by omega) = x := by rw [← hx, List.getD_eq_getElem?_getD, List.getElem?_eq_getElem (by omega)]; rfl
  clear hx
  subst hw hl
  rw [set_mid hj] at h3
  exact ⟨h3.wide (Nat.le_refl _) (Nat.le_trans h3.2.2.1 (Nat.le_refl _)) (Nat.le_refl _), (below_on h.2 hb).grown h4 (Nat.le_trans h.2.size hb.size) (fun k e => by cases e; exact Nat.le_refl _)⟩
theorem Mid.done {xs : List I5} {n : Nat} {w wr : World} (h : Mid xs n n w wr) (hl : xs.length = n) : Makes xs w (.returned (.slice (some ⟨w.heap.size, 0, none⟩) n n)) wr := by
  subst hl
  obtain ⟨h1, h2⟩ := h
  rw [List.take_length, Nat.sub_self, List.replicate_zero, List.append_nil] at h1
  exact ⟨_, _, _, rfl, h1, h2⟩
theorem Mid.cells {xs : List I5} {n j : Nat} {w wr : World} (h : Mid xs n j w wr) (hj : j < n) (hl : xs.length = n) : At wr w.heap.size (j * 5) zero := by
  have hx : (xs.take j ++ List.replicate (n - j) zero)[j]? = some zero := by
    rw [List.getElem?_append_right (by rw [List.length_take]; omega), List.length_take, List.getElem?_replicate, if_pos (by omega)]
  exact ⟨h.1.cell (j := 0) hx rfl, h.1.cell (j := 1) hx rfl, h.1.cell (j := 2) hx rfl, h.1.cell (j := 3) hx rfl, h.1.cell (j := 4) hx rfl⟩
set_option maxRecDepth 100000 in
set_option maxHeartbeats 2000000 in
theorem to_any (p : Option Addr) (n c : Nat) (xs : List I5) (w : World) (hr : RdS E w p n xs) (hn : n ≤ 1759218604441) : Calls Try.prog 14 #[.slice p n c] w (Makes xs w) := by
  obtain ⟨i0, hi, hz0, hz1, hz2⟩ := info_parts info
  have HR := Lib.hid hr
  have HL := Lib.hid hr.len
  have hle := hr.le
  clear hr
  go_enter Try.func14, Try.ntmps14
  go_wp2_with (refine wpList_make_full _ rfl _ _ 29 rfl w.heap.size 84 i0 _ 5 Try.underlying29 hi hz0 hz1 .i64 .i64 _ _ n rfl rfl rfl rfl (by rw [hz2]; omega) (by unfold maxLen; omega) (Nat.le_refl _) ?_; intro w1 hown1 hg1)
  have HM := Lib.hid (Mid.start (xs := xs) hown1 hg1)
  clear hown1 hg1
  go_loopw [4] (fun i wr => ∃ k : Nat, k ≤ n ∧ i = .int .i64 k ∧ Hid (Mid xs n k w wr)) (fun i _ => n - (intOf i).toNat)
  case atStart => exact ⟨0, Nat.zero_le _, rfl, HM⟩
  case round =>
    obtain ⟨k, hk, rfl, HK⟩ := hrel
    by_cases hlt : k < n
    · obtain ⟨b, o, rfl, hb, hat⟩ := rd_at (HR.out.below HK.out.2) hlt
      have hbw : b < w.heap.size := by
        obtain ⟨b', o', e, hb', _⟩ := rd_at HR.out hlt
        simp only [Option.some.injEq, Addr.mk.injEq, and_true] at e
        omega
      generalize hx : xs.getD k zero = x at hat
      have HX := Lib.hid hx
      obtain ⟨hc0, hc1, hc2, hc3, hc4⟩ := hat
      clear hx
      go_wp2_with fail
      refine (val_any _ _ _ _ _ _).mono ?_
      rintro e w2 ⟨rfl, hb2⟩
      obtain ⟨hd0, hd1, hd2, hd3, hd4⟩ := (HK.out.cells hlt HL.out).below hb2 (Nat.lt_of_lt_of_le (HK.out.1.far _ rfl).2 (Nat.le_refl _))
      have hf0 := (HK.out.1.below hb2).free (i := k * 5); have hf1 := (HK.out.1.below hb2).free (i := k * 5 + 1); have hf2 := (HK.out.1.below hb2).free (i := k * 5 + 2); have hf3 := (HK.out.1.below hb2).free (i := k * 5 + 3); have hf4 := (HK.out.1.below hb2).free (i := k * 5 + 4)
      have HM2 := Lib.hid (HK.out.next hb2 hlt HL.out HX.out)
      clear hb2
      go_wp2_with fail
      go_roundw
      case rel => exact ⟨k + 1, by omega, by go_num, HM2⟩
      case measure => simp [intOf]; omega
    · obtain rfl : k = n := by omega
      go_wp2_with fail
      go_ret
      exact HK.out.done HL.out
/-- all cells of two elements -/
def At2 (w : World) (b q b' q' : Nat) (z0 z1 z2 z3 z4 : Int) : Prop := w.cell? ⟨b, q, none⟩ = some (.int .i64 z0) ∧ w.cell? ⟨b', q', none⟩ = some (.int .i64 z0) ∧ w.cell? ⟨b, q + 1, none⟩ = some (.int .i64 z1) ∧ w.cell? ⟨b', q' + 1, none⟩ = some (.int .i64 z1) ∧ w.cell? ⟨b, q + 2, none⟩ = some (.int .i64 z2) ∧ w.cell? ⟨b', q' + 2, none⟩ = some (.int .i64 z2) ∧ w.cell? ⟨b, q + 3, none⟩ = some (.int .i64 z3) ∧ w.cell? ⟨b', q' + 3, none⟩ = some (.int .i64 z3) ∧ w.cell? ⟨b, q + 4, none⟩ = some (.int .i64 z4) ∧ w.cell? ⟨b', q' + 4, none⟩ = some (.int .i64 z4)
theorem At2.mk {w : World} {b q b' q' : Nat} {x : I5} (h : At w b q x) (h' : At w b' q' x) : At2 w b q b' q' x.1 x.2.1 x.2.2.1 x.2.2.2.1 x.2.2.2.2 := by
  obtain ⟨h0, h1, h2, h3, h4⟩ := h
  obtain ⟨g0, g1, g2, g3, g4⟩ := h'
  exact ⟨h0, g0, h1, g1, h2, g2, h3, g3, h4, g4⟩
theorem At2.below {w w' : World} {b q b' q' : Nat} {z0 z1 z2 z3 z4 : Int} (h : At2 w b q b' q' z0 z1 z2 z3 z4) (hb : Below w.heap.size w w') (l1 : b < w.heap.size) (l2 : b' < w.heap.size) : At2 w' b q b' q' z0 z1 z2 z3 z4 := by
  obtain ⟨h0, g0, h1, g1, h2, g2, h3, g3, h4, g4⟩ := h
  exact ⟨(hb.cell (p := ⟨b, q, none⟩) l1).trans h0, (hb.cell (p := ⟨b', q', none⟩) l2).trans g0, (hb.cell (p := ⟨b, q + 1, none⟩) l1).trans h1, (hb.cell (p := ⟨b', q' + 1, none⟩) l2).trans g1, (hb.cell (p := ⟨b, q + 2, none⟩) l1).trans h2, (hb.cell (p := ⟨b', q' + 2, none⟩) l2).trans g2, (hb.cell (p := ⟨b, q + 3, none⟩) l1).trans h3, (hb.cell (p := ⟨b', q' + 3, none⟩) l2).trans g3, (hb.cell (p := ⟨b, q + 4, none⟩) l1).trans h4, (hb.cell (p := ⟨b', q' + 4, none⟩) l2).trans g4⟩
set_option maxRecDepth 100000 in
set_option maxHeartbeats 4000000 in
theorem eq_any (p p' : Option Addr) (n c c' : Nat) (xs : List I5) (w : World) (hr : RdS E w p n xs) (hr' : RdS E w p' n xs) : Calls Try.prog 17 #[.slice p n c, .slice p' n c'] w (Yes w) := by
  have HR := Lib.hid hr
  have HR' := Lib.hid hr'
  have hle := hr.le
  clear hr hr'
  go_enter Try.func17, Try.ntmps17
  go_wp2_with fail
  go_loopw [5] (fun i wr => ∃ k : Nat, k ≤ n ∧ i = .int .i64 k ∧ Hid (Below w.heap.size w wr)) (fun i _ => n - (intOf i).toNat)
  case atStart => exact ⟨0, Nat.zero_le _, rfl, Below.refl _ _⟩
  case round =>
    obtain ⟨k, hk, rfl, HB⟩ := hrel
    by_cases hlt : k < n
    · obtain ⟨b, o, rfl, hb, hat⟩ := rd_at (HR.out.below HB.out) hlt
      obtain ⟨b', o', rfl, hb', hat'⟩ := rd_at (HR'.out.below HB.out) hlt
      have h2 := At2.mk hat hat'
      generalize (xs.getD k zero).1 = z0 at h2; generalize (xs.getD k zero).2.1 = z1 at h2; generalize (xs.getD k zero).2.2.1 = z2 at h2; generalize (xs.getD k zero).2.2.2.1 = z3 at h2; generalize (xs.getD k zero).2.2.2.2 = z4 at h2
      have HH := Lib.hid h2
      clear hat hat'
      obtain ⟨h0, g0, h1, g1, h2, g2, h3, g3, h4, g4⟩ := h2
      have i1 : (0 : Int) ≤ (k : Int) := by omega
      have i2 : (k : Int) < (n : Int) := by omega
      go_wp2_with fail
      go_region_held3 (fun w' => w'.cell? ⟨b, o + k * 5, none⟩ = some (.int .i64 z0) ∧ w'.cell? ⟨b', o' + k * 5, none⟩ = some (.int .i64 z0) ∧ w'.cell? ⟨b, o + k * 5 + 1, none⟩ = some (.int .i64 z1) ∧ w'.cell? ⟨b', o' + k * 5 + 1, none⟩ = some (.int .i64 z1) ∧ w'.cell? ⟨b, o + k * 5 + 2, none⟩ = some (.int .i64 z2) ∧ w'.cell? ⟨b', o' + k * 5 + 2, none⟩ = some (.int .i64 z2) ∧ w'.cell? ⟨b, o + k * 5 + 3, none⟩ = some (.int .i64 z3) ∧ w'.cell? ⟨b', o' + k * 5 + 3, none⟩ = some (.int .i64 z3) ∧ w'.cell? ⟨b, o + k * 5 + 4, none⟩ = some (.int .i64 z4) ∧ w'.cell? ⟨b', o' + k * 5 + 4, none⟩ = some (.int .i64 z4)) (first | exact HH.out | exact HH2.out | go_keep) (first
        | (go_at_call 56; refine (same_any _ _ _ _ _ _).mono ?_; rintro e w2 ⟨rfl, hb2⟩; have HH2 := Lib.hid (At2.below (w := wr.drew) HH.out hb2 hb hb'); have HB2 := Lib.hid (below_on (below_drewN HB.out 1) hb2); clear hb2))
      go_wp2_with fail
      go_roundw
      case rel => exact ⟨k + 1, by omega, by go_num, HB2⟩
      case measure => simp [intOf]; omega
    · obtain rfl : k = n := by omega
      go_wp2_with fail
      go_ret
      exact ⟨rfl, HB.out⟩

/-! ### marks -/
/-- n elements that bear the numbers from m on -/
def marks (m : Int) (n : Nat) : List I5 := (List.range n).map fun i => mk fun j => m + ((i * 5 + j : Nat) : Int)
theorem marks_len (m : Int) (n : Nat) : (marks m n).length = n := by simp [marks]
theorem marks_at (m : Int) {n k : Nat} (h : k < n) : (marks m n).getD k zero = mk fun j => m + ((k * 5 + j : Nat) : Int) := by
  rw [List.getD_eq_getElem?_getD, marks, List.getElem?_map, List.getElem?_range h]
  rfl
theorem marks_set (m : Int) (xs : List I5) (j : Nat) (h : j < xs.length) {x : I5} (hx : x = mk fun q => m + ((j * 5 + q : Nat) : Int)) : (marks m j ++ xs.drop j).set j x = marks m (j + 1) ++ xs.drop (j + 1) := by
  subst hx
  rw [List.drop_eq_getElem_cons h, List.set_append_right _ _ (by rw [marks_len]; exact Nat.le_refl _), marks_len, Nat.sub_self, List.set_cons_zero]
  simp [marks, List.range_succ]
/-- the slice after j marks -/
def MarkMid (lo hi : Nat) (p : Option Addr) (n c : Nat) (xs : List I5) (m : Int) (j : Nat) (w wr : World) : Prop :=
  OwS E 84 wr lo hi p n c (marks m j ++ xs.drop j) ∧ w.grownBy wr (Value.slice p n c).ownBlock
theorem MarkMid.next {lo hi g n c j : Nat} {xs : List I5} {m : Int} {w wr : World} (h : MarkMid lo hi (some ⟨g, 0, none⟩) n c xs m j w wr) (hj : j < n) (hl : xs.length = n) {x : I5} (hx : x = mk fun q => m + ((j * 5 + q : Nat) : Int)) : MarkMid lo hi (some ⟨g, 0, none⟩) n c xs m (j + 1) w (wr.setCells g (j * 5) (E.of x)) := by
  obtain ⟨h1, h2⟩ := h.1.elem (i := j) hj x
  rw [marks_set m xs j (by omega) hx] at h1
  exact ⟨h1, ⟨h2.os.trans h.2.os, h2.tape.trans h.2.tape, h2.output.trans h.2.output, Nat.le_trans h.2.size h2.size, fun i hi hne => (h2.block i (Nat.lt_of_lt_of_le hi h.2.size) hne).trans (h.2.block i hi hne)⟩⟩
theorem MarkMid.cells {lo hi g n c j : Nat} {xs : List I5} {m : Int} {w wr : World} (h : MarkMid lo hi (some ⟨g, 0, none⟩) n c xs m j w wr) (hj : j < n) (hl : xs.length = n) : At wr g (j * 5) xs[j] := by
  have hx : (marks m j ++ xs.drop j)[j]? = some xs[j] := by
    rw [List.getElem?_append_right (by rw [marks_len]; exact Nat.le_refl _), marks_len, Nat.sub_self, List.drop_eq_getElem_cons (by omega)]
    rfl
  exact ⟨h.1.cell (j := 0) hx rfl, h.1.cell (j := 1) hx rfl, h.1.cell (j := 2) hx rfl, h.1.cell (j := 3) hx rfl, h.1.cell (j := 4) hx rfl⟩
/-- The call answers the next mark; the slice bears the marks; no other block has turned. -/
def Marked (lo hi : Nat) (p : Option Addr) (n c : Nat) (m : Int) (w : World) (e : Ending) (w' : World) : Prop := e = .returned (.int .i64 (m + (n * 5 : Nat))) ∧ OwS E 84 w' lo hi p n c (marks m n) ∧ w.grownBy w' (Value.slice p n c).ownBlock
theorem MarkMid.done {lo hi n c : Nat} {p : Option Addr} {xs : List I5} {m : Int} {w wr : World} (h : MarkMid lo hi p n c xs m n w wr) (hl : xs.length = n) : Marked lo hi p n c m w (.returned (.int .i64 (m + (n * 5 : Nat)))) wr := by
  subst hl
  obtain ⟨h1, h2⟩ := h
  rw [List.drop_length, List.append_nil] at h1
  exact ⟨rfl, h1, h2⟩
/-! ### sizes -/
theorem sz_big (p : Option Addr) (n c : Nat) (left : Int) (w : World) (h0 : 0 ≤ left) (h1 : left ≤ 1048576) (h : left < n) (hn : n ≤ 9223372036854775807) : Calls Try.prog 11 #[.slice p n c, .int .i64 left] w fun e w' => e = .returned (.int .i64 (-1)) ∧ w = w' := by
  go_enter Try.func11, Try.ntmps11
  go_wp2_with fail
  go_ret
  exact ⟨rfl, rfl⟩
theorem sz_fits (p : Option Addr) (n c : Nat) (left : Int) (w : World) (h1 : left ≤ 1048576) (h : n ≤ left) : Calls Try.prog 11 #[.slice p n c, .int .i64 left] w fun e w' => e = .returned (.int .i64 (left - n)) ∧ w = w' := by
  go_enter Try.func11, Try.ntmps11
  go_wp2_with fail
  go_ret
  exact ⟨rfl, rfl⟩
end Go.Proofs.Ytgmoldianhkifaa.SlKey

namespace Go.Proofs.Ytgmoldianhkifaa.SlCert
open Go.ChangeShapes Go.WideShapes Go.ChangeAt Go.RowKit Sl St Fnd

def E : En I7 := ⟨fun x => [.int .i64 x.1, .int .i64 x.2.1, .int .i64 x.2.2.1, .int .i64 x.2.2.2.1, .int .i64 x.2.2.2.2.1, .int .i64 x.2.2.2.2.2.1, .int .i64 x.2.2.2.2.2.2], 7, fun _ => rfl, fun x v h => by simp only [List.mem_cons, List.not_mem_nil, or_false] at h; rcases h with rfl | rfl | rfl | rfl | rfl | rfl | rfl <;> rfl, by decide⟩
theorem C_eq : E.C = 7 := rfl
theorem of_eq (x : I7) : E.of x = [.int .i64 x.1, .int .i64 x.2.1, .int .i64 x.2.2.1, .int .i64 x.2.2.2.1, .int .i64 x.2.2.2.2.1, .int .i64 x.2.2.2.2.2.1, .int .i64 x.2.2.2.2.2.2] := rfl
def zero : I7 := (0, 0, 0, 0, 0, 0, 0)
theorem info : (Try.prog.info? 37).map (fun i => (i.zero, i.size, i.bytes)) = some (some (.agg #[.int .i64 0, .int .i64 0, .int .i64 0, .int .i64 0, .int .i64 0, .int .i64 0, .int .i64 0]), 7, 56) := by kernel_rfl
/-- the element of numbers -/
def mk (f : Nat → Int) : I7 := (f 0, f 1, f 2, f 3, f 4, f 5, f 6)
theorem of_mk (f : Nat → Int) : E.of (mk f) = ints 7 f := rfl
theorem agg_ints (f : Nat → Int) : Value.agg (ints 7 f).toArray = .agg #[.int .i64 (f 0), .int .i64 (f 1), .int .i64 (f 2), .int .i64 (f 3), .int .i64 (f 4), .int .i64 (f 5), .int .i64 (f 6)] := rfl
set_option maxRecDepth 100000 in
/-- what a struct that came in gives -/
theorem open_val {H : Type} {enc : TypeId × Value → H} {W : World} {base : Nat} {v : Value} {d : DataW H} {pl : List MemPlace} (h : DataW.Trod enc Try.prog W 0 (fun _ => true) true 73 v d pl) (hk : Value.okWide Try.prog W .any base 73 v) :
    ∃ x0 x1 x2 x3 x4 x5 x6 : Int, v = .agg #[.int .i64 x0, .int .i64 x1, .int .i64 x2, .int .i64 x3, .int .i64 x4, .int .i64 x5, .int .i64 x6] ∧ (-9223372036854775808 ≤ x0 ∧ x0 ≤ 9223372036854775807) ∧ (-9223372036854775808 ≤ x1 ∧ x1 ≤ 9223372036854775807) ∧ (-9223372036854775808 ≤ x2 ∧ x2 ≤ 9223372036854775807) ∧ (-9223372036854775808 ≤ x3 ∧ x3 ≤ 9223372036854775807) ∧ (-9223372036854775808 ≤ x4 ∧ x4 ≤ 9223372036854775807) ∧ (-9223372036854775808 ≤ x5 ∧ x5 ≤ 9223372036854775807) ∧ (-9223372036854775808 ≤ x6 ∧ x6 ≤ 9223372036854775807) := by
  have hi : ∃ fs, Try.prog.underlying 73 = some (.struct fs) ∧ intFields Try.prog fs = true ∧ fs.size = 7 ∧ Try.prog.cellsOf 73 = fs.size := ⟨_, Try.underlying73, by kernel_rfl, by kernel_rfl, by kernel_rfl⟩
  obtain ⟨fs, h1, h2, h3, h4⟩ := hi
  obtain ⟨f, rfl, hr⟩ := open_ints_val h1 h2 h4 hk h
  rw [h3] at hr ⊢
  exact ⟨f 0, f 1, f 2, f 3, f 4, f 5, f 6, agg_ints f, hr 0 (by decide), hr 1 (by decide), hr 2 (by decide), hr 3 (by decide), hr 4 (by decide), hr 5 (by decide), hr 6 (by decide)⟩
/-- every field is an int of 64 bits -/
def InR (x : I7) : Prop := (-9223372036854775808 ≤ x.1 ∧ x.1 ≤ 9223372036854775807) ∧ (-9223372036854775808 ≤ x.2.1 ∧ x.2.1 ≤ 9223372036854775807) ∧ (-9223372036854775808 ≤ x.2.2.1 ∧ x.2.2.1 ≤ 9223372036854775807) ∧ (-9223372036854775808 ≤ x.2.2.2.1 ∧ x.2.2.2.1 ≤ 9223372036854775807) ∧ (-9223372036854775808 ≤ x.2.2.2.2.1 ∧ x.2.2.2.2.1 ≤ 9223372036854775807) ∧ (-9223372036854775808 ≤ x.2.2.2.2.2.1 ∧ x.2.2.2.2.2.1 ≤ 9223372036854775807) ∧ (-9223372036854775808 ≤ x.2.2.2.2.2.2 ∧ x.2.2.2.2.2.2 ≤ 9223372036854775807)
/-- The call answers a value; what lay before is as it was. -/
def Val (v : Value) (w : World) (e : Ending) (w' : World) : Prop := e = .returned v ∧ Below w.heap.size w w'
/-- The call answers a new slice, not nil, that reads as xs; what lay before is as it was. -/
def Makes (xs : List I7) (w : World) (e : Ending) (w' : World) : Prop := ∃ p n c, e = .returned (.slice p n c) ∧ OwS E 37 w' w.heap.size w'.heap.size p n c xs ∧ Below w.heap.size w w'
/-- The call answers true; what lay before is as it was. -/
def Yes (w : World) (e : Ending) (w' : World) : Prop := e = .returned (.bool true) ∧ Below w.heap.size w w'
set_option maxRecDepth 100000 in
set_option maxHeartbeats 1000000 in
theorem val_any (x0 x1 x2 x3 x4 x5 x6 : Int) (w : World) : Calls Try.prog 44 #[.agg #[.int .i64 x0, .int .i64 x1, .int .i64 x2, .int .i64 x3, .int .i64 x4, .int .i64 x5, .int .i64 x6]] w (Val (.agg #[.int .i64 x0, .int .i64 x1, .int .i64 x2, .int .i64 x3, .int .i64 x4, .int .i64 x5, .int .i64 x6]) w) := by
  go_enter Try.func44, Try.ntmps44
  go_wp2_with fail
  exact bodyPost_ret (v := .agg #[.int .i64 x0, .int .i64 x1, .int .i64 x2, .int .i64 x3, .int .i64 x4, .int .i64 x5, .int .i64 x6]) (by simp [results, Try.results44, go_sem]) rfl ⟨rfl, (((Below.refl _ _).alloc (Nat.le_refl _) _).alloc (by simp) _).alloc (by simp; omega) _⟩
set_option maxRecDepth 100000 in
set_option maxHeartbeats 1000000 in
theorem same_any (x0 x1 x2 x3 x4 x5 x6 : Int) (w : World) : Calls Try.prog 21 #[.agg #[.int .i64 x0, .int .i64 x1, .int .i64 x2, .int .i64 x3, .int .i64 x4, .int .i64 x5, .int .i64 x6], .agg #[.int .i64 x0, .int .i64 x1, .int .i64 x2, .int .i64 x3, .int .i64 x4, .int .i64 x5, .int .i64 x6]] w (Yes w) := by
  go_enter Try.func21, Try.ntmps21
  go_wp2_with fail
  go_ret
  exact ⟨rfl, ((Below.refl _ _).alloc (Nat.le_refl _) _).alloc (by simp) _⟩

theorem bxc {w : World} {g : Nat} {T : TypeId} {x0 x1 x2 x3 x4 x5 x6 : Value} (h : Bx w g T #[x0, x1, x2, x3, x4, x5, x6]) : w.cell? ⟨g, 0, none⟩ = some x0 ∧ w.cell? ⟨g, 1, none⟩ = some x1 ∧ w.cell? ⟨g, 2, none⟩ = some x2 ∧ w.cell? ⟨g, 3, none⟩ = some x3 ∧ w.cell? ⟨g, 4, none⟩ = some x4 ∧ w.cell? ⟨g, 5, none⟩ = some x5 ∧ w.cell? ⟨g, 6, none⟩ = some x6 := ⟨h.cell rfl, h.cell rfl, h.cell rfl, h.cell rfl, h.cell rfl, h.cell rfl, h.cell rfl⟩
/-! ### slices -/
/-- an element's cells at an address -/
def At (w : World) (b q : Nat) (x : I7) : Prop := w.cell? ⟨b, q, none⟩ = some (.int .i64 x.1) ∧ w.cell? ⟨b, q + 1, none⟩ = some (.int .i64 x.2.1) ∧ w.cell? ⟨b, q + 2, none⟩ = some (.int .i64 x.2.2.1) ∧ w.cell? ⟨b, q + 3, none⟩ = some (.int .i64 x.2.2.2.1) ∧ w.cell? ⟨b, q + 4, none⟩ = some (.int .i64 x.2.2.2.2.1) ∧ w.cell? ⟨b, q + 5, none⟩ = some (.int .i64 x.2.2.2.2.2.1) ∧ w.cell? ⟨b, q + 6, none⟩ = some (.int .i64 x.2.2.2.2.2.2)
theorem rd_at {w : World} {p : Option Addr} {n k : Nat} {xs : List I7} (h : RdS E w p n xs) (hk : k < n) : ∃ b o, p = some ⟨b, o, none⟩ ∧ b < w.heap.size ∧ At w b (o + k * 7) (xs.getD k zero) := by
  obtain ⟨b, o, x, e, hb, hx, hc⟩ := h.at_ hk
  have hd : xs.getD k zero = x := by rw [List.getD_eq_getElem?_getD, hx]; rfl
  rw [hd]
  exact ⟨b, o, e, hb, hc 0 _ rfl, hc 1 _ rfl, hc 2 _ rfl, hc 3 _ rfl, hc 4 _ rfl, hc 5 _ rfl, hc 6 _ rfl⟩
theorem At.below {w w' : World} {b q : Nat} {x : I7} (h : At w b q x) (hb : Below w.heap.size w w') (hlt : b < w.heap.size) : At w' b q x :=
  ⟨(hb.cell (p := ⟨b, q, none⟩) hlt).trans h.1, (hb.cell (p := ⟨b, q + 1, none⟩) hlt).trans h.2.1, (hb.cell (p := ⟨b, q + 2, none⟩) hlt).trans h.2.2.1, (hb.cell (p := ⟨b, q + 3, none⟩) hlt).trans h.2.2.2.1, (hb.cell (p := ⟨b, q + 4, none⟩) hlt).trans h.2.2.2.2.1, (hb.cell (p := ⟨b, q + 5, none⟩) hlt).trans h.2.2.2.2.2.1, (hb.cell (p := ⟨b, q + 6, none⟩) hlt).trans h.2.2.2.2.2.2⟩
/-- the copy after j elements -/
def Mid (xs : List I7) (n j : Nat) (w wr : World) : Prop := OwS E 37 wr w.heap.size wr.heap.size (some ⟨w.heap.size, 0, none⟩) n n (xs.take j ++ List.replicate (n - j) zero) ∧ Below w.heap.size w wr
theorem Mid.start {xs : List I7} {n : Nat} {w w1 : World} (hown : w1.ownsRow w.heap.size 37 7 (.slice (some ⟨w.heap.size, 0, none⟩) n n) n (madeCells (Value.cells (.agg #[.int .i64 0, .int .i64 0, .int .i64 0, .int .i64 0, .int .i64 0, .int .i64 0, .int .i64 0])) (n * 7)).toList) (hg : w.grownBy w1 none) : Mid xs n 0 w w1 := by
  have e := made_fl (E := E) (.agg #[.int .i64 0, .int .i64 0, .int .i64 0, .int .i64 0, .int .i64 0, .int .i64 0, .int .i64 0]) zero rfl n
  rw [C_eq] at e
  rw [e] at hown
  exact ⟨OwS.of_row hown, (Below.refl _ _).grown hg (Nat.le_refl _) (fun _ h => by cases h)⟩
theorem Mid.next {xs : List I7} {n j : Nat} {w wr w2 : World} {x : I7} (h : Mid xs n j w wr) (hb : Below wr.heap.size wr w2) (hj : j < n) (hl : xs.length = n) (hx : xs.getD j zero = x) : Mid xs n (j + 1) w (w2.setCells w.heap.size (j * 7) (E.of x)) := by
  have h2 := h.1.below hb
  obtain ⟨h3, h4⟩ := h2.elem (i := j) hj x
  have hw : xs[j]'(by omega) = x := by rw [← hx, List.getD_eq_getElem?_getD, List.getElem?_eq_getElem (by omega)]; rfl
  clear hx
  subst hw hl
  rw [set_mid hj] at h3
  exact ⟨h3.wide (Nat.le_refl _) (Nat.le_trans h3.2.2.1 (Nat.le_refl _)) (Nat.le_refl _), (below_on h.2 hb).grown h4 (Nat.le_trans h.2.size hb.size) (fun k e => by cases e; exact Nat.le_refl _)⟩
theorem Mid.done {xs : List I7} {n : Nat} {w wr : World} (h : Mid xs n n w wr) (hl : xs.length = n) : Makes xs w (.returned (.slice (some ⟨w.heap.size, 0, none⟩) n n)) wr := by
  subst hl
  obtain ⟨h1, h2⟩ := h
  rw [List.take_length, Nat.sub_self, List.replicate_zero, List.append_nil] at h1
  exact ⟨_, _, _, rfl, h1, h2⟩
theorem Mid.cells {xs : List I7} {n j : Nat} {w wr : World} (h : Mid xs n j w wr) (hj : j < n) (hl : xs.length = n) : At wr w.heap.size (j * 7) zero := by
  have hx : (xs.take j ++ List.replicate (n - j) zero)[j]? = some zero := by
    rw [List.getElem?_append_right (by rw [List.length_take]; omega), List.length_take, List.getElem?_replicate, if_pos (by omega)]
  exact ⟨h.1.cell (j := 0) hx rfl, h.1.cell (j := 1) hx rfl, h.1.cell (j := 2) hx rfl, h.1.cell (j := 3) hx rfl, h.1.cell (j := 4) hx rfl, h.1.cell (j := 5) hx rfl, h.1.cell (j := 6) hx rfl⟩
/-- all cells of two elements -/
def At2 (w : World) (b q b' q' : Nat) (z0 z1 z2 z3 z4 z5 z6 : Int) : Prop := w.cell? ⟨b, q, none⟩ = some (.int .i64 z0) ∧ w.cell? ⟨b', q', none⟩ = some (.int .i64 z0) ∧ w.cell? ⟨b, q + 1, none⟩ = some (.int .i64 z1) ∧ w.cell? ⟨b', q' + 1, none⟩ = some (.int .i64 z1) ∧ w.cell? ⟨b, q + 2, none⟩ = some (.int .i64 z2) ∧ w.cell? ⟨b', q' + 2, none⟩ = some (.int .i64 z2) ∧ w.cell? ⟨b, q + 3, none⟩ = some (.int .i64 z3) ∧ w.cell? ⟨b', q' + 3, none⟩ = some (.int .i64 z3) ∧ w.cell? ⟨b, q + 4, none⟩ = some (.int .i64 z4) ∧ w.cell? ⟨b', q' + 4, none⟩ = some (.int .i64 z4) ∧ w.cell? ⟨b, q + 5, none⟩ = some (.int .i64 z5) ∧ w.cell? ⟨b', q' + 5, none⟩ = some (.int .i64 z5) ∧ w.cell? ⟨b, q + 6, none⟩ = some (.int .i64 z6) ∧ w.cell? ⟨b', q' + 6, none⟩ = some (.int .i64 z6)
theorem At2.mk {w : World} {b q b' q' : Nat} {x : I7} (h : At w b q x) (h' : At w b' q' x) : At2 w b q b' q' x.1 x.2.1 x.2.2.1 x.2.2.2.1 x.2.2.2.2.1 x.2.2.2.2.2.1 x.2.2.2.2.2.2 := by
  obtain ⟨h0, h1, h2, h3, h4, h5, h6⟩ := h
  obtain ⟨g0, g1, g2, g3, g4, g5, g6⟩ := h'
  exact ⟨h0, g0, h1, g1, h2, g2, h3, g3, h4, g4, h5, g5, h6, g6⟩
theorem At2.below {w w' : World} {b q b' q' : Nat} {z0 z1 z2 z3 z4 z5 z6 : Int} (h : At2 w b q b' q' z0 z1 z2 z3 z4 z5 z6) (hb : Below w.heap.size w w') (l1 : b < w.heap.size) (l2 : b' < w.heap.size) : At2 w' b q b' q' z0 z1 z2 z3 z4 z5 z6 := by
  obtain ⟨h0, g0, h1, g1, h2, g2, h3, g3, h4, g4, h5, g5, h6, g6⟩ := h
  exact ⟨(hb.cell (p := ⟨b, q, none⟩) l1).trans h0, (hb.cell (p := ⟨b', q', none⟩) l2).trans g0, (hb.cell (p := ⟨b, q + 1, none⟩) l1).trans h1, (hb.cell (p := ⟨b', q' + 1, none⟩) l2).trans g1, (hb.cell (p := ⟨b, q + 2, none⟩) l1).trans h2, (hb.cell (p := ⟨b', q' + 2, none⟩) l2).trans g2, (hb.cell (p := ⟨b, q + 3, none⟩) l1).trans h3, (hb.cell (p := ⟨b', q' + 3, none⟩) l2).trans g3, (hb.cell (p := ⟨b, q + 4, none⟩) l1).trans h4, (hb.cell (p := ⟨b', q' + 4, none⟩) l2).trans g4, (hb.cell (p := ⟨b, q + 5, none⟩) l1).trans h5, (hb.cell (p := ⟨b', q' + 5, none⟩) l2).trans g5, (hb.cell (p := ⟨b, q + 6, none⟩) l1).trans h6, (hb.cell (p := ⟨b', q' + 6, none⟩) l2).trans g6⟩
/-! ### marks -/
/-- n elements that bear the numbers from m on -/
def marks (m : Int) (n : Nat) : List I7 := (List.range n).map fun i => mk fun j => m + ((i * 7 + j : Nat) : Int)
theorem marks_len (m : Int) (n : Nat) : (marks m n).length = n := by simp [marks]
theorem marks_at (m : Int) {n k : Nat} (h : k < n) : (marks m n).getD k zero = mk fun j => m + ((k * 7 + j : Nat) : Int) := by
  rw [List.getD_eq_getElem?_getD, marks, List.getElem?_map, List.getElem?_range h]
  rfl
theorem marks_set (m : Int) (xs : List I7) (j : Nat) (h : j < xs.length) {x : I7} (hx : x = mk fun q => m + ((j * 7 + q : Nat) : Int)) : (marks m j ++ xs.drop j).set j x = marks m (j + 1) ++ xs.drop (j + 1) := by
  subst hx
  rw [List.drop_eq_getElem_cons h, List.set_append_right _ _ (by rw [marks_len]; exact Nat.le_refl _), marks_len, Nat.sub_self, List.set_cons_zero]
  simp [marks, List.range_succ]
/-- the slice after j marks -/
def MarkMid (lo hi : Nat) (p : Option Addr) (n c : Nat) (xs : List I7) (m : Int) (j : Nat) (w wr : World) : Prop :=
  OwS E 37 wr lo hi p n c (marks m j ++ xs.drop j) ∧ w.grownBy wr (Value.slice p n c).ownBlock
theorem MarkMid.next {lo hi g n c j : Nat} {xs : List I7} {m : Int} {w wr : World} (h : MarkMid lo hi (some ⟨g, 0, none⟩) n c xs m j w wr) (hj : j < n) (hl : xs.length = n) {x : I7} (hx : x = mk fun q => m + ((j * 7 + q : Nat) : Int)) : MarkMid lo hi (some ⟨g, 0, none⟩) n c xs m (j + 1) w (wr.setCells g (j * 7) (E.of x)) := by
  obtain ⟨h1, h2⟩ := h.1.elem (i := j) hj x
  rw [marks_set m xs j (by omega) hx] at h1
  exact ⟨h1, ⟨h2.os.trans h.2.os, h2.tape.trans h.2.tape, h2.output.trans h.2.output, Nat.le_trans h.2.size h2.size, fun i hi hne => (h2.block i (Nat.lt_of_lt_of_le hi h.2.size) hne).trans (h.2.block i hi hne)⟩⟩
theorem MarkMid.cells {lo hi g n c j : Nat} {xs : List I7} {m : Int} {w wr : World} (h : MarkMid lo hi (some ⟨g, 0, none⟩) n c xs m j w wr) (hj : j < n) (hl : xs.length = n) : At wr g (j * 7) xs[j] := by
  have hx : (marks m j ++ xs.drop j)[j]? = some xs[j] := by
    rw [List.getElem?_append_right (by rw [marks_len]; exact Nat.le_refl _), marks_len, Nat.sub_self, List.drop_eq_getElem_cons (by omega)]
    rfl
  exact ⟨h.1.cell (j := 0) hx rfl, h.1.cell (j := 1) hx rfl, h.1.cell (j := 2) hx rfl, h.1.cell (j := 3) hx rfl, h.1.cell (j := 4) hx rfl, h.1.cell (j := 5) hx rfl, h.1.cell (j := 6) hx rfl⟩
/-- The call answers the next mark; the slice bears the marks; no other block has turned. -/
def Marked (lo hi : Nat) (p : Option Addr) (n c : Nat) (m : Int) (w : World) (e : Ending) (w' : World) : Prop := e = .returned (.int .i64 (m + (n * 7 : Nat))) ∧ OwS E 37 w' lo hi p n c (marks m n) ∧ w.grownBy w' (Value.slice p n c).ownBlock
theorem MarkMid.done {lo hi n c : Nat} {p : Option Addr} {xs : List I7} {m : Int} {w wr : World} (h : MarkMid lo hi p n c xs m n w wr) (hl : xs.length = n) : Marked lo hi p n c m w (.returned (.int .i64 (m + (n * 7 : Nat)))) wr := by
  subst hl
  obtain ⟨h1, h2⟩ := h
  rw [List.drop_length, List.append_nil] at h1
  exact ⟨rfl, h1, h2⟩
/-! ### sizes -/
end Go.Proofs.Ytgmoldianhkifaa.SlCert

namespace Go.Proofs.Ytgmoldianhkifaa.SlStatus
open Go.ChangeShapes Go.WideShapes Go.ChangeAt Go.RowKit Sl St Fnd

def E : En I5 := ⟨fun x => [.int .i64 x.1, .int .i64 x.2.1, .int .i64 x.2.2.1, .int .i64 x.2.2.2.1, .int .i64 x.2.2.2.2], 5, fun _ => rfl, fun x v h => by simp only [List.mem_cons, List.not_mem_nil, or_false] at h; rcases h with rfl | rfl | rfl | rfl | rfl <;> rfl, by decide⟩
theorem C_eq : E.C = 5 := rfl
theorem of_eq (x : I5) : E.of x = [.int .i64 x.1, .int .i64 x.2.1, .int .i64 x.2.2.1, .int .i64 x.2.2.2.1, .int .i64 x.2.2.2.2] := rfl
def zero : I5 := (0, 0, 0, 0, 0)
theorem info : (Try.prog.info? 43).map (fun i => (i.zero, i.size, i.bytes)) = some (some (.agg #[.int .i64 0, .int .i64 0, .int .i64 0, .int .i64 0, .int .i64 0]), 5, 40) := by kernel_rfl
/-- the element of numbers -/
def mk (f : Nat → Int) : I5 := (f 0, f 1, f 2, f 3, f 4)
theorem of_mk (f : Nat → Int) : E.of (mk f) = ints 5 f := rfl
theorem agg_ints (f : Nat → Int) : Value.agg (ints 5 f).toArray = .agg #[.int .i64 (f 0), .int .i64 (f 1), .int .i64 (f 2), .int .i64 (f 3), .int .i64 (f 4)] := rfl
/-- every field is an int of 64 bits -/
def InR (x : I5) : Prop := (-9223372036854775808 ≤ x.1 ∧ x.1 ≤ 9223372036854775807) ∧ (-9223372036854775808 ≤ x.2.1 ∧ x.2.1 ≤ 9223372036854775807) ∧ (-9223372036854775808 ≤ x.2.2.1 ∧ x.2.2.1 ≤ 9223372036854775807) ∧ (-9223372036854775808 ≤ x.2.2.2.1 ∧ x.2.2.2.1 ≤ 9223372036854775807) ∧ (-9223372036854775808 ≤ x.2.2.2.2 ∧ x.2.2.2.2 ≤ 9223372036854775807)
/-- The call answers a value; what lay before is as it was. -/
def Val (v : Value) (w : World) (e : Ending) (w' : World) : Prop := e = .returned v ∧ Below w.heap.size w w'
/-- The call answers a new slice, not nil, that reads as xs; what lay before is as it was. -/
def Makes (xs : List I5) (w : World) (e : Ending) (w' : World) : Prop := ∃ p n c, e = .returned (.slice p n c) ∧ OwS E 43 w' w.heap.size w'.heap.size p n c xs ∧ Below w.heap.size w w'
/-- The call answers true; what lay before is as it was. -/
def Yes (w : World) (e : Ending) (w' : World) : Prop := e = .returned (.bool true) ∧ Below w.heap.size w w'
set_option maxRecDepth 100000 in
set_option maxHeartbeats 1000000 in
theorem same_any (x0 x1 x2 x3 x4 : Int) (w : World) : Calls Try.prog 24 #[.agg #[.int .i64 x0, .int .i64 x1, .int .i64 x2, .int .i64 x3, .int .i64 x4], .agg #[.int .i64 x0, .int .i64 x1, .int .i64 x2, .int .i64 x3, .int .i64 x4]] w (Yes w) := by
  go_enter Try.func24, Try.ntmps24
  go_wp2_with fail
  go_ret
  exact ⟨rfl, ((Below.refl _ _).alloc (Nat.le_refl _) _).alloc (by simp) _⟩

theorem bxc {w : World} {g : Nat} {T : TypeId} {x0 x1 x2 x3 x4 : Value} (h : Bx w g T #[x0, x1, x2, x3, x4]) : w.cell? ⟨g, 0, none⟩ = some x0 ∧ w.cell? ⟨g, 1, none⟩ = some x1 ∧ w.cell? ⟨g, 2, none⟩ = some x2 ∧ w.cell? ⟨g, 3, none⟩ = some x3 ∧ w.cell? ⟨g, 4, none⟩ = some x4 := ⟨h.cell rfl, h.cell rfl, h.cell rfl, h.cell rfl, h.cell rfl⟩
/-! ### slices -/
/-- an element's cells at an address -/
def At (w : World) (b q : Nat) (x : I5) : Prop := w.cell? ⟨b, q, none⟩ = some (.int .i64 x.1) ∧ w.cell? ⟨b, q + 1, none⟩ = some (.int .i64 x.2.1) ∧ w.cell? ⟨b, q + 2, none⟩ = some (.int .i64 x.2.2.1) ∧ w.cell? ⟨b, q + 3, none⟩ = some (.int .i64 x.2.2.2.1) ∧ w.cell? ⟨b, q + 4, none⟩ = some (.int .i64 x.2.2.2.2)
theorem rd_at {w : World} {p : Option Addr} {n k : Nat} {xs : List I5} (h : RdS E w p n xs) (hk : k < n) : ∃ b o, p = some ⟨b, o, none⟩ ∧ b < w.heap.size ∧ At w b (o + k * 5) (xs.getD k zero) := by
  obtain ⟨b, o, x, e, hb, hx, hc⟩ := h.at_ hk
  have hd : xs.getD k zero = x := by rw [List.getD_eq_getElem?_getD, hx]; rfl
  rw [hd]
  exact ⟨b, o, e, hb, hc 0 _ rfl, hc 1 _ rfl, hc 2 _ rfl, hc 3 _ rfl, hc 4 _ rfl⟩
theorem At.below {w w' : World} {b q : Nat} {x : I5} (h : At w b q x) (hb : Below w.heap.size w w') (hlt : b < w.heap.size) : At w' b q x :=
  ⟨(hb.cell (p := ⟨b, q, none⟩) hlt).trans h.1, (hb.cell (p := ⟨b, q + 1, none⟩) hlt).trans h.2.1, (hb.cell (p := ⟨b, q + 2, none⟩) hlt).trans h.2.2.1, (hb.cell (p := ⟨b, q + 3, none⟩) hlt).trans h.2.2.2.1, (hb.cell (p := ⟨b, q + 4, none⟩) hlt).trans h.2.2.2.2⟩
/-- the copy after j elements -/
def Mid (xs : List I5) (n j : Nat) (w wr : World) : Prop := OwS E 43 wr w.heap.size wr.heap.size (some ⟨w.heap.size, 0, none⟩) n n (xs.take j ++ List.replicate (n - j) zero) ∧ Below w.heap.size w wr
theorem Mid.start {xs : List I5} {n : Nat} {w w1 : World} (hown : w1.ownsRow w.heap.size 43 5 (.slice (some ⟨w.heap.size, 0, none⟩) n n) n (madeCells (Value.cells (.agg #[.int .i64 0, .int .i64 0, .int .i64 0, .int .i64 0, .int .i64 0])) (n * 5)).toList) (hg : w.grownBy w1 none) : Mid xs n 0 w w1 := by
  have e := made_fl (E := E) (.agg #[.int .i64 0, .int .i64 0, .int .i64 0, .int .i64 0, .int .i64 0]) zero rfl n
  rw [C_eq] at e
  rw [e] at hown
  exact ⟨OwS.of_row hown, (Below.refl _ _).grown hg (Nat.le_refl _) (fun _ h => by cases h)⟩
theorem Mid.next {xs : List I5} {n j : Nat} {w wr w2 : World} {x : I5} (h : Mid xs n j w wr) (hb : Below wr.heap.size wr w2) (hj : j < n) (hl : xs.length = n) (hx : xs.getD j zero = x) : Mid xs n (j + 1) w (w2.setCells w.heap.size (j * 5) (E.of x)) := by
  have h2 := h.1.below hb
  obtain ⟨h3, h4⟩ := h2.elem (i := j) hj x
  have hw : xs[j]'(by omega) = x := by rw [← hx, List.getD_eq_getElem?_getD, List.getElem?_eq_getElem (by omega)]; rfl
  clear hx
  subst hw hl
  rw [set_mid hj] at h3
  exact ⟨h3.wide (Nat.le_refl _) (Nat.le_trans h3.2.2.1 (Nat.le_refl _)) (Nat.le_refl _), (below_on h.2 hb).grown h4 (Nat.le_trans h.2.size hb.size) (fun k e => by cases e; exact Nat.le_refl _)⟩
theorem Mid.done {xs : List I5} {n : Nat} {w wr : World} (h : Mid xs n n w wr) (hl : xs.length = n) : Makes xs w (.returned (.slice (some ⟨w.heap.size, 0, none⟩) n n)) wr := by
  subst hl
  obtain ⟨h1, h2⟩ := h
  rw [List.take_length, Nat.sub_self, List.replicate_zero, List.append_nil] at h1
  exact ⟨_, _, _, rfl, h1, h2⟩
theorem Mid.cells {xs : List I5} {n j : Nat} {w wr : World} (h : Mid xs n j w wr) (hj : j < n) (hl : xs.length = n) : At wr w.heap.size (j * 5) zero := by
  have hx : (xs.take j ++ List.replicate (n - j) zero)[j]? = some zero := by
    rw [List.getElem?_append_right (by rw [List.length_take]; omega), List.length_take, List.getElem?_replicate, if_pos (by omega)]
  exact ⟨h.1.cell (j := 0) hx rfl, h.1.cell (j := 1) hx rfl, h.1.cell (j := 2) hx rfl, h.1.cell (j := 3) hx rfl, h.1.cell (j := 4) hx rfl⟩
/-- all cells of two elements -/
def At2 (w : World) (b q b' q' : Nat) (z0 z1 z2 z3 z4 : Int) : Prop := w.cell? ⟨b, q, none⟩ = some (.int .i64 z0) ∧ w.cell? ⟨b', q', none⟩ = some (.int .i64 z0) ∧ w.cell? ⟨b, q + 1, none⟩ = some (.int .i64 z1) ∧ w.cell? ⟨b', q' + 1, none⟩ = some (.int .i64 z1) ∧ w.cell? ⟨b, q + 2, none⟩ = some (.int .i64 z2) ∧ w.cell? ⟨b', q' + 2, none⟩ = some (.int .i64 z2) ∧ w.cell? ⟨b, q + 3, none⟩ = some (.int .i64 z3) ∧ w.cell? ⟨b', q' + 3, none⟩ = some (.int .i64 z3) ∧ w.cell? ⟨b, q + 4, none⟩ = some (.int .i64 z4) ∧ w.cell? ⟨b', q' + 4, none⟩ = some (.int .i64 z4)
theorem At2.mk {w : World} {b q b' q' : Nat} {x : I5} (h : At w b q x) (h' : At w b' q' x) : At2 w b q b' q' x.1 x.2.1 x.2.2.1 x.2.2.2.1 x.2.2.2.2 := by
  obtain ⟨h0, h1, h2, h3, h4⟩ := h
  obtain ⟨g0, g1, g2, g3, g4⟩ := h'
  exact ⟨h0, g0, h1, g1, h2, g2, h3, g3, h4, g4⟩
theorem At2.below {w w' : World} {b q b' q' : Nat} {z0 z1 z2 z3 z4 : Int} (h : At2 w b q b' q' z0 z1 z2 z3 z4) (hb : Below w.heap.size w w') (l1 : b < w.heap.size) (l2 : b' < w.heap.size) : At2 w' b q b' q' z0 z1 z2 z3 z4 := by
  obtain ⟨h0, g0, h1, g1, h2, g2, h3, g3, h4, g4⟩ := h
  exact ⟨(hb.cell (p := ⟨b, q, none⟩) l1).trans h0, (hb.cell (p := ⟨b', q', none⟩) l2).trans g0, (hb.cell (p := ⟨b, q + 1, none⟩) l1).trans h1, (hb.cell (p := ⟨b', q' + 1, none⟩) l2).trans g1, (hb.cell (p := ⟨b, q + 2, none⟩) l1).trans h2, (hb.cell (p := ⟨b', q' + 2, none⟩) l2).trans g2, (hb.cell (p := ⟨b, q + 3, none⟩) l1).trans h3, (hb.cell (p := ⟨b', q' + 3, none⟩) l2).trans g3, (hb.cell (p := ⟨b, q + 4, none⟩) l1).trans h4, (hb.cell (p := ⟨b', q' + 4, none⟩) l2).trans g4⟩
set_option maxRecDepth 100000 in
set_option maxHeartbeats 4000000 in
theorem eq_any (p p' : Option Addr) (n c c' : Nat) (xs : List I5) (w : World) (hr : RdS E w p n xs) (hr' : RdS E w p' n xs) : Calls Try.prog 46 #[.slice p n c, .slice p' n c'] w (Yes w) := by
  have HR := Lib.hid hr
  have HR' := Lib.hid hr'
  have hle := hr.le
  clear hr hr'
  go_enter Try.func46, Try.ntmps46
  go_wp2_with fail
  go_loopw [5] (fun i wr => ∃ k : Nat, k ≤ n ∧ i = .int .i64 k ∧ Hid (Below w.heap.size w wr)) (fun i _ => n - (intOf i).toNat)
  case atStart => exact ⟨0, Nat.zero_le _, rfl, Below.refl _ _⟩
  case round =>
    obtain ⟨k, hk, rfl, HB⟩ := hrel
    by_cases hlt : k < n
    · obtain ⟨b, o, rfl, hb, hat⟩ := rd_at (HR.out.below HB.out) hlt
      obtain ⟨b', o', rfl, hb', hat'⟩ := rd_at (HR'.out.below HB.out) hlt
      have h2 := At2.mk hat hat'
      generalize (xs.getD k zero).1 = z0 at h2; generalize (xs.getD k zero).2.1 = z1 at h2; generalize (xs.getD k zero).2.2.1 = z2 at h2; generalize (xs.getD k zero).2.2.2.1 = z3 at h2; generalize (xs.getD k zero).2.2.2.2 = z4 at h2
      have HH := Lib.hid h2
      clear hat hat'
      obtain ⟨h0, g0, h1, g1, h2, g2, h3, g3, h4, g4⟩ := h2
      have i1 : (0 : Int) ≤ (k : Int) := by omega
      have i2 : (k : Int) < (n : Int) := by omega
      go_wp2_with fail
      go_region_held3 (fun w' => w'.cell? ⟨b, o + k * 5, none⟩ = some (.int .i64 z0) ∧ w'.cell? ⟨b', o' + k * 5, none⟩ = some (.int .i64 z0) ∧ w'.cell? ⟨b, o + k * 5 + 1, none⟩ = some (.int .i64 z1) ∧ w'.cell? ⟨b', o' + k * 5 + 1, none⟩ = some (.int .i64 z1) ∧ w'.cell? ⟨b, o + k * 5 + 2, none⟩ = some (.int .i64 z2) ∧ w'.cell? ⟨b', o' + k * 5 + 2, none⟩ = some (.int .i64 z2) ∧ w'.cell? ⟨b, o + k * 5 + 3, none⟩ = some (.int .i64 z3) ∧ w'.cell? ⟨b', o' + k * 5 + 3, none⟩ = some (.int .i64 z3) ∧ w'.cell? ⟨b, o + k * 5 + 4, none⟩ = some (.int .i64 z4) ∧ w'.cell? ⟨b', o' + k * 5 + 4, none⟩ = some (.int .i64 z4)) (first | exact HH.out | exact HH2.out | go_keep) (first
        | (go_at_call 24; refine (same_any _ _ _ _ _ _).mono ?_; rintro e w2 ⟨rfl, hb2⟩; have HH2 := Lib.hid (At2.below (w := wr.drew) HH.out hb2 hb hb'); have HB2 := Lib.hid (below_on (below_drewN HB.out 1) hb2); clear hb2))
      go_wp2_with fail
      go_roundw
      case rel => exact ⟨k + 1, by omega, by go_num, HB2⟩
      case measure => simp [intOf]; omega
    · obtain rfl : k = n := by omega
      go_wp2_with fail
      go_ret
      exact ⟨rfl, HB.out⟩

/-! ### marks -/
/-- n elements that bear the numbers from m on -/
def marks (m : Int) (n : Nat) : List I5 := (List.range n).map fun i => mk fun j => m + ((i * 5 + j : Nat) : Int)
theorem marks_len (m : Int) (n : Nat) : (marks m n).length = n := by simp [marks]
theorem marks_at (m : Int) {n k : Nat} (h : k < n) : (marks m n).getD k zero = mk fun j => m + ((k * 5 + j : Nat) : Int) := by
  rw [List.getD_eq_getElem?_getD, marks, List.getElem?_map, List.getElem?_range h]
  rfl
theorem marks_set (m : Int) (xs : List I5) (j : Nat) (h : j < xs.length) {x : I5} (hx : x = mk fun q => m + ((j * 5 + q : Nat) : Int)) : (marks m j ++ xs.drop j).set j x = marks m (j + 1) ++ xs.drop (j + 1) := by
  subst hx
  rw [List.drop_eq_getElem_cons h, List.set_append_right _ _ (by rw [marks_len]; exact Nat.le_refl _), marks_len, Nat.sub_self, List.set_cons_zero]
  simp [marks, List.range_succ]
/-- the slice after j marks -/
def MarkMid (lo hi : Nat) (p : Option Addr) (n c : Nat) (xs : List I5) (m : Int) (j : Nat) (w wr : World) : Prop :=
  OwS E 43 wr lo hi p n c (marks m j ++ xs.drop j) ∧ w.grownBy wr (Value.slice p n c).ownBlock
theorem MarkMid.next {lo hi g n c j : Nat} {xs : List I5} {m : Int} {w wr : World} (h : MarkMid lo hi (some ⟨g, 0, none⟩) n c xs m j w wr) (hj : j < n) (hl : xs.length = n) {x : I5} (hx : x = mk fun q => m + ((j * 5 + q : Nat) : Int)) : MarkMid lo hi (some ⟨g, 0, none⟩) n c xs m (j + 1) w (wr.setCells g (j * 5) (E.of x)) := by
  obtain ⟨h1, h2⟩ := h.1.elem (i := j) hj x
  rw [marks_set m xs j (by omega) hx] at h1
  exact ⟨h1, ⟨h2.os.trans h.2.os, h2.tape.trans h.2.tape, h2.output.trans h.2.output, Nat.le_trans h.2.size h2.size, fun i hi hne => (h2.block i (Nat.lt_of_lt_of_le hi h.2.size) hne).trans (h.2.block i hi hne)⟩⟩
theorem MarkMid.cells {lo hi g n c j : Nat} {xs : List I5} {m : Int} {w wr : World} (h : MarkMid lo hi (some ⟨g, 0, none⟩) n c xs m j w wr) (hj : j < n) (hl : xs.length = n) : At wr g (j * 5) xs[j] := by
  have hx : (marks m j ++ xs.drop j)[j]? = some xs[j] := by
    rw [List.getElem?_append_right (by rw [marks_len]; exact Nat.le_refl _), marks_len, Nat.sub_self, List.drop_eq_getElem_cons (by omega)]
    rfl
  exact ⟨h.1.cell (j := 0) hx rfl, h.1.cell (j := 1) hx rfl, h.1.cell (j := 2) hx rfl, h.1.cell (j := 3) hx rfl, h.1.cell (j := 4) hx rfl⟩
/-- The call answers the next mark; the slice bears the marks; no other block has turned. -/
def Marked (lo hi : Nat) (p : Option Addr) (n c : Nat) (m : Int) (w : World) (e : Ending) (w' : World) : Prop := e = .returned (.int .i64 (m + (n * 5 : Nat))) ∧ OwS E 43 w' lo hi p n c (marks m n) ∧ w.grownBy w' (Value.slice p n c).ownBlock
theorem MarkMid.done {lo hi n c : Nat} {p : Option Addr} {xs : List I5} {m : Int} {w wr : World} (h : MarkMid lo hi p n c xs m n w wr) (hl : xs.length = n) : Marked lo hi p n c m w (.returned (.int .i64 (m + (n * 5 : Nat)))) wr := by
  subst hl
  obtain ⟨h1, h2⟩ := h
  rw [List.drop_length, List.append_nil] at h1
  exact ⟨rfl, h1, h2⟩
set_option maxRecDepth 100000 in
set_option maxHeartbeats 4000000 in
theorem mark_any (lo hi : Nat) (p : Option Addr) (n c : Nat) (xs : List I5) (m : Int) (w : World) (ho : OwS E 43 w lo hi p n c xs) (hm : 0 ≤ m) (hm' : m + (n * 5 : Nat) ≤ 9223372036854775000) : Calls Try.prog 47 #[.slice p n c, .int .i64 m] w (Marked lo hi p n c m w) := by
  have HL := Lib.hid ho.len
  have hle := ho.rd.le
  have HM : Hid (MarkMid lo hi p n c xs m 0 w w) := ⟨ho, ⟨rfl, rfl, rfl, Nat.le_refl _, fun _ _ _ => rfl⟩⟩
  clear ho
  go_enter Try.func47, Try.ntmps47
  go_wp2_with fail
  go_loopw [1, 5] (fun x i wr => ∃ (k : Nat) (y : Int), k ≤ n ∧ i = .int .i64 k ∧ x = .int .i64 y ∧ y = m + (k * 5 : Nat) ∧ Hid (MarkMid lo hi p n c xs m k w wr)) (fun _ i _ => n - (intOf i).toNat)
  case atStart => exact ⟨0, m, Nat.zero_le _, rfl, rfl, by simp, HM⟩
  case round =>
    obtain ⟨k, y, hk, rfl, rfl, hy, HK⟩ := hrel
    by_cases hlt : k < n
    · rcases HK.out.1.form with ⟨_, hn0, _⟩ | ⟨g, rfl, _, _, hnc, _⟩
      · omega
      obtain ⟨hc0, hc1, hc2, hc3, hc4⟩ := HK.out.cells hlt HL.out
      have hf0 := HK.out.1.free (i := k * 5); have hf1 := HK.out.1.free (i := k * 5 + 1); have hf2 := HK.out.1.free (i := k * 5 + 2); have hf3 := HK.out.1.free (i := k * 5 + 3); have hf4 := HK.out.1.free (i := k * 5 + 4)
      have hy2 : y + 5 ≤ 9223372036854775000 := by omega
      have hy1 : 0 ≤ y := by omega
      have HK2 := Lib.hid (HK.out.next hlt HL.out (x := (y, y + 1, y + 1 + 1, y + 1 + 1 + 1, y + 1 + 1 + 1 + 1)) (by simp only [mk]; rw [hy]; simp only [Prod.mk.injEq]; omega))
      have HY := Lib.hid hy
      clear hy
      go_wp2_with fail
      go_roundw
      case rel => exact ⟨k + 1, y + 1 + 1 + 1 + 1 + 1, by omega, by go_num, rfl, by have := HY.out; omega, HK2⟩
      case measure => simp [intOf]; omega
    · obtain rfl : k = n := by omega
      subst hy
      go_wp2_with fail
      go_ret
      exact HK.out.done HL.out
set_option maxRecDepth 100000 in
set_option maxHeartbeats 4000000 in
theorem held_any (p : Option Addr) (n c : Nat) (m : Int) (w : World) (hr : RdS E w p n (marks m n)) (hm : 0 ≤ m) (hm' : m + (n * 5 : Nat) ≤ 9223372036854775000) : Calls Try.prog 48 #[.slice p n c, .int .i64 m] w fun e w' => e = .returned (.int .i64 (m + (n * 5 : Nat))) ∧ w = w' := by
  have HR := Lib.hid hr
  have hle := hr.le
  clear hr
  go_enter Try.func48, Try.ntmps48
  go_wp2_with fail
  go_loop [1, 5] (fun x i => ∃ (k : Nat) (y : Int), k ≤ n ∧ i = .int .i64 k ∧ x = .int .i64 y ∧ y = m + (k * 5 : Nat)) (fun _ i => n - (intOf i).toNat)
  case atStart => exact ⟨0, m, Nat.zero_le _, rfl, rfl, by simp⟩
  case round =>
    obtain ⟨k, y, hk, rfl, rfl, hy⟩ := hrel
    by_cases hlt : k < n
    · obtain ⟨b, o, rfl, hb, hat⟩ := rd_at HR.out hlt
      rw [marks_at m hlt] at hat
      have hat2 : At w b (o + k * 5) (y, y + 1, y + 1 + 1, y + 1 + 1 + 1, y + 1 + 1 + 1 + 1) := by
        have e : (mk fun j => m + ((k * 5 + j : Nat) : Int)) = (y, y + 1, y + 1 + 1, y + 1 + 1 + 1, y + 1 + 1 + 1 + 1) := by
          simp only [mk]; rw [hy]; simp only [Prod.mk.injEq]; omega
        rw [e] at hat
        exact hat
      obtain ⟨hc0, hc1, hc2, hc3, hc4⟩ := hat2
      have hy2 : y + 5 ≤ 9223372036854775000 := by omega
      have hy1 : 0 ≤ y := by omega
      have HY := Lib.hid hy
      clear hy hat
      go_wp2_with fail
      go_round
      case rel => exact ⟨k + 1, y + 1 + 1 + 1 + 1 + 1, by omega, by go_num, rfl, by have := HY.out; omega⟩
      case measure => simp [intOf]; omega
    · obtain rfl : k = n := by omega
      subst hy
      go_wp2_with fail
      go_ret
      exact ⟨rfl, rfl⟩

/-! ### sizes -/
end Go.Proofs.Ytgmoldianhkifaa.SlStatus

namespace Go.Proofs.Ytgmoldianhkifaa.SlStamp
open Go.ChangeShapes Go.WideShapes Go.ChangeAt Go.RowKit Sl St Fnd

def E : En I5 := ⟨fun x => [.int .i64 x.1, .int .i64 x.2.1, .int .i64 x.2.2.1, .int .i64 x.2.2.2.1, .int .i64 x.2.2.2.2], 5, fun _ => rfl, fun x v h => by simp only [List.mem_cons, List.not_mem_nil, or_false] at h; rcases h with rfl | rfl | rfl | rfl | rfl <;> rfl, by decide⟩
theorem C_eq : E.C = 5 := rfl
theorem of_eq (x : I5) : E.of x = [.int .i64 x.1, .int .i64 x.2.1, .int .i64 x.2.2.1, .int .i64 x.2.2.2.1, .int .i64 x.2.2.2.2] := rfl
def zero : I5 := (0, 0, 0, 0, 0)
theorem info : (Try.prog.info? 48).map (fun i => (i.zero, i.size, i.bytes)) = some (some (.agg #[.int .i64 0, .int .i64 0, .int .i64 0, .int .i64 0, .int .i64 0]), 5, 40) := by kernel_rfl
/-- the element of numbers -/
def mk (f : Nat → Int) : I5 := (f 0, f 1, f 2, f 3, f 4)
theorem of_mk (f : Nat → Int) : E.of (mk f) = ints 5 f := rfl
theorem agg_ints (f : Nat → Int) : Value.agg (ints 5 f).toArray = .agg #[.int .i64 (f 0), .int .i64 (f 1), .int .i64 (f 2), .int .i64 (f 3), .int .i64 (f 4)] := rfl
/-- every field is an int of 64 bits -/
def InR (x : I5) : Prop := (-9223372036854775808 ≤ x.1 ∧ x.1 ≤ 9223372036854775807) ∧ (-9223372036854775808 ≤ x.2.1 ∧ x.2.1 ≤ 9223372036854775807) ∧ (-9223372036854775808 ≤ x.2.2.1 ∧ x.2.2.1 ≤ 9223372036854775807) ∧ (-9223372036854775808 ≤ x.2.2.2.1 ∧ x.2.2.2.1 ≤ 9223372036854775807) ∧ (-9223372036854775808 ≤ x.2.2.2.2 ∧ x.2.2.2.2 ≤ 9223372036854775807)
/-- The call answers a value; what lay before is as it was. -/
def Val (v : Value) (w : World) (e : Ending) (w' : World) : Prop := e = .returned v ∧ Below w.heap.size w w'
/-- The call answers a new slice, not nil, that reads as xs; what lay before is as it was. -/
def Makes (xs : List I5) (w : World) (e : Ending) (w' : World) : Prop := ∃ p n c, e = .returned (.slice p n c) ∧ OwS E 48 w' w.heap.size w'.heap.size p n c xs ∧ Below w.heap.size w w'
/-- The call answers true; what lay before is as it was. -/
def Yes (w : World) (e : Ending) (w' : World) : Prop := e = .returned (.bool true) ∧ Below w.heap.size w w'
set_option maxRecDepth 100000 in
set_option maxHeartbeats 1000000 in
theorem same_any (x0 x1 x2 x3 x4 : Int) (w : World) : Calls Try.prog 27 #[.agg #[.int .i64 x0, .int .i64 x1, .int .i64 x2, .int .i64 x3, .int .i64 x4], .agg #[.int .i64 x0, .int .i64 x1, .int .i64 x2, .int .i64 x3, .int .i64 x4]] w (Yes w) := by
  go_enter Try.func27, Try.ntmps27
  go_wp2_with fail
  go_ret
  exact ⟨rfl, ((Below.refl _ _).alloc (Nat.le_refl _) _).alloc (by simp) _⟩

theorem bxc {w : World} {g : Nat} {T : TypeId} {x0 x1 x2 x3 x4 : Value} (h : Bx w g T #[x0, x1, x2, x3, x4]) : w.cell? ⟨g, 0, none⟩ = some x0 ∧ w.cell? ⟨g, 1, none⟩ = some x1 ∧ w.cell? ⟨g, 2, none⟩ = some x2 ∧ w.cell? ⟨g, 3, none⟩ = some x3 ∧ w.cell? ⟨g, 4, none⟩ = some x4 := ⟨h.cell rfl, h.cell rfl, h.cell rfl, h.cell rfl, h.cell rfl⟩
/-! ### slices -/
/-- an element's cells at an address -/
def At (w : World) (b q : Nat) (x : I5) : Prop := w.cell? ⟨b, q, none⟩ = some (.int .i64 x.1) ∧ w.cell? ⟨b, q + 1, none⟩ = some (.int .i64 x.2.1) ∧ w.cell? ⟨b, q + 2, none⟩ = some (.int .i64 x.2.2.1) ∧ w.cell? ⟨b, q + 3, none⟩ = some (.int .i64 x.2.2.2.1) ∧ w.cell? ⟨b, q + 4, none⟩ = some (.int .i64 x.2.2.2.2)
theorem rd_at {w : World} {p : Option Addr} {n k : Nat} {xs : List I5} (h : RdS E w p n xs) (hk : k < n) : ∃ b o, p = some ⟨b, o, none⟩ ∧ b < w.heap.size ∧ At w b (o + k * 5) (xs.getD k zero) := by
  obtain ⟨b, o, x, e, hb, hx, hc⟩ := h.at_ hk
  have hd : xs.getD k zero = x := by rw [List.getD_eq_getElem?_getD, hx]; rfl
  rw [hd]
  exact ⟨b, o, e, hb, hc 0 _ rfl, hc 1 _ rfl, hc 2 _ rfl, hc 3 _ rfl, hc 4 _ rfl⟩
theorem At.below {w w' : World} {b q : Nat} {x : I5} (h : At w b q x) (hb : Below w.heap.size w w') (hlt : b < w.heap.size) : At w' b q x :=
  ⟨(hb.cell (p := ⟨b, q, none⟩) hlt).trans h.1, (hb.cell (p := ⟨b, q + 1, none⟩) hlt).trans h.2.1, (hb.cell (p := ⟨b, q + 2, none⟩) hlt).trans h.2.2.1, (hb.cell (p := ⟨b, q + 3, none⟩) hlt).trans h.2.2.2.1, (hb.cell (p := ⟨b, q + 4, none⟩) hlt).trans h.2.2.2.2⟩
/-- the copy after j elements -/
def Mid (xs : List I5) (n j : Nat) (w wr : World) : Prop := OwS E 48 wr w.heap.size wr.heap.size (some ⟨w.heap.size, 0, none⟩) n n (xs.take j ++ List.replicate (n - j) zero) ∧ Below w.heap.size w wr
theorem Mid.start {xs : List I5} {n : Nat} {w w1 : World} (hown : w1.ownsRow w.heap.size 48 5 (.slice (some ⟨w.heap.size, 0, none⟩) n n) n (madeCells (Value.cells (.agg #[.int .i64 0, .int .i64 0, .int .i64 0, .int .i64 0, .int .i64 0])) (n * 5)).toList) (hg : w.grownBy w1 none) : Mid xs n 0 w w1 := by
  have e := made_fl (E := E) (.agg #[.int .i64 0, .int .i64 0, .int .i64 0, .int .i64 0, .int .i64 0]) zero rfl n
  rw [C_eq] at e
  rw [e] at hown
  exact ⟨OwS.of_row hown, (Below.refl _ _).grown hg (Nat.le_refl _) (fun _ h => by cases h)⟩
theorem Mid.next {xs : List I5} {n j : Nat} {w wr w2 : World} {x : I5} (h : Mid xs n j w wr) (hb : Below wr.heap.size wr w2) (hj : j < n) (hl : xs.length = n) (hx : xs.getD j zero = x) : Mid xs n (j + 1) w (w2.setCells w.heap.size (j * 5) (E.of x)) := by
  have h2 := h.1.below hb
  obtain ⟨h3, h4⟩ := h2.elem (i := j) hj x
  have hw : xs[j]'(by omega) = x := by rw [← hx, List.getD_eq_getElem?_getD, List.getElem?_eq_getElem (by omega)]; rfl
  clear hx
  subst hw hl
  rw [set_mid hj] at h3
  exact ⟨h3.wide (Nat.le_refl _) (Nat.le_trans h3.2.2.1 (Nat.le_refl _)) (Nat.le_refl _), (below_on h.2 hb).grown h4 (Nat.le_trans h.2.size hb.size) (fun k e => by cases e; exact Nat.le_refl _)⟩
theorem Mid.done {xs : List I5} {n : Nat} {w wr : World} (h : Mid xs n n w wr) (hl : xs.length = n) : Makes xs w (.returned (.slice (some ⟨w.heap.size, 0, none⟩) n n)) wr := by
  subst hl
  obtain ⟨h1, h2⟩ := h
  rw [List.take_length, Nat.sub_self, List.replicate_zero, List.append_nil] at h1
  exact ⟨_, _, _, rfl, h1, h2⟩
theorem Mid.cells {xs : List I5} {n j : Nat} {w wr : World} (h : Mid xs n j w wr) (hj : j < n) (hl : xs.length = n) : At wr w.heap.size (j * 5) zero := by
  have hx : (xs.take j ++ List.replicate (n - j) zero)[j]? = some zero := by
    rw [List.getElem?_append_right (by rw [List.length_take]; omega), List.length_take, List.getElem?_replicate, if_pos (by omega)]
  exact ⟨h.1.cell (j := 0) hx rfl, h.1.cell (j := 1) hx rfl, h.1.cell (j := 2) hx rfl, h.1.cell (j := 3) hx rfl, h.1.cell (j := 4) hx rfl⟩
/-- all cells of two elements -/
def At2 (w : World) (b q b' q' : Nat) (z0 z1 z2 z3 z4 : Int) : Prop := w.cell? ⟨b, q, none⟩ = some (.int .i64 z0) ∧ w.cell? ⟨b', q', none⟩ = some (.int .i64 z0) ∧ w.cell? ⟨b, q + 1, none⟩ = some (.int .i64 z1) ∧ w.cell? ⟨b', q' + 1, none⟩ = some (.int .i64 z1) ∧ w.cell? ⟨b, q + 2, none⟩ = some (.int .i64 z2) ∧ w.cell? ⟨b', q' + 2, none⟩ = some (.int .i64 z2) ∧ w.cell? ⟨b, q + 3, none⟩ = some (.int .i64 z3) ∧ w.cell? ⟨b', q' + 3, none⟩ = some (.int .i64 z3) ∧ w.cell? ⟨b, q + 4, none⟩ = some (.int .i64 z4) ∧ w.cell? ⟨b', q' + 4, none⟩ = some (.int .i64 z4)
theorem At2.mk {w : World} {b q b' q' : Nat} {x : I5} (h : At w b q x) (h' : At w b' q' x) : At2 w b q b' q' x.1 x.2.1 x.2.2.1 x.2.2.2.1 x.2.2.2.2 := by
  obtain ⟨h0, h1, h2, h3, h4⟩ := h
  obtain ⟨g0, g1, g2, g3, g4⟩ := h'
  exact ⟨h0, g0, h1, g1, h2, g2, h3, g3, h4, g4⟩
theorem At2.below {w w' : World} {b q b' q' : Nat} {z0 z1 z2 z3 z4 : Int} (h : At2 w b q b' q' z0 z1 z2 z3 z4) (hb : Below w.heap.size w w') (l1 : b < w.heap.size) (l2 : b' < w.heap.size) : At2 w' b q b' q' z0 z1 z2 z3 z4 := by
  obtain ⟨h0, g0, h1, g1, h2, g2, h3, g3, h4, g4⟩ := h
  exact ⟨(hb.cell (p := ⟨b, q, none⟩) l1).trans h0, (hb.cell (p := ⟨b', q', none⟩) l2).trans g0, (hb.cell (p := ⟨b, q + 1, none⟩) l1).trans h1, (hb.cell (p := ⟨b', q' + 1, none⟩) l2).trans g1, (hb.cell (p := ⟨b, q + 2, none⟩) l1).trans h2, (hb.cell (p := ⟨b', q' + 2, none⟩) l2).trans g2, (hb.cell (p := ⟨b, q + 3, none⟩) l1).trans h3, (hb.cell (p := ⟨b', q' + 3, none⟩) l2).trans g3, (hb.cell (p := ⟨b, q + 4, none⟩) l1).trans h4, (hb.cell (p := ⟨b', q' + 4, none⟩) l2).trans g4⟩
/-! ### marks -/
/-- n elements that bear the numbers from m on -/
def marks (m : Int) (n : Nat) : List I5 := (List.range n).map fun i => mk fun j => m + ((i * 5 + j : Nat) : Int)
theorem marks_len (m : Int) (n : Nat) : (marks m n).length = n := by simp [marks]
theorem marks_at (m : Int) {n k : Nat} (h : k < n) : (marks m n).getD k zero = mk fun j => m + ((k * 5 + j : Nat) : Int) := by
  rw [List.getD_eq_getElem?_getD, marks, List.getElem?_map, List.getElem?_range h]
  rfl
theorem marks_set (m : Int) (xs : List I5) (j : Nat) (h : j < xs.length) {x : I5} (hx : x = mk fun q => m + ((j * 5 + q : Nat) : Int)) : (marks m j ++ xs.drop j).set j x = marks m (j + 1) ++ xs.drop (j + 1) := by
  subst hx
  rw [List.drop_eq_getElem_cons h, List.set_append_right _ _ (by rw [marks_len]; exact Nat.le_refl _), marks_len, Nat.sub_self, List.set_cons_zero]
  simp [marks, List.range_succ]
/-- the slice after j marks -/
def MarkMid (lo hi : Nat) (p : Option Addr) (n c : Nat) (xs : List I5) (m : Int) (j : Nat) (w wr : World) : Prop :=
  OwS E 48 wr lo hi p n c (marks m j ++ xs.drop j) ∧ w.grownBy wr (Value.slice p n c).ownBlock
theorem MarkMid.next {lo hi g n c j : Nat} {xs : List I5} {m : Int} {w wr : World} (h : MarkMid lo hi (some ⟨g, 0, none⟩) n c xs m j w wr) (hj : j < n) (hl : xs.length = n) {x : I5} (hx : x = mk fun q => m + ((j * 5 + q : Nat) : Int)) : MarkMid lo hi (some ⟨g, 0, none⟩) n c xs m (j + 1) w (wr.setCells g (j * 5) (E.of x)) := by
  obtain ⟨h1, h2⟩ := h.1.elem (i := j) hj x
  rw [marks_set m xs j (by omega) hx] at h1
  exact ⟨h1, ⟨h2.os.trans h.2.os, h2.tape.trans h.2.tape, h2.output.trans h.2.output, Nat.le_trans h.2.size h2.size, fun i hi hne => (h2.block i (Nat.lt_of_lt_of_le hi h.2.size) hne).trans (h.2.block i hi hne)⟩⟩
theorem MarkMid.cells {lo hi g n c j : Nat} {xs : List I5} {m : Int} {w wr : World} (h : MarkMid lo hi (some ⟨g, 0, none⟩) n c xs m j w wr) (hj : j < n) (hl : xs.length = n) : At wr g (j * 5) xs[j] := by
  have hx : (marks m j ++ xs.drop j)[j]? = some xs[j] := by
    rw [List.getElem?_append_right (by rw [marks_len]; exact Nat.le_refl _), marks_len, Nat.sub_self, List.drop_eq_getElem_cons (by omega)]
    rfl
  exact ⟨h.1.cell (j := 0) hx rfl, h.1.cell (j := 1) hx rfl, h.1.cell (j := 2) hx rfl, h.1.cell (j := 3) hx rfl, h.1.cell (j := 4) hx rfl⟩
/-- The call answers the next mark; the slice bears the marks; no other block has turned. -/
def Marked (lo hi : Nat) (p : Option Addr) (n c : Nat) (m : Int) (w : World) (e : Ending) (w' : World) : Prop := e = .returned (.int .i64 (m + (n * 5 : Nat))) ∧ OwS E 48 w' lo hi p n c (marks m n) ∧ w.grownBy w' (Value.slice p n c).ownBlock
theorem MarkMid.done {lo hi n c : Nat} {p : Option Addr} {xs : List I5} {m : Int} {w wr : World} (h : MarkMid lo hi p n c xs m n w wr) (hl : xs.length = n) : Marked lo hi p n c m w (.returned (.int .i64 (m + (n * 5 : Nat)))) wr := by
  subst hl
  obtain ⟨h1, h2⟩ := h
  rw [List.drop_length, List.append_nil] at h1
  exact ⟨rfl, h1, h2⟩
/-! ### sizes -/
end Go.Proofs.Ytgmoldianhkifaa.SlStamp

namespace Go.Proofs.Ytgmoldianhkifaa.SlSignature
open Go.ChangeShapes Go.WideShapes Go.ChangeAt Go.RowKit Sl St Fnd

def E : En I9 := ⟨fun x => [.int .i64 x.1, .int .i64 x.2.1, .int .i64 x.2.2.1, .int .i64 x.2.2.2.1, .int .i64 x.2.2.2.2.1, .int .i64 x.2.2.2.2.2.1, .int .i64 x.2.2.2.2.2.2.1, .int .i64 x.2.2.2.2.2.2.2.1, .int .i64 x.2.2.2.2.2.2.2.2], 9, fun _ => rfl, fun x v h => by simp only [List.mem_cons, List.not_mem_nil, or_false] at h; rcases h with rfl | rfl | rfl | rfl | rfl | rfl | rfl | rfl | rfl <;> rfl, by decide⟩
theorem C_eq : E.C = 9 := rfl
theorem of_eq (x : I9) : E.of x = [.int .i64 x.1, .int .i64 x.2.1, .int .i64 x.2.2.1, .int .i64 x.2.2.2.1, .int .i64 x.2.2.2.2.1, .int .i64 x.2.2.2.2.2.1, .int .i64 x.2.2.2.2.2.2.1, .int .i64 x.2.2.2.2.2.2.2.1, .int .i64 x.2.2.2.2.2.2.2.2] := rfl
def zero : I9 := (0, 0, 0, 0, 0, 0, 0, 0, 0)
theorem info : (Try.prog.info? 53).map (fun i => (i.zero, i.size, i.bytes)) = some (some (.agg #[.int .i64 0, .int .i64 0, .int .i64 0, .int .i64 0, .int .i64 0, .int .i64 0, .int .i64 0, .int .i64 0, .int .i64 0]), 9, 72) := by kernel_rfl
/-- the element of numbers -/
def mk (f : Nat → Int) : I9 := (f 0, f 1, f 2, f 3, f 4, f 5, f 6, f 7, f 8)
theorem of_mk (f : Nat → Int) : E.of (mk f) = ints 9 f := rfl
theorem agg_ints (f : Nat → Int) : Value.agg (ints 9 f).toArray = .agg #[.int .i64 (f 0), .int .i64 (f 1), .int .i64 (f 2), .int .i64 (f 3), .int .i64 (f 4), .int .i64 (f 5), .int .i64 (f 6), .int .i64 (f 7), .int .i64 (f 8)] := rfl
/-- every field is an int of 64 bits -/
def InR (x : I9) : Prop := (-9223372036854775808 ≤ x.1 ∧ x.1 ≤ 9223372036854775807) ∧ (-9223372036854775808 ≤ x.2.1 ∧ x.2.1 ≤ 9223372036854775807) ∧ (-9223372036854775808 ≤ x.2.2.1 ∧ x.2.2.1 ≤ 9223372036854775807) ∧ (-9223372036854775808 ≤ x.2.2.2.1 ∧ x.2.2.2.1 ≤ 9223372036854775807) ∧ (-9223372036854775808 ≤ x.2.2.2.2.1 ∧ x.2.2.2.2.1 ≤ 9223372036854775807) ∧ (-9223372036854775808 ≤ x.2.2.2.2.2.1 ∧ x.2.2.2.2.2.1 ≤ 9223372036854775807) ∧ (-9223372036854775808 ≤ x.2.2.2.2.2.2.1 ∧ x.2.2.2.2.2.2.1 ≤ 9223372036854775807) ∧ (-9223372036854775808 ≤ x.2.2.2.2.2.2.2.1 ∧ x.2.2.2.2.2.2.2.1 ≤ 9223372036854775807) ∧ (-9223372036854775808 ≤ x.2.2.2.2.2.2.2.2 ∧ x.2.2.2.2.2.2.2.2 ≤ 9223372036854775807)
/-- The call answers a value; what lay before is as it was. -/
def Val (v : Value) (w : World) (e : Ending) (w' : World) : Prop := e = .returned v ∧ Below w.heap.size w w'
/-- The call answers a new slice, not nil, that reads as xs; what lay before is as it was. -/
def Makes (xs : List I9) (w : World) (e : Ending) (w' : World) : Prop := ∃ p n c, e = .returned (.slice p n c) ∧ OwS E 53 w' w.heap.size w'.heap.size p n c xs ∧ Below w.heap.size w w'
/-- The call answers true; what lay before is as it was. -/
def Yes (w : World) (e : Ending) (w' : World) : Prop := e = .returned (.bool true) ∧ Below w.heap.size w w'
set_option maxRecDepth 100000 in
set_option maxHeartbeats 1000000 in
theorem same_any (x0 x1 x2 x3 x4 x5 x6 x7 x8 : Int) (w : World) : Calls Try.prog 30 #[.agg #[.int .i64 x0, .int .i64 x1, .int .i64 x2, .int .i64 x3, .int .i64 x4, .int .i64 x5, .int .i64 x6, .int .i64 x7, .int .i64 x8], .agg #[.int .i64 x0, .int .i64 x1, .int .i64 x2, .int .i64 x3, .int .i64 x4, .int .i64 x5, .int .i64 x6, .int .i64 x7, .int .i64 x8]] w (Yes w) := by
  go_enter Try.func30, Try.ntmps30
  go_wp2_with fail
  go_ret
  exact ⟨rfl, ((Below.refl _ _).alloc (Nat.le_refl _) _).alloc (by simp) _⟩

theorem bxc {w : World} {g : Nat} {T : TypeId} {x0 x1 x2 x3 x4 x5 x6 x7 x8 : Value} (h : Bx w g T #[x0, x1, x2, x3, x4, x5, x6, x7, x8]) : w.cell? ⟨g, 0, none⟩ = some x0 ∧ w.cell? ⟨g, 1, none⟩ = some x1 ∧ w.cell? ⟨g, 2, none⟩ = some x2 ∧ w.cell? ⟨g, 3, none⟩ = some x3 ∧ w.cell? ⟨g, 4, none⟩ = some x4 ∧ w.cell? ⟨g, 5, none⟩ = some x5 ∧ w.cell? ⟨g, 6, none⟩ = some x6 ∧ w.cell? ⟨g, 7, none⟩ = some x7 ∧ w.cell? ⟨g, 8, none⟩ = some x8 := ⟨h.cell rfl, h.cell rfl, h.cell rfl, h.cell rfl, h.cell rfl, h.cell rfl, h.cell rfl, h.cell rfl, h.cell rfl⟩
/-! ### slices -/
/-- an element's cells at an address -/
def At (w : World) (b q : Nat) (x : I9) : Prop := w.cell? ⟨b, q, none⟩ = some (.int .i64 x.1) ∧ w.cell? ⟨b, q + 1, none⟩ = some (.int .i64 x.2.1) ∧ w.cell? ⟨b, q + 2, none⟩ = some (.int .i64 x.2.2.1) ∧ w.cell? ⟨b, q + 3, none⟩ = some (.int .i64 x.2.2.2.1) ∧ w.cell? ⟨b, q + 4, none⟩ = some (.int .i64 x.2.2.2.2.1) ∧ w.cell? ⟨b, q + 5, none⟩ = some (.int .i64 x.2.2.2.2.2.1) ∧ w.cell? ⟨b, q + 6, none⟩ = some (.int .i64 x.2.2.2.2.2.2.1) ∧ w.cell? ⟨b, q + 7, none⟩ = some (.int .i64 x.2.2.2.2.2.2.2.1) ∧ w.cell? ⟨b, q + 8, none⟩ = some (.int .i64 x.2.2.2.2.2.2.2.2)
theorem rd_at {w : World} {p : Option Addr} {n k : Nat} {xs : List I9} (h : RdS E w p n xs) (hk : k < n) : ∃ b o, p = some ⟨b, o, none⟩ ∧ b < w.heap.size ∧ At w b (o + k * 9) (xs.getD k zero) := by
  obtain ⟨b, o, x, e, hb, hx, hc⟩ := h.at_ hk
  have hd : xs.getD k zero = x := by rw [List.getD_eq_getElem?_getD, hx]; rfl
  rw [hd]
  exact ⟨b, o, e, hb, hc 0 _ rfl, hc 1 _ rfl, hc 2 _ rfl, hc 3 _ rfl, hc 4 _ rfl, hc 5 _ rfl, hc 6 _ rfl, hc 7 _ rfl, hc 8 _ rfl⟩
theorem At.below {w w' : World} {b q : Nat} {x : I9} (h : At w b q x) (hb : Below w.heap.size w w') (hlt : b < w.heap.size) : At w' b q x :=
  ⟨(hb.cell (p := ⟨b, q, none⟩) hlt).trans h.1, (hb.cell (p := ⟨b, q + 1, none⟩) hlt).trans h.2.1, (hb.cell (p := ⟨b, q + 2, none⟩) hlt).trans h.2.2.1, (hb.cell (p := ⟨b, q + 3, none⟩) hlt).trans h.2.2.2.1, (hb.cell (p := ⟨b, q + 4, none⟩) hlt).trans h.2.2.2.2.1, (hb.cell (p := ⟨b, q + 5, none⟩) hlt).trans h.2.2.2.2.2.1, (hb.cell (p := ⟨b, q + 6, none⟩) hlt).trans h.2.2.2.2.2.2.1, (hb.cell (p := ⟨b, q + 7, none⟩) hlt).trans h.2.2.2.2.2.2.2.1, (hb.cell (p := ⟨b, q + 8, none⟩) hlt).trans h.2.2.2.2.2.2.2.2⟩
/-- the copy after j elements -/
def Mid (xs : List I9) (n j : Nat) (w wr : World) : Prop := OwS E 53 wr w.heap.size wr.heap.size (some ⟨w.heap.size, 0, none⟩) n n (xs.take j ++ List.replicate (n - j) zero) ∧ Below w.heap.size w wr
theorem Mid.start {xs : List I9} {n : Nat} {w w1 : World} (hown : w1.ownsRow w.heap.size 53 9 (.slice (some ⟨w.heap.size, 0, none⟩) n n) n (madeCells (Value.cells (.agg #[.int .i64 0, .int .i64 0, .int .i64 0, .int .i64 0, .int .i64 0, .int .i64 0, .int .i64 0, .int .i64 0, .int .i64 0])) (n * 9)).toList) (hg : w.grownBy w1 none) : Mid xs n 0 w w1 := by
  have e := made_fl (E := E) (.agg #[.int .i64 0, .int .i64 0, .int .i64 0, .int .i64 0, .int .i64 0, .int .i64 0, .int .i64 0, .int .i64 0, .int .i64 0]) zero rfl n
  rw [C_eq] at e
  rw [e] at hown
  exact ⟨OwS.of_row hown, (Below.refl _ _).grown hg (Nat.le_refl _) (fun _ h => by cases h)⟩
theorem Mid.next {xs : List I9} {n j : Nat} {w wr w2 : World} {x : I9} (h : Mid xs n j w wr) (hb : Below wr.heap.size wr w2) (hj : j < n) (hl : xs.length = n) (hx : xs.getD j zero = x) : Mid xs n (j + 1) w (w2.setCells w.heap.size (j * 9) (E.of x)) := by
  have h2 := h.1.below hb
  obtain ⟨h3, h4⟩ := h2.elem (i := j) hj x
  have hw : xs[j]'(by omega) = x := by rw [← hx, List.getD_eq_getElem?_getD, List.getElem?_eq_getElem (by omega)]; rfl
  clear hx
  subst hw hl
  rw [set_mid hj] at h3
  exact ⟨h3.wide (Nat.le_refl _) (Nat.le_trans h3.2.2.1 (Nat.le_refl _)) (Nat.le_refl _), (below_on h.2 hb).grown h4 (Nat.le_trans h.2.size hb.size) (fun k e => by cases e; exact Nat.le_refl _)⟩
theorem Mid.done {xs : List I9} {n : Nat} {w wr : World} (h : Mid xs n n w wr) (hl : xs.length = n) : Makes xs w (.returned (.slice (some ⟨w.heap.size, 0, none⟩) n n)) wr := by
  subst hl
  obtain ⟨h1, h2⟩ := h
  rw [List.take_length, Nat.sub_self, List.replicate_zero, List.append_nil] at h1
  exact ⟨_, _, _, rfl, h1, h2⟩
theorem Mid.cells {xs : List I9} {n j : Nat} {w wr : World} (h : Mid xs n j w wr) (hj : j < n) (hl : xs.length = n) : At wr w.heap.size (j * 9) zero := by
  have hx : (xs.take j ++ List.replicate (n - j) zero)[j]? = some zero := by
    rw [List.getElem?_append_right (by rw [List.length_take]; omega), List.length_take, List.getElem?_replicate, if_pos (by omega)]
  exact ⟨h.1.cell (j := 0) hx rfl, h.1.cell (j := 1) hx rfl, h.1.cell (j := 2) hx rfl, h.1.cell (j := 3) hx rfl, h.1.cell (j := 4) hx rfl, h.1.cell (j := 5) hx rfl, h.1.cell (j := 6) hx rfl, h.1.cell (j := 7) hx rfl, h.1.cell (j := 8) hx rfl⟩
/-- all cells of two elements -/
def At2 (w : World) (b q b' q' : Nat) (z0 z1 z2 z3 z4 z5 z6 z7 z8 : Int) : Prop := w.cell? ⟨b, q, none⟩ = some (.int .i64 z0) ∧ w.cell? ⟨b', q', none⟩ = some (.int .i64 z0) ∧ w.cell? ⟨b, q + 1, none⟩ = some (.int .i64 z1) ∧ w.cell? ⟨b', q' + 1, none⟩ = some (.int .i64 z1) ∧ w.cell? ⟨b, q + 2, none⟩ = some (.int .i64 z2) ∧ w.cell? ⟨b', q' + 2, none⟩ = some (.int .i64 z2) ∧ w.cell? ⟨b, q + 3, none⟩ = some (.int .i64 z3) ∧ w.cell? ⟨b', q' + 3, none⟩ = some (.int .i64 z3) ∧ w.cell? ⟨b, q + 4, none⟩ = some (.int .i64 z4) ∧ w.cell? ⟨b', q' + 4, none⟩ = some (.int .i64 z4) ∧ w.cell? ⟨b, q + 5, none⟩ = some (.int .i64 z5) ∧ w.cell? ⟨b', q' + 5, none⟩ = some (.int .i64 z5) ∧ w.cell? ⟨b, q + 6, none⟩ = some (.int .i64 z6) ∧ w.cell? ⟨b', q' + 6, none⟩ = some (.int .i64 z6) ∧ w.cell? ⟨b, q + 7, none⟩ = some (.int .i64 z7) ∧ w.cell? ⟨b', q' + 7, none⟩ = some (.int .i64 z7) ∧ w.cell? ⟨b, q + 8, none⟩ = some (.int .i64 z8) ∧ w.cell? ⟨b', q' + 8, none⟩ = some (.int .i64 z8)
theorem At2.mk {w : World} {b q b' q' : Nat} {x : I9} (h : At w b q x) (h' : At w b' q' x) : At2 w b q b' q' x.1 x.2.1 x.2.2.1 x.2.2.2.1 x.2.2.2.2.1 x.2.2.2.2.2.1 x.2.2.2.2.2.2.1 x.2.2.2.2.2.2.2.1 x.2.2.2.2.2.2.2.2 := by
  obtain ⟨h0, h1, h2, h3, h4, h5, h6, h7, h8⟩ := h
  obtain ⟨g0, g1, g2, g3, g4, g5, g6, g7, g8⟩ := h'
  exact ⟨h0, g0, h1, g1, h2, g2, h3, g3, h4, g4, h5, g5, h6, g6, h7, g7, h8, g8⟩
theorem At2.below {w w' : World} {b q b' q' : Nat} {z0 z1 z2 z3 z4 z5 z6 z7 z8 : Int} (h : At2 w b q b' q' z0 z1 z2 z3 z4 z5 z6 z7 z8) (hb : Below w.heap.size w w') (l1 : b < w.heap.size) (l2 : b' < w.heap.size) : At2 w' b q b' q' z0 z1 z2 z3 z4 z5 z6 z7 z8 := by
  obtain ⟨h0, g0, h1, g1, h2, g2, h3, g3, h4, g4, h5, g5, h6, g6, h7, g7, h8, g8⟩ := h
  exact ⟨(hb.cell (p := ⟨b, q, none⟩) l1).trans h0, (hb.cell (p := ⟨b', q', none⟩) l2).trans g0, (hb.cell (p := ⟨b, q + 1, none⟩) l1).trans h1, (hb.cell (p := ⟨b', q' + 1, none⟩) l2).trans g1, (hb.cell (p := ⟨b, q + 2, none⟩) l1).trans h2, (hb.cell (p := ⟨b', q' + 2, none⟩) l2).trans g2, (hb.cell (p := ⟨b, q + 3, none⟩) l1).trans h3, (hb.cell (p := ⟨b', q' + 3, none⟩) l2).trans g3, (hb.cell (p := ⟨b, q + 4, none⟩) l1).trans h4, (hb.cell (p := ⟨b', q' + 4, none⟩) l2).trans g4, (hb.cell (p := ⟨b, q + 5, none⟩) l1).trans h5, (hb.cell (p := ⟨b', q' + 5, none⟩) l2).trans g5, (hb.cell (p := ⟨b, q + 6, none⟩) l1).trans h6, (hb.cell (p := ⟨b', q' + 6, none⟩) l2).trans g6, (hb.cell (p := ⟨b, q + 7, none⟩) l1).trans h7, (hb.cell (p := ⟨b', q' + 7, none⟩) l2).trans g7, (hb.cell (p := ⟨b, q + 8, none⟩) l1).trans h8, (hb.cell (p := ⟨b', q' + 8, none⟩) l2).trans g8⟩
/-! ### marks -/
/-- n elements that bear the numbers from m on -/
def marks (m : Int) (n : Nat) : List I9 := (List.range n).map fun i => mk fun j => m + ((i * 9 + j : Nat) : Int)
theorem marks_len (m : Int) (n : Nat) : (marks m n).length = n := by simp [marks]
theorem marks_at (m : Int) {n k : Nat} (h : k < n) : (marks m n).getD k zero = mk fun j => m + ((k * 9 + j : Nat) : Int) := by
  rw [List.getD_eq_getElem?_getD, marks, List.getElem?_map, List.getElem?_range h]
  rfl
theorem marks_set (m : Int) (xs : List I9) (j : Nat) (h : j < xs.length) {x : I9} (hx : x = mk fun q => m + ((j * 9 + q : Nat) : Int)) : (marks m j ++ xs.drop j).set j x = marks m (j + 1) ++ xs.drop (j + 1) := by
  subst hx
  rw [List.drop_eq_getElem_cons h, List.set_append_right _ _ (by rw [marks_len]; exact Nat.le_refl _), marks_len, Nat.sub_self, List.set_cons_zero]
  simp [marks, List.range_succ]
/-- the slice after j marks -/
def MarkMid (lo hi : Nat) (p : Option Addr) (n c : Nat) (xs : List I9) (m : Int) (j : Nat) (w wr : World) : Prop :=
  OwS E 53 wr lo hi p n c (marks m j ++ xs.drop j) ∧ w.grownBy wr (Value.slice p n c).ownBlock
theorem MarkMid.next {lo hi g n c j : Nat} {xs : List I9} {m : Int} {w wr : World} (h : MarkMid lo hi (some ⟨g, 0, none⟩) n c xs m j w wr) (hj : j < n) (hl : xs.length = n) {x : I9} (hx : x = mk fun q => m + ((j * 9 + q : Nat) : Int)) : MarkMid lo hi (some ⟨g, 0, none⟩) n c xs m (j + 1) w (wr.setCells g (j * 9) (E.of x)) := by
  obtain ⟨h1, h2⟩ := h.1.elem (i := j) hj x
  rw [marks_set m xs j (by omega) hx] at h1
  exact ⟨h1, ⟨h2.os.trans h.2.os, h2.tape.trans h.2.tape, h2.output.trans h.2.output, Nat.le_trans h.2.size h2.size, fun i hi hne => (h2.block i (Nat.lt_of_lt_of_le hi h.2.size) hne).trans (h.2.block i hi hne)⟩⟩
theorem MarkMid.cells {lo hi g n c j : Nat} {xs : List I9} {m : Int} {w wr : World} (h : MarkMid lo hi (some ⟨g, 0, none⟩) n c xs m j w wr) (hj : j < n) (hl : xs.length = n) : At wr g (j * 9) xs[j] := by
  have hx : (marks m j ++ xs.drop j)[j]? = some xs[j] := by
    rw [List.getElem?_append_right (by rw [marks_len]; exact Nat.le_refl _), marks_len, Nat.sub_self, List.drop_eq_getElem_cons (by omega)]
    rfl
  exact ⟨h.1.cell (j := 0) hx rfl, h.1.cell (j := 1) hx rfl, h.1.cell (j := 2) hx rfl, h.1.cell (j := 3) hx rfl, h.1.cell (j := 4) hx rfl, h.1.cell (j := 5) hx rfl, h.1.cell (j := 6) hx rfl, h.1.cell (j := 7) hx rfl, h.1.cell (j := 8) hx rfl⟩
/-- The call answers the next mark; the slice bears the marks; no other block has turned. -/
def Marked (lo hi : Nat) (p : Option Addr) (n c : Nat) (m : Int) (w : World) (e : Ending) (w' : World) : Prop := e = .returned (.int .i64 (m + (n * 9 : Nat))) ∧ OwS E 53 w' lo hi p n c (marks m n) ∧ w.grownBy w' (Value.slice p n c).ownBlock
theorem MarkMid.done {lo hi n c : Nat} {p : Option Addr} {xs : List I9} {m : Int} {w wr : World} (h : MarkMid lo hi p n c xs m n w wr) (hl : xs.length = n) : Marked lo hi p n c m w (.returned (.int .i64 (m + (n * 9 : Nat)))) wr := by
  subst hl
  obtain ⟨h1, h2⟩ := h
  rw [List.drop_length, List.append_nil] at h1
  exact ⟨rfl, h1, h2⟩
/-! ### sizes -/
end Go.Proofs.Ytgmoldianhkifaa.SlSignature

namespace Go.Proofs.Ytgmoldianhkifaa.SlMandate
open Go.ChangeShapes Go.WideShapes Go.ChangeAt Go.RowKit Sl St Fnd

def E : En I6 := ⟨fun x => [.int .i64 x.1, .int .i64 x.2.1, .int .i64 x.2.2.1, .int .i64 x.2.2.2.1, .int .i64 x.2.2.2.2.1, .int .i64 x.2.2.2.2.2], 6, fun _ => rfl, fun x v h => by simp only [List.mem_cons, List.not_mem_nil, or_false] at h; rcases h with rfl | rfl | rfl | rfl | rfl | rfl <;> rfl, by decide⟩
theorem C_eq : E.C = 6 := rfl
theorem of_eq (x : I6) : E.of x = [.int .i64 x.1, .int .i64 x.2.1, .int .i64 x.2.2.1, .int .i64 x.2.2.2.1, .int .i64 x.2.2.2.2.1, .int .i64 x.2.2.2.2.2] := rfl
def zero : I6 := (0, 0, 0, 0, 0, 0)
theorem info : (Try.prog.info? 58).map (fun i => (i.zero, i.size, i.bytes)) = some (some (.agg #[.int .i64 0, .int .i64 0, .int .i64 0, .int .i64 0, .int .i64 0, .int .i64 0]), 6, 48) := by kernel_rfl
/-- the element of numbers -/
def mk (f : Nat → Int) : I6 := (f 0, f 1, f 2, f 3, f 4, f 5)
theorem of_mk (f : Nat → Int) : E.of (mk f) = ints 6 f := rfl
theorem agg_ints (f : Nat → Int) : Value.agg (ints 6 f).toArray = .agg #[.int .i64 (f 0), .int .i64 (f 1), .int .i64 (f 2), .int .i64 (f 3), .int .i64 (f 4), .int .i64 (f 5)] := rfl
/-- every field is an int of 64 bits -/
def InR (x : I6) : Prop := (-9223372036854775808 ≤ x.1 ∧ x.1 ≤ 9223372036854775807) ∧ (-9223372036854775808 ≤ x.2.1 ∧ x.2.1 ≤ 9223372036854775807) ∧ (-9223372036854775808 ≤ x.2.2.1 ∧ x.2.2.1 ≤ 9223372036854775807) ∧ (-9223372036854775808 ≤ x.2.2.2.1 ∧ x.2.2.2.1 ≤ 9223372036854775807) ∧ (-9223372036854775808 ≤ x.2.2.2.2.1 ∧ x.2.2.2.2.1 ≤ 9223372036854775807) ∧ (-9223372036854775808 ≤ x.2.2.2.2.2 ∧ x.2.2.2.2.2 ≤ 9223372036854775807)
/-- The call answers a value; what lay before is as it was. -/
def Val (v : Value) (w : World) (e : Ending) (w' : World) : Prop := e = .returned v ∧ Below w.heap.size w w'
/-- The call answers a new slice, not nil, that reads as xs; what lay before is as it was. -/
def Makes (xs : List I6) (w : World) (e : Ending) (w' : World) : Prop := ∃ p n c, e = .returned (.slice p n c) ∧ OwS E 58 w' w.heap.size w'.heap.size p n c xs ∧ Below w.heap.size w w'
/-- The call answers true; what lay before is as it was. -/
def Yes (w : World) (e : Ending) (w' : World) : Prop := e = .returned (.bool true) ∧ Below w.heap.size w w'
set_option maxRecDepth 100000 in
set_option maxHeartbeats 1000000 in
theorem same_any (x0 x1 x2 x3 x4 x5 : Int) (w : World) : Calls Try.prog 33 #[.agg #[.int .i64 x0, .int .i64 x1, .int .i64 x2, .int .i64 x3, .int .i64 x4, .int .i64 x5], .agg #[.int .i64 x0, .int .i64 x1, .int .i64 x2, .int .i64 x3, .int .i64 x4, .int .i64 x5]] w (Yes w) := by
  go_enter Try.func33, Try.ntmps33
  go_wp2_with fail
  go_ret
  exact ⟨rfl, ((Below.refl _ _).alloc (Nat.le_refl _) _).alloc (by simp) _⟩

theorem bxc {w : World} {g : Nat} {T : TypeId} {x0 x1 x2 x3 x4 x5 : Value} (h : Bx w g T #[x0, x1, x2, x3, x4, x5]) : w.cell? ⟨g, 0, none⟩ = some x0 ∧ w.cell? ⟨g, 1, none⟩ = some x1 ∧ w.cell? ⟨g, 2, none⟩ = some x2 ∧ w.cell? ⟨g, 3, none⟩ = some x3 ∧ w.cell? ⟨g, 4, none⟩ = some x4 ∧ w.cell? ⟨g, 5, none⟩ = some x5 := ⟨h.cell rfl, h.cell rfl, h.cell rfl, h.cell rfl, h.cell rfl, h.cell rfl⟩
/-! ### slices -/
/-- an element's cells at an address -/
def At (w : World) (b q : Nat) (x : I6) : Prop := w.cell? ⟨b, q, none⟩ = some (.int .i64 x.1) ∧ w.cell? ⟨b, q + 1, none⟩ = some (.int .i64 x.2.1) ∧ w.cell? ⟨b, q + 2, none⟩ = some (.int .i64 x.2.2.1) ∧ w.cell? ⟨b, q + 3, none⟩ = some (.int .i64 x.2.2.2.1) ∧ w.cell? ⟨b, q + 4, none⟩ = some (.int .i64 x.2.2.2.2.1) ∧ w.cell? ⟨b, q + 5, none⟩ = some (.int .i64 x.2.2.2.2.2)
theorem rd_at {w : World} {p : Option Addr} {n k : Nat} {xs : List I6} (h : RdS E w p n xs) (hk : k < n) : ∃ b o, p = some ⟨b, o, none⟩ ∧ b < w.heap.size ∧ At w b (o + k * 6) (xs.getD k zero) := by
  obtain ⟨b, o, x, e, hb, hx, hc⟩ := h.at_ hk
  have hd : xs.getD k zero = x := by rw [List.getD_eq_getElem?_getD, hx]; rfl
  rw [hd]
  exact ⟨b, o, e, hb, hc 0 _ rfl, hc 1 _ rfl, hc 2 _ rfl, hc 3 _ rfl, hc 4 _ rfl, hc 5 _ rfl⟩
theorem At.below {w w' : World} {b q : Nat} {x : I6} (h : At w b q x) (hb : Below w.heap.size w w') (hlt : b < w.heap.size) : At w' b q x :=
  ⟨(hb.cell (p := ⟨b, q, none⟩) hlt).trans h.1, (hb.cell (p := ⟨b, q + 1, none⟩) hlt).trans h.2.1, (hb.cell (p := ⟨b, q + 2, none⟩) hlt).trans h.2.2.1, (hb.cell (p := ⟨b, q + 3, none⟩) hlt).trans h.2.2.2.1, (hb.cell (p := ⟨b, q + 4, none⟩) hlt).trans h.2.2.2.2.1, (hb.cell (p := ⟨b, q + 5, none⟩) hlt).trans h.2.2.2.2.2⟩
/-- the copy after j elements -/
def Mid (xs : List I6) (n j : Nat) (w wr : World) : Prop := OwS E 58 wr w.heap.size wr.heap.size (some ⟨w.heap.size, 0, none⟩) n n (xs.take j ++ List.replicate (n - j) zero) ∧ Below w.heap.size w wr
theorem Mid.start {xs : List I6} {n : Nat} {w w1 : World} (hown : w1.ownsRow w.heap.size 58 6 (.slice (some ⟨w.heap.size, 0, none⟩) n n) n (madeCells (Value.cells (.agg #[.int .i64 0, .int .i64 0, .int .i64 0, .int .i64 0, .int .i64 0, .int .i64 0])) (n * 6)).toList) (hg : w.grownBy w1 none) : Mid xs n 0 w w1 := by
  have e := made_fl (E := E) (.agg #[.int .i64 0, .int .i64 0, .int .i64 0, .int .i64 0, .int .i64 0, .int .i64 0]) zero rfl n
  rw [C_eq] at e
  rw [e] at hown
  exact ⟨OwS.of_row hown, (Below.refl _ _).grown hg (Nat.le_refl _) (fun _ h => by cases h)⟩
theorem Mid.next {xs : List I6} {n j : Nat} {w wr w2 : World} {x : I6} (h : Mid xs n j w wr) (hb : Below wr.heap.size wr w2) (hj : j < n) (hl : xs.length = n) (hx : xs.getD j zero = x) : Mid xs n (j + 1) w (w2.setCells w.heap.size (j * 6) (E.of x)) := by
  have h2 := h.1.below hb
  obtain ⟨h3, h4⟩ := h2.elem (i := j) hj x
  have hw : xs[j]'(by omega) = x := by rw [← hx, List.getD_eq_getElem?_getD, List.getElem?_eq_getElem (by omega)]; rfl
  clear hx
  subst hw hl
  rw [set_mid hj] at h3
  exact ⟨h3.wide (Nat.le_refl _) (Nat.le_trans h3.2.2.1 (Nat.le_refl _)) (Nat.le_refl _), (below_on h.2 hb).grown h4 (Nat.le_trans h.2.size hb.size) (fun k e => by cases e; exact Nat.le_refl _)⟩
theorem Mid.done {xs : List I6} {n : Nat} {w wr : World} (h : Mid xs n n w wr) (hl : xs.length = n) : Makes xs w (.returned (.slice (some ⟨w.heap.size, 0, none⟩) n n)) wr := by
  subst hl
  obtain ⟨h1, h2⟩ := h
  rw [List.take_length, Nat.sub_self, List.replicate_zero, List.append_nil] at h1
  exact ⟨_, _, _, rfl, h1, h2⟩
theorem Mid.cells {xs : List I6} {n j : Nat} {w wr : World} (h : Mid xs n j w wr) (hj : j < n) (hl : xs.length = n) : At wr w.heap.size (j * 6) zero := by
  have hx : (xs.take j ++ List.replicate (n - j) zero)[j]? = some zero := by
    rw [List.getElem?_append_right (by rw [List.length_take]; omega), List.length_take, List.getElem?_replicate, if_pos (by omega)]
  exact ⟨h.1.cell (j := 0) hx rfl, h.1.cell (j := 1) hx rfl, h.1.cell (j := 2) hx rfl, h.1.cell (j := 3) hx rfl, h.1.cell (j := 4) hx rfl, h.1.cell (j := 5) hx rfl⟩
/-- all cells of two elements -/
def At2 (w : World) (b q b' q' : Nat) (z0 z1 z2 z3 z4 z5 : Int) : Prop := w.cell? ⟨b, q, none⟩ = some (.int .i64 z0) ∧ w.cell? ⟨b', q', none⟩ = some (.int .i64 z0) ∧ w.cell? ⟨b, q + 1, none⟩ = some (.int .i64 z1) ∧ w.cell? ⟨b', q' + 1, none⟩ = some (.int .i64 z1) ∧ w.cell? ⟨b, q + 2, none⟩ = some (.int .i64 z2) ∧ w.cell? ⟨b', q' + 2, none⟩ = some (.int .i64 z2) ∧ w.cell? ⟨b, q + 3, none⟩ = some (.int .i64 z3) ∧ w.cell? ⟨b', q' + 3, none⟩ = some (.int .i64 z3) ∧ w.cell? ⟨b, q + 4, none⟩ = some (.int .i64 z4) ∧ w.cell? ⟨b', q' + 4, none⟩ = some (.int .i64 z4) ∧ w.cell? ⟨b, q + 5, none⟩ = some (.int .i64 z5) ∧ w.cell? ⟨b', q' + 5, none⟩ = some (.int .i64 z5)
theorem At2.mk {w : World} {b q b' q' : Nat} {x : I6} (h : At w b q x) (h' : At w b' q' x) : At2 w b q b' q' x.1 x.2.1 x.2.2.1 x.2.2.2.1 x.2.2.2.2.1 x.2.2.2.2.2 := by
  obtain ⟨h0, h1, h2, h3, h4, h5⟩ := h
  obtain ⟨g0, g1, g2, g3, g4, g5⟩ := h'
  exact ⟨h0, g0, h1, g1, h2, g2, h3, g3, h4, g4, h5, g5⟩
theorem At2.below {w w' : World} {b q b' q' : Nat} {z0 z1 z2 z3 z4 z5 : Int} (h : At2 w b q b' q' z0 z1 z2 z3 z4 z5) (hb : Below w.heap.size w w') (l1 : b < w.heap.size) (l2 : b' < w.heap.size) : At2 w' b q b' q' z0 z1 z2 z3 z4 z5 := by
  obtain ⟨h0, g0, h1, g1, h2, g2, h3, g3, h4, g4, h5, g5⟩ := h
  exact ⟨(hb.cell (p := ⟨b, q, none⟩) l1).trans h0, (hb.cell (p := ⟨b', q', none⟩) l2).trans g0, (hb.cell (p := ⟨b, q + 1, none⟩) l1).trans h1, (hb.cell (p := ⟨b', q' + 1, none⟩) l2).trans g1, (hb.cell (p := ⟨b, q + 2, none⟩) l1).trans h2, (hb.cell (p := ⟨b', q' + 2, none⟩) l2).trans g2, (hb.cell (p := ⟨b, q + 3, none⟩) l1).trans h3, (hb.cell (p := ⟨b', q' + 3, none⟩) l2).trans g3, (hb.cell (p := ⟨b, q + 4, none⟩) l1).trans h4, (hb.cell (p := ⟨b', q' + 4, none⟩) l2).trans g4, (hb.cell (p := ⟨b, q + 5, none⟩) l1).trans h5, (hb.cell (p := ⟨b', q' + 5, none⟩) l2).trans g5⟩
set_option maxRecDepth 100000 in
set_option maxHeartbeats 4000000 in
theorem eq_any (p p' : Option Addr) (n c c' : Nat) (xs : List I6) (w : World) (hr : RdS E w p n xs) (hr' : RdS E w p' n xs) : Calls Try.prog 38 #[.slice p n c, .slice p' n c'] w (Yes w) := by
  have HR := Lib.hid hr
  have HR' := Lib.hid hr'
  have hle := hr.le
  clear hr hr'
  go_enter Try.func38, Try.ntmps38
  go_wp2_with fail
  go_loopw [5] (fun i wr => ∃ k : Nat, k ≤ n ∧ i = .int .i64 k ∧ Hid (Below w.heap.size w wr)) (fun i _ => n - (intOf i).toNat)
  case atStart => exact ⟨0, Nat.zero_le _, rfl, Below.refl _ _⟩
  case round =>
    obtain ⟨k, hk, rfl, HB⟩ := hrel
    by_cases hlt : k < n
    · obtain ⟨b, o, rfl, hb, hat⟩ := rd_at (HR.out.below HB.out) hlt
      obtain ⟨b', o', rfl, hb', hat'⟩ := rd_at (HR'.out.below HB.out) hlt
      have h2 := At2.mk hat hat'
      generalize (xs.getD k zero).1 = z0 at h2; generalize (xs.getD k zero).2.1 = z1 at h2; generalize (xs.getD k zero).2.2.1 = z2 at h2; generalize (xs.getD k zero).2.2.2.1 = z3 at h2; generalize (xs.getD k zero).2.2.2.2.1 = z4 at h2; generalize (xs.getD k zero).2.2.2.2.2 = z5 at h2
      have HH := Lib.hid h2
      clear hat hat'
      obtain ⟨h0, g0, h1, g1, h2, g2, h3, g3, h4, g4, h5, g5⟩ := h2
      have i1 : (0 : Int) ≤ (k : Int) := by omega
      have i2 : (k : Int) < (n : Int) := by omega
      go_wp2_with fail
      go_region_held3 (fun w' => w'.cell? ⟨b, o + k * 6, none⟩ = some (.int .i64 z0) ∧ w'.cell? ⟨b', o' + k * 6, none⟩ = some (.int .i64 z0) ∧ w'.cell? ⟨b, o + k * 6 + 1, none⟩ = some (.int .i64 z1) ∧ w'.cell? ⟨b', o' + k * 6 + 1, none⟩ = some (.int .i64 z1) ∧ w'.cell? ⟨b, o + k * 6 + 2, none⟩ = some (.int .i64 z2) ∧ w'.cell? ⟨b', o' + k * 6 + 2, none⟩ = some (.int .i64 z2) ∧ w'.cell? ⟨b, o + k * 6 + 3, none⟩ = some (.int .i64 z3) ∧ w'.cell? ⟨b', o' + k * 6 + 3, none⟩ = some (.int .i64 z3) ∧ w'.cell? ⟨b, o + k * 6 + 4, none⟩ = some (.int .i64 z4) ∧ w'.cell? ⟨b', o' + k * 6 + 4, none⟩ = some (.int .i64 z4) ∧ w'.cell? ⟨b, o + k * 6 + 5, none⟩ = some (.int .i64 z5) ∧ w'.cell? ⟨b', o' + k * 6 + 5, none⟩ = some (.int .i64 z5)) (first | exact HH.out | exact HH2.out | go_keep) (first
        | (go_at_call 33; refine (same_any _ _ _ _ _ _ _).mono ?_; rintro e w2 ⟨rfl, hb2⟩; have HH2 := Lib.hid (At2.below (w := wr.drew) HH.out hb2 hb hb'); have HB2 := Lib.hid (below_on (below_drewN HB.out 1) hb2); clear hb2))
      go_wp2_with fail
      go_roundw
      case rel => exact ⟨k + 1, by omega, by go_num, HB2⟩
      case measure => simp [intOf]; omega
    · obtain rfl : k = n := by omega
      go_wp2_with fail
      go_ret
      exact ⟨rfl, HB.out⟩

/-! ### marks -/
/-- n elements that bear the numbers from m on -/
def marks (m : Int) (n : Nat) : List I6 := (List.range n).map fun i => mk fun j => m + ((i * 6 + j : Nat) : Int)
theorem marks_len (m : Int) (n : Nat) : (marks m n).length = n := by simp [marks]
theorem marks_at (m : Int) {n k : Nat} (h : k < n) : (marks m n).getD k zero = mk fun j => m + ((k * 6 + j : Nat) : Int) := by
  rw [List.getD_eq_getElem?_getD, marks, List.getElem?_map, List.getElem?_range h]
  rfl
theorem marks_set (m : Int) (xs : List I6) (j : Nat) (h : j < xs.length) {x : I6} (hx : x = mk fun q => m + ((j * 6 + q : Nat) : Int)) : (marks m j ++ xs.drop j).set j x = marks m (j + 1) ++ xs.drop (j + 1) := by
  subst hx
  rw [List.drop_eq_getElem_cons h, List.set_append_right _ _ (by rw [marks_len]; exact Nat.le_refl _), marks_len, Nat.sub_self, List.set_cons_zero]
  simp [marks, List.range_succ]
/-- the slice after j marks -/
def MarkMid (lo hi : Nat) (p : Option Addr) (n c : Nat) (xs : List I6) (m : Int) (j : Nat) (w wr : World) : Prop :=
  OwS E 58 wr lo hi p n c (marks m j ++ xs.drop j) ∧ w.grownBy wr (Value.slice p n c).ownBlock
theorem MarkMid.next {lo hi g n c j : Nat} {xs : List I6} {m : Int} {w wr : World} (h : MarkMid lo hi (some ⟨g, 0, none⟩) n c xs m j w wr) (hj : j < n) (hl : xs.length = n) {x : I6} (hx : x = mk fun q => m + ((j * 6 + q : Nat) : Int)) : MarkMid lo hi (some ⟨g, 0, none⟩) n c xs m (j + 1) w (wr.setCells g (j * 6) (E.of x)) := by
  obtain ⟨h1, h2⟩ := h.1.elem (i := j) hj x
  rw [marks_set m xs j (by omega) hx] at h1
  exact ⟨h1, ⟨h2.os.trans h.2.os, h2.tape.trans h.2.tape, h2.output.trans h.2.output, Nat.le_trans h.2.size h2.size, fun i hi hne => (h2.block i (Nat.lt_of_lt_of_le hi h.2.size) hne).trans (h.2.block i hi hne)⟩⟩
theorem MarkMid.cells {lo hi g n c j : Nat} {xs : List I6} {m : Int} {w wr : World} (h : MarkMid lo hi (some ⟨g, 0, none⟩) n c xs m j w wr) (hj : j < n) (hl : xs.length = n) : At wr g (j * 6) xs[j] := by
  have hx : (marks m j ++ xs.drop j)[j]? = some xs[j] := by
    rw [List.getElem?_append_right (by rw [marks_len]; exact Nat.le_refl _), marks_len, Nat.sub_self, List.drop_eq_getElem_cons (by omega)]
    rfl
  exact ⟨h.1.cell (j := 0) hx rfl, h.1.cell (j := 1) hx rfl, h.1.cell (j := 2) hx rfl, h.1.cell (j := 3) hx rfl, h.1.cell (j := 4) hx rfl, h.1.cell (j := 5) hx rfl⟩
/-- The call answers the next mark; the slice bears the marks; no other block has turned. -/
def Marked (lo hi : Nat) (p : Option Addr) (n c : Nat) (m : Int) (w : World) (e : Ending) (w' : World) : Prop := e = .returned (.int .i64 (m + (n * 6 : Nat))) ∧ OwS E 58 w' lo hi p n c (marks m n) ∧ w.grownBy w' (Value.slice p n c).ownBlock
theorem MarkMid.done {lo hi n c : Nat} {p : Option Addr} {xs : List I6} {m : Int} {w wr : World} (h : MarkMid lo hi p n c xs m n w wr) (hl : xs.length = n) : Marked lo hi p n c m w (.returned (.int .i64 (m + (n * 6 : Nat)))) wr := by
  subst hl
  obtain ⟨h1, h2⟩ := h
  rw [List.drop_length, List.append_nil] at h1
  exact ⟨rfl, h1, h2⟩
set_option maxRecDepth 100000 in
set_option maxHeartbeats 4000000 in
theorem mark_any (lo hi : Nat) (p : Option Addr) (n c : Nat) (xs : List I6) (m : Int) (w : World) (ho : OwS E 58 w lo hi p n c xs) (hm : 0 ≤ m) (hm' : m + (n * 6 : Nat) ≤ 9223372036854775000) : Calls Try.prog 41 #[.slice p n c, .int .i64 m] w (Marked lo hi p n c m w) := by
  have HL := Lib.hid ho.len
  have hle := ho.rd.le
  have HM : Hid (MarkMid lo hi p n c xs m 0 w w) := ⟨ho, ⟨rfl, rfl, rfl, Nat.le_refl _, fun _ _ _ => rfl⟩⟩
  clear ho
  go_enter Try.func41, Try.ntmps41
  go_wp2_with fail
  go_loopw [1, 5] (fun x i wr => ∃ (k : Nat) (y : Int), k ≤ n ∧ i = .int .i64 k ∧ x = .int .i64 y ∧ y = m + (k * 6 : Nat) ∧ Hid (MarkMid lo hi p n c xs m k w wr)) (fun _ i _ => n - (intOf i).toNat)
  case atStart => exact ⟨0, m, Nat.zero_le _, rfl, rfl, by simp, HM⟩
  case round =>
    obtain ⟨k, y, hk, rfl, rfl, hy, HK⟩ := hrel
    by_cases hlt : k < n
    · rcases HK.out.1.form with ⟨_, hn0, _⟩ | ⟨g, rfl, _, _, hnc, _⟩
      · omega
      obtain ⟨hc0, hc1, hc2, hc3, hc4, hc5⟩ := HK.out.cells hlt HL.out
      have hf0 := HK.out.1.free (i := k * 6); have hf1 := HK.out.1.free (i := k * 6 + 1); have hf2 := HK.out.1.free (i := k * 6 + 2); have hf3 := HK.out.1.free (i := k * 6 + 3); have hf4 := HK.out.1.free (i := k * 6 + 4); have hf5 := HK.out.1.free (i := k * 6 + 5)
      have hy2 : y + 6 ≤ 9223372036854775000 := by omega
      have hy1 : 0 ≤ y := by omega
      have HK2 := Lib.hid (HK.out.next hlt HL.out (x := (y, y + 1, y + 1 + 1, y + 1 + 1 + 1, y + 1 + 1 + 1 + 1, y + 1 + 1 + 1 + 1 + 1)) (by simp only [mk]; rw [hy]; simp only [Prod.mk.injEq]; omega))
      have HY := Lib.hid hy
      clear hy
      go_wp2_with fail
      go_roundw
      case rel => exact ⟨k + 1, y + 1 + 1 + 1 + 1 + 1 + 1, by omega, by go_num, rfl, by have := HY.out; omega, HK2⟩
      case measure => simp [intOf]; omega
    · obtain rfl : k = n := by omega
      subst hy
      go_wp2_with fail
      go_ret
      exact HK.out.done HL.out
set_option maxRecDepth 100000 in
set_option maxHeartbeats 4000000 in
theorem held_any (p : Option Addr) (n c : Nat) (m : Int) (w : World) (hr : RdS E w p n (marks m n)) (hm : 0 ≤ m) (hm' : m + (n * 6 : Nat) ≤ 9223372036854775000) : Calls Try.prog 42 #[.slice p n c, .int .i64 m] w fun e w' => e = .returned (.int .i64 (m + (n * 6 : Nat))) ∧ w = w' := by
  have HR := Lib.hid hr
  have hle := hr.le
  clear hr
  go_enter Try.func42, Try.ntmps42
  go_wp2_with fail
  go_loop [1, 5] (fun x i => ∃ (k : Nat) (y : Int), k ≤ n ∧ i = .int .i64 k ∧ x = .int .i64 y ∧ y = m + (k * 6 : Nat)) (fun _ i => n - (intOf i).toNat)
  case atStart => exact ⟨0, m, Nat.zero_le _, rfl, rfl, by simp⟩
  case round =>
    obtain ⟨k, y, hk, rfl, rfl, hy⟩ := hrel
    by_cases hlt : k < n
    · obtain ⟨b, o, rfl, hb, hat⟩ := rd_at HR.out hlt
      rw [marks_at m hlt] at hat
      have hat2 : At w b (o + k * 6) (y, y + 1, y + 1 + 1, y + 1 + 1 + 1, y + 1 + 1 + 1 + 1, y + 1 + 1 + 1 + 1 + 1) := by
        have e : (mk fun j => m + ((k * 6 + j : Nat) : Int)) = (y, y + 1, y + 1 + 1, y + 1 + 1 + 1, y + 1 + 1 + 1 + 1, y + 1 + 1 + 1 + 1 + 1) := by
          simp only [mk]; rw [hy]; simp only [Prod.mk.injEq]; omega
        rw [e] at hat
        exact hat
      obtain ⟨hc0, hc1, hc2, hc3, hc4, hc5⟩ := hat2
      have hy2 : y + 6 ≤ 9223372036854775000 := by omega
      have hy1 : 0 ≤ y := by omega
      have HY := Lib.hid hy
      clear hy hat
      go_wp2_with fail
      go_round
      case rel => exact ⟨k + 1, y + 1 + 1 + 1 + 1 + 1 + 1, by omega, by go_num, rfl, by have := HY.out; omega⟩
      case measure => simp [intOf]; omega
    · obtain rfl : k = n := by omega
      subst hy
      go_wp2_with fail
      go_ret
      exact ⟨rfl, rfl⟩

/-! ### sizes -/
end Go.Proofs.Ytgmoldianhkifaa.SlMandate

namespace Go.Proofs.Ytgmoldianhkifaa.SlPiece
open Go.ChangeShapes Go.WideShapes Go.ChangeAt Go.RowKit Sl St
set_option maxRecDepth 100000 in
theorem open_val {H : Type} {enc : TypeId × Value → H} {W : World} {base : Nat} {v : Value} {D : DataW H} {pl : List MemPlace} (h : DataW.Trod enc Try.prog W 0 (fun _ => true) true 25 v D pl) (hk : Value.okWide Try.prog W .any base 25 v) :
    ∃ (k : Int) (p : Option Addr) (n c : Nat) (m : Int) (zs : List Int), v = .agg #[.int .i64 k, .slice p n c, .int .i64 m] ∧ Rd .i64 W p n zs ∧ (-9223372036854775808 ≤ k ∧ k ≤ 9223372036854775807) ∧ (-9223372036854775808 ≤ m ∧ m ≤ 9223372036854775807) := by
  have hi : ∃ f0 f1 f2 : Field, Try.prog.underlying 25 = some (.struct #[f0, f1, f2]) ∧ f0.offset = 0 ∧ f1.offset = 1 ∧ f2.offset = 2 ∧ f0.type = 3 ∧ f1.type = 23 ∧ f2.type = 3 ∧ Try.prog.cellsOf 3 = 1 ∧ Try.prog.cellsOf 23 = 1 ∧ Try.prog.cellsOf 25 = 3 := ⟨_, _, _, Try.underlying25, by kernel_rfl, by kernel_rfl, by kernel_rfl, by kernel_rfl, by kernel_rfl, by kernel_rfl, by kernel_rfl, by kernel_rfl, by kernel_rfl⟩
  obtain ⟨f0, f1, f2, hs, o0, o1, o2, t0, t1, t2, c0, c1, c3⟩ := hi
  obtain ⟨cs, rfl, hsz⟩ := okWide_struct hs hk
  obtain ⟨fuel, hf⟩ := h
  have hl : cs.toList.length = 3 := by simp only [Array.length_toList]; rw [hsz, c3]
  simp only [Value.cells] at hf
  generalize hcl : cs.toList = l at hf hl
  obtain ⟨y0, y1, y2, n', _, _, h0, h1, h2⟩ := Go.Deep.trod_struct3 hs hf
  rw [o0, t0, c0] at h0
  rw [o1, t1, c1] at h1
  rw [o2, t2, c0] at h2
  obtain ⟨e0, e1, e2, rfl⟩ : ∃ e0 e1 e2, l = [e0, e1, e2] := by
    match l, hl with
    | [e0, e1, e2], _ => exact ⟨e0, e1, e2, rfl⟩
  simp only [List.drop_zero, List.take_succ_cons, List.take_zero, List.drop_succ_cons] at h0 h1 h2
  obtain ⟨k, hz0, _, w0⟩ := DataW.trod_int Try.underlying3 h0
  obtain ⟨p, n, c, zs, hz1, hr⟩ := SlStr.open_cellsI h1
  obtain ⟨m, hz2, _, w2⟩ := DataW.trod_int Try.underlying3 h2
  simp only [List.cons.injEq, and_true] at hz0 hz1 hz2
  refine ⟨k, p, n, c, m, zs, ?_, hr, bounds_i64 w0, bounds_i64 w2⟩
  have : cs = #[.int .i64 k, .slice p n c, .int .i64 m] := by
    apply Array.ext'
    rw [hcl, hz0, hz1, hz2]
  rw [this]
theorem bx3 {w : World} {g : Nat} {T : TypeId} {x0 x1 x2 : Value} (h : Bx w g T #[x0, x1, x2]) : w.cell? ⟨g, 0, none⟩ = some x0 ∧ w.cell? ⟨g, 1, none⟩ = some x1 ∧ w.cell? ⟨g, 2, none⟩ = some x2 := ⟨h.cell rfl, h.cell rfl, h.cell rfl⟩
/-- The call answers a piece whose numbers lie in memory of its own, whatever the capacity says; what lay before is as it was. -/
def Makes (k : Int) (zs : List Int) (m : Int) (w : World) (e : Ending) (w' : World) : Prop := ∃ (p : Option Addr) (n c d : Nat), e = .returned (.agg #[.int .i64 k, .slice p n c, .int .i64 m]) ∧ Ow .i64 3 w' w.heap.size w'.heap.size p n d zs ∧ Below w.heap.size w w'
def Yes (w : World) (e : Ending) (w' : World) : Prop := e = .returned (.bool true) ∧ Below w.heap.size w w'
def Val (v : Value) (w : World) (e : Ending) (w' : World) : Prop := e = .returned v ∧ Below w.heap.size w w'
theorem box1 (w : World) (o : Obj) : Below w.heap.size w (w.alloc o) := (Below.refl _ _).alloc (Nat.le_refl _) _
theorem grown_set {w : World} (g j : Nat) (v : Value) : w.grownBy (w.setCell ⟨g, j, none⟩ v) (some g) := ⟨rfl, rfl, rfl, by simp [World.setCell], fun i hi hne => Below.heap_setCell w ⟨g, j, none⟩ v i (by rintro rfl; exact hne rfl)⟩
set_option maxRecDepth 100000 in
set_option maxHeartbeats 4000000 in
theorem to_any (k : Int) (p : Option Addr) (n c : Nat) (m : Int) (zs : List Int) (w : World) (hr : Rd .i64 w p n zs) (hn : n ≤ 1048576) : Calls Try.prog 15 #[.agg #[.int .i64 k, .slice p n c, .int .i64 m]] w fun e w' => ∃ (p1 : Option Addr) (n1 c1 : Nat), e = .returned (.agg #[.int .i64 k, .slice p1 n1 c1, .int .i64 m]) ∧ Ow .i64 3 w' w.heap.size w'.heap.size p1 n1 c1 zs ∧ Below w.heap.size w w' := by
  have b0 := ((Bx.new w 25 #[.int .i64 k, .slice p n c, .int .i64 m]).alloc (.cells #[.int .i64 0, .slice none 0 0, .int .i64 0] 31)).alloc (.cells #[.int .i64 k, .slice none 0 0, .int .i64 0] 31)
  have b1 := (Bx.new (w.alloc (.cells #[.int .i64 k, .slice p n c, .int .i64 m] 25)) 31 #[.int .i64 0, .slice none 0 0, .int .i64 0]).alloc (.cells #[.int .i64 k, .slice none 0 0, .int .i64 0] 31)
  have b2 := Bx.new ((w.alloc (.cells #[.int .i64 k, .slice p n c, .int .i64 m] 25)).alloc (.cells #[.int .i64 0, .slice none 0 0, .int .i64 0] 31)) 31 #[.int .i64 k, .slice none 0 0, .int .i64 0]
  rw [World.size_alloc] at b1
  rw [World.size_alloc, World.size_alloc] at b2
  have HA := Lib.hid b0
  have HR := Lib.hid b1
  have HO := Lib.hid b2
  have HB : Hid (Below w.heap.size w (((w.alloc (.cells #[.int .i64 k, .slice p n c, .int .i64 m] 25)).alloc (.cells #[.int .i64 0, .slice none 0 0, .int .i64 0] 31)).alloc (.cells #[.int .i64 k, .slice none 0 0, .int .i64 0] 31))) := Lib.hid ((((Below.refl w.heap.size w).alloc (Nat.le_refl _) _).alloc (by simp) _).alloc (by simp; omega) _)
  have HSZ : Hid ((((w.alloc (.cells #[.int .i64 k, .slice p n c, .int .i64 m] 25)).alloc (.cells #[.int .i64 0, .slice none 0 0, .int .i64 0] 31)).alloc (.cells #[.int .i64 k, .slice none 0 0, .int .i64 0] 31)).heap.size = w.heap.size + 3) := Lib.hid (by simp)
  have HP := Lib.hid hr
  clear b0 b1 b2 hr
  go_enter Try.func15, Try.ntmps15
  go_wp2_with fail
  generalize (((w.alloc (.cells #[.int .i64 k, .slice p n c, .int .i64 m] 25)).alloc (.cells #[.int .i64 0, .slice none 0 0, .int .i64 0] 31)).alloc (.cells #[.int .i64 k, .slice none 0 0, .int .i64 0] 31)) = V at HA HR HO HB HSZ ⊢
  refine (SlI.to_any _ _ _ _ _ (HP.out.below HB.out) (by omega)).mono ?_
  rintro e w1 ⟨p1, n1, c1, rfl, ho, hb⟩
  have hs1 := hb.size
  have hs0 := HSZ.out
  have HA1 := Lib.hid (HA.out.below hb)
  have HR1 := Lib.hid (HR.out.below hb)
  have HO1 := Lib.hid (HO.out.below hb)
  have HB1 := Lib.hid (below_on HB.out hb)
  have HP1 := Lib.hid ho
  obtain ⟨a0, a1, a2⟩ := bx3 HA1.out
  obtain ⟨o0, o1, o2⟩ := bx3 HO1.out
  obtain ⟨r0, r1, r2⟩ := bx3 HR1.out
  have of1 := HO1.out.free 1
  have of2 := HO1.out.free 2
  have rf0 := HR1.out.free 0
  have rf1 := HR1.out.free 1
  have rf2 := HR1.out.free 2
  clear ho hb
  go_wp2_with fail
  refine bodyPost_ret (v := .agg #[.int .i64 k, .slice p1 n1 c1, .int .i64 m]) (by simp [results, Try.results15, go_sem, r0, r1, r2]) rfl ⟨p1, n1, c1, rfl, ?_, ((((HB1.out.setCell (p := ⟨w.heap.size + 1 + 1, 1, none⟩) (by simp; omega) _).setCell (p := ⟨w.heap.size + 1 + 1, 2, none⟩) (by simp; omega) _).setCell (p := ⟨w.heap.size + 1, 0, none⟩) (by simp) _).setCell (p := ⟨w.heap.size + 1, 1, none⟩) (by simp) _).setCell (p := ⟨w.heap.size + 1, 2, none⟩) (by simp) _⟩
  exact (((((HP1.out.kept (grown_set _ _ _) (fun g e => by cases e; omega)).kept (grown_set _ _ _) (fun g e => by cases e; omega)).kept (grown_set _ _ _) (fun g e => by cases e; omega)).kept (grown_set _ _ _) (fun g e => by cases e; omega)).kept (grown_set _ _ _) (fun g e => by cases e; omega)).wide (by omega) (by simp [World.setCell]) (Nat.le_refl _)
set_option maxRecDepth 100000 in
set_option maxHeartbeats 4000000 in
theorem eq_any (k : Int) (p p' : Option Addr) (n c c' : Nat) (m : Int) (zs : List Int) (w : World) (hr : Rd .i64 w p n zs) (hr' : Rd .i64 w p' n zs) : Calls Try.prog 18 #[.agg #[.int .i64 k, .slice p n c, .int .i64 m], .agg #[.int .i64 k, .slice p' n c', .int .i64 m]] w (Yes w) := by
  have HP := Lib.hid hr
  have HP' := Lib.hid hr'
  have HB := Lib.hid ((box1 w (.cells #[.int .i64 k, .slice p n c, .int .i64 m] 31)).alloc (by simp) (.cells #[.int .i64 k, .slice p' n c', .int .i64 m] 31))
  have HX := Lib.hid ((Bx.new w 31 #[.int .i64 k, .slice p n c, .int .i64 m]).alloc (.cells #[.int .i64 k, .slice p' n c', .int .i64 m] 31))
  have hy := Bx.new (w.alloc (.cells #[.int .i64 k, .slice p n c, .int .i64 m] 31)) 31 #[.int .i64 k, .slice p' n c', .int .i64 m]
  rw [World.size_alloc] at hy
  have HY := Lib.hid hy
  clear hr hr' hy
  go_enter Try.func18, Try.ntmps18
  go_wp2_with fail
  refine (SlI.eq_any _ _ _ _ _ _ _ (HP.out.below HB.out) (HP'.out.below HB.out)).mono ?_
  rintro e w1 ⟨rfl, hb⟩
  have HB1 := Lib.hid (below_on HB.out hb)
  obtain ⟨x0, x1, x2⟩ := bx3 (HX.out.below hb)
  obtain ⟨y0, y1, y2⟩ := bx3 (HY.out.below hb)
  clear hb
  go_wp2_with fail
  go_ret
  exact ⟨rfl, HB1.out⟩
theorem szI_big (q : Option Addr) (m d : Nat) (left : Int) (w : World) (h0 : 0 ≤ left) (h1 : left ≤ 1048576) (h : left < m) (hn : m ≤ 9223372036854775807) : Calls Try.prog 49 #[.slice q m d, .int .i64 left] w fun e w' => e = .returned (.int .i64 (-1)) ∧ w = w' := by
  go_enter Try.func49, Try.ntmps49
  go_wp2_with fail
  go_ret
  exact ⟨rfl, rfl⟩
theorem szI_fits (q : Option Addr) (m d : Nat) (left : Int) (w : World) (h1 : left ≤ 1048576) (h : m ≤ left) : Calls Try.prog 49 #[.slice q m d, .int .i64 left] w fun e w' => e = .returned (.int .i64 (left - m)) ∧ w = w' := by
  go_enter Try.func49, Try.ntmps49
  go_wp2_with fail
  go_ret
  exact ⟨rfl, rfl⟩
set_option maxRecDepth 100000 in
theorem sz_fits (k : Int) (p : Option Addr) (n c : Nat) (m : Int) (left : Int) (w : World) (h1 : left ≤ 1048576) (h : n ≤ left) : Calls Try.prog 12 #[.agg #[.int .i64 k, .slice p n c, .int .i64 m], .int .i64 left] w (Val (.int .i64 (left - n)) w) := by
  have HB := Lib.hid (box1 w (.cells #[.int .i64 k, .slice p n c, .int .i64 m] 25))
  go_enter Try.func12, Try.ntmps12
  go_wp2_with fail
  refine (szI_fits _ _ _ _ _ (by omega) (by omega)).mono ?_
  rintro e w1 ⟨rfl, rfl⟩
  go_wp2_with fail
  go_ret
  exact ⟨rfl, HB.out⟩
set_option maxRecDepth 100000 in
theorem sz_big (k : Int) (p : Option Addr) (n c : Nat) (m : Int) (left : Int) (w : World) (h0 : 0 ≤ left) (h1 : left ≤ 1048576) (h : left < n) (hn : n ≤ 9223372036854775807) : Calls Try.prog 12 #[.agg #[.int .i64 k, .slice p n c, .int .i64 m], .int .i64 left] w (Val (.int .i64 (-1)) w) := by
  have HB := Lib.hid (box1 w (.cells #[.int .i64 k, .slice p n c, .int .i64 m] 25))
  go_enter Try.func12, Try.ntmps12
  go_wp2_with fail
  refine (szI_big _ _ _ _ _ (by omega) (by omega) (by omega) hn).mono ?_
  rintro e w1 ⟨rfl, rfl⟩
  go_wp2_with fail
  go_ret
  exact ⟨rfl, HB.out⟩
theorem grown_from {w w' : World} {o : Obj} {r : Option Nat} (h : (w.alloc o).grownBy w' r) : w.grownBy w' r :=
  ⟨h.os, h.tape, h.output, Nat.le_trans (by simp) h.size, fun i hi hne => (h.block i (by simp; omega) hne).trans (Below.heap_alloc w o i hi)⟩
end Go.Proofs.Ytgmoldianhkifaa.SlPiece
