/- Contracts of the laws' helpers over slices of strings: opened, copied, compared, measured. -/
import Derived.Test.YtjaholcmaafenaaStM
import Derived.Test.YtjaholcmaafenaaSlI
import Derived.Deep.Strs
import Derived.Deep.QuietTactic
import Derived.BigQuiet
import Derived.LoopTactic
import Derived.Outline
namespace Go.Proofs.Ytjaholcmaafenaa.SlStr
open Go.ChangeShapes Go.WideShapes Go.ChangeAt Go.RowKit Sl St

def E : En ByteArray := ⟨fun s => [.string s], 1, fun _ => rfl, fun x v h => by simp only [List.mem_cons, List.not_mem_nil, or_false] at h; subst h; rfl, by decide⟩
theorem C_eq : E.C = 1 := rfl
theorem of_eq (x : ByteArray) : E.of x = [.string x] := rfl
theorem info : (Try.prog.info? 9).map (fun i => (i.zero, i.size, i.bytes)) = some (some (.string ByteArray.empty), 1, 16) := by kernel_rfl
set_option maxRecDepth 100000 in
/-- what a slice of strings gives, as cells -/
theorem open_cells {H : Type} {enc : TypeId × Value → H} {W : World} {fuel : Nat} {cs : List Value} {x : DataW H × List MemPlace} (h : DataW.trod enc Try.prog W 0 (fun _ => true) true fuel 26 cs = some x) :
    ∃ p n c xs, cs = [.slice p n c] ∧ RdS E W p n xs ∧ ∀ s ∈ xs, s.size ≤ 9223372036854775807 := by
  have c1 : Try.prog.cellsOf 9 = 1 := by kernel_rfl
  rcases Go.Deep.open_strs Try.underlying26 Try.underlying9 c1 h with ⟨hcs, _⟩ | ⟨a, len, cap, m, Sx, hcs, _, hl, hm, hmm, _, hel⟩
  · exact ⟨_, _, _, [], hcs, RdS.nil_ _ _ _, fun s hs => by cases hs⟩
  · simp only [if_true] at hmm
    subst hmm
    refine ⟨_, _, _, (List.range len).map Sx, hcs, ⟨by simp, by omega, fun hpos => ?_⟩, fun s hs => ?_⟩
    · obtain ⟨ab, ao, spot⟩ := a
      have hspot : spot = none := by simpa [Addr.add] using World.cell?_spot (hel 0 (by omega)).1
      subst hspot
      refine ⟨ab, ao, rfl, World.block_lt_of_cell? W _ (hel 0 (by omega)).1, fun i x hx j v hv => ?_⟩
      have hi : i < len := by
        have := (List.getElem?_eq_some_iff.1 hx).1
        simpa using this
      rw [List.getElem?_map, List.getElem?_range hi, Option.map_some, Option.some.injEq] at hx
      subst hx
      have hj : j = 0 := by
        have := (List.getElem?_eq_some_iff.1 hv).1
        rw [E.len, C_eq] at this
        omega
      subst hj
      simp only [of_eq, List.getElem?_cons_zero, Option.some.injEq] at hv
      subst hv
      have := (hel i (by omega)).1
      rw [Addr.add_lit] at this
      rw [C_eq, Nat.mul_one, Nat.add_zero]
      exact this
    · simp only [List.mem_map, List.mem_range] at hs
      obtain ⟨i, hi, rfl⟩ := hs
      have := (hel i (by omega)).2
      simpa [maxLen] using this
set_option maxRecDepth 100000 in
/-- what a slice of ints gives, as cells -/
theorem open_cellsI {H : Type} {enc : TypeId × Value → H} {W : World} {fuel : Nat} {cs : List Value} {x : DataW H × List MemPlace} (h : DataW.trod enc Try.prog W 0 (fun _ => true) true fuel 27 cs = some x) :
    ∃ p n c zs, cs = [.slice p n c] ∧ Rd .i64 W p n zs := by
  have c1 : Try.prog.cellsOf 3 = 1 := by kernel_rfl
  rcases open_ints Try.underlying27 Try.underlying3 c1 h with ⟨hcs, _⟩ | ⟨a, len, cap, zs, hcs, _, hl, hm, hz, _, hcell, hwz⟩
  · exact ⟨_, _, _, [], hcs, Rd.nil_ _ _ _⟩
  · simp only [if_true] at hz
    refine ⟨_, _, _, zs.take len, hcs, by rw [List.length_take]; omega, by omega, fun x hx => SlI.wf_in (hwz x (List.mem_of_mem_take hx)), fun hpos => ?_⟩
    obtain ⟨ab, ao, spot⟩ := a
    have hspot : spot = none := by simpa [Addr.add] using World.cell?_spot (hcell 0 (by omega))
    subst hspot
    refine ⟨ab, ao, rfl, World.block_lt_of_cell? W _ (hcell 0 (by omega)), fun j hj => ?_⟩
    have hcj := hcell j (by omega)
    rw [Addr.add_lit] at hcj
    rw [getD_take _ hj]
    exact hcj
/-- The call answers a value; what lay before is as it was. -/
def Val (v : Value) (w : World) (e : Ending) (w' : World) : Prop := e = .returned v ∧ Below w.heap.size w w'
/-- The call answers a new slice that reads as xs; what lay before is as it was. -/
def Makes (xs : List ByteArray) (w : World) (e : Ending) (w' : World) : Prop := ∃ p n c, e = .returned (.slice p n c) ∧ OwS E 9 w' w.heap.size w'.heap.size p n c xs ∧ Below w.heap.size w w'
/-- The call answers true; what lay before is as it was. -/
def Yes (w : World) (e : Ending) (w' : World) : Prop := e = .returned (.bool true) ∧ Below w.heap.size w w'
theorem rd_at {w : World} {p : Option Addr} {n k : Nat} {xs : List ByteArray} (h : RdS E w p n xs) (hk : k < n) : ∃ b o, p = some ⟨b, o, none⟩ ∧ b < w.heap.size ∧ w.cell? ⟨b, o + k, none⟩ = some (.string (xs.getD k ByteArray.empty)) := by
  obtain ⟨b, o, x, e, hb, hx, hc⟩ := h.at_ hk
  have hd : xs.getD k ByteArray.empty = x := by rw [List.getD_eq_getElem?_getD, hx]; rfl
  have h0 := hc 0 _ rfl
  rw [C_eq, Nat.mul_one, Nat.add_zero] at h0
  rw [hd]
  exact ⟨b, o, e, hb, h0⟩

/-! ### a copy -/
/-- the copy after j elements -/
def Mid (xs : List ByteArray) (n j : Nat) (w wr : World) : Prop := OwS E 9 wr w.heap.size wr.heap.size (some ⟨w.heap.size, 0, none⟩) n n (xs.take j ++ List.replicate (n - j) ByteArray.empty) ∧ Below w.heap.size w wr
theorem Mid.start {xs : List ByteArray} {n : Nat} {w w1 : World} (hown : w1.ownsRow w.heap.size 9 1 (.slice (some ⟨w.heap.size, 0, none⟩) n n) n (madeCells (Value.cells (.string ByteArray.empty)) (n * 1)).toList) (hg : w.grownBy w1 none) : Mid xs n 0 w w1 := by
  have e := made_fl (E := E) (.string ByteArray.empty) ByteArray.empty rfl n
  rw [C_eq] at e
  rw [e] at hown
  exact ⟨OwS.of_row hown, (Below.refl _ _).grown hg (Nat.le_refl _) (fun _ h => by cases h)⟩
theorem Mid.next {xs : List ByteArray} {n j : Nat} {w wr : World} {x : ByteArray} (h : Mid xs n j w wr) (hj : j < n) (hl : xs.length = n) (hx : xs.getD j ByteArray.empty = x) : Mid xs n (j + 1) w (wr.setCell ⟨w.heap.size, j, none⟩ (.string x)) := by
  obtain ⟨h3, h4⟩ := h.1.elem (i := j) hj x
  have e : wr.setCells w.heap.size (j * E.C) (E.of x) = wr.setCell ⟨w.heap.size, j, none⟩ (.string x) := by rw [C_eq, Nat.mul_one]; rfl
  rw [e] at h3 h4
  have hw : xs[j]'(by omega) = x := by rw [← hx, List.getD_eq_getElem?_getD, List.getElem?_eq_getElem (by omega)]; rfl
  clear hx
  subst hw hl
  rw [set_mid hj] at h3
  exact ⟨h3.wide (Nat.le_refl _) (Nat.le_trans h3.2.2.1 (Nat.le_refl _)) (Nat.le_refl _), h.2.grown h4 h.2.size (fun k e => by cases e; exact Nat.le_refl _)⟩
theorem Mid.done {xs : List ByteArray} {n : Nat} {w wr : World} (h : Mid xs n n w wr) (hl : xs.length = n) : Makes xs w (.returned (.slice (some ⟨w.heap.size, 0, none⟩) n n)) wr := by
  subst hl
  obtain ⟨h1, h2⟩ := h
  rw [List.take_length, Nat.sub_self, List.replicate_zero, List.append_nil] at h1
  exact ⟨_, _, _, rfl, h1, h2⟩
theorem Mid.cell {xs : List ByteArray} {n j : Nat} {w wr : World} (h : Mid xs n j w wr) (hj : j < n) (hl : xs.length = n) : wr.cell? ⟨w.heap.size, j, none⟩ = some (.string ByteArray.empty) := by
  have hx : (xs.take j ++ List.replicate (n - j) ByteArray.empty)[j]? = some ByteArray.empty := by
    rw [List.getElem?_append_right (by rw [List.length_take]; omega), List.length_take, List.getElem?_replicate, if_pos (by omega)]
  have h0 := h.1.cell (j := 0) hx rfl
  rw [C_eq, Nat.mul_one, Nat.add_zero] at h0
  exact h0
set_option maxRecDepth 100000 in
set_option maxHeartbeats 2000000 in
theorem to_any (p : Option Addr) (n c : Nat) (xs : List ByteArray) (w : World) (hr : RdS E w p n xs) (hn : n ≤ 4398046511104) : Calls Try.prog 70 #[.slice p n c] w (Makes xs w) := by
  obtain ⟨i0, hi, hz0, hz1, hz2⟩ := info_parts info
  have HR := Lib.hid hr
  have HL := Lib.hid hr.len
  have hle := hr.le
  clear hr
  go_enter Try.func70, Try.ntmps70
  go_wp2_with (refine wpList_make_full _ rfl _ _ 26 rfl w.heap.size 9 i0 _ 1 Try.underlying26 hi hz0 hz1 .i64 .i64 _ _ n rfl rfl rfl rfl (by rw [hz2]; omega) (by unfold maxLen; omega) (Nat.le_refl _) ?_; intro w1 hown1 hg1)
  have HM := Lib.hid (Mid.start (xs := xs) hown1 hg1)
  clear hown1 hg1
  go_loopw [4] (fun i wr => ∃ k : Nat, k ≤ n ∧ i = .int .i64 k ∧ Hid (Mid xs n k w wr)) (fun i _ => n - (intOf i).toNat)
  case atStart => exact ⟨0, Nat.zero_le _, rfl, HM⟩
  case round =>
    obtain ⟨k, hk, rfl, HK⟩ := hrel
    by_cases hlt : k < n
    · obtain ⟨b, o, rfl, hb, hc⟩ := rd_at (HR.out.below HK.out.2) hlt
      generalize hx : xs.getD k ByteArray.empty = x at hc
      have HX := Lib.hid hx
      clear hx
      have hd := HK.out.cell hlt HL.out
      have hf := HK.out.1.free (i := k)
      have HN := Lib.hid (HK.out.next hlt HL.out HX.out)
      go_wp2_with fail
      go_roundw
      case rel => exact ⟨k + 1, by omega, by go_num, HN⟩
      case measure => simp [intOf]; omega
    · obtain rfl : k = n := by omega
      go_wp2_with fail
      go_ret
      exact HK.out.done HL.out
set_option maxRecDepth 100000 in
set_option maxHeartbeats 2000000 in
theorem eq_any (p p' : Option Addr) (n c c' : Nat) (xs : List ByteArray) (w : World) (hr : RdS E w p n xs) (hr' : RdS E w p' n xs) : Calls Try.prog 75 #[.slice p n c, .slice p' n c'] w (Yes w) := by
  have HR := Lib.hid hr
  have HR' := Lib.hid hr'
  have hle := hr.le
  clear hr hr'
  go_enter Try.func75, Try.ntmps75
  go_wp2_with fail
  go_loopw [5] (fun i wr => ∃ k : Nat, k ≤ n ∧ i = .int .i64 k ∧ Hid (Below w.heap.size w wr)) (fun i _ => n - (intOf i).toNat)
  case atStart => exact ⟨0, Nat.zero_le _, rfl, Below.refl _ _⟩
  case round =>
    obtain ⟨k, hk, rfl, HB⟩ := hrel
    by_cases hlt : k < n
    · obtain ⟨b, o, rfl, hb, hc⟩ := rd_at (HR.out.below HB.out) hlt
      obtain ⟨b', o', rfl, hb', hc'⟩ := rd_at (HR'.out.below HB.out) hlt
      generalize xs.getD k ByteArray.empty = x at hc hc'
      have i1 : (0 : Int) ≤ (k : Int) := by omega
      have i2 : (k : Int) < (n : Int) := by omega
      go_wp2_with fail
      go_quiet (fail)
      go_wp2_with fail
      go_roundw
      case rel => exact ⟨k + 1, by omega, by go_num, Lib.hid (below_drewN HB.out _)⟩
      case measure => simp [intOf]; omega
    · obtain rfl : k = n := by omega
      go_wp2_with fail
      go_ret
      exact ⟨rfl, HB.out⟩

/-! ### the measure -/
def tot (xs : List ByteArray) : Nat := (xs.map fun s => s.size).sum
theorem tot_take {xs : List ByteArray} {k : Nat} (h : k < xs.length) : tot (xs.take (k + 1)) = tot (xs.take k) + (xs.getD k ByteArray.empty).size := by
  unfold tot
  rw [List.take_succ_eq_append_getElem h, List.map_append, List.sum_append, List.getD_eq_getElem?_getD, List.getElem?_eq_getElem h]
  simp
theorem tot_le (xs : List ByteArray) (k : Nat) : tot (xs.take k) ≤ tot xs := by
  have h : tot xs = tot (xs.take k) + tot (xs.drop k) := by unfold tot; rw [← List.sum_append, ← List.map_append, List.take_append_drop]
  omega
theorem tot_cons (x : ByteArray) (xs : List ByteArray) : tot (x :: xs) = x.size + tot xs := by simp [tot]
theorem size_le {s : ByteArray} : ∀ {xs : List ByteArray}, s ∈ xs → s.size ≤ tot xs
  | [], h => by cases h
  | x :: xs, h => by
    rw [tot_cons]
    rcases List.mem_cons.1 h with rfl | h
    · omega
    · have := size_le h
      omega
/-- the whole is within the limit, or the measure says -1 -/
def szI (xs : List ByteArray) (left : Nat) : Int := if xs.length + tot xs ≤ left then (left : Int) - xs.length - tot xs else -1
set_option maxRecDepth 100000 in
set_option maxHeartbeats 2000000 in
theorem sz_any (p : Option Addr) (n c : Nat) (xs : List ByteArray) (left : Nat) (w : World) (hr : RdS E w p n xs) (hs : ∀ s ∈ xs, s.size ≤ 9223372036854775807) (hleft : left ≤ 1048576) : Calls Try.prog 65 #[.slice p n c, .int .i64 left] w fun e w' => e = .returned (.int .i64 (szI xs left)) ∧ w = w' := by
  have HR := Lib.hid hr
  have hl := hr.len
  have hle := hr.le
  clear hr
  by_cases hbig : left < n
  · have HS : Hid (szI xs left = -1) := Lib.hid (if_neg (by omega))
    go_enter Try.func65, Try.ntmps65
    go_wp2_with fail
    go_ret
    exact ⟨by rw [HS.out]; rfl, rfl⟩
  have HL := Lib.hid hl
  clear hl
  go_enter Try.func65, Try.ntmps65
  go_wp2_with fail
  go_loop [1, 5] (fun v i => ∃ k t : Nat, k ≤ n ∧ i = .int .i64 k ∧ v = .int .i64 ((left : Int) - n - t) ∧ n + t ≤ left ∧ Hid (t = tot (xs.take k))) (fun _ i => n - (intOf i).toNat)
  case atStart => exact ⟨0, 0, Nat.zero_le _, rfl, by simp, by omega, Lib.hid rfl⟩
  case round =>
    obtain ⟨k, t, hk, rfl, rfl, ht, HT⟩ := hrel
    by_cases hlt : k < n
    · obtain ⟨b, o, rfl, hb, hc⟩ := rd_at HR.out hlt
      have hsz : (xs.getD k ByteArray.empty).size ≤ 9223372036854775807 := hs _ (by rw [List.getD_eq_getElem?_getD, List.getElem?_eq_getElem (by rw [HL.out]; exact hlt)]; exact List.getElem_mem _)
      have hnx := tot_take (xs := xs) (k := k) (by rw [HL.out]; exact hlt)
      generalize xs.getD k ByteArray.empty = x at hc hsz hnx
      by_cases hfit : n + t + x.size ≤ left
      · have HN : Hid (t + x.size = tot (xs.take (k + 1))) := Lib.hid (by rw [hnx, HT.out])
        clear hnx
        go_wp2_with fail
        go_round
        case rel => exact ⟨k + 1, t + x.size, by omega, by go_num, by congr 1; omega, by omega, HN⟩
        case measure => simp [intOf]; omega
      · have HS : Hid (szI xs left = -1) := Lib.hid (if_neg (by have h1 := tot_le xs (k + 1); have h2 := HT.out; have h3 := HL.out; omega))
        clear hnx
        go_wp2_with fail
        go_ret
        exact ⟨by rw [HS.out]; rfl, rfl⟩
    · obtain rfl : k = n := by omega
      have HS : Hid (szI xs left = (left : Int) - k - t) := Lib.hid (by have h2 := HT.out; rw [List.take_of_length_le (by rw [HL.out]; exact Nat.le_refl _)] at h2; unfold szI; rw [if_pos (by have h3 := HL.out; omega), ← h2, HL.out])
      go_wp2_with fail
      go_ret
      exact ⟨by rw [HS.out]; rfl, rfl⟩
end Go.Proofs.Ytjaholcmaafenaa.SlStr
