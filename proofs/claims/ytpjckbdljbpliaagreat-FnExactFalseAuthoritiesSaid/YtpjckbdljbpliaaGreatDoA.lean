/- Contracts of the laws' helpers over slices of strings: opened, copied, compared, measured. Slices of strings among data of any depth. Contracts of the laws' helpers over Document: opened, measured, copied, compared; by value and in slices. -/
import Derived.Test.YtpjckbdljbpliaaGreatStM
import Derived.Test.YtpjckbdljbpliaaGreatSlI
import Derived.Deep.Strs
import Derived.Deep.QuietTactic
import Derived.BigQuiet
import Derived.LoopTactic
import Derived.Outline
import Derived.Test.YtpjckbdljbpliaaGreatEd
import Derived.Test.YtpjckbdljbpliaaGreatDz
import Derived.OpenShut
import Derived.Deep.Fields
import Derived.Deep.RegionHeld3
namespace Go.Proofs.YtpjckbdljbpliaaGreat.SlStr
open Go.ChangeShapes Go.WideShapes Go.ChangeAt Go.RowKit Sl St

def E : En ByteArray := ⟨fun s => [.string s], 1, fun _ => rfl, fun x v h => by simp only [List.mem_cons, List.not_mem_nil, or_false] at h; subst h; rfl, by decide⟩
theorem C_eq : E.C = 1 := rfl
theorem of_eq (x : ByteArray) : E.of x = [.string x] := rfl
theorem info : (Tryz.prog.info? 9).map (fun i => (i.zero, i.size, i.bytes)) = some (some (.string ByteArray.empty), 1, 16) := by kernel_rfl
set_option maxRecDepth 100000 in
/-- what a slice of strings gives, as cells -/
theorem open_cells {H : Type} {enc : TypeId × Value → H} {W : World} {fuel : Nat} {cs : List Value} {x : DataW H × List MemPlace} (h : DataW.trod enc Tryz.prog W 0 (fun _ => true) true fuel 70 cs = some x) :
    ∃ p n c xs, cs = [.slice p n c] ∧ RdS E W p n xs ∧ ∀ s ∈ xs, s.size ≤ 9223372036854775807 := by
  have c1 : Tryz.prog.cellsOf 9 = 1 := by kernel_rfl
  rcases Go.Deep.open_strs Tryz.underlying70 Tryz.underlying9 c1 h with ⟨hcs, _⟩ | ⟨a, len, cap, m, Sx, hcs, _, hl, hm, hmm, _, hel⟩
  · exact ⟨_, _, _, [], hcs, RdS.nil_ _ _ _, fun s hs => by cases hs⟩
  · simp only [if_true] at hmm
    subst hmm
    refine ⟨_, _, _, (List.range len).map Sx, hcs, ⟨by simp, by omega, fun hpos => ?_⟩, fun s hs => ?_⟩
    · obtain ⟨ab, ao, spot⟩ := a
      have hspot : spot = none := by simpa [Addr.add] using World.cell?_spot (hel 0 (by omega)).1
      subst hspot
      refine ⟨ab, ao, rfl, World.block_lt_of_cell? W _ (hel 0 (by omega)).1, fun i x hx j v hv => ?_⟩
      have hi : i < len := by
        have := (List.getElem?_eq_some_iff.1 hx).1
        simpa using this
      rw [List.getElem?_map, List.getElem?_range hi, Option.map_some, Option.some.injEq] at hx
      subst hx
      have hj : j = 0 := by
        have := (List.getElem?_eq_some_iff.1 hv).1
        rw [E.len, C_eq] at this
        omega
      subst hj
      simp only [of_eq, List.getElem?_cons_zero, Option.some.injEq] at hv
      subst hv
      have := (hel i (by omega)).1
      rw [Addr.add_lit] at this
      rw [C_eq, Nat.mul_one, Nat.add_zero]
      exact this
    · simp only [List.mem_map, List.mem_range] at hs
      obtain ⟨i, hi, rfl⟩ := hs
      have := (hel i (by omega)).2
      simpa [maxLen] using this
set_option maxRecDepth 100000 in
/-- what a slice of ints gives, as cells -/
theorem open_cellsI {H : Type} {enc : TypeId × Value → H} {W : World} {fuel : Nat} {cs : List Value} {x : DataW H × List MemPlace} (h : DataW.trod enc Tryz.prog W 0 (fun _ => true) true fuel 32 cs = some x) :
    ∃ p n c zs, cs = [.slice p n c] ∧ Rd .i64 W p n zs := by
  have c1 : Tryz.prog.cellsOf 3 = 1 := by kernel_rfl
  rcases open_ints Tryz.underlying32 Tryz.underlying3 c1 h with ⟨hcs, _⟩ | ⟨a, len, cap, zs, hcs, _, hl, hm, hz, _, hcell, hwz⟩
  · exact ⟨_, _, _, [], hcs, Rd.nil_ _ _ _⟩
  · simp only [if_true] at hz
    refine ⟨_, _, _, zs.take len, hcs, by rw [List.length_take]; omega, by omega, fun x hx => SlI.wf_in (hwz x (List.mem_of_mem_take hx)), fun hpos => ?_⟩
    obtain ⟨ab, ao, spot⟩ := a
    have hspot : spot = none := by simpa [Addr.add] using World.cell?_spot (hcell 0 (by omega))
    subst hspot
    refine ⟨ab, ao, rfl, World.block_lt_of_cell? W _ (hcell 0 (by omega)), fun j hj => ?_⟩
    have hcj := hcell j (by omega)
    rw [Addr.add_lit] at hcj
    rw [getD_take _ hj]
    exact hcj
/-- The call answers a value; what lay before is as it was. -/
def Val (v : Value) (w : World) (e : Ending) (w' : World) : Prop := e = .returned v ∧ Below w.heap.size w w'
/-- The call answers a new slice that reads as xs; what lay before is as it was. -/
def Makes (xs : List ByteArray) (w : World) (e : Ending) (w' : World) : Prop := ∃ p n c, e = .returned (.slice p n c) ∧ OwS E 9 w' w.heap.size w'.heap.size p n c xs ∧ Below w.heap.size w w'
/-- The call answers true; what lay before is as it was. -/
def Yes (w : World) (e : Ending) (w' : World) : Prop := e = .returned (.bool true) ∧ Below w.heap.size w w'
theorem rd_at {w : World} {p : Option Addr} {n k : Nat} {xs : List ByteArray} (h : RdS E w p n xs) (hk : k < n) : ∃ b o, p = some ⟨b, o, none⟩ ∧ b < w.heap.size ∧ w.cell? ⟨b, o + k, none⟩ = some (.string (xs.getD k ByteArray.empty)) := by
  obtain ⟨b, o, x, e, hb, hx, hc⟩ := h.at_ hk
  have hd : xs.getD k ByteArray.empty = x := by rw [List.getD_eq_getElem?_getD, hx]; rfl
  have h0 := hc 0 _ rfl
  rw [C_eq, Nat.mul_one, Nat.add_zero] at h0
  rw [hd]
  exact ⟨b, o, e, hb, h0⟩

/-! ### a copy -/
/-- the copy after j elements -/
def Mid (xs : List ByteArray) (n j : Nat) (w wr : World) : Prop := OwS E 9 wr w.heap.size wr.heap.size (some ⟨w.heap.size, 0, none⟩) n n (xs.take j ++ List.replicate (n - j) ByteArray.empty) ∧ Below w.heap.size w wr
theorem Mid.start {xs : List ByteArray} {n : Nat} {w w1 : World} (hown : w1.ownsRow w.heap.size 9 1 (.slice (some ⟨w.heap.size, 0, none⟩) n n) n (madeCells (Value.cells (.string ByteArray.empty)) (n * 1)).toList) (hg : w.grownBy w1 none) : Mid xs n 0 w w1 := by
  have e := made_fl (E := E) (.string ByteArray.empty) ByteArray.empty rfl n
  rw [C_eq] at e
  rw [e] at hown
  exact ⟨OwS.of_row hown, (Below.refl _ _).grown hg (Nat.le_refl _) (fun _ h => by cases h)⟩
theorem Mid.next {xs : List ByteArray} {n j : Nat} {w wr : World} {x : ByteArray} (h : Mid xs n j w wr) (hj : j < n) (hl : xs.length = n) (hx : xs.getD j ByteArray.empty = x) : Mid xs n (j + 1) w (wr.setCell ⟨w.heap.size, j, none⟩ (.string x)) := by
  obtain ⟨h3, h4⟩ := h.1.elem (i := j) hj x
  have e : wr.setCells w.heap.size (j * E.C) (E.of x) = wr.setCell ⟨w.heap.size, j, none⟩ (.string x) := by rw [C_eq, Nat.mul_one]; rfl
  rw [e] at h3 h4
  have hw : xs[j]'(by omega) = x := by rw [← hx, List.getD_eq_getElem?_getD, List.getElem?_eq_getElem (by omega)]; rfl
  clear hx
  subst hw hl
  rw [set_mid hj] at h3
  exact ⟨h3.wide (Nat.le_refl _) (Nat.le_trans h3.2.2.1 (Nat.le_refl _)) (Nat.le_refl _), h.2.grown h4 h.2.size (fun k e => by cases e; exact Nat.le_refl _)⟩
theorem Mid.done {xs : List ByteArray} {n : Nat} {w wr : World} (h : Mid xs n n w wr) (hl : xs.length = n) : Makes xs w (.returned (.slice (some ⟨w.heap.size, 0, none⟩) n n)) wr := by
  subst hl
  obtain ⟨h1, h2⟩ := h
  rw [List.take_length, Nat.sub_self, List.replicate_zero, List.append_nil] at h1
  exact ⟨_, _, _, rfl, h1, h2⟩
theorem Mid.cell {xs : List ByteArray} {n j : Nat} {w wr : World} (h : Mid xs n j w wr) (hj : j < n) (hl : xs.length = n) : wr.cell? ⟨w.heap.size, j, none⟩ = some (.string ByteArray.empty) := by
  have hx : (xs.take j ++ List.replicate (n - j) ByteArray.empty)[j]? = some ByteArray.empty := by
    rw [List.getElem?_append_right (by rw [List.length_take]; omega), List.length_take, List.getElem?_replicate, if_pos (by omega)]
  have h0 := h.1.cell (j := 0) hx rfl
  rw [C_eq, Nat.mul_one, Nat.add_zero] at h0
  exact h0
set_option maxRecDepth 100000 in
set_option maxHeartbeats 2000000 in
theorem to_any (p : Option Addr) (n c : Nat) (xs : List ByteArray) (w : World) (hr : RdS E w p n xs) (hn : n ≤ 4398046511104) : Calls Tryz.prog 100 #[.slice p n c] w (Makes xs w) := by
  obtain ⟨i0, hi, hz0, hz1, hz2⟩ := info_parts info
  have HR := Lib.hid hr
  have HL := Lib.hid hr.len
  have hle := hr.le
  clear hr
  go_enter Tryz.func100, Tryz.ntmps100
  go_wp2_with (refine wpList_make_full _ rfl _ _ 70 rfl w.heap.size 9 i0 _ 1 Tryz.underlying70 hi hz0 hz1 .i64 .i64 _ _ n rfl rfl rfl rfl (by rw [hz2]; omega) (by unfold maxLen; omega) (Nat.le_refl _) ?_; intro w1 hown1 hg1)
  have HM := Lib.hid (Mid.start (xs := xs) hown1 hg1)
  clear hown1 hg1
  go_loopw [4] (fun i wr => ∃ k : Nat, k ≤ n ∧ i = .int .i64 k ∧ Hid (Mid xs n k w wr)) (fun i _ => n - (intOf i).toNat)
  case atStart => exact ⟨0, Nat.zero_le _, rfl, HM⟩
  case round =>
    obtain ⟨k, hk, rfl, HK⟩ := hrel
    by_cases hlt : k < n
    · obtain ⟨b, o, rfl, hb, hc⟩ := rd_at (HR.out.below HK.out.2) hlt
      generalize hx : xs.getD k ByteArray.empty = x at hc
      have HX := Lib.hid hx
      clear hx
      have hd := HK.out.cell hlt HL.out
      have hf := HK.out.1.free (i := k)
      have HN := Lib.hid (HK.out.next hlt HL.out HX.out)
      go_wp2_with fail
      go_roundw
      case rel => exact ⟨k + 1, by omega, by go_num, HN⟩
      case measure => simp [intOf]; omega
    · obtain rfl : k = n := by omega
      go_wp2_with fail
      go_ret
      exact HK.out.done HL.out
set_option maxRecDepth 100000 in
set_option maxHeartbeats 2000000 in
theorem eq_any (p p' : Option Addr) (n c c' : Nat) (xs : List ByteArray) (w : World) (hr : RdS E w p n xs) (hr' : RdS E w p' n xs) : Calls Tryz.prog 108 #[.slice p n c, .slice p' n c'] w (Yes w) := by
  have HR := Lib.hid hr
  have HR' := Lib.hid hr'
  have hle := hr.le
  clear hr hr'
  go_enter Tryz.func108, Tryz.ntmps108
  go_wp2_with fail
  go_loopw [5] (fun i wr => ∃ k : Nat, k ≤ n ∧ i = .int .i64 k ∧ Hid (Below w.heap.size w wr)) (fun i _ => n - (intOf i).toNat)
  case atStart => exact ⟨0, Nat.zero_le _, rfl, Below.refl _ _⟩
  case round =>
    obtain ⟨k, hk, rfl, HB⟩ := hrel
    by_cases hlt : k < n
    · obtain ⟨b, o, rfl, hb, hc⟩ := rd_at (HR.out.below HB.out) hlt
      obtain ⟨b', o', rfl, hb', hc'⟩ := rd_at (HR'.out.below HB.out) hlt
      generalize xs.getD k ByteArray.empty = x at hc hc'
      have i1 : (0 : Int) ≤ (k : Int) := by omega
      have i2 : (k : Int) < (n : Int) := by omega
      go_wp2_with fail
      go_quiet (fail)
      go_wp2_with fail
      go_roundw
      case rel => exact ⟨k + 1, by omega, by go_num, Lib.hid (below_drewN HB.out _)⟩
      case measure => simp [intOf]; omega
    · obtain rfl : k = n := by omega
      go_wp2_with fail
      go_ret
      exact ⟨rfl, HB.out⟩

/-! ### the measure -/
def tot (xs : List ByteArray) : Nat := (xs.map fun s => s.size).sum
theorem tot_take {xs : List ByteArray} {k : Nat} (h : k < xs.length) : tot (xs.take (k + 1)) = tot (xs.take k) + (xs.getD k ByteArray.empty).size := by
  unfold tot
  rw [List.take_succ_eq_append_getElem h, List.map_append, List.sum_append, List.getD_eq_getElem?_getD, List.getElem?_eq_getElem h]
  simp
theorem tot_le (xs : List ByteArray) (k : Nat) : tot (xs.take k) ≤ tot xs := by
  have h : tot xs = tot (xs.take k) + tot (xs.drop k) := by unfold tot; rw [← List.sum_append, ← List.map_append, List.take_append_drop]
  omega
theorem tot_cons (x : ByteArray) (xs : List ByteArray) : tot (x :: xs) = x.size + tot xs := by simp [tot]
theorem size_le {s : ByteArray} : ∀ {xs : List ByteArray}, s ∈ xs → s.size ≤ tot xs
  | [], h => by cases h
  | x :: xs, h => by
    rw [tot_cons]
    rcases List.mem_cons.1 h with rfl | h
    · omega
    · have := size_le h
      omega
/-- the whole is within the limit, or the measure says -1 -/
def szI (xs : List ByteArray) (left : Nat) : Int := if xs.length + tot xs ≤ left then (left : Int) - xs.length - tot xs else -1
set_option maxRecDepth 100000 in
set_option maxHeartbeats 2000000 in
theorem sz_any (p : Option Addr) (n c : Nat) (xs : List ByteArray) (left : Nat) (w : World) (hr : RdS E w p n xs) (hs : ∀ s ∈ xs, s.size ≤ 9223372036854775807) (hleft : left ≤ 1048576) : Calls Tryz.prog 94 #[.slice p n c, .int .i64 left] w fun e w' => e = .returned (.int .i64 (szI xs left)) ∧ w = w' := by
  have HR := Lib.hid hr
  have hl := hr.len
  have hle := hr.le
  clear hr
  by_cases hbig : left < n
  · have HS : Hid (szI xs left = -1) := Lib.hid (if_neg (by omega))
    go_enter Tryz.func94, Tryz.ntmps94
    go_wp2_with fail
    go_ret
    exact ⟨by rw [HS.out]; rfl, rfl⟩
  have HL := Lib.hid hl
  clear hl
  go_enter Tryz.func94, Tryz.ntmps94
  go_wp2_with fail
  go_loop [1, 5] (fun v i => ∃ k t : Nat, k ≤ n ∧ i = .int .i64 k ∧ v = .int .i64 ((left : Int) - n - t) ∧ n + t ≤ left ∧ Hid (t = tot (xs.take k))) (fun _ i => n - (intOf i).toNat)
  case atStart => exact ⟨0, 0, Nat.zero_le _, rfl, by simp, by omega, Lib.hid rfl⟩
  case round =>
    obtain ⟨k, t, hk, rfl, rfl, ht, HT⟩ := hrel
    by_cases hlt : k < n
    · obtain ⟨b, o, rfl, hb, hc⟩ := rd_at HR.out hlt
      have hsz : (xs.getD k ByteArray.empty).size ≤ 9223372036854775807 := hs _ (by rw [List.getD_eq_getElem?_getD, List.getElem?_eq_getElem (by rw [HL.out]; exact hlt)]; exact List.getElem_mem _)
      have hnx := tot_take (xs := xs) (k := k) (by rw [HL.out]; exact hlt)
      generalize xs.getD k ByteArray.empty = x at hc hsz hnx
      by_cases hfit : n + t + x.size ≤ left
      · have HN : Hid (t + x.size = tot (xs.take (k + 1))) := Lib.hid (by rw [hnx, HT.out])
        clear hnx
        go_wp2_with fail
        go_round
        case rel => exact ⟨k + 1, t + x.size, by omega, by go_num, by congr 1; omega, by omega, HN⟩
        case measure => simp [intOf]; omega
      · have HS : Hid (szI xs left = -1) := Lib.hid (if_neg (by have h1 := tot_le xs (k + 1); have h2 := HT.out; have h3 := HL.out; omega))
        clear hnx
        go_wp2_with fail
        go_ret
        exact ⟨by rw [HS.out]; rfl, rfl⟩
    · obtain rfl : k = n := by omega
      have HS : Hid (szI xs left = (left : Int) - k - t) := Lib.hid (by have h2 := HT.out; rw [List.take_of_length_le (by rw [HL.out]; exact Nat.le_refl _)] at h2; unfold szI; rw [if_pos (by have h3 := HL.out; omega), ← h2, HL.out])
      go_wp2_with fail
      go_ret
      exact ⟨by rw [HS.out]; rfl, rfl⟩
end Go.Proofs.YtpjckbdljbpliaaGreat.SlStr

namespace Go.Proofs.YtpjckbdljbpliaaGreat.Dstr
open Go.ChangeShapes Go.WideShapes Go.ChangeAt Go.RowKit Sl St Ed Dz
theorem o_strs {H : Type} {enc : TypeId × Value → H} {W : World} {fuel : Nat} {cs : List Value} {X : DataW H × List MemPlace} (h : DataW.trod enc Tryz.prog W 0 (fun _ => true) true fuel 70 cs = some X) : ∃ x, (sl str).rd (fun _ => True) W cs x := by
  obtain ⟨p, n, c, xs, rfl, hr, hs⟩ := SlStr.open_cells h
  have hk : n ≤ c := by
    rcases Go.Deep.open_strs Tryz.underlying70 Tryz.underlying9 (by kernel_rfl) h with ⟨hcs, _⟩ | ⟨a, len, cap, m, Sx, hcs, _, hl, _⟩
    · simp only [List.cons.injEq, Value.slice.injEq, and_true] at hcs
      omega
    · simp only [List.cons.injEq, Value.slice.injEq, and_true] at hcs
      omega
  exact ⟨xs, p, n, c, rfl, hk, RdD.ofStrs SlStr.C_eq SlStr.of_eq hr hs (fun _ _ _ _ => trivial)⟩
theorem ofStrs {w : World} {lo hi : Nat} {T : TypeId} {p : Option Addr} {n c : Nat} {xs : List ByteArray} (h : OwS SlStr.E T w lo hi p n c xs) (hb : ∀ s ∈ xs, s.size ≤ 9223372036854775807) : RdD str (fun b => lo ≤ b) w p n xs := by
  refine RdD.ofStrs SlStr.C_eq SlStr.of_eq h.rd hb fun b o e _ => ?_
  rcases h.form with ⟨rfl, _, _⟩ | ⟨g, rfl, h1, _⟩
  · cases e
  · cases e
    exact h1
theorem tot_eq (xs : List ByteArray) : SlStr.tot xs = wts str xs := rfl
theorem szS_fits (p : Option Addr) (n c : Nat) (xs : List ByteArray) {S : Nat → Prop} (left : Int) (w : World) (h : RdD str S w p n xs) (g1 : left ≤ 1048576) (g2 : (n + wts str xs : Nat) ≤ left) : Calls Tryz.prog 94 #[.slice p n c, .int .i64 left] w (Val (.int .i64 (left - (n + wts str xs : Nat))) w) := by
  obtain ⟨L, rfl⟩ := Int.eq_ofNat_of_zero_le (show 0 ≤ left by omega)
  obtain ⟨hr, hs⟩ := h.strs SlStr.C_eq SlStr.of_eq
  have hl := h.len
  refine (SlStr.sz_any p n c xs L w hr hs (by omega)).mono ?_
  rintro e w1 ⟨rfl, rfl⟩
  refine val_of ?_ (Below.refl _ _)
  rw [SlStr.szI, tot_eq, if_pos (by omega)]
  congr 1
  omega
theorem szS_big (p : Option Addr) (n c : Nat) (xs : List ByteArray) {S : Nat → Prop} (left : Int) (w : World) (h : RdD str S w p n xs) (g0 : 0 ≤ left) (g1 : left ≤ 1048576) (g2 : left < (n + wts str xs : Nat)) : Calls Tryz.prog 94 #[.slice p n c, .int .i64 left] w (Val (.int .i64 (-1)) w) := by
  obtain ⟨L, rfl⟩ := Int.eq_ofNat_of_zero_le g0
  obtain ⟨hr, hs⟩ := h.strs SlStr.C_eq SlStr.of_eq
  have hl := h.len
  refine (SlStr.sz_any p n c xs L w hr hs (by omega)).mono ?_
  rintro e w1 ⟨rfl, rfl⟩
  refine val_of ?_ (Below.refl _ _)
  rw [SlStr.szI, tot_eq, if_neg (by omega)]
end Go.Proofs.YtpjckbdljbpliaaGreat.Dstr

namespace Go.Proofs.YtpjckbdljbpliaaGreat.DpDocument
open Go.ChangeShapes Go.WideShapes Go.ChangeAt Go.RowKit Sl St Ed Dz
abbrev A := Int × (List ByteArray) × (List Int)
def E : Ent A := pair int (pair (sl str) (sl int))
theorem C_eq : E.C = 3 := rfl
theorem exk {S : Nat → Prop} {w : World} {cs : List Value} {x0 : Int} {l1 : List ByteArray} {l2 : List Int} (h : E.rd S w cs (x0, l1, l2)) : ∃ (p1 : Option Addr) (n1 c1 : Nat) (p2 : Option Addr) (n2 c2 : Nat), cs = [.int .i64 x0, .slice p1 n1 c1, .slice p2 n2 c2] ∧ InI x0 ∧ RdD str S w p1 n1 l1 ∧ RdD int S w p2 n2 l2 ∧ n1 ≤ c1 ∧ n2 ≤ c2 := by
  obtain ⟨d0, e0, rfl, ⟨rfl, b0⟩, d1, e1, rfl, ⟨p1, n1, c1, rfl, k1, h1⟩, p2, n2, c2, rfl, k2, h2⟩ := h
  exact ⟨p1, n1, c1, p2, n2, c2, rfl, b0, h1, h2, k1, k2⟩
theorem ex {S : Nat → Prop} {w : World} {cs : List Value} {x0 : Int} {l1 : List ByteArray} {l2 : List Int} (h : E.rd S w cs (x0, l1, l2)) : ∃ (p1 : Option Addr) (n1 c1 : Nat) (p2 : Option Addr) (n2 c2 : Nat), cs = [.int .i64 x0, .slice p1 n1 c1, .slice p2 n2 c2] ∧ InI x0 ∧ RdD str S w p1 n1 l1 ∧ RdD int S w p2 n2 l2 := by
  obtain ⟨p1, n1, c1, p2, n2, c2, e, b0, h1, h2, _⟩ := exk h
  exact ⟨p1, n1, c1, p2, n2, c2, e, b0, h1, h2⟩
theorem mk {S : Nat → Prop} {w : World} {x0 : Int} {l1 : List ByteArray} {l2 : List Int} {p1 : Option Addr} {n1 c1 : Nat} {p2 : Option Addr} {n2 c2 : Nat} (b0 : InI x0) (h1 : RdD str S w p1 n1 l1) (h2 : RdD int S w p2 n2 l2) (k1 : n1 ≤ c1) (k2 : n2 ≤ c2) : E.rd S w [.int .i64 x0, .slice p1 n1 c1, .slice p2 n2 c2] (x0, l1, l2) :=
  ⟨[.int .i64 x0], [.slice p1 n1 c1, .slice p2 n2 c2], rfl, ⟨rfl, b0⟩, [.slice p1 n1 c1], [.slice p2 n2 c2], rfl, ⟨p1, n1, c1, rfl, k1, h1⟩, ⟨p2, n2, c2, rfl, k2, h2⟩⟩
theorem bxc {w : World} {g : Nat} {T : TypeId} {y0 : Value} {y1 : Value} {y2 : Value} (h : Bx w g T #[y0, y1, y2]) : w.cell? ⟨g, 0, none⟩ = some y0 ∧ w.cell? ⟨g, 1, none⟩ = some y1 ∧ w.cell? ⟨g, 2, none⟩ = some y2 := ⟨h.cell rfl, h.cell rfl, h.cell rfl⟩
theorem wt_eq (x0 : Int) (l1 : List ByteArray) (l2 : List Int) : E.wt (x0, l1, l2) = (l1.length + wts str l1) + (l2.length + wts int l2) := by
  show 0 + ((l1.length + wts str l1) + ((l2.length + wts int l2))) = _
  omega
section
variable {H : Type} {enc : TypeId × Value → H} {W : World}
set_option maxRecDepth 100000 in
theorem open_cells {fuel : Nat} {cs : List Value} {X : DataW H × List MemPlace} (hl : cs.length = 3) (h : DataW.trod enc Tryz.prog W 0 (fun _ => true) true fuel 108 cs = some X) : ∃ x, E.rd (fun _ => True) W cs x := by
  have hi : ∃ f0 f1 f2 : Field, Tryz.prog.underlying 108 = some (.struct #[f0, f1, f2]) ∧ f0.offset = 0 ∧ f1.offset = 1 ∧ f2.offset = 2 ∧ f0.type = 3 ∧ f1.type = 70 ∧ f2.type = 32 ∧ Tryz.prog.cellsOf 3 = 1 ∧ Tryz.prog.cellsOf 70 = 1 ∧ Tryz.prog.cellsOf 32 = 1 := ⟨_, _, _, Tryz.underlying108, by kernel_rfl, by kernel_rfl, by kernel_rfl, by kernel_rfl, by kernel_rfl, by kernel_rfl, by kernel_rfl, by kernel_rfl, by kernel_rfl⟩
  obtain ⟨f0, f1, f2, hs, o0, o1, o2, t0, t1, t2, z0, z1, z2⟩ := hi
  obtain ⟨ys, n, _, _, _, hlen, hf⟩ := DataW.trod_struct hs h
  match ys, hlen with
  | [y0, y1, y2], _ =>
    have r0 := hf 0 f0 rfl
    have r1 := hf 1 f1 rfl
    have r2 := hf 2 f2 rfl
    simp only [List.getElem?_cons_zero, List.getElem?_cons_succ] at r0 r1 r2
    rw [o0, t0, z0] at r0
    rw [o1, t1, z1] at r1
    rw [o2, t2, z2] at r2
    obtain ⟨v0, q0⟩ : ∃ x, Ent.rd int (fun _ => True) W ((cs.drop 0).take 1) x := o_int Tryz.underlying3 r0
    obtain ⟨v1, q1⟩ : ∃ x, Ent.rd (sl str) (fun _ => True) W ((cs.drop 1).take 1) x := Dstr.o_strs r1
    obtain ⟨v2, q2⟩ : ∃ x, Ent.rd (sl int) (fun _ => True) W ((cs.drop 2).take 1) x := o_sl Tryz.underlying32 (by kernel_rfl) (fun hl h => o_int Tryz.underlying3 h) r2
    exact ⟨_, rd_first (rd_next (o := 0) (o' := 1) rfl rfl q0 (rd_next (o := 1) (o' := 2) rfl rfl q1 (rd_last (o := 2) (by simp [hl]) q2)))⟩
set_option maxRecDepth 100000 in
theorem open_valk {base : Nat} {v : Value} {d : DataW H} {pl : List MemPlace} (h : DataW.Trod enc Tryz.prog W 0 (fun _ => true) true 108 v d pl) (hk : Value.okWide Tryz.prog W .any base 108 v) : ∃ (x0 : Int) (l1 : List ByteArray) (l2 : List Int) (p1 : Option Addr) (n1 c1 : Nat) (p2 : Option Addr) (n2 c2 : Nat), v = .agg #[.int .i64 x0, .slice p1 n1 c1, .slice p2 n2 c2] ∧ InI x0 ∧ RdD str (fun _ => True) W p1 n1 l1 ∧ RdD int (fun _ => True) W p2 n2 l2 ∧ n1 ≤ c1 ∧ n2 ≤ c2 := by
  have hu : ∃ fs, Tryz.prog.underlying 108 = some (.struct fs) ∧ Tryz.prog.cellsOf 108 = 3 := ⟨_, Tryz.underlying108, by kernel_rfl⟩
  obtain ⟨fs, hs, hC⟩ := hu
  obtain ⟨cs, rfl, hsz⟩ := okWide_struct hs hk
  obtain ⟨fuel, hf⟩ := h
  simp only [Value.cells] at hf
  obtain ⟨x, hx⟩ := open_cells (by rw [Array.length_toList, hsz, hC]) hf
  obtain ⟨x0, l1, l2⟩ := x
  obtain ⟨p1, n1, c1, p2, n2, c2, hc, b0, h1, h2, k1, k2⟩ := exk hx
  exact ⟨x0, l1, l2, p1, n1, c1, p2, n2, c2, congrArg Value.agg (Array.ext' hc), b0, h1, h2, k1, k2⟩
set_option maxRecDepth 100000 in
theorem open_val {base : Nat} {v : Value} {d : DataW H} {pl : List MemPlace} (h : DataW.Trod enc Tryz.prog W 0 (fun _ => true) true 108 v d pl) (hk : Value.okWide Tryz.prog W .any base 108 v) : ∃ (x0 : Int) (l1 : List ByteArray) (l2 : List Int) (p1 : Option Addr) (n1 c1 : Nat) (p2 : Option Addr) (n2 c2 : Nat), v = .agg #[.int .i64 x0, .slice p1 n1 c1, .slice p2 n2 c2] ∧ InI x0 ∧ RdD str (fun _ => True) W p1 n1 l1 ∧ RdD int (fun _ => True) W p2 n2 l2 := by
  have hu : ∃ fs, Tryz.prog.underlying 108 = some (.struct fs) ∧ Tryz.prog.cellsOf 108 = 3 := ⟨_, Tryz.underlying108, by kernel_rfl⟩
  obtain ⟨fs, hs, hC⟩ := hu
  obtain ⟨cs, rfl, hsz⟩ := okWide_struct hs hk
  obtain ⟨fuel, hf⟩ := h
  simp only [Value.cells] at hf
  obtain ⟨x, hx⟩ := open_cells (by rw [Array.length_toList, hsz, hC]) hf
  obtain ⟨x0, l1, l2⟩ := x
  obtain ⟨p1, n1, c1, p2, n2, c2, hc, b0, h1, h2⟩ := ex hx
  exact ⟨x0, l1, l2, p1, n1, c1, p2, n2, c2, congrArg Value.agg (Array.ext' hc), b0, h1, h2⟩
end
set_option maxRecDepth 100000 in
set_option maxHeartbeats 4000000 in
theorem toK_any (x0 : Int) (l1 : List ByteArray) (p1 : Option Addr) (n1 c1 : Nat) (l2 : List Int) (p2 : Option Addr) (n2 c2 : Nat) {S1 S2 : Nat → Prop} (w : World) (h1 : RdD str S1 w p1 n1 l1) (h2 : RdD int S2 w p2 n2 l2) (hm : E.wt (x0, l1, l2) ≤ 1048576) : Calls Tryz.prog 79 #[.agg #[.int .i64 x0, .slice p1 n1 c1, .slice p2 n2 c2]] w fun e w' => ∃ (p1' : Option Addr) (c1' : Nat) (p2' : Option Addr) (c2' : Nat), e = .returned (.agg #[.int .i64 x0, .slice p1' n1 c1', .slice p2' n2 c2']) ∧ RdD str (fun b => w.heap.size ≤ b) w' p1' n1 l1 ∧ RdD int (fun b => w.heap.size ≤ b) w' p2' n2 l2 ∧ n1 ≤ c1' ∧ n2 ≤ c2' ∧ Below w.heap.size w w' := by
  rw [wt_eq] at hm
  have k1 := h1.len
  have k2 := h2.len
  have m1 : n1 + wts str l1 ≤ 1048576 := by omega
  have m2 : n2 + wts int l2 ≤ 1048576 := by omega
  have HP1 := Lib.hid h1
  have HP2 := Lib.hid h2
  clear hm h1 k1 h2 k2
  have b0 := ((Bx.new w 108 #[.int .i64 x0, .slice p1 n1 c1, .slice p2 n2 c2]).alloc (.cells #[.int .i64 0, .slice none 0 0, .slice none 0 0] 72)).alloc (.cells #[.int .i64 x0, .slice none 0 0, .slice none 0 0] 72)
  have b1 := (Bx.new (w.alloc (.cells #[.int .i64 x0, .slice p1 n1 c1, .slice p2 n2 c2] 108)) 72 #[.int .i64 0, .slice none 0 0, .slice none 0 0]).alloc (.cells #[.int .i64 x0, .slice none 0 0, .slice none 0 0] 72)
  have b2 := Bx.new ((w.alloc (.cells #[.int .i64 x0, .slice p1 n1 c1, .slice p2 n2 c2] 108)).alloc (.cells #[.int .i64 0, .slice none 0 0, .slice none 0 0] 72)) 72 #[.int .i64 x0, .slice none 0 0, .slice none 0 0]
  rw [World.size_alloc] at b1
  rw [World.size_alloc, World.size_alloc] at b2
  have HA := Lib.hid b0
  have HR := Lib.hid b1
  have HO := Lib.hid b2
  have HB : Hid (Below w.heap.size w (((w.alloc (.cells #[.int .i64 x0, .slice p1 n1 c1, .slice p2 n2 c2] 108)).alloc (.cells #[.int .i64 0, .slice none 0 0, .slice none 0 0] 72)).alloc (.cells #[.int .i64 x0, .slice none 0 0, .slice none 0 0] 72))) := Lib.hid ((((Below.refl w.heap.size w).alloc (Nat.le_refl _) _).alloc (by simp) _).alloc (by simp; omega) _)
  have HSZ : Hid (w.heap.size + 3 ≤ (((w.alloc (.cells #[.int .i64 x0, .slice p1 n1 c1, .slice p2 n2 c2] 108)).alloc (.cells #[.int .i64 0, .slice none 0 0, .slice none 0 0] 72)).alloc (.cells #[.int .i64 x0, .slice none 0 0, .slice none 0 0] 72)).heap.size) := Lib.hid (by simp)
  clear b0 b1 b2
  go_enter Tryz.func79, Tryz.ntmps79
  go_wp2_with fail
  generalize (((w.alloc (.cells #[.int .i64 x0, .slice p1 n1 c1, .slice p2 n2 c2] 108)).alloc (.cells #[.int .i64 0, .slice none 0 0, .slice none 0 0] 72)).alloc (.cells #[.int .i64 x0, .slice none 0 0, .slice none 0 0] 72)) = V at HA HR HO HB HSZ ⊢
  obtain ⟨a0, a1, a2⟩ := bxc HA.out
  refine (SlStr.to_any _ _ _ _ _ (RdD.strs SlStr.C_eq SlStr.of_eq (HP1.out.below HB.out)).1 (by omega)).mono ?_
  rintro e w1 ⟨p1', n1', c1', rfl, ho, hb⟩
  obtain rfl : n1 = n1' := HP1.out.len.symm.trans ho.len
  have HK1 := Lib.hid (Ed.cap_owS ho)
  have HQ1 : Hid (RdD str (fun b => w.heap.size + 3 ≤ b) w1 p1' n1 l1) := Lib.hid ((Dstr.ofStrs ho (RdD.strs SlStr.C_eq SlStr.of_eq HP1.out).2).mono fun b hb => Nat.le_trans HSZ.out hb)
  clear ho
  clear a0 a1 a2
  replace HA := Lib.hid (HA.out.below hb)
  replace HR := Lib.hid (HR.out.below hb)
  replace HO := Lib.hid (HO.out.below hb)
  replace HB := Lib.hid (below_on HB.out hb)
  replace HSZ := Lib.hid (Nat.le_trans HSZ.out hb.size)
  clear hb
  obtain ⟨a0, a1, a2⟩ := bxc HA.out
  obtain ⟨q0, q1, q2⟩ := bxc HO.out
  have g1 := HO.out.free 1
  go_wp2_with fail
  have ho := (HO.out.set_ 1 (.slice p1' n1 c1'))
  simp only [List.setIfInBounds_toArray, List.set_cons_zero, List.set_cons_succ] at ho
  replace HO := Lib.hid ho
  clear ho a0 a1 a2 q0 q1 q2 g1
  replace HA := Lib.hid (HA.out.far (q := ⟨w.heap.size + 1 + 1, 1, none⟩) (by show w.heap.size ≠ w.heap.size + 1 + 1; omega) (.slice p1' n1 c1'))
  replace HR := Lib.hid (HR.out.far (q := ⟨w.heap.size + 1 + 1, 1, none⟩) (by show w.heap.size + 1 ≠ w.heap.size + 1 + 1; omega) (.slice p1' n1 c1'))
  replace HQ1 := Lib.hid (HQ1.out.far (q := ⟨w.heap.size + 1 + 1, 1, none⟩) (by show ¬ (w.heap.size + 3 ≤ w.heap.size + 1 + 1); omega) (.slice p1' n1 c1'))
  replace HB := Lib.hid (HB.out.setCell (p := ⟨w.heap.size + 1 + 1, 1, none⟩) (by show w.heap.size ≤ w.heap.size + 1 + 1; omega) (.slice p1' n1 c1'))
  replace HSZ : Hid (w.heap.size + 3 ≤ (w1.setCell ⟨w.heap.size + 1 + 1, 1, none⟩ (.slice p1' n1 c1')).heap.size) := Lib.hid (by simpa [World.setCell] using HSZ.out)
  generalize (w1.setCell ⟨w.heap.size + 1 + 1, 1, none⟩ (.slice p1' n1 c1')) = V1 at HA HR HO HB HSZ HQ1 ⊢
  obtain ⟨a0, a1, a2⟩ := bxc HA.out
  refine (SlI.to_any _ _ _ _ _ (HP2.out.below HB.out).ints (by omega)).mono ?_
  rintro e w2 ⟨p2', n2', c2', rfl, ho, hb⟩
  obtain rfl : n2 = n2' := HP2.out.len.symm.trans ho.len
  have HK2 := Lib.hid (Ed.cap_ow ho)
  have HQ2 : Hid (RdD int (fun b => w.heap.size + 3 ≤ b) w2 p2' n2 l2) := Lib.hid ((RdD.ofOw ho).mono fun b hb => Nat.le_trans HSZ.out hb)
  clear ho
  clear a0 a1 a2
  replace HA := Lib.hid (HA.out.below hb)
  replace HR := Lib.hid (HR.out.below hb)
  replace HO := Lib.hid (HO.out.below hb)
  replace HQ1 := Lib.hid (HQ1.out.below hb)
  replace HB := Lib.hid (below_on HB.out hb)
  replace HSZ := Lib.hid (Nat.le_trans HSZ.out hb.size)
  clear hb
  obtain ⟨a0, a1, a2⟩ := bxc HA.out
  obtain ⟨q0, q1, q2⟩ := bxc HO.out
  have g2 := HO.out.free 2
  obtain ⟨r0, r1, r2⟩ := bxc HR.out
  have s0 := HR.out.free 0
  have s1 := HR.out.free 1
  have s2 := HR.out.free 2
  go_wp2_with fail
  exact bodyPost_ret (v := .agg #[.int .i64 x0, .slice p1' n1 c1', .slice p2' n2 c2']) (by simp [results, Tryz.results79, go_sem, r0, r1, r2]) rfl ⟨p1', c1', p2', c2', rfl, ((((((HQ1.out.far (q := ⟨w.heap.size + 1 + 1, 2, none⟩) (by show ¬ (w.heap.size + 3 ≤ w.heap.size + 1 + 1); omega) (.slice p2' n2 c2')).far (q := ⟨w.heap.size + 1, 0, none⟩) (by show ¬ (w.heap.size + 3 ≤ w.heap.size + 1); omega) (.int .i64 x0)).far (q := ⟨w.heap.size + 1, 1, none⟩) (by show ¬ (w.heap.size + 3 ≤ w.heap.size + 1); omega) (.slice p1' n1 c1')).far (q := ⟨w.heap.size + 1, 2, none⟩) (by show ¬ (w.heap.size + 3 ≤ w.heap.size + 1); omega) (.slice p2' n2 c2'))).mono fun b hb => by omega), ((((((HQ2.out.far (q := ⟨w.heap.size + 1 + 1, 2, none⟩) (by show ¬ (w.heap.size + 3 ≤ w.heap.size + 1 + 1); omega) (.slice p2' n2 c2')).far (q := ⟨w.heap.size + 1, 0, none⟩) (by show ¬ (w.heap.size + 3 ≤ w.heap.size + 1); omega) (.int .i64 x0)).far (q := ⟨w.heap.size + 1, 1, none⟩) (by show ¬ (w.heap.size + 3 ≤ w.heap.size + 1); omega) (.slice p1' n1 c1')).far (q := ⟨w.heap.size + 1, 2, none⟩) (by show ¬ (w.heap.size + 3 ≤ w.heap.size + 1); omega) (.slice p2' n2 c2'))).mono fun b hb => by omega), HK1.out, HK2.out, ((((HB.out.setCell (p := ⟨w.heap.size + 1 + 1, 2, none⟩) (by show w.heap.size ≤ w.heap.size + 1 + 1; omega) (.slice p2' n2 c2')).setCell (p := ⟨w.heap.size + 1, 0, none⟩) (by show w.heap.size ≤ w.heap.size + 1; omega) (.int .i64 x0)).setCell (p := ⟨w.heap.size + 1, 1, none⟩) (by show w.heap.size ≤ w.heap.size + 1; omega) (.slice p1' n1 c1')).setCell (p := ⟨w.heap.size + 1, 2, none⟩) (by show w.heap.size ≤ w.heap.size + 1; omega) (.slice p2' n2 c2'))⟩
theorem to_any (x0 : Int) (l1 : List ByteArray) (p1 : Option Addr) (n1 c1 : Nat) (l2 : List Int) (p2 : Option Addr) (n2 c2 : Nat) {S1 S2 : Nat → Prop} (w : World) (h1 : RdD str S1 w p1 n1 l1) (h2 : RdD int S2 w p2 n2 l2) (hm : E.wt (x0, l1, l2) ≤ 1048576) : Calls Tryz.prog 79 #[.agg #[.int .i64 x0, .slice p1 n1 c1, .slice p2 n2 c2]] w fun e w' => ∃ (p1' : Option Addr) (c1' : Nat) (p2' : Option Addr) (c2' : Nat), e = .returned (.agg #[.int .i64 x0, .slice p1' n1 c1', .slice p2' n2 c2']) ∧ RdD str (fun b => w.heap.size ≤ b) w' p1' n1 l1 ∧ RdD int (fun b => w.heap.size ≤ b) w' p2' n2 l2 ∧ Below w.heap.size w w' := by
  refine (toK_any x0 l1 p1 n1 c1 l2 p2 n2 c2 w h1 h2 hm).mono ?_
  rintro e w' ⟨p1', c1', p2', c2', he, o1, o2, _, _, hb⟩
  exact ⟨p1', c1', p2', c2', he, o1, o2, hb⟩
set_option maxRecDepth 100000 in
set_option maxHeartbeats 4000000 in
theorem eq_any (x0 : Int) (l1 : List ByteArray) (p1 p1' : Option Addr) (n1 c1 c1' : Nat) (l2 : List Int) (p2 p2' : Option Addr) (n2 c2 c2' : Nat) {S1 S1' S2 S2' : Nat → Prop} (w : World) (h1 : RdD str S1 w p1 n1 l1) (h1' : RdD str S1' w p1' n1 l1) (h2 : RdD int S2 w p2 n2 l2) (h2' : RdD int S2' w p2' n2 l2) : Calls Tryz.prog 85 #[.agg #[.int .i64 x0, .slice p1 n1 c1, .slice p2 n2 c2], .agg #[.int .i64 x0, .slice p1' n1 c1', .slice p2' n2 c2']] w (Yes w) := by
  have HP1 := Lib.hid h1
  have HP1' := Lib.hid h1'
  have HP2 := Lib.hid h2
  have HP2' := Lib.hid h2'
  clear h1 h1' h2 h2'
  have HB := Lib.hid ((box1 w (.cells #[.int .i64 x0, .slice p1 n1 c1, .slice p2 n2 c2] 72)).alloc (by simp) (.cells #[.int .i64 x0, .slice p1' n1 c1', .slice p2' n2 c2'] 72))
  have HX := Lib.hid ((Bx.new w 72 #[.int .i64 x0, .slice p1 n1 c1, .slice p2 n2 c2]).alloc (.cells #[.int .i64 x0, .slice p1' n1 c1', .slice p2' n2 c2'] 72))
  have hy := Bx.new (w.alloc (.cells #[.int .i64 x0, .slice p1 n1 c1, .slice p2 n2 c2] 72)) 72 #[.int .i64 x0, .slice p1' n1 c1', .slice p2' n2 c2']
  rw [World.size_alloc] at hy
  have HY := Lib.hid hy
  clear hy
  go_enter Tryz.func85, Tryz.ntmps85
  go_wp2_with fail
  refine (SlStr.eq_any _ _ _ _ _ _ _ (RdD.strs SlStr.C_eq SlStr.of_eq (HP1.out.below HB.out)).1 (RdD.strs SlStr.C_eq SlStr.of_eq (HP1'.out.below HB.out)).1).mono ?_
  rintro e w1 ⟨rfl, hb⟩
  replace HB := Lib.hid (below_on HB.out hb)
  replace HX := Lib.hid (HX.out.below hb)
  replace HY := Lib.hid (HY.out.below hb)
  clear hb
  obtain ⟨x0_, x1_, x2_⟩ := bxc HX.out
  obtain ⟨y0_, y1_, y2_⟩ := bxc HY.out
  go_wp2_with fail
  refine (SlI.eq_any _ _ _ _ _ _ _ (HP2.out.below HB.out).ints (HP2'.out.below HB.out).ints).mono ?_
  rintro e w2 ⟨rfl, hb⟩
  clear x0_ y0_ x1_ y1_ x2_ y2_
  replace HB := Lib.hid (below_on HB.out hb)
  replace HX := Lib.hid (HX.out.below hb)
  replace HY := Lib.hid (HY.out.below hb)
  clear hb
  obtain ⟨x0_, x1_, x2_⟩ := bxc HX.out
  obtain ⟨y0_, y1_, y2_⟩ := bxc HY.out
  go_wp2_with fail
  go_ret
  exact ⟨rfl, HB.out⟩
set_option maxRecDepth 100000 in
set_option maxHeartbeats 4000000 in
theorem sz_fits (x0 : Int) (l1 : List ByteArray) (p1 : Option Addr) (n1 c1 : Nat) (l2 : List Int) (p2 : Option Addr) (n2 c2 : Nat) {S1 S2 : Nat → Prop} (m : Nat) (left : Int) (w : World) (hm : E.wt (x0, l1, l2) = m) (h1 : RdD str S1 w p1 n1 l1) (h2 : RdD int S2 w p2 n2 l2) (g1 : left ≤ 1048576) (g2 : m ≤ left) : Calls Tryz.prog 76 #[.agg #[.int .i64 x0, .slice p1 n1 c1, .slice p2 n2 c2], .int .i64 left] w (Val (.int .i64 (left - m)) w) := by
  rw [wt_eq] at hm
  have k1 := h1.len
  have e1 := h1.le
  have HP1 := Lib.hid h1
  have k2 := h2.len
  have e2 := h2.le
  have HP2 := Lib.hid h2
  have m0 : (n1 + wts str l1) = (n1 + wts str l1) := rfl
  have m1 : n2 = n2 := rfl
  have z2 := wts_zero (E := int) (fun _ => rfl) l2
  have ht : (n1 + wts str l1) + n2 = m := by omega
  clear hm h1 k1 h2 k2 m0 m1 z2
  subst ht
  have HB := Lib.hid (box1 w (.cells #[.int .i64 x0, .slice p1 n1 c1, .slice p2 n2 c2] 108))
  have HX := Lib.hid (Bx.new w 108 #[.int .i64 x0, .slice p1 n1 c1, .slice p2 n2 c2])
  go_enter Tryz.func76, Tryz.ntmps76
  go_wp2_with fail
  refine (Dstr.szS_fits _ _ _ _ _ _ (HP1.out.below HB.out) (by omega) (by omega)).mono ?_
  rintro e w1 ⟨rfl, hb⟩
  replace HB := Lib.hid (below_on HB.out hb)
  replace HX := Lib.hid (HX.out.below hb)
  clear hb
  obtain ⟨x0_, x1_, x2_⟩ := bxc HX.out
  go_wp2_with fail
  refine (Dz.szI_fits _ _ _ _ _ (by omega) (by omega)).mono ?_
  rintro e w2 ⟨rfl, rfl⟩
  clear x0_ x1_ x2_
  go_wp2_with fail
  go_ret
  refine val_of ?_ HB.out
  show Value.int .i64 (left - ((((n1 + wts str l1)) : Nat) : Int) - (((n2) : Nat) : Int)) = _
  first | rfl | (congr 1; omega)
set_option maxRecDepth 100000 in
set_option maxHeartbeats 4000000 in
theorem sz_big (x0 : Int) (l1 : List ByteArray) (p1 : Option Addr) (n1 c1 : Nat) (l2 : List Int) (p2 : Option Addr) (n2 c2 : Nat) {S1 S2 : Nat → Prop} (m : Nat) (left : Int) (w : World) (hm : E.wt (x0, l1, l2) = m) (h1 : RdD str S1 w p1 n1 l1) (h2 : RdD int S2 w p2 n2 l2) (g0 : 0 ≤ left) (g1 : left ≤ 1048576) (g2 : left < m) : Calls Tryz.prog 76 #[.agg #[.int .i64 x0, .slice p1 n1 c1, .slice p2 n2 c2], .int .i64 left] w (Val (.int .i64 (-1)) w) := by
  rw [wt_eq] at hm
  have k1 := h1.len
  have e1 := h1.le
  have HP1 := Lib.hid h1
  have k2 := h2.len
  have e2 := h2.le
  have HP2 := Lib.hid h2
  have m0 : (n1 + wts str l1) = (n1 + wts str l1) := rfl
  have m1 : n2 = n2 := rfl
  have z2 := wts_zero (E := int) (fun _ => rfl) l2
  have ht : (n1 + wts str l1) + n2 = m := by omega
  clear hm h1 k1 h2 k2 m0 m1 z2
  subst ht
  have G := Lib.hid g2
  clear g2
  have HB := Lib.hid (box1 w (.cells #[.int .i64 x0, .slice p1 n1 c1, .slice p2 n2 c2] 108))
  have HX := Lib.hid (Bx.new w 108 #[.int .i64 x0, .slice p1 n1 c1, .slice p2 n2 c2])
  by_cases hc0 : left < (((n1 + wts str l1) : Nat) : Int)
  · go_enter Tryz.func76, Tryz.ntmps76
    go_wp2_with fail
    refine (Dstr.szS_big _ _ _ _ _ _ (HP1.out.below HB.out) (by omega) (by omega) (by have := G.out; omega)).mono ?_
    rintro e w1 ⟨rfl, hb⟩
    replace HB := Lib.hid (below_on HB.out hb)
    replace HX := Lib.hid (HX.out.below hb)
    clear hb
    go_wp2_with fail
    go_ret
    exact ⟨rfl, HB.out⟩
  go_enter Tryz.func76, Tryz.ntmps76
  go_wp2_with fail
  refine (Dstr.szS_fits _ _ _ _ _ _ (HP1.out.below HB.out) (by omega) (by omega)).mono ?_
  rintro e w1 ⟨rfl, hb⟩
  replace HB := Lib.hid (below_on HB.out hb)
  replace HX := Lib.hid (HX.out.below hb)
  clear hb
  obtain ⟨x0_, x1_, x2_⟩ := bxc HX.out
  go_wp2_with fail
  refine (Dz.szI_big _ _ _ _ _ (by omega) (by omega) (by have := G.out; omega) e2).mono ?_
  rintro e w2 ⟨rfl, rfl⟩
  clear x0_ x1_ x2_
  go_wp2_with fail
  go_ret
  exact ⟨rfl, HB.out⟩
theorem at_cells {w : World} {b q : Nat} {v0 : Value} {v1 : Value} {v2 : Value} (h : ∀ j v, [v0, v1, v2][j]? = some v → w.cell? ⟨b, q + j, none⟩ = some v) : w.cell? ⟨b, q, none⟩ = some v0 ∧ w.cell? ⟨b, q + 1, none⟩ = some v1 ∧ w.cell? ⟨b, q + 2, none⟩ = some v2 := ⟨h 0 _ rfl, h 1 _ rfl, h 2 _ rfl⟩
theorem info : (Tryz.prog.info? 72).map (fun i => (i.zero, i.size, i.bytes)) = some (some (.agg #[.int .i64 0, .slice none 0 0, .slice none 0 0]), 3, 56) := by kernel_rfl
end Go.Proofs.YtpjckbdljbpliaaGreat.DpDocument
