/- Contracts of the laws' helpers over slices of ints: a copy, equality, marks written and found. -/
import Derived.Test.YtfojilogcecphaaGreatSl
import Derived.Test.YtfojilogcecphaaGreatInt
import Derived.ChangeSlices
import Derived.Laws.BitsAllLaws
import Derived.Laws.BitsLemmas
import Derived.Deep.QuietTactic
import Derived.BigQuiet
import Derived.LoopTactic
namespace Go.Proofs.YtfojilogcecphaaGreat.SlI
open Go.ChangeShapes Go.WideShapes Go.ChangeAt Go.RowKit Sl

theorem info : (Tryz.prog.info? 3).map (fun i => (i.zero, i.size, i.bytes)) = some (some (.int .i64 0), 1, 8) := by kernel_rfl

theorem wf_in {x : Int} (h : (Lit.int .i64 x).wf = true) : inK .i64 x := bounds_i64 h
set_option maxRecDepth 100000 in
/-- WHAT A SLICE THAT CAME IN GIVES. -/
theorem open_arg {H : Type} {enc : TypeId × Value → H} {W : World} {base : Nat} {v : Value} {d : DataW H} {pl : List MemPlace} (h : DataW.Trod enc Tryz.prog W 0 (fun _ => true) true 31 v d pl) (hk : Value.okWide Tryz.prog W .any base 31 v) :
    ∃ p n c zs, v = .slice p n c ∧ Rd .i64 W p n zs := by
  obtain ⟨a1, len, cap, rfl⟩ := okWide_slice Tryz.underlying31 hk
  obtain ⟨fuel, hf⟩ := h
  have c1 : Tryz.prog.cellsOf 3 = 1 := by kernel_rfl
  rcases open_ints Tryz.underlying31 Tryz.underlying3 c1 hf with ⟨hcs, hx⟩ | ⟨a, len', cap', zs, hcs, _, hl, hm, hz, hx, hcell, hwz⟩
  · simp [Value.cells] at hcs
    obtain ⟨rfl, rfl, rfl⟩ := hcs
    exact ⟨_, _, _, [], rfl, Rd.nil_ _ _ _⟩
  · simp [Value.cells] at hcs
    obtain ⟨rfl, rfl, rfl⟩ := hcs
    simp only [if_true] at hz
    refine ⟨_, _, _, zs.take len, rfl, by rw [List.length_take]; omega, by omega, fun x hx => wf_in (hwz x (List.mem_of_mem_take hx)), fun hpos => ?_⟩
    obtain ⟨ab, ao, spot⟩ := a
    have hspot : spot = none := by simpa [Addr.add] using World.cell?_spot (hcell 0 (by omega))
    subst hspot
    refine ⟨ab, ao, rfl, World.block_lt_of_cell? W _ (hcell 0 (by omega)), fun j hj => ?_⟩
    have hcj := hcell j (by omega)
    rw [Addr.add_lit] at hcj
    rw [getD_take _ hj]
    exact hcj

/-- The call answers a new slice that reads as zs; what lay before is as it was. -/
def Makes (zs : List Int) (w : World) (e : Ending) (w' : World) : Prop := ∃ p n c, e = .returned (.slice p n c) ∧ Ow .i64 3 w' w.heap.size w'.heap.size p n c zs ∧ Below w.heap.size w w'
theorem set_copy (zs : List Int) (j : Nat) (h : j < zs.length) : ((zs.take j).map (Value.int .i64) ++ List.replicate (zs.length - j) (Value.int .i64 0)).set j (.int .i64 (zs.getD j 0)) = (zs.take (j + 1)).map (Value.int .i64) ++ List.replicate (zs.length - (j + 1)) (Value.int .i64 0) := by
  have e : zs.length - j = (zs.length - (j + 1)) + 1 := by omega
  rw [e, List.replicate_succ, List.set_append_right _ _ (by rw [List.length_map, List.length_take]; omega), List.length_map, List.length_take]
  rw [show j - min j zs.length = 0 by omega, List.set_cons_zero, List.take_succ_eq_append_getElem h, List.map_append, List.append_assoc, List.getD_eq_getElem?_getD, List.getElem?_eq_getElem h]
  rfl

/-- the copy after j elements -/
def Mid (zs : List Int) (n j : Nat) (w wr : World) : Prop :=
  wr.ownsRow w.heap.size 3 1 (.slice (some ⟨w.heap.size, 0, none⟩) n n) n ((zs.take j).map (Value.int .i64) ++ List.replicate (n - j) (Value.int .i64 0)) ∧ Below w.heap.size w wr
theorem Mid.start {zs : List Int} {n : Nat} {w w1 : World} (hown : w1.ownsRow w.heap.size 3 1 (.slice (some ⟨w.heap.size, 0, none⟩) n n) n (madeCells (Value.int .i64 0).cells (n * 1)).toList) (hg : w.grownBy w1 none) : Mid zs n 0 w w1 := by
  have e : (madeCells (Value.int .i64 0).cells (n * 1)).toList = List.replicate n (Value.int .i64 0) := by
    rw [Nat.mul_one]
    exact toList_madeCells_one _ _
  rw [e] at hown
  exact ⟨hown, (Below.refl _ _).grown hg (Nat.le_refl _) (fun _ h => by cases h)⟩
theorem Mid.cell {zs : List Int} {n j : Nat} {w wr : World} (h : Mid zs n j w wr) (hj : j < n) (hl : zs.length = n) : wr.cell? ⟨w.heap.size, j, none⟩ = some (.int .i64 0) := by
  rw [h.1.cellAt j (by omega), List.getElem?_append_right (by rw [List.length_map, List.length_take]; omega), List.length_map, List.length_take, List.getElem?_replicate, if_pos (by omega)]
theorem Mid.free {zs : List Int} {n j : Nat} {w wr : World} (h : Mid zs n j w wr) : wr.frozen? ⟨w.heap.size, j, none⟩ = false := h.1.frozenAt j
theorem Mid.next {zs : List Int} {n j : Nat} {w wr : World} (h : Mid zs n j w wr) (hj : j < n) (hl : zs.length = n) : Mid zs n (j + 1) w (wr.setCell ⟨w.heap.size, j, none⟩ (.int .i64 (zs.getD j 0))) := by
  obtain ⟨h1, h2⟩ := h.1.stored j (.int .i64 (zs.getD j 0))
  subst hl
  rw [set_copy zs j hj] at h1
  exact ⟨h1, h.2.setCell (Nat.le_refl _) _⟩
theorem Mid.done {zs : List Int} {n : Nat} {w wr : World} (h : Mid zs n n w wr) (hl : zs.length = n) (ha : allK .i64 zs) : Makes zs w (.returned (.slice (some ⟨w.heap.size, 0, none⟩) n n)) wr := by
  subst hl
  obtain ⟨h1, h2⟩ := h
  rw [List.take_length, Nat.sub_self, List.replicate_zero, List.append_nil] at h1
  exact ⟨_, _, _, rfl, Ow.of_row h1 ha, h2⟩

set_option maxHeartbeats 1000000 in
theorem to_any (p : Option Addr) (n c : Nat) (zs : List Int) (w : World) (hr : Rd .i64 w p n zs) (hn : n ≤ 17592186044416) : Calls Tryz.prog 13 #[.slice p n c] w (Makes zs w) := by
  obtain ⟨i0, hi, hz0, hz1, hz2⟩ := info_parts info
  have HR := Lib.hid hr
  have HL := Lib.hid hr.len
  have hle := hr.le
  clear hr
  go_enter Tryz.func13, Tryz.ntmps13
  go_wp2_with (refine wpList_make_full _ rfl _ _ 31 rfl w.heap.size 3 i0 (.int .i64 0) 1 Tryz.underlying31 hi hz0 hz1 .i64 .i64 _ _ n rfl rfl rfl rfl (by rw [hz2]; omega) (by unfold maxLen; omega) (Nat.le_refl _) ?_; intro w1 hown1 hg1)
  have HM := Lib.hid (Mid.start (zs := zs) hown1 hg1)
  clear hown1 hg1
  go_loopw [4] (fun i wr => ∃ k : Nat, k ≤ n ∧ i = .int .i64 k ∧ Hid (Mid zs n k w wr)) (fun i _ => n - (intOf i).toNat)
  case atStart => exact ⟨0, Nat.zero_le _, rfl, HM⟩
  case round =>
    obtain ⟨k, hk, rfl, HK⟩ := hrel
    by_cases hlt : k < n
    · obtain ⟨b, o, rfl, hb, hc⟩ := HR.out.at_below HK.out.2 hlt
      have hcd := HK.out.cell hlt HL.out
      have hfd := HK.out.free
      have hne : b ≠ w.heap.size := by omega
      go_wp2_with fail
      go_roundw
      case rel => exact ⟨k + 1, by omega, by go_num, HK.out.next hlt HL.out⟩
      case measure => simp [intOf]; omega
    · obtain rfl : k = n := by omega
      go_wp2_with fail
      go_ret
      exact HK.out.done HL.out HR.out.all
/-- The call answers true; what lay before is as it was. -/
def Yes (w : World) (e : Ending) (w' : World) : Prop := e = .returned (.bool true) ∧ Below w.heap.size w w'
set_option maxHeartbeats 1000000 in
theorem eq_any (p p' : Option Addr) (n c c' : Nat) (zs : List Int) (w : World) (hr : Rd .i64 w p n zs) (hr' : Rd .i64 w p' n zs) : Calls Tryz.prog 17 #[.slice p n c, .slice p' n c'] w (Yes w) := by
  have HR := Lib.hid hr
  have HR' := Lib.hid hr'
  have hle := hr.le
  clear hr hr'
  go_enter Tryz.func17, Tryz.ntmps17
  go_wp2_with fail
  go_loopw [5] (fun i wr => ∃ k q : Nat, k ≤ n ∧ i = .int .i64 k ∧ wr = w.drewN q) (fun i _ => n - (intOf i).toNat)
  case atStart => exact ⟨0, 0, Nat.zero_le _, rfl, rfl⟩
  case round =>
    obtain ⟨k, q, hk, rfl, rfl⟩ := hrel
    by_cases hlt : k < n
    · obtain ⟨b, o, rfl, hb, hc⟩ := HR.out.at_ hlt
      obtain ⟨b', o', rfl, hb', hc'⟩ := HR'.out.at_ hlt
      go_wp2_with fail
      go_quiet (fail)
      go_wp2_with fail
      go_roundw
      case rel => exact ⟨k + 1, _, by omega, by go_num, rfl⟩
      case measure => simp [intOf]; omega
    · obtain rfl : k = n := by omega
      go_wp2_with fail
      go_ret
      exact ⟨rfl, below_drewN (Below.refl _ _) _⟩
/-- the slice after j marks -/
def MarkMid (lo hi : Nat) (p : Option Addr) (n c : Nat) (zs : List Int) (m : Int) (j : Nat) (w wr : World) : Prop :=
  Ow .i64 3 wr lo hi p n c (marks intK m j ++ zs.drop j) ∧ w.grownBy wr (Value.slice p n c).ownBlock
theorem MarkMid.next {lo hi g n c j : Nat} {zs : List Int} {m : Int} {w wr : World} (h : MarkMid lo hi (some ⟨g, 0, none⟩) n c zs m j w wr) (hj : j < n) (hl : zs.length = n) {x : Int} (hx : x = intK (m + j)) : MarkMid lo hi (some ⟨g, 0, none⟩) n c zs m (j + 1) w (wr.setCell ⟨g, j, none⟩ (.int .i64 x)) := by
  subst hx
  obtain ⟨h1, h2⟩ := h.1.own.stored j (.int .i64 (intK (m + j)))
  rw [← List.map_set, marks_set _ _ _ _ (by omega)] at h1
  refine ⟨⟨h1, allK_append (marks_all intK_in _ _) (allK_drop (fun x hx => ?_) 0), Nat.le_trans h.1.2.2.1 h2.size, h.1.2.2.2⟩, ?_⟩
  · rw [show zs.drop (j + 1) = (zs.drop j).drop 1 by rw [List.drop_drop]] at hx
    exact h.1.all x (List.mem_append_right _ (List.mem_of_mem_drop hx))
  · exact ⟨h2.os.trans h.2.os, h2.tape.trans h.2.tape, h2.output.trans h.2.output, Nat.le_trans h.2.size h2.size, fun i hi hne => (h2.block i (Nat.lt_of_lt_of_le hi h.2.size) hne).trans (h.2.block i hi hne)⟩
/-- The call answers the next mark; the slice bears the marks; no other block has turned. -/
def Marked (lo hi : Nat) (p : Option Addr) (n c : Nat) (m : Int) (w : World) (e : Ending) (w' : World) : Prop := e = .returned (.int .i64 (m + n)) ∧ Ow .i64 3 w' lo hi p n c (marks intK m n) ∧ w.grownBy w' (Value.slice p n c).ownBlock
theorem MarkMid.done {lo hi n c : Nat} {p : Option Addr} {zs : List Int} {m : Int} {w wr : World} (h : MarkMid lo hi p n c zs m n w wr) (hl : zs.length = n) : Marked lo hi p n c m w (.returned (.int .i64 (m + n))) wr := by
  subst hl
  obtain ⟨h1, h2⟩ := h
  rw [marks_end] at h1
  exact ⟨rfl, h1, h2⟩
end Go.Proofs.YtfojilogcecphaaGreat.SlI
