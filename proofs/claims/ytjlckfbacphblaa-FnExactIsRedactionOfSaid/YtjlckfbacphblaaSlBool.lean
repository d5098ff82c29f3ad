/- Contracts of the laws' helpers over slices of Bools: opened, copied, compared, measured, marked. -/
import Derived.Test.YtjlckfbacphblaaStM
import Derived.Test.YtjlckfbacphblaaSlI
import Derived.Deep.Grids
import Derived.Deep.QuietTactic
import Derived.BigQuiet
import Derived.LoopTactic
import Derived.Outline
namespace Go.Proofs.Ytjlckfbacphblaa.SlBool
open Go.ChangeShapes Go.WideShapes Go.ChangeAt Go.RowKit Sl St

def E : En Bool := ⟨fun s => [.bool s], 1, fun _ => rfl, fun x v h => by simp only [List.mem_cons, List.not_mem_nil, or_false] at h; subst h; rfl, by decide⟩
theorem C_eq : E.C = 1 := rfl
theorem of_eq (x : Bool) : E.of x = [.bool x] := rfl
theorem info : (Try.prog.info? 4).map (fun i => (i.zero, i.size, i.bytes)) = some (some (.bool false), 1, 1) := by kernel_rfl
set_option maxRecDepth 100000 in
theorem open_cells {H : Type} {enc : TypeId × Value → H} {W : World} {fuel : Nat} {cs : List Value} {x : DataW H × List MemPlace} (h : DataW.trod enc Try.prog W 0 (fun _ => true) true fuel 40 cs = some x) :
    ∃ p n c xs, cs = [.slice p n c] ∧ RdS E W p n xs := by
  have c1 : Try.prog.cellsOf 4 = 1 := by kernel_rfl
  rcases Go.Deep.open_bools Try.underlying40 Try.underlying4 c1 h with ⟨hcs, _⟩ | ⟨a, len, cap, Sx, hcs, _, hl, hm, _, hel⟩
  · exact ⟨_, _, _, [], hcs, RdS.nil_ _ _ _⟩
  · refine ⟨_, _, _, (List.range len).map Sx, hcs, ⟨by simp, by omega, fun hpos => ?_⟩⟩
    obtain ⟨ab, ao, spot⟩ := a
    have hspot : spot = none := by simpa [Addr.add] using World.cell?_spot (hel 0 (by omega))
    subst hspot
    refine ⟨ab, ao, rfl, World.block_lt_of_cell? W _ (hel 0 (by omega)), fun i x hx j v hv => ?_⟩
    have hi : i < len := by
      have := (List.getElem?_eq_some_iff.1 hx).1
      simpa using this
    rw [List.getElem?_map, List.getElem?_range hi, Option.map_some, Option.some.injEq] at hx
    subst hx
    have hj : j = 0 := by
      have := (List.getElem?_eq_some_iff.1 hv).1
      rw [E.len, C_eq] at this
      omega
    subst hj
    simp only [of_eq, List.getElem?_cons_zero, Option.some.injEq] at hv
    subst hv
    have := hel i (by omega)
    rw [Addr.add_lit] at this
    rw [C_eq, Nat.mul_one, Nat.add_zero]
    exact this
/-- The call answers a new slice that reads as xs; what lay before is as it was. -/
def Makes (xs : List Bool) (w : World) (e : Ending) (w' : World) : Prop := ∃ p n c, e = .returned (.slice p n c) ∧ OwS E 4 w' w.heap.size w'.heap.size p n c xs ∧ Below w.heap.size w w'
/-- The call answers true; what lay before is as it was. -/
def Yes (w : World) (e : Ending) (w' : World) : Prop := e = .returned (.bool true) ∧ Below w.heap.size w w'
theorem rd_at {w : World} {p : Option Addr} {n k : Nat} {xs : List Bool} (h : RdS E w p n xs) (hk : k < n) : ∃ b o, p = some ⟨b, o, none⟩ ∧ b < w.heap.size ∧ w.cell? ⟨b, o + k, none⟩ = some (.bool (xs.getD k false)) := by
  obtain ⟨b, o, x, e, hb, hx, hc⟩ := h.at_ hk
  have hd : xs.getD k false = x := by rw [List.getD_eq_getElem?_getD, hx]; rfl
  have h0 := hc 0 _ rfl
  rw [C_eq, Nat.mul_one, Nat.add_zero] at h0
  rw [hd]
  exact ⟨b, o, e, hb, h0⟩

/-! ### a copy -/
def Mid (xs : List Bool) (n j : Nat) (w wr : World) : Prop := OwS E 4 wr w.heap.size wr.heap.size (some ⟨w.heap.size, 0, none⟩) n n (xs.take j ++ List.replicate (n - j) false) ∧ Below w.heap.size w wr
theorem Mid.start {xs : List Bool} {n : Nat} {w w1 : World} (hown : w1.ownsRow w.heap.size 4 1 (.slice (some ⟨w.heap.size, 0, none⟩) n n) n (madeCells (Value.cells (.bool false)) (n * 1)).toList) (hg : w.grownBy w1 none) : Mid xs n 0 w w1 := by
  have e := made_fl (E := E) (.bool false) false rfl n
  rw [C_eq] at e
  rw [e] at hown
  exact ⟨OwS.of_row hown, (Below.refl _ _).grown hg (Nat.le_refl _) (fun _ h => by cases h)⟩
theorem Mid.next {xs : List Bool} {n j : Nat} {w wr : World} {x : Bool} (h : Mid xs n j w wr) (hj : j < n) (hl : xs.length = n) (hx : xs.getD j false = x) : Mid xs n (j + 1) w (wr.setCell ⟨w.heap.size, j, none⟩ (.bool x)) := by
  obtain ⟨h3, h4⟩ := h.1.elem (i := j) hj x
  have e : wr.setCells w.heap.size (j * E.C) (E.of x) = wr.setCell ⟨w.heap.size, j, none⟩ (.bool x) := by rw [C_eq, Nat.mul_one]; rfl
  rw [e] at h3 h4
  have hw : xs[j]'(by omega) = x := by rw [← hx, List.getD_eq_getElem?_getD, List.getElem?_eq_getElem (by omega)]; rfl
  clear hx
  subst hw hl
  rw [set_mid hj] at h3
  exact ⟨h3.wide (Nat.le_refl _) (Nat.le_trans h3.2.2.1 (Nat.le_refl _)) (Nat.le_refl _), h.2.grown h4 h.2.size (fun k e => by cases e; exact Nat.le_refl _)⟩
theorem Mid.done {xs : List Bool} {n : Nat} {w wr : World} (h : Mid xs n n w wr) (hl : xs.length = n) : Makes xs w (.returned (.slice (some ⟨w.heap.size, 0, none⟩) n n)) wr := by
  subst hl
  obtain ⟨h1, h2⟩ := h
  rw [List.take_length, Nat.sub_self, List.replicate_zero, List.append_nil] at h1
  exact ⟨_, _, _, rfl, h1, h2⟩
theorem Mid.cell {xs : List Bool} {n j : Nat} {w wr : World} (h : Mid xs n j w wr) (hj : j < n) (hl : xs.length = n) : wr.cell? ⟨w.heap.size, j, none⟩ = some (.bool false) := by
  have hx : (xs.take j ++ List.replicate (n - j) false)[j]? = some false := by
    rw [List.getElem?_append_right (by rw [List.length_take]; omega), List.length_take, List.getElem?_replicate, if_pos (by omega)]
  have h0 := h.1.cell (j := 0) hx rfl
  rw [C_eq, Nat.mul_one, Nat.add_zero] at h0
  exact h0
set_option maxRecDepth 100000 in
set_option maxHeartbeats 2000000 in
theorem to_any (p : Option Addr) (n c : Nat) (xs : List Bool) (w : World) (hr : RdS E w p n xs) (hn : n ≤ 4398046511104) : Calls Try.prog 90 #[.slice p n c] w (Makes xs w) := by
  obtain ⟨i0, hi, hz0, hz1, hz2⟩ := info_parts info
  have HR := Lib.hid hr
  have HL := Lib.hid hr.len
  have hle := hr.le
  clear hr
  go_enter Try.func90, Try.ntmps90
  go_wp2_with (refine wpList_make_full _ rfl _ _ 40 rfl w.heap.size 4 i0 _ 1 Try.underlying40 hi hz0 hz1 .i64 .i64 _ _ n rfl rfl rfl rfl (by rw [hz2]; omega) (by unfold maxLen; omega) (Nat.le_refl _) ?_; intro w1 hown1 hg1)
  have HM := Lib.hid (Mid.start (xs := xs) hown1 hg1)
  clear hown1 hg1
  go_loopw [4] (fun i wr => ∃ k : Nat, k ≤ n ∧ i = .int .i64 k ∧ Hid (Mid xs n k w wr)) (fun i _ => n - (intOf i).toNat)
  case atStart => exact ⟨0, Nat.zero_le _, rfl, HM⟩
  case round =>
    obtain ⟨k, hk, rfl, HK⟩ := hrel
    by_cases hlt : k < n
    · obtain ⟨b, o, rfl, hb, hc⟩ := rd_at (HR.out.below HK.out.2) hlt
      generalize hx : xs.getD k false = x at hc
      have HX := Lib.hid hx
      clear hx
      have hd := HK.out.cell hlt HL.out
      have hf := HK.out.1.free (i := k)
      have HN := Lib.hid (HK.out.next hlt HL.out HX.out)
      go_wp2_with fail
      go_roundw
      case rel => exact ⟨k + 1, by omega, by go_num, HN⟩
      case measure => simp [intOf]; omega
    · obtain rfl : k = n := by omega
      go_wp2_with fail
      go_ret
      exact HK.out.done HL.out
set_option maxRecDepth 100000 in
set_option maxHeartbeats 2000000 in
theorem eq_any (p p' : Option Addr) (n c c' : Nat) (xs : List Bool) (w : World) (hr : RdS E w p n xs) (hr' : RdS E w p' n xs) : Calls Try.prog 77 #[.slice p n c, .slice p' n c'] w (Yes w) := by
  have HR := Lib.hid hr
  have HR' := Lib.hid hr'
  have hle := hr.le
  clear hr hr'
  go_enter Try.func77, Try.ntmps77
  go_wp2_with fail
  go_loopw [5] (fun i wr => ∃ k : Nat, k ≤ n ∧ i = .int .i64 k ∧ Hid (Below w.heap.size w wr)) (fun i _ => n - (intOf i).toNat)
  case atStart => exact ⟨0, Nat.zero_le _, rfl, Below.refl _ _⟩
  case round =>
    obtain ⟨k, hk, rfl, HB⟩ := hrel
    by_cases hlt : k < n
    · obtain ⟨b, o, rfl, hb, hc⟩ := rd_at (HR.out.below HB.out) hlt
      obtain ⟨b', o', rfl, hb', hc'⟩ := rd_at (HR'.out.below HB.out) hlt
      generalize xs.getD k false = x at hc hc'
      have i1 : (0 : Int) ≤ (k : Int) := by omega
      have i2 : (k : Int) < (n : Int) := by omega
      go_wp2_with fail
      go_quiet (fail)
      rcases x with _ | _
      all_goals
        go_wp2_with fail
        go_roundw
        case rel => exact ⟨k + 1, by omega, by go_num, Lib.hid (below_drewN HB.out _)⟩
        case measure => simp [intOf]; omega
    · obtain rfl : k = n := by omega
      go_wp2_with fail
      go_ret
      exact ⟨rfl, HB.out⟩

/-! ### the measure -/
theorem sz_big (p : Option Addr) (m d : Nat) (left : Int) (w : World) (h0 : 0 ≤ left) (h1 : left ≤ 1048576) (h : left < m) (hn : m ≤ 9223372036854775807) : Calls Try.prog 87 #[.slice p m d, .int .i64 left] w fun e w' => e = .returned (.int .i64 (-1)) ∧ w = w' := by
  go_enter Try.func87, Try.ntmps87
  go_wp2_with fail
  go_ret
  exact ⟨rfl, rfl⟩
theorem sz_fits (p : Option Addr) (m d : Nat) (left : Int) (w : World) (h1 : left ≤ 1048576) (h : m ≤ left) : Calls Try.prog 87 #[.slice p m d, .int .i64 left] w fun e w' => e = .returned (.int .i64 (left - m)) ∧ w = w' := by
  go_enter Try.func87, Try.ntmps87
  go_wp2_with fail
  go_ret
  exact ⟨rfl, rfl⟩

/-! ### marks -/
def bm (k : Nat) : Bool := ((k : Int) % 3 == 0)
theorem bm_def (k : Nat) : ((k : Int) % 3 == 0) = bm k := rfl
def bmarks (m : Nat) (n : Nat) : List Bool := (List.range n).map fun i => bm (m + i)
theorem bmarks_len (m n : Nat) : (bmarks m n).length = n := by simp [bmarks]
theorem bmarks_at (m : Nat) {n j : Nat} (h : j < n) : (bmarks m n).getD j false = bm (m + j) := by
  simp [bmarks, List.getD_eq_getElem?_getD, h]
theorem bmarks_set (m : Nat) (zs : List Bool) (j : Nat) (h : j < zs.length) : (bmarks m j ++ zs.drop j).set j (bm (m + j)) = bmarks m (j + 1) ++ zs.drop (j + 1) := by
  have e : zs.drop j = zs[j] :: zs.drop (j + 1) := List.drop_eq_getElem_cons h
  rw [e, List.set_append_right _ _ (by rw [bmarks_len]; exact Nat.le_refl _), bmarks_len, Nat.sub_self, List.set_cons_zero]
  simp [bmarks, List.range_succ]
theorem bmarks_end (m : Nat) (zs : List Bool) : bmarks m zs.length ++ zs.drop zs.length = bmarks m zs.length := by simp
def MarkMid (lo hi : Nat) (p : Option Addr) (n c : Nat) (zs : List Bool) (m : Nat) (j : Nat) (w wr : World) : Prop :=
  OwS E 4 wr lo hi p n c (bmarks m j ++ zs.drop j) ∧ w.grownBy wr (Value.slice p n c).ownBlock
theorem MarkMid.next {lo hi g n c j : Nat} {zs : List Bool} {m : Nat} {w wr : World} (h : MarkMid lo hi (some ⟨g, 0, none⟩) n c zs m j w wr) (hj : j < n) (hl : zs.length = n) : MarkMid lo hi (some ⟨g, 0, none⟩) n c zs m (j + 1) w (wr.setCell ⟨g, j, none⟩ (.bool (bm (m + j)))) := by
  obtain ⟨h1, h2⟩ := h.1.elem (i := j) hj (bm (m + j))
  rw [bmarks_set _ _ _ (by omega)] at h1
  have e : wr.setCells g (j * E.C) (E.of (bm (m + j))) = wr.setCell ⟨g, j, none⟩ (.bool (bm (m + j))) := by rw [C_eq, Nat.mul_one]; rfl
  rw [e] at h1 h2
  exact ⟨h1, ⟨h2.os.trans h.2.os, h2.tape.trans h.2.tape, h2.output.trans h.2.output, Nat.le_trans h.2.size h2.size, fun i hi hne => (h2.block i (Nat.lt_of_lt_of_le hi h.2.size) hne).trans (h.2.block i hi hne)⟩⟩
/-- The call answers the next mark; the slice bears the marks; no other block has turned. -/
def Marked (lo hi : Nat) (p : Option Addr) (n c : Nat) (m : Nat) (w : World) (e : Ending) (w' : World) : Prop := e = .returned (.int .i64 ((m : Int) + n)) ∧ OwS E 4 w' lo hi p n c (bmarks m n) ∧ w.grownBy w' (Value.slice p n c).ownBlock
theorem MarkMid.done {lo hi n c : Nat} {p : Option Addr} {zs : List Bool} {m : Nat} {w wr : World} (h : MarkMid lo hi p n c zs m n w wr) (hl : zs.length = n) : Marked lo hi p n c m w (.returned (.int .i64 ((m : Int) + n))) wr := by
  subst hl
  obtain ⟨h1, h2⟩ := h
  rw [bmarks_end] at h1
  exact ⟨rfl, h1, h2⟩
set_option maxRecDepth 100000 in
set_option maxHeartbeats 2000000 in
theorem mark_any (lo hi : Nat) (p : Option Addr) (n c : Nat) (zs : List Bool) (m : Nat) (w : World) (ho : OwS E 4 w lo hi p n c zs) (hm : 1 ≤ m) (hm' : m + n ≤ 1000000000) : Calls Try.prog 81 #[.slice p n c, .int .i64 m] w (Marked lo hi p n c m w) := by
  have HL := Lib.hid ho.len
  have hle := ho.rd.le
  have HM : Hid (MarkMid lo hi p n c zs m 0 w w) := ⟨ho, ⟨rfl, rfl, rfl, Nat.le_refl _, fun _ _ _ => rfl⟩⟩
  clear ho
  go_enter Try.func81, Try.ntmps81
  go_wp2_with fail
  go_loopw [1, 5] (fun x i wr => ∃ k : Nat, k ≤ n ∧ i = .int .i64 k ∧ x = .int .i64 ((m + k : Nat) : Int) ∧ Hid (MarkMid lo hi p n c zs m k w wr)) (fun _ i _ => n - (intOf i).toNat)
  case atStart => exact ⟨0, Nat.zero_le _, rfl, by simp, HM⟩
  case round =>
    obtain ⟨k, hk, rfl, rfl, HK⟩ := hrel
    by_cases hlt : k < n
    · rcases HK.out.1.form with ⟨_, hn0, _⟩ | ⟨g, rfl, _, _, hnc, _⟩
      · omega
      have hx : (bmarks m k ++ zs.drop k)[k]? = some (zs[k]'(by rw [HL.out]; exact hlt)) := by
        rw [List.getElem?_append_right (by rw [bmarks_len]; exact Nat.le_refl _), bmarks_len, Nat.sub_self, List.getElem?_drop, Nat.add_zero, List.getElem?_eq_getElem (by rw [HL.out]; exact hlt)]
      have hcd := HK.out.1.cell (j := 0) (v := .bool (zs[k]'(by rw [HL.out]; exact hlt))) hx rfl
      rw [C_eq, Nat.mul_one, Nat.add_zero] at hcd
      have hfd := HK.out.1.free (i := k)
      have HN := Lib.hid (HK.out.next hlt HL.out)
      have i3 : (0 : Int) ≤ ((m + k : Nat) : Int) := by omega
      have i4 : ((m + k : Nat) : Int) ≤ 1000000000 := by omega
      have HQ := Lib.hid (bm_def (m + k))
      generalize hmk : m + k = mk at HQ HN i3 i4
      have HMK := Lib.hid hmk
      clear hmk
      generalize zs[k]'(by rw [HL.out]; exact hlt) = z at hcd
      clear hx
      go_wp2_with fail
      rw [HQ.out]
      go_roundw
      case rel => exact ⟨k + 1, by omega, by go_num, by rw [← HMK.out]; go_num, HN⟩
      case measure => simp [intOf]; omega
    · obtain rfl : k = n := by omega
      go_wp2_with fail
      go_ret
      have h1 := HK.out.done HL.out
      rw [show ((m + k : Nat) : Int) = (m : Int) + k by omega]
      exact h1
set_option maxRecDepth 100000 in
set_option maxHeartbeats 2000000 in
theorem held_any (p : Option Addr) (n c : Nat) (m : Nat) (w : World) (hr : RdS E w p n (bmarks m n)) (hm : 1 ≤ m) (hm' : m + n ≤ 1000000000) : Calls Try.prog 84 #[.slice p n c, .int .i64 m] w fun e w' => e = .returned (.int .i64 ((m : Int) + n)) ∧ w = w' := by
  have HR := Lib.hid hr
  have hle := hr.le
  clear hr
  go_enter Try.func84, Try.ntmps84
  go_wp2_with fail
  go_loop [1, 5] (fun x i => ∃ k : Nat, k ≤ n ∧ i = .int .i64 k ∧ x = .int .i64 ((m + k : Nat) : Int)) (fun _ i => n - (intOf i).toNat)
  case atStart => exact ⟨0, Nat.zero_le _, rfl, by simp⟩
  case round =>
    obtain ⟨k, hk, rfl, rfl⟩ := hrel
    by_cases hlt : k < n
    · obtain ⟨b, o, rfl, hb, hc⟩ := rd_at HR.out hlt
      rw [bmarks_at _ hlt] at hc
      have i3 : (0 : Int) ≤ ((m + k : Nat) : Int) := by omega
      have i4 : ((m + k : Nat) : Int) ≤ 1000000000 := by omega
      have HQ := Lib.hid (bm_def (m + k))
      have i5 : (((m + k + 1 : Nat)) : Int) = ((m + k : Nat) : Int) + 1 := by omega
      have I5 := Lib.hid i5
      clear i5
      generalize hmk : m + k = mk at HQ hc i3 i4 I5
      have HMK := Lib.hid hmk
      clear hmk
      rw [← HQ.out] at hc
      go_wp2_with fail
      go_round
      case rel => exact ⟨k + 1, by omega, by go_num, by rw [← HMK.out]; go_num⟩
      case measure => simp [intOf]; omega
    · obtain rfl : k = n := by omega
      go_wp2_with fail
      go_ret
      exact ⟨by congr 3, rfl⟩
end Go.Proofs.Ytjlckfbacphblaa.SlBool
