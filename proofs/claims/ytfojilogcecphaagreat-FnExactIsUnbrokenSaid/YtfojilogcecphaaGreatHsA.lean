/- Contracts of the laws' helpers over slices of bytes: a copy, equality, marks written and found. Hashes: mathematics, and contracts in the program and in the reference. -/
import Derived.Test.YtfojilogcecphaaGreatSl
import Derived.Test.YtfojilogcecphaaGreatInt
import Derived.ChangeSlices
import Derived.Laws.BitsAllLaws
import Derived.Laws.BitsLemmas
import Derived.Deep.QuietTactic
import Derived.BigQuiet
import Derived.LoopTactic
import Derived.Test.YtfojilogcecphaaGreatSlI
import Derived.Test.YtfojilogcecphaaGreatMin
import Derived.Outline
namespace Go.Proofs.YtfojilogcecphaaGreat.SlB
open Go.ChangeShapes Go.WideShapes Go.ChangeAt Go.RowKit Sl

theorem info : (Tryz.prog.info? 5).map (fun i => (i.zero, i.size, i.bytes)) = some (some (.int .u8 0), 1, 1) := by kernel_rfl

theorem wf_in {x : Int} (h : (Lit.int .u8 x).wf = true) : inK .u8 x := bounds_u8 h
/-- The call answers a new slice that reads as zs; what lay before is as it was. -/
def Makes (zs : List Int) (w : World) (e : Ending) (w' : World) : Prop := ∃ p n c, e = .returned (.slice p n c) ∧ Ow .u8 5 w' w.heap.size w'.heap.size p n c zs ∧ Below w.heap.size w w'
theorem set_copy (zs : List Int) (j : Nat) (h : j < zs.length) : ((zs.take j).map (Value.int .u8) ++ List.replicate (zs.length - j) (Value.int .u8 0)).set j (.int .u8 (zs.getD j 0)) = (zs.take (j + 1)).map (Value.int .u8) ++ List.replicate (zs.length - (j + 1)) (Value.int .u8 0) := by
  have e : zs.length - j = (zs.length - (j + 1)) + 1 := by omega
  rw [e, List.replicate_succ, List.set_append_right _ _ (by rw [List.length_map, List.length_take]; omega), List.length_map, List.length_take]
  rw [show j - min j zs.length = 0 by omega, List.set_cons_zero, List.take_succ_eq_append_getElem h, List.map_append, List.append_assoc, List.getD_eq_getElem?_getD, List.getElem?_eq_getElem h]
  rfl

/-- the copy after j elements -/
def Mid (zs : List Int) (n j : Nat) (w wr : World) : Prop :=
  wr.ownsRow w.heap.size 5 1 (.slice (some ⟨w.heap.size, 0, none⟩) n n) n ((zs.take j).map (Value.int .u8) ++ List.replicate (n - j) (Value.int .u8 0)) ∧ Below w.heap.size w wr
theorem Mid.start {zs : List Int} {n : Nat} {w w1 : World} (hown : w1.ownsRow w.heap.size 5 1 (.slice (some ⟨w.heap.size, 0, none⟩) n n) n (madeCells (Value.int .u8 0).cells (n * 1)).toList) (hg : w.grownBy w1 none) : Mid zs n 0 w w1 := by
  have e : (madeCells (Value.int .u8 0).cells (n * 1)).toList = List.replicate n (Value.int .u8 0) := by
    rw [Nat.mul_one]
    exact toList_madeCells_one _ _
  rw [e] at hown
  exact ⟨hown, (Below.refl _ _).grown hg (Nat.le_refl _) (fun _ h => by cases h)⟩
theorem Mid.cell {zs : List Int} {n j : Nat} {w wr : World} (h : Mid zs n j w wr) (hj : j < n) (hl : zs.length = n) : wr.cell? ⟨w.heap.size, j, none⟩ = some (.int .u8 0) := by
  rw [h.1.cellAt j (by omega), List.getElem?_append_right (by rw [List.length_map, List.length_take]; omega), List.length_map, List.length_take, List.getElem?_replicate, if_pos (by omega)]
theorem Mid.free {zs : List Int} {n j : Nat} {w wr : World} (h : Mid zs n j w wr) : wr.frozen? ⟨w.heap.size, j, none⟩ = false := h.1.frozenAt j
theorem Mid.next {zs : List Int} {n j : Nat} {w wr : World} (h : Mid zs n j w wr) (hj : j < n) (hl : zs.length = n) : Mid zs n (j + 1) w (wr.setCell ⟨w.heap.size, j, none⟩ (.int .u8 (zs.getD j 0))) := by
  obtain ⟨h1, h2⟩ := h.1.stored j (.int .u8 (zs.getD j 0))
  subst hl
  rw [set_copy zs j hj] at h1
  exact ⟨h1, h.2.setCell (Nat.le_refl _) _⟩
theorem Mid.done {zs : List Int} {n : Nat} {w wr : World} (h : Mid zs n n w wr) (hl : zs.length = n) (ha : allK .u8 zs) : Makes zs w (.returned (.slice (some ⟨w.heap.size, 0, none⟩) n n)) wr := by
  subst hl
  obtain ⟨h1, h2⟩ := h
  rw [List.take_length, Nat.sub_self, List.replicate_zero, List.append_nil] at h1
  exact ⟨_, _, _, rfl, Ow.of_row h1 ha, h2⟩

/-- The call answers true; what lay before is as it was. -/
def Yes (w : World) (e : Ending) (w' : World) : Prop := e = .returned (.bool true) ∧ Below w.heap.size w w'
/-- the slice after j marks -/
def MarkMid (lo hi : Nat) (p : Option Addr) (n c : Nat) (zs : List Int) (m : Int) (j : Nat) (w wr : World) : Prop :=
  Ow .u8 5 wr lo hi p n c (marks byteK m j ++ zs.drop j) ∧ w.grownBy wr (Value.slice p n c).ownBlock
theorem MarkMid.next {lo hi g n c j : Nat} {zs : List Int} {m : Int} {w wr : World} (h : MarkMid lo hi (some ⟨g, 0, none⟩) n c zs m j w wr) (hj : j < n) (hl : zs.length = n) {x : Int} (hx : x = byteK (m + j)) : MarkMid lo hi (some ⟨g, 0, none⟩) n c zs m (j + 1) w (wr.setCell ⟨g, j, none⟩ (.int .u8 x)) := by
  subst hx
  obtain ⟨h1, h2⟩ := h.1.own.stored j (.int .u8 (byteK (m + j)))
  rw [← List.map_set, marks_set _ _ _ _ (by omega)] at h1
  refine ⟨⟨h1, allK_append (marks_all byteK_in _ _) (allK_drop (fun x hx => ?_) 0), Nat.le_trans h.1.2.2.1 h2.size, h.1.2.2.2⟩, ?_⟩
  · rw [show zs.drop (j + 1) = (zs.drop j).drop 1 by rw [List.drop_drop]] at hx
    exact h.1.all x (List.mem_append_right _ (List.mem_of_mem_drop hx))
  · exact ⟨h2.os.trans h.2.os, h2.tape.trans h.2.tape, h2.output.trans h.2.output, Nat.le_trans h.2.size h2.size, fun i hi hne => (h2.block i (Nat.lt_of_lt_of_le hi h.2.size) hne).trans (h.2.block i hi hne)⟩
/-- The call answers the next mark; the slice bears the marks; no other block has turned. -/
def Marked (lo hi : Nat) (p : Option Addr) (n c : Nat) (m : Int) (w : World) (e : Ending) (w' : World) : Prop := e = .returned (.int .i64 (m + n)) ∧ Ow .u8 5 w' lo hi p n c (marks byteK m n) ∧ w.grownBy w' (Value.slice p n c).ownBlock
theorem MarkMid.done {lo hi n c : Nat} {p : Option Addr} {zs : List Int} {m : Int} {w wr : World} (h : MarkMid lo hi p n c zs m n w wr) (hl : zs.length = n) : Marked lo hi p n c m w (.returned (.int .i64 (m + n))) wr := by
  subst hl
  obtain ⟨h1, h2⟩ := h
  rw [marks_end] at h1
  exact ⟨rfl, h1, h2⟩
end Go.Proofs.YtfojilogcecphaaGreat.SlB

namespace Go.Proofs.YtfojilogcecphaaGreat.Hs
open Go.ChangeShapes Go.WideShapes Go.ChangeAt Go.RowKit Sl

def hstep (h v : Int) : Int := (h * 1000003 + v % 2147483647 + 13) % 2147483647
theorem hstep_def (h v : Int) : (h * 1000003 + v % 2147483647 + 13) % 2147483647 = hstep h v := rfl
theorem hstep_in (h v : Int) : 0 ≤ hstep h v ∧ hstep h v ≤ 2147483646 := by unfold hstep; omega
def hashF (h : Int) (zs : List Int) : Int := zs.foldl hstep h
theorem hashF_nil (h : Int) : hashF h [] = h := rfl
theorem hashF_cons (h v : Int) (zs : List Int) : hashF h (v :: zs) = hashF (hstep h v) zs := rfl
theorem hashF_snoc (h v : Int) (zs : List Int) : hashF h (zs ++ [v]) = hstep (hashF h zs) v := by
  unfold hashF
  rw [List.foldl_append]
  rfl
theorem hashF_in {h : Int} (h0 : 0 ≤ h ∧ h ≤ 2147483646) (zs : List Int) : 0 ≤ hashF h zs ∧ hashF h zs ≤ 2147483646 := by
  induction zs generalizing h with
  | nil => exact h0
  | cons v zs ih => rw [hashF_cons]; exact ih (hstep_in h v)
theorem hashF_take {zs : List Int} {k : Nat} (h : Int) (hk : k < zs.length) : hashF h (zs.take (k + 1)) = hstep (hashF h (zs.take k)) (zs.getD k 0) := by
  rw [List.take_succ_eq_append_getElem hk, hashF_snoc, List.getD_eq_getElem?_getD, List.getElem?_eq_getElem hk]
  rfl
def hash (zs : List Int) : Int := hashF 11 zs
theorem hash_in (zs : List Int) : 0 ≤ hash zs ∧ hash zs ≤ 2147483646 := hashF_in (by omega) zs
def khash (k : Int) (zs : List Int) : Int := hstep (hashF (hstep 11 k) zs) k
theorem khash_in (k : Int) (zs : List Int) : 0 ≤ khash k zs ∧ khash k zs ≤ 2147483646 := hstep_in _ _
theorem khash_hash (k : Int) (zs : List Int) : hash ([k] ++ zs ++ [k]) = khash k zs := by
  unfold hash khash
  rw [hashF_snoc]
  rfl

theorem mod_m (v : Int) (w : World) : Calls Tryz.prog 186 #[.int .i64 v, .int .i64 2147483647] w fun e w' => e = .returned (.int .i64 (v % 2147483647)) ∧ w = w' := by
  have h := Ints.mod_any v 2147483647 w
  rw [Ints.modI_in _ _ (by omega)] at h
  exact h
theorem spec_mod_m (v : Int) (w : World) : Calls Tryz.prog 178 #[.int .i64 v, .int .i64 2147483647] w fun e w' => e = .returned (.int .i64 (v % 2147483647)) ∧ w = w' := by
  have h := Ints.spec_mod_any v 2147483647 w
  rw [Ints.modI_in _ _ (by omega)] at h
  exact h
theorem spec_mod_256 (v : Int) (w : World) : Calls Tryz.prog 178 #[.int .i64 v, .int .i64 256] w fun e w' => e = .returned (.int .i64 (v % 256)) ∧ w = w' := by
  have h := Ints.spec_mod_any v 256 w
  rw [Ints.modI_in _ _ (by omega)] at h
  exact h
set_option maxHeartbeats 400000 in
theorem with_any (h v : Int) (w : World) (h0 : 0 ≤ h) (h1 : h ≤ 2147483646) : Calls Tryz.prog 168 #[.int .i64 h, .int .i64 v] w fun e w' => e = .returned (.int .i64 (hstep h v)) ∧ w = w' := by
  go_enter Tryz.func168, Tryz.ntmps168
  go_wp2_with fail
  refine (mod_m _ _).mono ?_
  rintro e w1 ⟨rfl, rfl⟩
  go_wp2_with fail
  go_ret
  exact ⟨Ints.ret_int (hstep_def h v), rfl⟩
set_option maxHeartbeats 1000000 in
theorem withAll_any (h : Int) (p : Option Addr) (n c : Nat) (zs : List Int) (w : World) (hr : Rd .i64 w p n zs) (h0 : 0 ≤ h) (h1 : h ≤ 2147483646) : Calls Tryz.prog 169 #[.int .i64 h, .slice p n c] w fun e w' => e = .returned (.int .i64 (hashF h zs)) ∧ w = w' := by
  have HR := Lib.hid hr
  have HL := Lib.hid hr.len
  have hle := hr.le
  clear hr
  go_enter Tryz.func169, Tryz.ntmps169
  go_wp2_with fail
  go_loop [0, 9] (fun x i => ∃ (k : Nat) (y : Int), k ≤ n ∧ i = .int .i64 k ∧ x = .int .i64 y ∧ 0 ≤ y ∧ y ≤ 2147483646 ∧ Hid (y = hashF h (zs.take k))) (fun _ i => n - (intOf i).toNat)
  case atStart => exact ⟨0, h, Nat.zero_le _, rfl, rfl, h0, h1, rfl⟩
  case round =>
    obtain ⟨k, y, hk, rfl, rfl, hy0, hy1, HY⟩ := hrel
    by_cases hlt : k < n
    · obtain ⟨b, o, rfl, hb, hc⟩ := HR.out.at_ hlt
      generalize hx : zs.getD k 0 = x at hc
      have HX := Lib.hid hx
      clear hx
      go_wp2_with fail
      refine (with_any _ _ _ (by omega) (by omega)).mono ?_
      rintro e w1 ⟨rfl, rfl⟩
      go_wp2_with fail
      have hin := hstep_in y x
      go_round
      case rel => exact ⟨k + 1, _, by omega, by go_num, rfl, hin.1, hin.2, Lib.hid (by rw [hashF_take h (by rw [HL.out]; exact hlt), HX.out, HY.out])⟩
      case measure => simp [intOf]; omega
    · obtain rfl : k = n := by omega
      go_wp2_with fail
      go_ret
      exact ⟨Ints.ret_int (by rw [HY.out, List.take_of_length_le (by rw [HL.out]; exact Nat.le_refl _)]), rfl⟩
theorem khash_any (k : Int) (p : Option Addr) (n c : Nat) (zs : List Int) (w : World) (hr : Rd .i64 w p n zs) : Calls Tryz.prog 194 #[.int .i64 k, .slice p n c] w fun e w' => e = .returned (.int .i64 (khash k zs)) ∧ w = w' := by
  have HR := Lib.hid hr
  have hin := hstep_in 11 k
  have hin2 := hashF_in hin zs
  obtain ⟨i1, i2⟩ := hin
  obtain ⟨i3, i4⟩ := hin2
  clear hr
  go_enter Tryz.func194, Tryz.ntmps194
  go_wp2_with fail
  refine (with_any _ _ _ (by omega) (by omega)).mono ?_
  rintro e w1 ⟨rfl, rfl⟩
  go_wp2_with fail
  refine (withAll_any _ _ _ _ _ _ HR.out i1 i2).mono ?_
  rintro e w1 ⟨rfl, rfl⟩
  go_wp2_with fail
  refine (with_any _ _ _ i3 i4).mono ?_
  rintro e w1 ⟨rfl, rfl⟩
  go_wp2_with fail
  go_ret
  exact ⟨rfl, rfl⟩

/-! ### the reference -/
set_option maxHeartbeats 1000000 in
theorem spec_hash_any (p : Option Addr) (n c : Nat) (zs : List Int) (w : World) (hr : Rd .i64 w p n zs) : Calls Tryz.prog 154 #[.slice p n c] w fun e w' => e = .returned (.int .i64 (hash zs)) ∧ w = w' := by
  have HR := Lib.hid hr
  have HL := Lib.hid hr.len
  have hle := hr.le
  clear hr
  go_enter Tryz.func154, Tryz.ntmps154
  go_wp2_with fail
  go_loop [3, 4] (fun x i => ∃ (k : Nat) (y : Int), k ≤ n ∧ i = .int .i64 k ∧ x = .int .i64 y ∧ 0 ≤ y ∧ y ≤ 2147483646 ∧ Hid (y = hashF 11 (zs.take k))) (fun _ i => n - (intOf i).toNat)
  case atStart => exact ⟨0, 11, Nat.zero_le _, rfl, rfl, by omega, by omega, rfl⟩
  case round =>
    obtain ⟨k, y, hk, rfl, rfl, hy0, hy1, HY⟩ := hrel
    by_cases hlt : k < n
    · obtain ⟨b, o, rfl, hb, hc⟩ := HR.out.at_ hlt
      generalize hx : zs.getD k 0 = x at hc
      have HX := Lib.hid hx
      clear hx
      go_wp2_with fail
      refine (spec_mod_m _ _).mono ?_
      rintro e w1 ⟨rfl, rfl⟩
      go_wp2_with fail
      have hin := hstep_in y x
      go_round
      case rel => exact ⟨k + 1, _, by omega, by go_num, rfl, hin.1, hin.2, Lib.hid (by rw [hashF_take 11 (by rw [HL.out]; exact hlt), HX.out, ← HY.out, hstep_def])⟩
      case measure => simp [intOf]; omega
    · obtain rfl : k = n := by omega
      go_wp2_with fail
      go_ret
      exact ⟨Ints.ret_int (by rw [HY.out, List.take_of_length_le (by rw [HL.out]; exact Nat.le_refl _)]; rfl), rfl⟩
/-- one int that is laid in a block anew -/
theorem lit1_own (w : World) (lo : Nat) (k : Int) (hk : inK .i64 k) (h : lo ≤ w.heap.size) : Ow .i64 3 (w.alloc (.cells #[.int .i64 k] 3)) lo (w.alloc (.cells #[.int .i64 k] 3)).heap.size (some ⟨w.heap.size, 0, none⟩) 1 1 [k] :=
  Ow.of_row (World.ownsRow_lit w #[.int .i64 k] 1 h (by unfold maxLen; omega) rfl) (fun x hx => by rw [List.mem_singleton] at hx; rw [hx]; exact hk)
/-- The call answers a number; what lay before is as it was. -/
def Num (x : Int) (w : World) (e : Ending) (w' : World) : Prop := e = .returned (.int .i64 x) ∧ Below w.heap.size w w'
set_option maxRecDepth 100000 in
set_option maxHeartbeats 1000000 in
theorem spec_khash_any (k : Int) (p : Option Addr) (n c : Nat) (zs : List Int) (w : World) (hr : Rd .i64 w p n zs) (hk : inK .i64 k) (hn : n ≤ 100000000) : Calls Tryz.prog 177 #[.int .i64 k, .slice p n c] w (Num (khash k zs) w) := by
  obtain ⟨i0, hi, hz0, hz1, hz2⟩ := info_parts SlI.info
  have HR := Lib.hid hr
  have HO := Lib.hid (lit1_own w w.heap.size k hk (Nat.le_refl _))
  have HB := Lib.hid ((Below.refl w.heap.size w).alloc (Nat.le_refl _) (.cells #[.int .i64 k] 3))
  clear hr
  go_enter Tryz.func177, Tryz.ntmps177
  go_wp2_with (first
    | (at_builtin; refine wpList_appR rfl (.tmp 6) (.tmp 7) 31 rfl i0 _ 8 Tryz.underlying31 hi hz0 hz1 hz2 rfl rfl HO.out p n c zs rfl (HR.out.alloc _) (by simp) (by omega) (by omega) ?_; intro p1 c1 w1 how1 hg1; have HO1 := Lib.hid how1; have HB1 := Lib.hid (below_row HB.out HO.out hg1 (Nat.le_refl _)); clear how1 hg1)
    | (at_builtin; refine wpList_app1 rfl (.tmp 8) (.tmp 10) 31 rfl i0 _ 8 Tryz.underlying31 hi hz0 hz1 hz2 rfl rfl (HO1.out.alloc _) w1.heap.size 1 k rfl (by go_simp) hk (Nat.le_trans HB1.out.size (by simp)) (by omega) (by omega) ?_; intro p2 c2 w2 how2 hg2; have HO2 := Lib.hid how2; have HB2 := Lib.hid ((HB1.out.alloc HB1.out.size _).trans ((HO1.out.alloc _).below_row hg2 (Nat.le_trans HB1.out.size (by simp)))); clear how2 hg2))
  refine (spec_hash_any _ _ _ _ _ HO2.out.rd).mono ?_
  rintro e w3 ⟨rfl, rfl⟩
  go_wp2_with fail
  go_ret
  exact ⟨Ints.ret_int (khash_hash k zs), HB2.out⟩
theorem num_of {x : Int} {w : World} {e : Ending} {w' : World} (h : e = .returned (.int .i64 x) ∧ w = w') : Num x w e w' := by
  obtain ⟨rfl, rfl⟩ := h
  exact ⟨rfl, Below.refl _ _⟩
/-- The call answers b; what lay before is as it was. -/
def Bool_ (b : Bool) (w : World) (e : Ending) (w' : World) : Prop := e = .returned (.bool b) ∧ Below w.heap.size w w'
def validB (k : Int) : Bool := decide (1 ≤ k ∧ k ≤ 2147483646)
/-- the length and the bytes -/
def b2i (xs : List Int) : List Int := (xs.length : Int) :: xs
theorem b2i_take {xs : List Int} {n k : Nat} (hl : xs.length = n) (hk : k < n) : ((n : Int) :: xs.take k) ++ [xs.getD k 0] = (n : Int) :: xs.take (k + 1) := by
  rw [List.take_succ_eq_append_getElem (by omega), List.getD_eq_getElem?_getD, List.getElem?_eq_getElem (by omega)]
  rfl
theorem b2i_end {xs : List Int} {n : Nat} (hl : xs.length = n) : (n : Int) :: xs.take n = b2i xs := by
  unfold b2i
  rw [hl, List.take_of_length_le (by omega)]
/-- on the way: the length and k bytes -/
def B2Way (xs : List Int) (n k : Nat) (p : Option Addr) (m c : Nat) (w wr : World) : Prop :=
  Ow .i64 3 wr w.heap.size wr.heap.size p m c ((n : Int) :: xs.take k) ∧ Below w.heap.size w wr
theorem B2Way.len {xs : List Int} {n k m c : Nat} {p : Option Addr} {w wr : World} (h : B2Way xs n k p m c w wr) (hl : xs.length = n) (hk : k ≤ n) : m = k + 1 := by
  have := h.1.len
  simp only [List.length_cons, List.length_take] at this
  omega
theorem B2Way.next {xs : List Int} {n k m c c' : Nat} {p p' : Option Addr} {w wr w' : World} {T : TypeId} {y : Int} (h : B2Way xs n k p m c w wr) (hl : xs.length = n) (hk : k < n) (hy : xs.getD k 0 = y) (ho : Ow .i64 3 w' w.heap.size w'.heap.size p' (m + 1) c' (((n : Int) :: xs.take k) ++ [y])) (hg : (wr.alloc (.cells #[.int .i64 y] T)).grownBy w' (Value.slice p m c).ownBlock) : B2Way xs n (k + 1) p' (m + 1) c' w w' := by
  subst hy
  rw [b2i_take hl hk] at ho
  exact ⟨ho, (h.2.alloc h.2.size _).trans ((h.1.alloc _).below_row hg (Nat.le_trans h.2.size (by simp)))⟩
theorem B2Way.done {xs : List Int} {n m c : Nat} {p : Option Addr} {w wr : World} (h : B2Way xs n n p m c w wr) (hl : xs.length = n) : SlI.Makes (b2i xs) w (.returned (.slice p m c)) wr := by
  obtain ⟨h1, h2⟩ := h
  rw [b2i_end hl] at h1
  exact ⟨_, _, _, rfl, h1, h2⟩
end Go.Proofs.YtfojilogcecphaaGreat.Hs
