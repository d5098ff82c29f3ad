/- Hashes: mathematics, and contracts in the program and in the reference. -/
import Derived.Test.YtjaholcmaafenaaSlI
import Derived.Test.YtjaholcmaafenaaSlB
import Derived.Test.YtjaholcmaafenaaMin
import Derived.Outline
namespace Go.Proofs.Ytjaholcmaafenaa.Hs
open Go.ChangeShapes Go.WideShapes Go.ChangeAt Go.RowKit Sl

def hstep (h v : Int) : Int := (h * 1000003 + v % 2147483647 + 13) % 2147483647
theorem hstep_def (h v : Int) : (h * 1000003 + v % 2147483647 + 13) % 2147483647 = hstep h v := rfl
theorem hstep_in (h v : Int) : 0 ≤ hstep h v ∧ hstep h v ≤ 2147483646 := by unfold hstep; omega
def hashF (h : Int) (zs : List Int) : Int := zs.foldl hstep h
theorem hashF_nil (h : Int) : hashF h [] = h := rfl
theorem hashF_cons (h v : Int) (zs : List Int) : hashF h (v :: zs) = hashF (hstep h v) zs := rfl
theorem hashF_snoc (h v : Int) (zs : List Int) : hashF h (zs ++ [v]) = hstep (hashF h zs) v := by
  unfold hashF
  rw [List.foldl_append]
  rfl
theorem hashF_in {h : Int} (h0 : 0 ≤ h ∧ h ≤ 2147483646) (zs : List Int) : 0 ≤ hashF h zs ∧ hashF h zs ≤ 2147483646 := by
  induction zs generalizing h with
  | nil => exact h0
  | cons v zs ih => rw [hashF_cons]; exact ih (hstep_in h v)
theorem hashF_take {zs : List Int} {k : Nat} (h : Int) (hk : k < zs.length) : hashF h (zs.take (k + 1)) = hstep (hashF h (zs.take k)) (zs.getD k 0) := by
  rw [List.take_succ_eq_append_getElem hk, hashF_snoc, List.getD_eq_getElem?_getD, List.getElem?_eq_getElem hk]
  rfl
def hash (zs : List Int) : Int := hashF 11 zs
theorem hash_in (zs : List Int) : 0 ≤ hash zs ∧ hash zs ≤ 2147483646 := hashF_in (by omega) zs
def khash (k : Int) (zs : List Int) : Int := hstep (hashF (hstep 11 k) zs) k
theorem khash_in (k : Int) (zs : List Int) : 0 ≤ khash k zs ∧ khash k zs ≤ 2147483646 := hstep_in _ _
theorem khash_hash (k : Int) (zs : List Int) : hash ([k] ++ zs ++ [k]) = khash k zs := by
  unfold hash khash
  rw [hashF_snoc]
  rfl

theorem mod_m (v : Int) (w : World) : Calls Try.prog 184 #[.int .i64 v, .int .i64 2147483647] w fun e w' => e = .returned (.int .i64 (v % 2147483647)) ∧ w = w' := by
  have h := Ints.mod_any v 2147483647 w
  rw [Ints.modI_in _ _ (by omega)] at h
  exact h
theorem spec_mod_m (v : Int) (w : World) : Calls Try.prog 145 #[.int .i64 v, .int .i64 2147483647] w fun e w' => e = .returned (.int .i64 (v % 2147483647)) ∧ w = w' := by
  have h := Ints.spec_mod_any v 2147483647 w
  rw [Ints.modI_in _ _ (by omega)] at h
  exact h
theorem spec_mod_256 (v : Int) (w : World) : Calls Try.prog 145 #[.int .i64 v, .int .i64 256] w fun e w' => e = .returned (.int .i64 (v % 256)) ∧ w = w' := by
  have h := Ints.spec_mod_any v 256 w
  rw [Ints.modI_in _ _ (by omega)] at h
  exact h
set_option maxHeartbeats 400000 in
theorem with_any (h v : Int) (w : World) (h0 : 0 ≤ h) (h1 : h ≤ 2147483646) : Calls Try.prog 181 #[.int .i64 h, .int .i64 v] w fun e w' => e = .returned (.int .i64 (hstep h v)) ∧ w = w' := by
  go_enter Try.func181, Try.ntmps181
  go_wp2_with fail
  refine (mod_m _ _).mono ?_
  rintro e w1 ⟨rfl, rfl⟩
  go_wp2_with fail
  go_ret
  exact ⟨Ints.ret_int (hstep_def h v), rfl⟩
set_option maxHeartbeats 1000000 in
theorem withAll_any (h : Int) (p : Option Addr) (n c : Nat) (zs : List Int) (w : World) (hr : Rd .i64 w p n zs) (h0 : 0 ≤ h) (h1 : h ≤ 2147483646) : Calls Try.prog 182 #[.int .i64 h, .slice p n c] w fun e w' => e = .returned (.int .i64 (hashF h zs)) ∧ w = w' := by
  have HR := Lib.hid hr
  have HL := Lib.hid hr.len
  have hle := hr.le
  clear hr
  go_enter Try.func182, Try.ntmps182
  go_wp2_with fail
  go_loop [0, 9] (fun x i => ∃ (k : Nat) (y : Int), k ≤ n ∧ i = .int .i64 k ∧ x = .int .i64 y ∧ 0 ≤ y ∧ y ≤ 2147483646 ∧ Hid (y = hashF h (zs.take k))) (fun _ i => n - (intOf i).toNat)
  case atStart => exact ⟨0, h, Nat.zero_le _, rfl, rfl, h0, h1, rfl⟩
  case round =>
    obtain ⟨k, y, hk, rfl, rfl, hy0, hy1, HY⟩ := hrel
    by_cases hlt : k < n
    · obtain ⟨b, o, rfl, hb, hc⟩ := HR.out.at_ hlt
      generalize hx : zs.getD k 0 = x at hc
      have HX := Lib.hid hx
      clear hx
      go_wp2_with fail
      refine (with_any _ _ _ (by omega) (by omega)).mono ?_
      rintro e w1 ⟨rfl, rfl⟩
      go_wp2_with fail
      have hin := hstep_in y x
      go_round
      case rel => exact ⟨k + 1, _, by omega, by go_num, rfl, hin.1, hin.2, Lib.hid (by rw [hashF_take h (by rw [HL.out]; exact hlt), HX.out, HY.out])⟩
      case measure => simp [intOf]; omega
    · obtain rfl : k = n := by omega
      go_wp2_with fail
      go_ret
      exact ⟨Ints.ret_int (by rw [HY.out, List.take_of_length_le (by rw [HL.out]; exact Nat.le_refl _)]), rfl⟩
/-! ### the reference -/
set_option maxHeartbeats 1000000 in
theorem spec_hash_any (p : Option Addr) (n c : Nat) (zs : List Int) (w : World) (hr : Rd .i64 w p n zs) : Calls Try.prog 136 #[.slice p n c] w fun e w' => e = .returned (.int .i64 (hash zs)) ∧ w = w' := by
  have HR := Lib.hid hr
  have HL := Lib.hid hr.len
  have hle := hr.le
  clear hr
  go_enter Try.func136, Try.ntmps136
  go_wp2_with fail
  go_loop [3, 4] (fun x i => ∃ (k : Nat) (y : Int), k ≤ n ∧ i = .int .i64 k ∧ x = .int .i64 y ∧ 0 ≤ y ∧ y ≤ 2147483646 ∧ Hid (y = hashF 11 (zs.take k))) (fun _ i => n - (intOf i).toNat)
  case atStart => exact ⟨0, 11, Nat.zero_le _, rfl, rfl, by omega, by omega, rfl⟩
  case round =>
    obtain ⟨k, y, hk, rfl, rfl, hy0, hy1, HY⟩ := hrel
    by_cases hlt : k < n
    · obtain ⟨b, o, rfl, hb, hc⟩ := HR.out.at_ hlt
      generalize hx : zs.getD k 0 = x at hc
      have HX := Lib.hid hx
      clear hx
      go_wp2_with fail
      refine (spec_mod_m _ _).mono ?_
      rintro e w1 ⟨rfl, rfl⟩
      go_wp2_with fail
      have hin := hstep_in y x
      go_round
      case rel => exact ⟨k + 1, _, by omega, by go_num, rfl, hin.1, hin.2, Lib.hid (by rw [hashF_take 11 (by rw [HL.out]; exact hlt), HX.out, ← HY.out, hstep_def])⟩
      case measure => simp [intOf]; omega
    · obtain rfl : k = n := by omega
      go_wp2_with fail
      go_ret
      exact ⟨Ints.ret_int (by rw [HY.out, List.take_of_length_le (by rw [HL.out]; exact Nat.le_refl _)]; rfl), rfl⟩
/-- one int that is laid in a block anew -/
theorem lit1_own (w : World) (lo : Nat) (k : Int) (hk : inK .i64 k) (h : lo ≤ w.heap.size) : Ow .i64 3 (w.alloc (.cells #[.int .i64 k] 3)) lo (w.alloc (.cells #[.int .i64 k] 3)).heap.size (some ⟨w.heap.size, 0, none⟩) 1 1 [k] :=
  Ow.of_row (World.ownsRow_lit w #[.int .i64 k] 1 h (by unfold maxLen; omega) rfl) (fun x hx => by rw [List.mem_singleton] at hx; rw [hx]; exact hk)
/-- The call answers a number; what lay before is as it was. -/
def Num (x : Int) (w : World) (e : Ending) (w' : World) : Prop := e = .returned (.int .i64 x) ∧ Below w.heap.size w w'
theorem num_of {x : Int} {w : World} {e : Ending} {w' : World} (h : e = .returned (.int .i64 x) ∧ w = w') : Num x w e w' := by
  obtain ⟨rfl, rfl⟩ := h
  exact ⟨rfl, Below.refl _ _⟩
/-- The call answers b; what lay before is as it was. -/
def Bool_ (b : Bool) (w : World) (e : Ending) (w' : World) : Prop := e = .returned (.bool b) ∧ Below w.heap.size w w'
def validB (k : Int) : Bool := decide (1 ≤ k ∧ k ≤ 2147483646)
/-- the length and the bytes -/
def b2i (xs : List Int) : List Int := (xs.length : Int) :: xs
theorem b2i_take {xs : List Int} {n k : Nat} (hl : xs.length = n) (hk : k < n) : ((n : Int) :: xs.take k) ++ [xs.getD k 0] = (n : Int) :: xs.take (k + 1) := by
  rw [List.take_succ_eq_append_getElem (by omega), List.getD_eq_getElem?_getD, List.getElem?_eq_getElem (by omega)]
  rfl
theorem b2i_end {xs : List Int} {n : Nat} (hl : xs.length = n) : (n : Int) :: xs.take n = b2i xs := by
  unfold b2i
  rw [hl, List.take_of_length_le (by omega)]
/-- on the way: the length and k bytes -/
def B2Way (xs : List Int) (n k : Nat) (p : Option Addr) (m c : Nat) (w wr : World) : Prop :=
  Ow .i64 3 wr w.heap.size wr.heap.size p m c ((n : Int) :: xs.take k) ∧ Below w.heap.size w wr
theorem B2Way.len {xs : List Int} {n k m c : Nat} {p : Option Addr} {w wr : World} (h : B2Way xs n k p m c w wr) (hl : xs.length = n) (hk : k ≤ n) : m = k + 1 := by
  have := h.1.len
  simp only [List.length_cons, List.length_take] at this
  omega
theorem B2Way.next {xs : List Int} {n k m c c' : Nat} {p p' : Option Addr} {w wr w' : World} {T : TypeId} {y : Int} (h : B2Way xs n k p m c w wr) (hl : xs.length = n) (hk : k < n) (hy : xs.getD k 0 = y) (ho : Ow .i64 3 w' w.heap.size w'.heap.size p' (m + 1) c' (((n : Int) :: xs.take k) ++ [y])) (hg : (wr.alloc (.cells #[.int .i64 y] T)).grownBy w' (Value.slice p m c).ownBlock) : B2Way xs n (k + 1) p' (m + 1) c' w w' := by
  subst hy
  rw [b2i_take hl hk] at ho
  exact ⟨ho, (h.2.alloc h.2.size _).trans ((h.1.alloc _).below_row hg (Nat.le_trans h.2.size (by simp)))⟩
theorem B2Way.done {xs : List Int} {n m c : Nat} {p : Option Addr} {w wr : World} (h : B2Way xs n n p m c w wr) (hl : xs.length = n) : SlI.Makes (b2i xs) w (.returned (.slice p m c)) wr := by
  obtain ⟨h1, h2⟩ := h
  rw [b2i_end hl] at h1
  exact ⟨_, _, _, rfl, h1, h2⟩
set_option maxRecDepth 100000 in
set_option maxHeartbeats 1000000 in
theorem b2i_any (p : Option Addr) (n c : Nat) (xs : List Int) (w : World) (hr : Rd .u8 w p n xs) (hn : n ≤ 100000000) : Calls Try.prog 183 #[.slice p n c] w (SlI.Makes (b2i xs) w) := by
  obtain ⟨i0, hi, hz0, hz1, hz2⟩ := info_parts SlI.info
  have HR := Lib.hid hr
  have HL := Lib.hid hr.len
  clear hr
  go_enter Try.func183, Try.ntmps183
  go_wp2_with (first
    | (refine wpList_make_own _ rfl _ _ 27 rfl w.heap.size 3 i0 (.int .i64 0) 1 Try.underlying27 hi hz0 hz1 .i64 .i64 _ (n + 1) rfl rfl (by go_num) (by rw [hz2]; omega) (by unfold maxLen; omega) (Nat.le_refl _) ?_; intro w1 hown1 hg1; have HO1 := Lib.hid (Ow.of_row (k := .i64) (zs := []) hown1 (allK_nil _)); have HB1 := Lib.hid ((Below.refl w.heap.size w).grown hg1 (Nat.le_refl _) (fun _ h => by cases h)); clear hown1 hg1)
    | (at_builtin; refine wpList_app1 rfl (.tmp 10) (.tmp 13) 27 rfl i0 _ 8 Try.underlying27 hi hz0 hz1 hz2 rfl rfl (HO1.out.alloc _) w1.heap.size 1 (n : Int) rfl (by go_simp) ⟨by omega, by omega⟩ (Nat.le_trans HB1.out.size (by simp)) (by omega) (by omega) ?_; intro p2 c2 w2 how2 hg2; have HM : Hid (B2Way xs n 0 p2 (0 + 1) c2 w w2) := Lib.hid ⟨how2, (HB1.out.alloc HB1.out.size _).trans ((HO1.out.alloc _).below_row hg2 (Nat.le_trans HB1.out.size (by simp)))⟩; clear how2 hg2))
  go_loopw [3, 17] (fun v i wr => ∃ (k m c' : Nat) (p' : Option Addr), k ≤ n ∧ i = .int .i64 k ∧ v = .slice p' m c' ∧ Hid (B2Way xs n k p' m c' w wr)) (fun _ i _ => n - (intOf i).toNat)
  case atStart => exact ⟨0, _, _, _, Nat.zero_le _, rfl, rfl, HM⟩
  case round =>
    obtain ⟨k, m, c', p', hk, rfl, rfl, HK⟩ := hrel
    obtain rfl := HK.out.len HL.out hk
    have hs := HK.out.2.size
    by_cases hlt : k < n
    · obtain ⟨b, o, rfl, hb, hc⟩ := HR.out.at_below HK.out.2 hlt
      have hin := byte_range HR.out.all k
      generalize hx : xs.getD k 0 = x at hc hin
      have HX := Lib.hid hx
      obtain ⟨hx1, hx2⟩ := hin
      clear hx
      go_wp2_with (at_builtin; refine wpList_app1 rfl (.tmp 21) (.tmp 24) 27 rfl i0 _ 8 Try.underlying27 hi hz0 hz1 hz2 rfl rfl (HK.out.1.alloc _) wr.heap.size 1 x rfl (by go_simp) ⟨by omega, by omega⟩ (by simp; omega) (by omega) (by omega) ?_; intro p2 c2 w2 how2 hg2; have HK2 := Lib.hid (HK.out.next HL.out hlt HX.out how2 hg2); clear how2 hg2)
      go_round
      case rel => exact ⟨k + 1, _, _, _, by omega, by go_num, rfl, HK2⟩
      case measure => simp [intOf]; omega
    · obtain rfl : k = n := by omega
      go_wp2_with fail
      go_ret
      exact HK.out.done HL.out
end Go.Proofs.Ytjaholcmaafenaa.Hs
