/- Contracts of EqualBytes and EqualInts, in the program and in the reference. -/
import Derived.Test.YtdncodfgllfjiaaSlB
import Derived.Test.YtdncodfgllfjiaaSlI
import Derived.Test.YtdncodfgllfjiaaShelf
namespace Go.Proofs.Ytdncodfgllfjiaa.Var
open Go.ChangeShapes Go.WideShapes Go.ChangeAt Go.RowKit Sl

/-- whether two lists are equal -/
def eqL (xs ys : List Int) : Bool := decide (xs = ys)
theorem eqL_yes {xs ys : List Int} (h : xs = ys) : eqL xs ys = true := decide_eq_true h
theorem eqL_no {xs ys : List Int} (h : xs ≠ ys) : eqL xs ys = false := decide_eq_false h
theorem byte_inj {x y : Int} (h : inK .u8 x) (h' : inK .u8 y) (e : UInt8.ofNat x.toNat = UInt8.ofNat y.toNat) : x = y := by
  have h1 : 0 ≤ x ∧ x ≤ 255 := h
  have h2 : 0 ≤ y ∧ y ≤ 255 := h'
  have h3 := congrArg UInt8.toNat e
  rw [UInt8.toNat_ofNat', UInt8.toNat_ofNat'] at h3
  omega
theorem bytesOf_inj : ∀ {xs ys : List Int}, allK .u8 xs → allK .u8 ys → Lib.bytesOf xs = Lib.bytesOf ys → xs = ys
  | [], [], _, _, _ => rfl
  | [], _ :: _, _, _, h => by simp [Lib.bytesOf] at h
  | _ :: _, [], _, _, h => by simp [Lib.bytesOf] at h
  | x :: xs, y :: ys, hx, hy, h => by
    simp only [Lib.bytesOf, List.map_cons, List.cons.injEq] at h
    rw [byte_inj (hx x (List.mem_cons_self ..)) (hy y (List.mem_cons_self ..)) h.1, bytesOf_inj (fun z hz => hx z (List.mem_cons_of_mem _ hz)) (fun z hz => hy z (List.mem_cons_of_mem _ hz)) h.2]
theorem eqL_bytes {xs ys : List Int} (hx : allK .u8 xs) (hy : allK .u8 ys) : (Lib.bytesOf xs == Lib.bytesOf ys) = eqL xs ys := by
  by_cases h : xs = ys
  · rw [eqL_yes h, h]
    exact beq_self_eq_true _
  · rw [eqL_no h]
    exact beq_eq_false_iff_ne.2 fun e => h (bytesOf_inj hx hy e)
theorem bytesIn {w : World} {p : Option Addr} {n : Nat} {xs : List Int} (h : Rd .u8 w p n xs) : Lib.BytesIn w p n xs := fun hn => by
  obtain ⟨b, o, e, _, hc⟩ := h.2.2.2 hn
  exact ⟨b, o, e, hc⟩
/-- The call answers b; what lay before is as it was. -/
def Tells (b : Bool) (w : World) (e : Ending) (w' : World) : Prop := e = .returned (.bool b) ∧ Below w.heap.size w w'
theorem tells {b b' : Bool} {w w' : World} (h : b' = b) (hb : Below w.heap.size w w') : Tells b w (.returned (.bool b')) w' := ⟨by rw [h], hb⟩

set_option maxHeartbeats 400000 in
theorem eqB_any (p p' : Option Addr) (n n' c c' : Nat) (xs ys : List Int) (w : World) (hr : Rd .u8 w p n xs) (hr' : Rd .u8 w p' n' ys) : Calls Try.prog 41 #[.slice p n c, .slice p' n' c'] w (Tells (eqL xs ys) w) := by
  have HR := Lib.hid hr
  have HR' := Lib.hid hr'
  clear hr hr'
  go_enter Try.func41, Try.ntmps41
  go_wp2_with fail
  refine (Try.bytes_Equal_all p p' n c n' c' xs ys _ HR.out.len HR'.out.len (bytesIn HR.out) (bytesIn HR'.out)).mono ?_
  rintro e w1 ⟨rfl, rfl⟩
  go_wp2_with fail
  go_ret
  exact tells (eqL_bytes HR.out.all HR'.out.all) (Below.refl _ _)
set_option maxHeartbeats 400000 in
theorem spec_eqB_any (p p' : Option Addr) (n n' c c' : Nat) (xs ys : List Int) (w : World) (hr : Rd .u8 w p n xs) (hr' : Rd .u8 w p' n' ys) : Calls Try.prog 40 #[.slice p n c, .slice p' n' c'] w (Tells (eqL xs ys) w) := by
  have h1 := (bytesIn hr).convert hr.len c _ _ _ Try.underlying22 Try.underlying5 Try.underlying9
  have h2 := (bytesIn hr').convert hr'.len c' _ _ _ Try.underlying22 Try.underlying5 Try.underlying9
  have HR := Lib.hid hr
  have HR' := Lib.hid hr'
  clear hr hr'
  go_enter Try.func40, Try.ntmps40
  go_wp2
  go_ret
  refine tells ?_ (Below.refl _ _)
  rw [Lib.strOfNums_toList, Lib.strOfNums_toList]
  exact eqL_bytes HR.out.all HR'.out.all

/-! ### ints -/
theorem slice_nil {k : IntKind} {w : World} {p : Option Addr} {xs : List Int} (h : Rd k w p 0 xs) : xs = [] := List.eq_nil_of_length_eq_zero h.len
theorem take_all {xs : List Int} {n : Nat} (h : xs.length = n) : xs.take n = xs := by rw [← h, List.take_length]
theorem eqL_beq (xs ys : List Int) : (xs == ys) = eqL xs ys := by
  by_cases h : xs = ys
  · rw [eqL_yes h, h]; exact beq_self_eq_true _
  · rw [eqL_no h]; exact beq_eq_false_iff_ne.2 h
theorem eqI_lib (p p' : Option Addr) (n n' c c' : Nat) (xs ys : List Int) (w : World) (hr : Rd .i64 w p n xs) (hr' : Rd .i64 w p' n' ys) : Calls Try.prog 58 #[.slice p n c, .slice p' n' c'] w (Tells (eqL xs ys) w) := by
  by_cases hne : n = n'
  · subst hne
    by_cases h0 : n = 0
    · subst h0
      refine (Try.slices_Equal_int_empty p p' c 0 c' w (by omega)).mono ?_
      rintro e w1 ⟨rfl, rfl⟩
      have h1 := slice_nil hr
      have h2 := slice_nil hr'
      exact tells (by rw [eqL_yes (by rw [h1, h2])]; rfl) (Below.refl _ _)
    · obtain ⟨b, o, rfl, _, hc⟩ := hr.2.2.2 (by omega)
      obtain ⟨b', o', rfl, _, hc'⟩ := hr'.2.2.2 (by omega)
      refine (Try.slices_Equal_int b o n c b' o' n c' xs ys w (by rw [hr.len]; exact Nat.le_refl _) (by rw [hr'.len]; exact Nat.le_refl _) hr.le hr'.le (fun j hj => hc j (by rw [← hr.len]; exact hj)) (fun j hj => hc' j (by rw [← hr'.len]; exact hj))).mono ?_
      rintro e w1 ⟨rfl, q, rfl⟩
      refine tells ?_ (below_drewN (Below.refl _ _) _)
      rw [take_all hr.len, take_all hr'.len]
      exact eqL_beq _ _
  · refine (Try.slices_Equal_int_lens p p' n c n' c' w hne).mono ?_
    rintro e w1 ⟨rfl, rfl⟩
    exact tells (by rw [eqL_no (fun e => hne (by rw [← hr.len, ← hr'.len, e]))]) (Below.refl _ _)
set_option maxHeartbeats 400000 in
theorem eqI_any (p p' : Option Addr) (n n' c c' : Nat) (xs ys : List Int) (w : World) (hr : Rd .i64 w p n xs) (hr' : Rd .i64 w p' n' ys) : Calls Try.prog 43 #[.slice p n c, .slice p' n' c'] w (Tells (eqL xs ys) w) := by
  have HR := Lib.hid hr
  have HR' := Lib.hid hr'
  clear hr hr'
  go_enter Try.func43, Try.ntmps43
  go_wp2_with fail
  refine (eqI_lib p p' n n' c c' xs ys _ HR.out HR'.out).mono ?_
  rintro e w1 ⟨rfl, hb⟩
  have HB := Lib.hid hb
  clear hb
  go_wp2_with fail
  go_ret
  exact tells rfl HB.out
theorem eqL_first {xs ys : List Int} {k : Nat} (h : xs.getD k 0 ≠ ys.getD k 0) : eqL xs ys = false := eqL_no fun e => h (by rw [e])
theorem eqL_all {xs ys : List Int} {n : Nat} (h : xs.length = n) (h' : ys.length = n) (ha : ∀ j, j < n → xs.getD j 0 = ys.getD j 0) : eqL xs ys = true := by
  refine eqL_yes (List.ext_getElem (by omega) fun i h1 h2 => ?_)
  have := ha i (by omega)
  simpa [List.getD_eq_getElem?_getD, h1, h2] using this
set_option maxHeartbeats 1000000 in
theorem spec_eqI_any (p p' : Option Addr) (n n' c c' : Nat) (xs ys : List Int) (w : World) (hr : Rd .i64 w p n xs) (hr' : Rd .i64 w p' n' ys) : Calls Try.prog 42 #[.slice p n c, .slice p' n' c'] w (Tells (eqL xs ys) w) := by
  have HR := Lib.hid hr
  have HR' := Lib.hid hr'
  have hle := hr.le
  have hle' := hr'.le
  clear hr hr'
  by_cases hne : n = n'
  · subst hne
    go_enter Try.func42, Try.ntmps42
    go_wp2_with fail
    go_loopw [5] (fun i wr => ∃ k q : Nat, k ≤ n ∧ i = .int .i64 k ∧ wr = w.drewN q ∧ Hid (∀ j, j < k → xs.getD j 0 = ys.getD j 0)) (fun i _ => n - (intOf i).toNat)
    case atStart => exact ⟨0, 0, Nat.zero_le _, rfl, rfl, fun j hj => absurd hj (Nat.not_lt_zero _)⟩
    case round =>
      obtain ⟨k, q, hk, rfl, rfl, HE⟩ := hrel
      by_cases hlt : k < n
      · obtain ⟨b, o, rfl, hb, hc⟩ := HR.out.at_ hlt
        obtain ⟨b', o', rfl, hb', hc'⟩ := HR'.out.at_ hlt
        generalize hx : xs.getD k 0 = x at hc
        generalize hy : ys.getD k 0 = y at hc'
        have HX := Lib.hid hx
        have HY := Lib.hid hy
        clear hx hy
        by_cases hxy : x = y
        · have HXY := Lib.hid hxy
          have hb1 : (x == y) = true := beq_iff_eq.2 hxy
          have hb2 : (x != y) = false := by rw [bne, hb1]; rfl
          clear hxy
          go_wp2_with fail
          go_quiet (fail)
          go_wp2_with fail
          refine ⟨⟨k + 1, _, by omega, by go_num, rfl, fun j hj => ?_⟩, by simp [intOf]; omega⟩
          by_cases hjk : j = k
          · rw [hjk, HX.out, HY.out, HXY.out]
          · exact HE.out j (by omega)
        · have HXY := Lib.hid hxy
          have hb1 : (x == y) = false := beq_eq_false_iff_ne.2 hxy
          have hb2 : (x != y) = true := by rw [bne, hb1]; rfl
          clear hxy
          go_wp2_with fail
          go_quiet (fail)
          go_wp2_with fail
          go_ret
          exact tells (by rw [eqL_first (k := k) (by rw [HX.out, HY.out]; exact HXY.out)]) (below_drewN (below_drewN (Below.refl _ _) _) _)
      · obtain rfl : k = n := by omega
        go_wp2_with fail
        go_ret
        exact tells (by rw [eqL_all HR.out.len HR'.out.len HE.out]) (below_drewN (Below.refl _ _) _)
  · have hb1 : ((n : Int) == n') = false := beq_eq_false_iff_ne.2 (by omega)
    have hb2 : ((n : Int) != n') = true := by rw [bne, hb1]; rfl
    have hb3 : (n == n') = false := beq_eq_false_iff_ne.2 hne
    have hb4 : (n != n') = true := by rw [bne, hb3]; rfl
    have HN := Lib.hid hne
    clear hne
    go_enter Try.func42, Try.ntmps42
    go_wp2_with fail
    go_ret
    exact tells (by rw [eqL_no (fun e => HN.out (by rw [← HR.out.len, ← HR'.out.len, e]))]) (Below.refl _ _)
end Go.Proofs.Ytdncodfgllfjiaa.Var
