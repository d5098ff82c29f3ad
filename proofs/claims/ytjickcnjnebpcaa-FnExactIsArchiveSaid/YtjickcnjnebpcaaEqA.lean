/- Contract of the reference's EqualInts. Contracts of pieces compared, in the reference. -/
import Derived.Test.YtjickcnjnebpcaaSlI
import Derived.LoopTactic
import Derived.Deep.QuietTactic
import Derived.BigQuiet
import Derived.Test.YtjickcnjnebpcaaCpA
namespace Go.Proofs.Ytjickcnjnebpcaa.Eqi
open Go.ChangeShapes Go.WideShapes Go.ChangeAt Go.RowKit Sl
def eqL (xs ys : List Int) : Bool := decide (xs = ys)
theorem eqL_yes {xs ys : List Int} (h : xs = ys) : eqL xs ys = true := decide_eq_true h
theorem eqL_no {xs ys : List Int} (h : xs ≠ ys) : eqL xs ys = false := decide_eq_false h
def Tells (b : Bool) (w : World) (e : Ending) (w' : World) : Prop := e = .returned (.bool b) ∧ Below w.heap.size w w'
theorem tells {b b' : Bool} {w w' : World} (h : b' = b) (hb : Below w.heap.size w w') : Tells b w (.returned (.bool b')) w' := ⟨by rw [h], hb⟩
theorem eqL_first {xs ys : List Int} {k : Nat} (h : xs.getD k 0 ≠ ys.getD k 0) : eqL xs ys = false := eqL_no fun e => h (by rw [e])
theorem eqL_all {xs ys : List Int} {n : Nat} (h : xs.length = n) (h' : ys.length = n) (ha : ∀ j, j < n → xs.getD j 0 = ys.getD j 0) : eqL xs ys = true := by
  refine eqL_yes (List.ext_getElem (by omega) fun i h1 h2 => ?_)
  have := ha i (by omega)
  simpa [List.getD_eq_getElem?_getD, h1, h2] using this
set_option maxHeartbeats 1000000 in
theorem spec_eqI_any (p p' : Option Addr) (n n' c c' : Nat) (xs ys : List Int) (w : World) (hr : Rd .i64 w p n xs) (hr' : Rd .i64 w p' n' ys) : Calls Try.prog 72 #[.slice p n c, .slice p' n' c'] w (Tells (eqL xs ys) w) := by
  have HR := Lib.hid hr
  have HR' := Lib.hid hr'
  have hle := hr.le
  have hle' := hr'.le
  clear hr hr'
  by_cases hne : n = n'
  · subst hne
    go_enter Try.func72, Try.ntmps72
    go_wp2_with fail
    go_loopw [5] (fun i wr => ∃ k q : Nat, k ≤ n ∧ i = .int .i64 k ∧ wr = w.drewN q ∧ Hid (∀ j, j < k → xs.getD j 0 = ys.getD j 0)) (fun i _ => n - (intOf i).toNat)
    case atStart => exact ⟨0, 0, Nat.zero_le _, rfl, rfl, fun j hj => absurd hj (Nat.not_lt_zero _)⟩
    case round =>
      obtain ⟨k, q, hk, rfl, rfl, HE⟩ := hrel
      by_cases hlt : k < n
      · obtain ⟨b, o, rfl, hb, hc⟩ := HR.out.at_ hlt
        obtain ⟨b', o', rfl, hb', hc'⟩ := HR'.out.at_ hlt
        generalize hx : xs.getD k 0 = x at hc
        generalize hy : ys.getD k 0 = y at hc'
        have HX := Lib.hid hx
        have HY := Lib.hid hy
        clear hx hy
        by_cases hxy : x = y
        · have HXY := Lib.hid hxy
          have hb1 : (x == y) = true := beq_iff_eq.2 hxy
          have hb2 : (x != y) = false := by rw [bne, hb1]; rfl
          clear hxy
          go_wp2_with fail
          go_quiet (fail)
          go_wp2_with fail
          refine ⟨⟨k + 1, _, by omega, by go_num, rfl, fun j hj => ?_⟩, by simp [intOf]; omega⟩
          by_cases hjk : j = k
          · rw [hjk, HX.out, HY.out, HXY.out]
          · exact HE.out j (by omega)
        · have HXY := Lib.hid hxy
          have hb1 : (x == y) = false := beq_eq_false_iff_ne.2 hxy
          have hb2 : (x != y) = true := by rw [bne, hb1]; rfl
          clear hxy
          go_wp2_with fail
          go_quiet (fail)
          go_wp2_with fail
          go_ret
          exact tells (by rw [eqL_first (k := k) (by rw [HX.out, HY.out]; exact HXY.out)]) (below_drewN (below_drewN (Below.refl _ _) _) _)
      · obtain rfl : k = n := by omega
        go_wp2_with fail
        go_ret
        exact tells (by rw [eqL_all HR.out.len HR'.out.len HE.out]) (below_drewN (Below.refl _ _) _)
  · have hb1 : ((n : Int) == n') = false := beq_eq_false_iff_ne.2 (by omega)
    have hb2 : ((n : Int) != n') = true := by rw [bne, hb1]; rfl
    have hb3 : (n == n') = false := beq_eq_false_iff_ne.2 hne
    have hb4 : (n != n') = true := by rw [bne, hb3]; rfl
    have HN := Lib.hid hne
    clear hne
    go_enter Try.func72, Try.ntmps72
    go_wp2_with fail
    go_ret
    exact tells (by rw [eqL_no (fun e => HN.out (by rw [← HR.out.len, ← HR'.out.len, e]))]) (Below.refl _ _)
end Go.Proofs.Ytjickcnjnebpcaa.Eqi

namespace Go.Proofs.Ytjickcnjnebpcaa.Cq
open Go.ChangeShapes Go.WideShapes Go.ChangeAt Go.RowKit Sl St Cp
theorem zero_iff {k k' : Int} {xs ys : List Int} {m m' : Int} : decide (cP k k' xs ys m m' = 0) = (decide (k = k') && (decide (m = m') && Eqi.eqL xs ys)) := by
  unfold cP or3 Eqi.eqL
  by_cases h1 : xs = ys
  · subst h1
    rw [cL_refl, if_neg (by simp)]
    by_cases h2 : k = k'
    · subst h2
      rw [cI_eq, if_neg (by simp)]
      by_cases h3 : m = m'
      · subst h3; simp [cI_eq]
      · have := cI_ne h3
        simp [h3, this]
    · have := cI_ne h2
      simp [h2, this]
  · have : cL xs ys ≠ 0 := fun e => h1 (cL_zero e)
    simp [h1, this]
set_option maxRecDepth 100000 in
set_option maxHeartbeats 4000000 in
theorem spec_equal_any (k : Int) (p : Option Addr) (n c : Nat) (m k' : Int) (q : Option Addr) (n' d : Nat) (m' : Int) (xs ys : List Int) (w : World) (hr : Rd .i64 w p n xs) (hs : Rd .i64 w q n' ys) : Calls Try.prog 36 #[.agg #[.int .i64 k, .slice p n c, .int .i64 m], .agg #[.int .i64 k', .slice q n' d, .int .i64 m']] w (SlPiece.Val (.bool (decide (cP k k' xs ys m m' = 0))) w) := by
  have hz := zero_iff (k := k) (k' := k') (xs := xs) (ys := ys) (m := m) (m' := m')
  have hB : Below w.heap.size w ((w.alloc (.cells #[.int .i64 k, .slice p n c, .int .i64 m] 78)).alloc (.cells #[.int .i64 k', .slice q n' d, .int .i64 m'] 78)) := ((Below.refl w.heap.size w).alloc (Nat.le_refl _) _).alloc (by simp) _
  have HX := Lib.hid ((Bx.new w 78 #[.int .i64 k, .slice p n c, .int .i64 m]).alloc (.cells #[.int .i64 k', .slice q n' d, .int .i64 m'] 78))
  have hy := Bx.new (w.alloc (.cells #[.int .i64 k, .slice p n c, .int .i64 m] 78)) 78 #[.int .i64 k', .slice q n' d, .int .i64 m']
  rw [World.size_alloc] at hy
  have HY := Lib.hid hy
  have HR := Lib.hid (hr.below hB)
  have HS := Lib.hid (hs.below hB)
  have HB := Lib.hid hB
  have L1 := Lib.hid hr.len
  have L2 := Lib.hid hs.len
  have hle := hr.le
  have hle' := hs.le
  clear hy hB hr hs
  by_cases h1 : k = k'
  rotate_left
  · have HE : Hid (decide (cP k k' xs ys m m' = 0) = false) := Lib.hid (by rw [hz, decide_eq_false h1]; rfl)
    have e1 : (k == k') = false := beq_eq_false_iff_ne.2 h1
    clear hz h1
    go_enter Try.func36, Try.ntmps36
    go_wp2_with fail
    go_ret
    exact says (by rw [HE.out]; try rfl) HB.out
  by_cases h2 : m = m'
  rotate_left
  · have HE : Hid (decide (cP k k' xs ys m m' = 0) = false) := Lib.hid (by rw [hz, decide_eq_false h2]; simp)
    have e1 : (m == m') = false := beq_eq_false_iff_ne.2 h2
    clear hz h2
    subst h1
    go_enter Try.func36, Try.ntmps36
    go_wp2_with fail
    go_ret
    exact says (by rw [HE.out]; try rfl) HB.out
  have HE : Hid (decide (cP k k' xs ys m m' = 0) = Eqi.eqL xs ys) := Lib.hid (by rw [hz, decide_eq_true h1, decide_eq_true h2]; rfl)
  clear hz
  subst h1
  subst h2
  go_enter Try.func36, Try.ntmps36
  go_wp2_with fail
  refine (Eqi.spec_eqI_any p q n n' c d xs ys _ HR.out HS.out).mono ?_
  rintro e w1 ⟨rfl, hb⟩
  replace HB := Lib.hid (below_on HB.out hb)
  clear hb
  go_wp2_with fail
  go_ret
  exact says (by rw [HE.out]; try rfl) HB.out
/-- the first k numbers are equal -/
theorem step {xs ys : List Int} {k : Nat} (h : cL xs ys = cL (xs.drop k) (ys.drop k)) (h1 : k < xs.length) (h2 : k < ys.length) (he : xs.getD k 0 = ys.getD k 0) : cL xs ys = cL (xs.drop (k + 1)) (ys.drop (k + 1)) := by
  rw [h, drop_at h1, drop_at h2, cL, if_pos he]
theorem first_ne {xs ys : List Int} {k : Nat} (h : cL xs ys = cL (xs.drop k) (ys.drop k)) (h1 : k < xs.length) (h2 : k < ys.length) (he : xs.getD k 0 ≠ ys.getD k 0) : cL xs ys = cI (xs.getD k 0) (ys.getD k 0) := by
  rw [h, drop_at h1, drop_at h2, cL, if_neg he]
theorem neg_iff {x y : Int} (h : x ≠ y) (k k' : Int) (m m' : Int) {xs ys : List Int} (he : cL xs ys = cI x y) : decide (cP k k' xs ys m m' < 0) = decide (x < y) := by
  unfold cP or3
  rw [he, if_pos (cI_ne h)]
  rcases (by omega : x < y ∨ y < x) with h' | h'
  · rw [cI_lt h']; simp [h']
  · rw [cI_gt h']
    have : ¬ x < y := by omega
    simp [this]
theorem len_short {xs ys : List Int} {k : Nat} (h : cL xs ys = cL (xs.drop k) (ys.drop k)) (h1 : xs.length = k) (h2 : k < ys.length) (k1 k2 m m' : Int) : decide (cP k1 k2 xs ys m m' < 0) = true := by
  have e : cL xs ys = -1 := by rw [h, List.drop_eq_nil_of_le (by omega), drop_at h2]; rfl
  unfold cP or3
  rw [e, if_pos (by omega)]
  rfl
theorem len_long {xs ys : List Int} {k : Nat} (h : cL xs ys = cL (xs.drop k) (ys.drop k)) (h1 : k < xs.length) (h2 : ys.length = k) (k1 k2 m m' : Int) : decide (cP k1 k2 xs ys m m' < 0) = false := by
  have d2 : ys.drop k = [] := List.drop_eq_nil_of_le (by omega)
  have e : cL xs ys = 1 := by rw [h, drop_at h1, d2]; rfl
  unfold cP or3
  rw [e, if_pos (by omega)]
  rfl
theorem len_same {xs ys : List Int} {k : Nat} (h : cL xs ys = cL (xs.drop k) (ys.drop k)) (h1 : xs.length = k) (h2 : ys.length = k) (k1 k2 m m' : Int) : cP k1 k2 xs ys m m' = or3 0 (cI k1 k2) (cI m m') := by
  have d1 : xs.drop k = [] := List.drop_eq_nil_of_le (by omega)
  have d2 : ys.drop k = [] := List.drop_eq_nil_of_le (by omega)
  unfold cP
  rw [h, d1, d2]
  rfl
theorem key_ne {a b : Int} (h : a ≠ b) (c : Int) : decide (or3 0 (cI a b) c < 0) = decide (a < b) := by
  unfold or3
  rw [if_neg (by simp), if_pos (cI_ne h)]
  rcases (by omega : a < b ∨ b < a) with h' | h'
  · rw [cI_lt h']; simp [h']
  · rw [cI_gt h']
    have : ¬ a < b := by omega
    simp [this]
theorem key_eq (a m m' : Int) : decide (or3 0 (cI a a) (cI m m') < 0) = decide (m < m') := by
  unfold or3
  rw [if_neg (by simp), cI_eq, if_neg (by simp)]
  rcases (by omega : m < m' ∨ m' < m ∨ m = m') with h' | h' | h'
  · rw [cI_lt h']; simp [h']
  · rw [cI_gt h']
    have : ¬ m < m' := by omega
    simp [this]
  · subst h'; simp [cI_eq]
theorem bell {W : World} {B : Nat} {w : World} (h : Below B W w) (q : Nat) : Below B W (w.drewN q) := below_drewN h q
end Go.Proofs.Ytjickcnjnebpcaa.Cq
