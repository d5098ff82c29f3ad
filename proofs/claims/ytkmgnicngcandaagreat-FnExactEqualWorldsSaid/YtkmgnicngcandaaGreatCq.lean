/- Contracts of pieces compared, in the reference. -/
import Derived.Test.YtkmgnicngcandaaGreatCp
import Derived.Test.YtkmgnicngcandaaGreatEqi
import Derived.Deep.QuietTactic
import Derived.BigQuiet
namespace Go.Proofs.YtkmgnicngcandaaGreat.Cq
open Go.ChangeShapes Go.WideShapes Go.ChangeAt Go.RowKit Sl St Cp
theorem zero_iff {k k' : Int} {xs ys : List Int} {m m' : Int} : decide (cP k k' xs ys m m' = 0) = (decide (k = k') && (decide (m = m') && Eqi.eqL xs ys)) := by
  unfold cP or3 Eqi.eqL
  by_cases h1 : xs = ys
  · subst h1
    rw [cL_refl, if_neg (by simp)]
    by_cases h2 : k = k'
    · subst h2
      rw [cI_eq, if_neg (by simp)]
      by_cases h3 : m = m'
      · subst h3; simp [cI_eq]
      · have := cI_ne h3
        simp [h3, this]
    · have := cI_ne h2
      simp [h2, this]
  · have : cL xs ys ≠ 0 := fun e => h1 (cL_zero e)
    simp [h1, this]
set_option maxRecDepth 100000 in
set_option maxHeartbeats 4000000 in
theorem spec_equal_any (k : Int) (p : Option Addr) (n c : Nat) (m k' : Int) (q : Option Addr) (n' d : Nat) (m' : Int) (xs ys : List Int) (w : World) (hr : Rd .i64 w p n xs) (hs : Rd .i64 w q n' ys) : Calls Tryz.prog 52 #[.agg #[.int .i64 k, .slice p n c, .int .i64 m], .agg #[.int .i64 k', .slice q n' d, .int .i64 m']] w (SlPiece.Val (.bool (decide (cP k k' xs ys m m' = 0))) w) := by
  have hz := zero_iff (k := k) (k' := k') (xs := xs) (ys := ys) (m := m) (m' := m')
  have hB : Below w.heap.size w ((w.alloc (.cells #[.int .i64 k, .slice p n c, .int .i64 m] 105)).alloc (.cells #[.int .i64 k', .slice q n' d, .int .i64 m'] 105)) := ((Below.refl w.heap.size w).alloc (Nat.le_refl _) _).alloc (by simp) _
  have HX := Lib.hid ((Bx.new w 105 #[.int .i64 k, .slice p n c, .int .i64 m]).alloc (.cells #[.int .i64 k', .slice q n' d, .int .i64 m'] 105))
  have hy := Bx.new (w.alloc (.cells #[.int .i64 k, .slice p n c, .int .i64 m] 105)) 105 #[.int .i64 k', .slice q n' d, .int .i64 m']
  rw [World.size_alloc] at hy
  have HY := Lib.hid hy
  have HR := Lib.hid (hr.below hB)
  have HS := Lib.hid (hs.below hB)
  have HB := Lib.hid hB
  have L1 := Lib.hid hr.len
  have L2 := Lib.hid hs.len
  have hle := hr.le
  have hle' := hs.le
  clear hy hB hr hs
  by_cases h1 : k = k'
  rotate_left
  · have HE : Hid (decide (cP k k' xs ys m m' = 0) = false) := Lib.hid (by rw [hz, decide_eq_false h1]; rfl)
    have e1 : (k == k') = false := beq_eq_false_iff_ne.2 h1
    clear hz h1
    go_enter Tryz.func52, Tryz.ntmps52
    go_wp2_with fail
    go_ret
    exact says (by rw [HE.out]; try rfl) HB.out
  by_cases h2 : m = m'
  rotate_left
  · have HE : Hid (decide (cP k k' xs ys m m' = 0) = false) := Lib.hid (by rw [hz, decide_eq_false h2]; simp)
    have e1 : (m == m') = false := beq_eq_false_iff_ne.2 h2
    clear hz h2
    subst h1
    go_enter Tryz.func52, Tryz.ntmps52
    go_wp2_with fail
    go_ret
    exact says (by rw [HE.out]; try rfl) HB.out
  have HE : Hid (decide (cP k k' xs ys m m' = 0) = Eqi.eqL xs ys) := Lib.hid (by rw [hz, decide_eq_true h1, decide_eq_true h2]; rfl)
  clear hz
  subst h1
  subst h2
  go_enter Tryz.func52, Tryz.ntmps52
  go_wp2_with fail
  refine (Eqi.spec_eqI_any p q n n' c d xs ys _ HR.out HS.out).mono ?_
  rintro e w1 ⟨rfl, hb⟩
  replace HB := Lib.hid (below_on HB.out hb)
  clear hb
  go_wp2_with fail
  go_ret
  exact says (by rw [HE.out]; try rfl) HB.out
/-- the first k numbers are equal -/
theorem step {xs ys : List Int} {k : Nat} (h : cL xs ys = cL (xs.drop k) (ys.drop k)) (h1 : k < xs.length) (h2 : k < ys.length) (he : xs.getD k 0 = ys.getD k 0) : cL xs ys = cL (xs.drop (k + 1)) (ys.drop (k + 1)) := by
  rw [h, drop_at h1, drop_at h2, cL, if_pos he]
theorem first_ne {xs ys : List Int} {k : Nat} (h : cL xs ys = cL (xs.drop k) (ys.drop k)) (h1 : k < xs.length) (h2 : k < ys.length) (he : xs.getD k 0 ≠ ys.getD k 0) : cL xs ys = cI (xs.getD k 0) (ys.getD k 0) := by
  rw [h, drop_at h1, drop_at h2, cL, if_neg he]
theorem neg_iff {x y : Int} (h : x ≠ y) (k k' : Int) (m m' : Int) {xs ys : List Int} (he : cL xs ys = cI x y) : decide (cP k k' xs ys m m' < 0) = decide (x < y) := by
  unfold cP or3
  rw [he, if_pos (cI_ne h)]
  rcases (by omega : x < y ∨ y < x) with h' | h'
  · rw [cI_lt h']; simp [h']
  · rw [cI_gt h']
    have : ¬ x < y := by omega
    simp [this]
theorem len_short {xs ys : List Int} {k : Nat} (h : cL xs ys = cL (xs.drop k) (ys.drop k)) (h1 : xs.length = k) (h2 : k < ys.length) (k1 k2 m m' : Int) : decide (cP k1 k2 xs ys m m' < 0) = true := by
  have e : cL xs ys = -1 := by rw [h, List.drop_eq_nil_of_le (by omega), drop_at h2]; rfl
  unfold cP or3
  rw [e, if_pos (by omega)]
  rfl
theorem len_long {xs ys : List Int} {k : Nat} (h : cL xs ys = cL (xs.drop k) (ys.drop k)) (h1 : k < xs.length) (h2 : ys.length = k) (k1 k2 m m' : Int) : decide (cP k1 k2 xs ys m m' < 0) = false := by
  have d2 : ys.drop k = [] := List.drop_eq_nil_of_le (by omega)
  have e : cL xs ys = 1 := by rw [h, drop_at h1, d2]; rfl
  unfold cP or3
  rw [e, if_pos (by omega)]
  rfl
theorem len_same {xs ys : List Int} {k : Nat} (h : cL xs ys = cL (xs.drop k) (ys.drop k)) (h1 : xs.length = k) (h2 : ys.length = k) (k1 k2 m m' : Int) : cP k1 k2 xs ys m m' = or3 0 (cI k1 k2) (cI m m') := by
  have d1 : xs.drop k = [] := List.drop_eq_nil_of_le (by omega)
  have d2 : ys.drop k = [] := List.drop_eq_nil_of_le (by omega)
  unfold cP
  rw [h, d1, d2]
  rfl
theorem key_ne {a b : Int} (h : a ≠ b) (c : Int) : decide (or3 0 (cI a b) c < 0) = decide (a < b) := by
  unfold or3
  rw [if_neg (by simp), if_pos (cI_ne h)]
  rcases (by omega : a < b ∨ b < a) with h' | h'
  · rw [cI_lt h']; simp [h']
  · rw [cI_gt h']
    have : ¬ a < b := by omega
    simp [this]
theorem key_eq (a m m' : Int) : decide (or3 0 (cI a a) (cI m m') < 0) = decide (m < m') := by
  unfold or3
  rw [if_neg (by simp), cI_eq, if_neg (by simp)]
  rcases (by omega : m < m' ∨ m' < m ∨ m = m') with h' | h' | h'
  · rw [cI_lt h']; simp [h']
  · rw [cI_gt h']
    have : ¬ m < m' := by omega
    simp [this]
  · subst h'; simp [cI_eq]
theorem bell {W : World} {B : Nat} {w : World} (h : Below B W w) (q : Nat) : Below B W (w.drewN q) := below_drewN h q
end Go.Proofs.YtkmgnicngcandaaGreat.Cq
