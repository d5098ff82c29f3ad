/- Contracts of the digest above two others; in the program and in the reference. FollowPath: the digest at the end of a path; in the program and in the reference. -/
import Derived.Test.YtfojilogcecphaaGreatDg
import Derived.Test.YtfojilogcecphaaGreatSrA
import Derived.LoopTactic
import Derived.Outline
import Derived.Test.YtfojilogcecphaaGreatSlStep
namespace Go.Proofs.YtfojilogcecphaaGreat.Pd
open Go.ChangeShapes Go.WideShapes Go.ChangeAt Go.RowKit Sl Hs Dg
def Val (v : Value) (w : World) (e : Ending) (w' : World) : Prop := e = .returned v ∧ Below w.heap.size w w'
set_option maxRecDepth 100000 in
set_option maxHeartbeats 4000000 in
theorem pair_any (m a b : Int) (_hm : -9223372036854775808 ≤ m ∧ m ≤ 9223372036854775807) (ha : -9223372036854775808 ≤ a ∧ a ≤ 9223372036854775807) (hb' : -9223372036854775808 ≤ b ∧ b ≤ 9223372036854775807) (w : World) : Calls Tryz.prog 138 #[.int .i64 m, .int .i64 a, .int .i64 b] w (Val (.int .i64 (dig m [1, a, b])) w) := by
  have HO := Lib.hid (litN_own 3 w w.heap.size [1, a, b] (allK_cons ⟨by omega, by omega⟩ (allK_cons ha (allK_cons hb' (allK_nil _)))) (Nat.le_refl _) (by simp))
  have HB : Hid (Below w.heap.size w (w.alloc (.cells #[.int .i64 1, .int .i64 a, .int .i64 b] 3))) := Lib.hid ((Below.refl _ _).alloc (Nat.le_refl _) _)
  clear ha hb'
  go_enter Tryz.func138, Tryz.ntmps138
  go_wp2_with fail
  refine (dig_any _ _ _ _ _ _ HO.out.rd).mono ?_
  rintro e w1 ⟨rfl, rfl⟩
  go_wp2_with fail
  go_ret
  exact ⟨rfl, HB.out⟩
set_option maxRecDepth 100000 in
set_option maxHeartbeats 4000000 in
theorem spec_pair_any (m a b : Int) (hm : -9223372036854775808 ≤ m ∧ m ≤ 9223372036854775807) (ha : -9223372036854775808 ≤ a ∧ a ≤ 9223372036854775807) (hb' : -9223372036854775808 ≤ b ∧ b ≤ 9223372036854775807) (w : World) : Calls Tryz.prog 130 #[.int .i64 m, .int .i64 a, .int .i64 b] w (Val (.int .i64 (dig m [1, a, b])) w) := by
  have HO := Lib.hid (litN_own 3 w w.heap.size [1, a, b] (allK_cons ⟨by omega, by omega⟩ (allK_cons ha (allK_cons hb' (allK_nil _)))) (Nat.le_refl _) (by simp))
  have HB : Hid (Below w.heap.size w (w.alloc (.cells #[.int .i64 1, .int .i64 a, .int .i64 b] 3))) := Lib.hid ((Below.refl _ _).alloc (Nat.le_refl _) _)
  clear ha hb'
  go_enter Tryz.func130, Tryz.ntmps130
  go_wp2_with fail
  refine (spec_dig_any _ _ _ _ _ _ HO.out.rd ⟨hm.1, hm.2⟩ (by simp)).mono ?_
  rintro e w1 ⟨rfl, hb⟩
  replace HB := Lib.hid (below_on HB.out hb)
  clear hb
  go_wp2_with fail
  go_ret
  exact ⟨rfl, HB.out⟩
end Go.Proofs.YtfojilogcecphaaGreat.Pd

namespace Go.Proofs.YtfojilogcecphaaGreat.Fp
open Go.ChangeShapes Go.WideShapes Go.ChangeAt Go.RowKit Sl St SlStep Dg Pd
/-- one step -/
def one (m d : Int) (x : Int × Bool) : Int := if x.2 then dig m [1, x.1, d] else dig m [1, d, x.1]
/-- the digest at the end of a path -/
def fp (m : Int) (d : Int) (xs : List (Int × Bool)) : Int := xs.foldl (one m) d
theorem fp_next {m d : Int} {k : Nat} {xs : List (Int × Bool)} {y : Int × Bool} (h : k < xs.length) (hx : xs.getD k zero = y) : fp m d (xs.take (k + 1)) = one m (fp m d (xs.take k)) y := by
  rw [List.getD_eq_getElem?_getD, List.getElem?_eq_getElem h, Option.getD_some] at hx
  subst hx
  simp only [fp, List.take_succ_eq_append_getElem h, List.foldl_append, List.foldl_cons, List.foldl_nil]
theorem one_in (m d : Int) (x : Int × Bool) : -9223372036854775808 ≤ one m d x ∧ one m d x ≤ 9223372036854775807 := by
  unfold one
  split
  · have := dig_in m [1, x.1, d]; omega
  · have := dig_in m [1, d, x.1]; omega
theorem getD_in {k : Nat} {xs : List (Int × Bool)} {y : Int × Bool} (h : ∀ x ∈ xs, InR x) (hk : k < xs.length) (hx : xs.getD k zero = y) : InR y := by
  rw [List.getD_eq_getElem?_getD, List.getElem?_eq_getElem hk, Option.getD_some] at hx
  subst hx
  exact h _ (List.getElem_mem _)
set_option maxRecDepth 100000 in
set_option maxHeartbeats 4000000 in
theorem follow_any (m d : Int) (p : Option Addr) (n c : Nat) (xs : List (Int × Bool)) (w : World) (hr : RdS E w p n xs) (hx : ∀ x ∈ xs, InR x) (hm : -9223372036854775808 ≤ m ∧ m ≤ 9223372036854775807) (hd : -9223372036854775808 ≤ d ∧ d ≤ 9223372036854775807) : Calls Tryz.prog 105 #[.int .i64 m, .int .i64 d, .slice p n c] w (Pd.Val (.int .i64 (fp m d xs)) w) := by
  have HR := Lib.hid hr
  have HL := Lib.hid hr.len
  have HX := Lib.hid hx
  have HMM := Lib.hid hm
  have HD := Lib.hid hd
  have hle := hr.le
  clear hr hx hm hd
  go_enter Tryz.func105, Tryz.ntmps105
  go_wp2_with fail
  go_loopw [7, 13] (fun v i wr => ∃ (k : Nat) (y : Int), k ≤ n ∧ i = .int .i64 k ∧ v = .int .i64 y ∧ Hid (y = fp m d (xs.take k)) ∧ Hid (-9223372036854775808 ≤ y ∧ y ≤ 9223372036854775807) ∧ Hid (Below w.heap.size w wr)) (fun _ i _ => n - (intOf i).toNat)
  case atStart => exact ⟨0, d, Nat.zero_le _, rfl, rfl, Lib.hid (by simp [fp]), HD, Lib.hid (Below.refl _ _)⟩
  case round =>
    obtain ⟨k, y, hk, rfl, rfl, HY, HYB, HB⟩ := hrel
    by_cases hlt : k < n
    · obtain ⟨b, o, rfl, hb, hat⟩ := rd_at (HR.out.below HB.out) hlt
      have hkx : k < xs.length := by rw [HL.out]; exact hlt
      generalize hz : xs.getD k zero = z at hat
      have HI := Lib.hid (getD_in HX.out hkx hz)
      have HN := Lib.hid (fp_next (m := m) (d := d) hkx hz)
      obtain ⟨zd, zl⟩ := z
      obtain ⟨c0, c1⟩ := hat
      simp only at c0 c1
      clear hz
      have i1 : (0 : Int) ≤ (k : Int) := by omega
      have i2 : (k : Int) < (n : Int) := by omega
      have HBX := Lib.hid (Bx.new wr 188 #[.int .i64 zd, .bool zl])
      have HB1 := Lib.hid (HB.out.alloc HB.out.size (.cells #[.int .i64 zd, .bool zl] 188))
      rcases zl with _ | _
      · go_wp2_with fail
        refine (pair_any _ _ _ HMM.out HYB.out HI.out _).mono ?_
        rintro e w1 ⟨rfl, hb1⟩
        have HB2 := Lib.hid (below_on HB1.out hb1)
        clear hb1
        have HY2 : Hid (dig m [1, y, zd] = fp m d (xs.take (k + 1))) := Lib.hid (by rw [HN.out, ← HY.out]; rfl)
        generalize dig m [1, y, zd] = y2 at HY2 ⊢
        have HYB2 : Hid (-9223372036854775808 ≤ y2 ∧ y2 ≤ 9223372036854775807) := Lib.hid (by rw [HY2.out, HN.out]; exact one_in _ _ _)
        go_wp2_with fail
        go_roundw
        case rel => exact ⟨k + 1, y2, by omega, by go_num, rfl, HY2, HYB2, HB2⟩
        case measure => simp [intOf]; omega
      · go_wp2_with fail
        refine (pair_any _ _ _ HMM.out HI.out HYB.out _).mono ?_
        rintro e w1 ⟨rfl, hb1⟩
        have HB2 := Lib.hid (below_on HB1.out hb1)
        clear hb1
        have HY2 : Hid (dig m [1, zd, y] = fp m d (xs.take (k + 1))) := Lib.hid (by rw [HN.out, ← HY.out]; rfl)
        generalize dig m [1, zd, y] = y2 at HY2 ⊢
        have HYB2 : Hid (-9223372036854775808 ≤ y2 ∧ y2 ≤ 9223372036854775807) := Lib.hid (by rw [HY2.out, HN.out]; exact one_in _ _ _)
        go_wp2_with fail
        go_roundw
        case rel => exact ⟨k + 1, y2, by omega, by go_num, rfl, HY2, HYB2, HB2⟩
        case measure => simp [intOf]; omega
    · obtain rfl : k = n := by omega
      have HF : Hid (y = fp m d xs) := Lib.hid (by rw [HY.out, List.take_of_length_le (by rw [HL.out]; exact Nat.le_refl _)])
      go_wp2_with fail
      go_ret
      exact ⟨by rw [HF.out]; rfl, HB.out⟩
set_option maxRecDepth 100000 in
set_option maxHeartbeats 4000000 in
theorem spec_follow_any (m d : Int) (p : Option Addr) (n c : Nat) (xs : List (Int × Bool)) (w : World) (hr : RdS E w p n xs) (hx : ∀ x ∈ xs, InR x) (hm : -9223372036854775808 ≤ m ∧ m ≤ 9223372036854775807) (hd : -9223372036854775808 ≤ d ∧ d ≤ 9223372036854775807) : Calls Tryz.prog 98 #[.int .i64 m, .int .i64 d, .slice p n c] w (Pd.Val (.int .i64 (fp m d xs)) w) := by
  have HR := Lib.hid hr
  have HL := Lib.hid hr.len
  have HX := Lib.hid hx
  have HMM := Lib.hid hm
  have HD := Lib.hid hd
  have hle := hr.le
  clear hr hx hm hd
  go_enter Tryz.func98, Tryz.ntmps98
  go_wp2_with fail
  go_loopw [7, 8] (fun v i wr => ∃ (k : Nat) (y : Int), k ≤ n ∧ i = .int .i64 k ∧ v = .int .i64 y ∧ Hid (y = fp m d (xs.take k)) ∧ Hid (-9223372036854775808 ≤ y ∧ y ≤ 9223372036854775807) ∧ Hid (Below w.heap.size w wr)) (fun _ i _ => n - (intOf i).toNat)
  case atStart => exact ⟨0, d, Nat.zero_le _, rfl, rfl, Lib.hid (by simp [fp]), HD, Lib.hid (Below.refl _ _)⟩
  case round =>
    obtain ⟨k, y, hk, rfl, rfl, HY, HYB, HB⟩ := hrel
    by_cases hlt : k < n
    · obtain ⟨b, o, rfl, hb, hat⟩ := rd_at (HR.out.below HB.out) hlt
      have hkx : k < xs.length := by rw [HL.out]; exact hlt
      generalize hz : xs.getD k zero = z at hat
      have HI := Lib.hid (getD_in HX.out hkx hz)
      have HN := Lib.hid (fp_next (m := m) (d := d) hkx hz)
      obtain ⟨zd, zl⟩ := z
      obtain ⟨c0, c1⟩ := hat
      simp only at c0 c1
      clear hz
      have i1 : (0 : Int) ≤ (k : Int) := by omega
      have i2 : (k : Int) < (n : Int) := by omega
      rcases zl with _ | _
      · go_wp2_with fail
        refine (spec_pair_any _ _ _ HMM.out HYB.out HI.out _).mono ?_
        rintro e w1 ⟨rfl, hb1⟩
        have HB2 := Lib.hid (below_on HB.out hb1)
        clear hb1
        have HY2 : Hid (dig m [1, y, zd] = fp m d (xs.take (k + 1))) := Lib.hid (by rw [HN.out, ← HY.out]; rfl)
        generalize dig m [1, y, zd] = y2 at HY2 ⊢
        have HYB2 : Hid (-9223372036854775808 ≤ y2 ∧ y2 ≤ 9223372036854775807) := Lib.hid (by rw [HY2.out, HN.out]; exact one_in _ _ _)
        go_wp2_with fail
        go_roundw
        case rel => exact ⟨k + 1, y2, by omega, by go_num, rfl, HY2, HYB2, HB2⟩
        case measure => simp [intOf]; omega
      · go_wp2_with fail
        refine (spec_pair_any _ _ _ HMM.out HI.out HYB.out _).mono ?_
        rintro e w1 ⟨rfl, hb1⟩
        have HB2 := Lib.hid (below_on HB.out hb1)
        clear hb1
        have HY2 : Hid (dig m [1, zd, y] = fp m d (xs.take (k + 1))) := Lib.hid (by rw [HN.out, ← HY.out]; rfl)
        generalize dig m [1, zd, y] = y2 at HY2 ⊢
        have HYB2 : Hid (-9223372036854775808 ≤ y2 ∧ y2 ≤ 9223372036854775807) := Lib.hid (by rw [HY2.out, HN.out]; exact one_in _ _ _)
        go_wp2_with fail
        go_roundw
        case rel => exact ⟨k + 1, y2, by omega, by go_num, rfl, HY2, HYB2, HB2⟩
        case measure => simp [intOf]; omega
    · obtain rfl : k = n := by omega
      have HF : Hid (y = fp m d xs) := Lib.hid (by rw [HY.out, List.take_of_length_le (by rw [HL.out]; exact Nat.le_refl _)])
      go_wp2_with fail
      go_ret
      exact ⟨by rw [HF.out]; rfl, HB.out⟩
end Go.Proofs.YtfojilogcecphaaGreat.Fp
