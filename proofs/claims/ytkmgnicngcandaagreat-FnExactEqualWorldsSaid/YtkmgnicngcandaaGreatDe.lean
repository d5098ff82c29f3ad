/- Contracts of equality of lists of strings, lists of ints and documents; in the program and in the reference. -/
import Derived.Test.YtkmgnicngcandaaGreatDk
import Derived.Deep.QuietTactic
import Derived.BigQuiet
namespace Go.Proofs.YtkmgnicngcandaaGreat.De
open Go.ChangeShapes Go.WideShapes Go.ChangeAt Go.RowKit Sl St Dm Dk

section
open Classical
noncomputable def eqL {α : Type} (xs ys : List α) : Bool := decide (xs = ys)
theorem eqL_len {α : Type} {xs ys : List α} {n m : Nat} (h : xs.length = n) (h' : ys.length = m) (hne : ¬ n = m) : eqL xs ys = false := decide_eq_false fun e => hne (by rw [← h, ← h', e])
theorem eqL_first {α : Type} {xs ys : List α} {k : Nat} (z : α) (h : ¬ xs.getD k z = ys.getD k z) : eqL xs ys = false := decide_eq_false fun e => h (by rw [e])
theorem eqL_all {α : Type} {xs ys : List α} {n : Nat} (z : α) (h : xs.length = n) (h' : ys.length = n) (ha : ∀ j, j < n → xs.getD j z = ys.getD j z) : eqL xs ys = true := decide_eq_true (by
  apply List.ext_getElem (by omega)
  intro i h1 h2
  have := ha i (by omega)
  rw [List.getD_eq_getElem?_getD, List.getD_eq_getElem?_getD, List.getElem?_eq_getElem h1, List.getElem?_eq_getElem h2] at this
  exact this)
noncomputable def eqD (A B : Dc) : Bool := decide (A.1 = B.1) && (eqL A.2.1 B.2.1 && eqL A.2.2 B.2.2)
end
theorem all_next {α : Type} {xs ys : List α} {k : Nat} {z x y : α} (h : ∀ j, j < k → xs.getD j z = ys.getD j z) (hx : xs.getD k z = x) (hy : ys.getD k z = y) (he : x = y) : ∀ j, j < k + 1 → xs.getD j z = ys.getD j z := fun j hj => by
  rcases Nat.lt_succ_iff_lt_or_eq.1 hj with h2 | rfl
  · exact h j h2
  · rw [hx, hy, he]
theorem str_ne {x y : ByteArray} (h : ¬ x = y) : (x.toList == y.toList) = false := by
  rw [beq_eq_false_iff_ne]
  intro e
  exact h (bytes_inj (by simpa [ByteArray.toList_eq] using e))
set_option maxRecDepth 100000 in
set_option maxHeartbeats 2000000 in
theorem eqStr_any (p p' : Option Addr) (n n' c c' : Nat) (xs ys : List ByteArray) (w : World) (hr : RdS SlStr.E w p n xs) (hr' : RdS SlStr.E w p' n' ys) : Calls Tryz.prog 66 #[.slice p n c, .slice p' n' c'] w (Tells (eqL xs ys) w) := by
  have HR := Lib.hid hr
  have HR' := Lib.hid hr'
  have HL := Lib.hid hr.len
  have HL' := Lib.hid hr'.len
  have hle := hr.le
  have hle' := hr'.le
  clear hr hr'
  by_cases hnn : n = n'
  rotate_left
  · have HE := Lib.hid (eqL_len HL.out HL'.out hnn)
    have hi : ¬ ((n : Int) = (n' : Int)) := by omega
    go_enter Tryz.func66, Tryz.ntmps66
    go_wp2_with fail
    go_ret
    exact tells (by rw [HE.out]) (Below.refl _ _)
  subst hnn
  go_enter Tryz.func66, Tryz.ntmps66
  go_wp2_with fail
  go_loopw [13] (fun i wr => ∃ k : Nat, k ≤ n ∧ i = .int .i64 k ∧ Hid ((∀ j, j < k → xs.getD j ByteArray.empty = ys.getD j ByteArray.empty) ∧ Below w.heap.size w wr)) (fun i _ => n - (intOf i).toNat)
  case atStart => exact ⟨0, Nat.zero_le _, rfl, Lib.hid ⟨fun j h => by omega, Below.refl _ _⟩⟩
  case round =>
    obtain ⟨k, hk, rfl, HK⟩ := hrel
    by_cases hlt : k < n
    · obtain ⟨b, o, rfl, hb, hc⟩ := SlStr.rd_at (HR.out.below HK.out.2) hlt
      obtain ⟨b', o', rfl, hb', hc'⟩ := SlStr.rd_at (HR'.out.below HK.out.2) hlt
      generalize hx : xs.getD k ByteArray.empty = x at hc
      generalize hy : ys.getD k ByteArray.empty = y at hc'
      have HX := Lib.hid hx
      have HY := Lib.hid hy
      clear hx hy
      have i1 : (0 : Int) ≤ (k : Int) := by omega
      have i2 : (k : Int) < (n : Int) := by omega
      by_cases he : x = y
      · have HN := Lib.hid (all_next HK.out.1 HX.out HY.out he)
        subst he
        go_wp2_with fail
        go_quiet (fail)
        go_wp2_with fail
        go_roundw
        case rel => exact ⟨k + 1, by omega, by go_num, Lib.hid ⟨HN.out, below_drewN HK.out.2 _⟩⟩
        case measure => simp [intOf]; omega
      · have hne := str_ne he
        have HE := Lib.hid (eqL_first (xs := xs) (ys := ys) (k := k) ByteArray.empty (by rw [HX.out, HY.out]; exact he))
        go_wp2_with fail
        go_quiet (fail)
        go_wp2_with fail
        go_ret
        exact tells (by rw [HE.out]) (below_drewN HK.out.2 _)
    · obtain rfl : k = n := by omega
      have HE := Lib.hid (eqL_all (xs := xs) (ys := ys) ByteArray.empty HL.out HL'.out HK.out.1)
      go_wp2_with fail
      go_ret
      exact tells (by rw [HE.out]) HK.out.2
set_option maxRecDepth 100000 in
set_option maxHeartbeats 2000000 in
theorem eqIntL_any (p p' : Option Addr) (n n' c c' : Nat) (xs ys : List Int) (w : World) (hr : Rd .i64 w p n xs) (hr' : Rd .i64 w p' n' ys) : Calls Tryz.prog 43 #[.slice p n c, .slice p' n' c'] w (Tells (eqL xs ys) w) := by
  have HR := Lib.hid hr
  have HR' := Lib.hid hr'
  have HL := Lib.hid hr.len
  have HL' := Lib.hid hr'.len
  have hle := hr.le
  have hle' := hr'.le
  clear hr hr'
  by_cases hnn : n = n'
  rotate_left
  · have HE := Lib.hid (eqL_len HL.out HL'.out hnn)
    have hi : ¬ ((n : Int) = (n' : Int)) := by omega
    go_enter Tryz.func43, Tryz.ntmps43
    go_wp2_with fail
    go_ret
    exact tells (by rw [HE.out]) (Below.refl _ _)
  subst hnn
  go_enter Tryz.func43, Tryz.ntmps43
  go_wp2_with fail
  go_loopw [13] (fun i wr => ∃ k : Nat, k ≤ n ∧ i = .int .i64 k ∧ Hid ((∀ j, j < k → xs.getD j 0 = ys.getD j 0) ∧ Below w.heap.size w wr)) (fun i _ => n - (intOf i).toNat)
  case atStart => exact ⟨0, Nat.zero_le _, rfl, Lib.hid ⟨fun j h => by omega, Below.refl _ _⟩⟩
  case round =>
    obtain ⟨k, hk, rfl, HK⟩ := hrel
    by_cases hlt : k < n
    · obtain ⟨b, o, rfl, hb, hc⟩ := (HR.out.below HK.out.2).at_ hlt
      obtain ⟨b', o', rfl, hb', hc'⟩ := (HR'.out.below HK.out.2).at_ hlt
      generalize hx : xs.getD k 0 = x at hc
      generalize hy : ys.getD k 0 = y at hc'
      have HX := Lib.hid hx
      have HY := Lib.hid hy
      clear hx hy
      have i1 : (0 : Int) ≤ (k : Int) := by omega
      have i2 : (k : Int) < (n : Int) := by omega
      by_cases he : x = y
      · have HN := Lib.hid (all_next HK.out.1 HX.out HY.out he)
        subst he
        go_wp2_with fail
        go_quiet (fail)
        go_wp2_with fail
        go_roundw
        case rel => exact ⟨k + 1, by omega, by go_num, Lib.hid ⟨HN.out, below_drewN HK.out.2 _⟩⟩
        case measure => simp [intOf]; omega
      · have HE := Lib.hid (eqL_first (xs := xs) (ys := ys) (k := k) 0 (by rw [HX.out, HY.out]; exact he))
        go_wp2_with fail
        go_quiet (fail)
        go_wp2_with fail
        go_ret
        exact tells (by rw [HE.out]) (below_drewN HK.out.2 _)
    · obtain rfl : k = n := by omega
      have HE := Lib.hid (eqL_all (xs := xs) (ys := ys) 0 HL.out HL'.out HK.out.1)
      go_wp2_with fail
      go_ret
      exact tells (by rw [HE.out]) HK.out.2
theorem eqInts_any (p p' : Option Addr) (n n' c c' : Nat) (xs ys : List Int) (w : World) (hr : Rd .i64 w p n xs) (hr' : Rd .i64 w p' n' ys) : Calls Tryz.prog 22 #[.slice p n c, .slice p' n' c'] w (Tells (eqL xs ys) w) := by
  go_enter Tryz.func22, Tryz.ntmps22
  go_wp2_with fail
  refine (eqIntL_any _ _ _ _ _ _ _ _ _ hr hr').mono ?_
  rintro e w1 ⟨rfl, hb⟩
  have HB := Lib.hid hb
  clear hb
  go_wp2_with fail
  go_ret
  exact tells rfl HB.out
set_option maxRecDepth 100000 in
set_option maxHeartbeats 2000000 in
theorem spec_eqInts_any (p p' : Option Addr) (n n' c c' : Nat) (xs ys : List Int) (w : World) (hr : Rd .i64 w p n xs) (hr' : Rd .i64 w p' n' ys) : Calls Tryz.prog 15 #[.slice p n c, .slice p' n' c'] w (Tells (eqL xs ys) w) := by
  have HR := Lib.hid hr
  have HR' := Lib.hid hr'
  have HL := Lib.hid hr.len
  have HL' := Lib.hid hr'.len
  have hle := hr.le
  have hle' := hr'.le
  clear hr hr'
  by_cases hnn : n = n'
  rotate_left
  · have HE := Lib.hid (eqL_len HL.out HL'.out hnn)
    have hi : ¬ ((n : Int) = (n' : Int)) := by omega
    go_enter Tryz.func15, Tryz.ntmps15
    go_wp2_with fail
    go_ret
    exact tells (by rw [HE.out]) (Below.refl _ _)
  subst hnn
  go_enter Tryz.func15, Tryz.ntmps15
  go_wp2_with fail
  go_loopw [5] (fun i wr => ∃ k : Nat, k ≤ n ∧ i = .int .i64 k ∧ Hid ((∀ j, j < k → xs.getD j 0 = ys.getD j 0) ∧ Below w.heap.size w wr)) (fun i _ => n - (intOf i).toNat)
  case atStart => exact ⟨0, Nat.zero_le _, rfl, Lib.hid ⟨fun j h => by omega, Below.refl _ _⟩⟩
  case round =>
    obtain ⟨k, hk, rfl, HK⟩ := hrel
    by_cases hlt : k < n
    · obtain ⟨b, o, rfl, hb, hc⟩ := (HR.out.below HK.out.2).at_ hlt
      obtain ⟨b', o', rfl, hb', hc'⟩ := (HR'.out.below HK.out.2).at_ hlt
      generalize hx : xs.getD k 0 = x at hc
      generalize hy : ys.getD k 0 = y at hc'
      have HX := Lib.hid hx
      have HY := Lib.hid hy
      clear hx hy
      have i1 : (0 : Int) ≤ (k : Int) := by omega
      have i2 : (k : Int) < (n : Int) := by omega
      by_cases he : x = y
      · have HN := Lib.hid (all_next HK.out.1 HX.out HY.out he)
        subst he
        go_wp2_with fail
        go_quiet (fail)
        go_wp2_with fail
        go_roundw
        case rel => exact ⟨k + 1, by omega, by go_num, Lib.hid ⟨HN.out, below_drewN HK.out.2 _⟩⟩
        case measure => simp [intOf]; omega
      · have HE := Lib.hid (eqL_first (xs := xs) (ys := ys) (k := k) 0 (by rw [HX.out, HY.out]; exact he))
        go_wp2_with fail
        go_quiet (fail)
        go_wp2_with fail
        go_ret
        exact tells (by rw [HE.out]) (below_drewN HK.out.2 _)
    · obtain rfl : k = n := by omega
      have HE := Lib.hid (eqL_all (xs := xs) (ys := ys) 0 HL.out HL'.out HK.out.1)
      go_wp2_with fail
      go_ret
      exact tells (by rw [HE.out]) HK.out.2

/-! ### documents -/
theorem eqD_title {A B : Dc} (h : ¬ A.1 = B.1) : eqD A B = false := by unfold eqD; rw [decide_eq_false h]; rfl
theorem eqD_rest {A B : Dc} (h : A.1 = B.1) : eqD A B = (eqL A.2.1 B.2.1 && eqL A.2.2 B.2.2) := by unfold eqD; rw [decide_eq_true h]; rfl
set_option maxRecDepth 100000 in
set_option maxHeartbeats 4000000 in
theorem eqDoc_any (t t' : Int) (p p' : Option Addr) (n n' c c' : Nat) (q q' : Option Addr) (m m' d d' : Nat) (ps ps' : List ByteArray) (ss ss' : List Int) (w : World) (hr : RdS SlStr.E w p n ps) (hs : Rd .i64 w q m ss) (hr' : RdS SlStr.E w p' n' ps') (hs' : Rd .i64 w q' m' ss') :
    Calls Tryz.prog 58 #[.agg #[.int .i64 t, .slice p n c, .slice q m d], .agg #[.int .i64 t', .slice p' n' c', .slice q' m' d']] w (Tells (eqD (t, ps, ss) (t', ps', ss')) w) := by
  have HP := Lib.hid hr
  have HP' := Lib.hid hr'
  have HQ := Lib.hid hs
  have HQ' := Lib.hid hs'
  have HB := Lib.hid ((box1 w (.cells #[.int .i64 t, .slice p n c, .slice q m d] 73)).alloc (by simp) (.cells #[.int .i64 t', .slice p' n' c', .slice q' m' d'] 73))
  have HX := Lib.hid ((Bx.new w 73 #[.int .i64 t, .slice p n c, .slice q m d]).alloc (.cells #[.int .i64 t', .slice p' n' c', .slice q' m' d'] 73))
  have hy := Bx.new (w.alloc (.cells #[.int .i64 t, .slice p n c, .slice q m d] 73)) 73 #[.int .i64 t', .slice p' n' c', .slice q' m' d']
  rw [World.size_alloc] at hy
  have HY := Lib.hid hy
  have HL := Lib.hid hr.len
  have HL' := Lib.hid hr'.len
  have hle := hr.le
  have hle' := hr'.le
  clear hr hr' hs hs' hy
  by_cases ht : t = t'
  rotate_left
  · have HE := Lib.hid (eqD_title (A := (t, ps, ss)) (B := (t', ps', ss')) ht)
    go_enter Tryz.func58, Tryz.ntmps58
    go_wp2_with fail
    go_ret
    exact tells (by rw [HE.out]) HB.out
  subst ht
  have HE := Lib.hid (eqD_rest (A := (t, ps, ss)) (B := (t, ps', ss')) rfl)
  rcases h1 : eqL ps ps' with _ | _
  · have H1 := Lib.hid h1
    clear h1
    go_enter Tryz.func58, Tryz.ntmps58
    go_wp2_with fail
    refine (eqStr_any _ _ _ _ _ _ _ _ _ (HP.out.below HB.out) (HP'.out.below HB.out)).mono ?_
    rintro e w1 ⟨rfl, hb⟩
    rw [H1.out]
    have HB1 := Lib.hid (below_on HB.out hb)
    clear hb
    go_wp2_with fail
    go_ret
    exact tells (by rw [HE.out]; show _ = (eqL ps ps' && _); rw [H1.out]; rfl) HB1.out
  · have H1 := Lib.hid h1
    clear h1
    go_enter Tryz.func58, Tryz.ntmps58
    go_wp2_with fail
    refine (eqStr_any _ _ _ _ _ _ _ _ _ (HP.out.below HB.out) (HP'.out.below HB.out)).mono ?_
    rintro e w1 ⟨rfl, hb⟩
    rw [H1.out]
    have HB1 := Lib.hid (below_on HB.out hb)
    obtain ⟨x0, x1, x2⟩ := bx3 (HX.out.below hb)
    obtain ⟨y0, y1, y2⟩ := bx3 (HY.out.below hb)
    clear hb
    go_wp2_with fail
    refine (eqInts_any _ _ _ _ _ _ _ _ _ (HQ.out.below HB1.out) (HQ'.out.below HB1.out)).mono ?_
    rintro e w2 ⟨rfl, hb⟩
    have HB2 := Lib.hid (below_on HB1.out hb)
    clear hb
    go_wp2_with fail
    go_ret
    exact tells (by rw [HE.out]; show _ = (eqL ps ps' && _); rw [H1.out]; rfl) HB2.out
set_option maxRecDepth 100000 in
set_option maxHeartbeats 4000000 in
theorem spec_eqDoc_any (t t' : Int) (p p' : Option Addr) (n n' c c' : Nat) (q q' : Option Addr) (m m' d d' : Nat) (ps ps' : List ByteArray) (ss ss' : List Int) (w : World) (hr : RdS SlStr.E w p n ps) (hs : Rd .i64 w q m ss) (hr' : RdS SlStr.E w p' n' ps') (hs' : Rd .i64 w q' m' ss') :
    Calls Tryz.prog 33 #[.agg #[.int .i64 t, .slice p n c, .slice q m d], .agg #[.int .i64 t', .slice p' n' c', .slice q' m' d']] w (Tells (eqD (t, ps, ss) (t', ps', ss')) w) := by
  have HP := Lib.hid hr
  have HP' := Lib.hid hr'
  have HQ := Lib.hid hs
  have HQ' := Lib.hid hs'
  have HB := Lib.hid ((box1 w (.cells #[.int .i64 t, .slice p n c, .slice q m d] 73)).alloc (by simp) (.cells #[.int .i64 t', .slice p' n' c', .slice q' m' d'] 73))
  have HX := Lib.hid ((Bx.new w 73 #[.int .i64 t, .slice p n c, .slice q m d]).alloc (.cells #[.int .i64 t', .slice p' n' c', .slice q' m' d'] 73))
  have hy := Bx.new (w.alloc (.cells #[.int .i64 t, .slice p n c, .slice q m d] 73)) 73 #[.int .i64 t', .slice p' n' c', .slice q' m' d']
  rw [World.size_alloc] at hy
  have HY := Lib.hid hy
  have HL := Lib.hid hr.len
  have HL' := Lib.hid hr'.len
  have hle := hr.le
  have hle' := hr'.le
  clear hr hr' hs hs' hy
  by_cases ht : t = t'
  rotate_left
  · have HE := Lib.hid (eqD_title (A := (t, ps, ss)) (B := (t', ps', ss')) ht)
    go_enter Tryz.func33, Tryz.ntmps33
    go_wp2_with fail
    go_ret
    exact tells (by rw [HE.out]) HB.out
  subst ht
  have HE := Lib.hid (eqD_rest (A := (t, ps, ss)) (B := (t, ps', ss')) rfl)
  by_cases hnn : n = n'
  rotate_left
  · have H1 := Lib.hid (eqL_len HL.out HL'.out hnn)
    have hi : ¬ ((n : Int) = (n' : Int)) := by omega
    go_enter Tryz.func33, Tryz.ntmps33
    go_wp2_with fail
    go_ret
    exact tells (by rw [HE.out]; show _ = (eqL ps ps' && _); rw [H1.out]; rfl) HB.out
  subst hnn
  rcases h2 : eqL ss ss' with _ | _
  · have H2 := Lib.hid h2
    clear h2
    go_enter Tryz.func33, Tryz.ntmps33
    go_wp2_with fail
    refine (spec_eqInts_any _ _ _ _ _ _ _ _ _ (HQ.out.below HB.out) (HQ'.out.below HB.out)).mono ?_
    rintro e w1 ⟨rfl, hb⟩
    rw [H2.out]
    have HB1 := Lib.hid (below_on HB.out hb)
    clear hb
    go_wp2_with fail
    go_ret
    exact tells (by rw [HE.out]; show _ = (_ && eqL ss ss'); rw [H2.out, Bool.and_false]) HB1.out
  have H2 := Lib.hid h2
  clear h2
  go_enter Tryz.func33, Tryz.ntmps33
  go_wp2_with fail
  refine (spec_eqInts_any _ _ _ _ _ _ _ _ _ (HQ.out.below HB.out) (HQ'.out.below HB.out)).mono ?_
  rintro e w1 ⟨rfl, hb⟩
  rw [H2.out]
  have HB1 := Lib.hid (below_on HB.out hb)
  have HX1 := Lib.hid (HX.out.below hb)
  have HY1 := Lib.hid (HY.out.below hb)
  obtain ⟨x0, x1, x2⟩ := bx3 HX1.out
  obtain ⟨y0, y1, y2⟩ := bx3 HY1.out
  clear hb
  go_wp2_with fail
  clear x0 x1 x2 y0 y1 y2
  go_loopw [5] (fun i wr => ∃ k : Nat, k ≤ n ∧ i = .int .i64 k ∧ Hid ((∀ j, j < k → ps.getD j ByteArray.empty = ps'.getD j ByteArray.empty) ∧ Below w1.heap.size w1 wr)) (fun i _ => n - (intOf i).toNat)
  case atStart => exact ⟨0, Nat.zero_le _, rfl, Lib.hid ⟨fun j h => by omega, Below.refl _ _⟩⟩
  case round =>
    obtain ⟨k, hk, rfl, HK⟩ := hrel
    obtain ⟨x0, x1, x2⟩ := bx3 (HX1.out.below HK.out.2)
    obtain ⟨y0, y1, y2⟩ := bx3 (HY1.out.below HK.out.2)
    by_cases hlt : k < n
    · obtain ⟨b, o, rfl, hb, hc⟩ := SlStr.rd_at (HP.out.below (below_on HB1.out HK.out.2)) hlt
      obtain ⟨b', o', rfl, hb', hc'⟩ := SlStr.rd_at (HP'.out.below (below_on HB1.out HK.out.2)) hlt
      generalize hx : ps.getD k ByteArray.empty = x at hc
      generalize hy : ps'.getD k ByteArray.empty = y at hc'
      have HXe := Lib.hid hx
      have HYe := Lib.hid hy
      clear hx hy
      have i1 : (0 : Int) ≤ (k : Int) := by omega
      have i2 : (k : Int) < (n : Int) := by omega
      by_cases he : x = y
      · have HN := Lib.hid (all_next HK.out.1 HXe.out HYe.out he)
        subst he
        go_wp2_with fail
        go_quiet (fail)
        go_wp2_with fail
        go_roundw
        case rel => exact ⟨k + 1, by omega, by go_num, Lib.hid ⟨HN.out, below_drewN HK.out.2 _⟩⟩
        case measure => simp [intOf]; omega
      · have hne := str_ne he
        have HF := Lib.hid (eqL_first (xs := ps) (ys := ps') (k := k) ByteArray.empty (by rw [HXe.out, HYe.out]; exact he))
        go_wp2_with fail
        go_quiet (fail)
        go_wp2_with fail
        go_ret
        exact tells (by rw [HE.out]; show _ = (eqL ps ps' && _); rw [HF.out]; rfl) (below_drewN (below_on HB1.out HK.out.2) _)
    · obtain rfl : k = n := by omega
      have HF := Lib.hid (eqL_all (xs := ps) (ys := ps') ByteArray.empty HL.out HL'.out HK.out.1)
      go_wp2_with fail
      go_ret
      exact tells (by rw [HE.out]; show _ = (eqL ps ps' && eqL ss ss'); rw [HF.out, H2.out]; rfl) (below_on HB1.out HK.out.2)
end Go.Proofs.YtkmgnicngcandaaGreat.De
