/- The digests of a part by each method; whether a list has a number; what is left of a document. -/
import Derived.Test.YtjlckfbacphblaaOp
import Derived.Test.YtjlckfbacphblaaRh
namespace Go.Proofs.Ytjlckfbacphblaa.Od
open Go.ChangeShapes Go.WideShapes Go.ChangeAt Go.RowKit Sl St Tn Dm Dk Dp SlRed Rr

/-! ### mathematics -/
def eachD (ms : List Int) (x : ByteArray) (y : Int) : List Int := ms.map fun m => partD m x y
def eachK (ms : List Int) (x : ByteArray) (y : Int) (k : Nat) : List Int := (List.range k).map fun i => partD (ms.getD i 0) x y
theorem eachK_next (ms : List Int) (x : ByteArray) (y : Int) (k : Nat) : eachK ms x y (k + 1) = eachK ms x y k ++ [partD (ms.getD k 0) x y] := by
  unfold eachK
  rw [List.range_succ, List.map_append]
  rfl
theorem eachK_all (ms : List Int) (x : ByteArray) (y : Int) (n : Nat) (h : ms.length = n) : eachK ms x y n = eachD ms x y := by
  subst h
  unfold eachK eachD
  apply List.ext_getElem (by simp)
  intro i h1 h2
  rw [List.getElem_map, List.getElem_map, List.getElem_range, List.getD_eq_getElem?_getD, List.getElem?_eq_getElem (by simpa using h2)]
  rfl
theorem eachK_len (ms : List Int) (x : ByteArray) (y : Int) (k : Nat) : (eachK ms x y k).length = k := by simp [eachK]
def hasB (hide : List Int) (k : Nat) : Bool := decide ((k : Int) ∈ hide)
theorem has_idx (hide : List Int) (k : Nat) : decide (0 ≤ Rf.placeI hide (k : Int)) = hasB hide k := by
  unfold Rf.placeI hasB
  by_cases h : (k : Int) ∈ hide
  · rw [if_pos (List.idxOf_lt_length_iff.2 h), decide_eq_true h]
    exact decide_eq_true (by omega)
  · rw [if_neg (fun h2 => h (List.idxOf_lt_length_iff.1 h2)), decide_eq_false h]
    rfl
def rowB (hide : List Int) (k : Nat) : Bool := !(hasB hide k)
def rowP (D : Dc) (hide : List Int) (k : Nat) : ByteArray := if hasB hide k = true then ByteArray.empty else D.2.1.getD k ByteArray.empty
def rowS (D : Dc) (hide : List Int) (k : Nat) : Int := if hasB hide k = true then 0 else D.2.2.getD k 0
def rowD (ms : List Int) (D : Dc) (hide : List Int) (k : Nat) : List Int := if hasB hide k = true then eachD ms (D.2.1.getD k ByteArray.empty) (D.2.2.getD k 0) else []
def redK (ms : List Int) (D : Dc) (hide : List Int) (k : Nat) : Rc := ⟨D.1, ms, (List.range k).map (rowB hide), (List.range k).map (rowP D hide), (List.range k).map (rowS D hide), (List.range k).map (rowD ms D hide)⟩
theorem redK_next (ms : List Int) (D : Dc) (hide : List Int) (k : Nat) : push (redK ms D hide k) (rowB hide k) (rowP D hide k) (rowS D hide k) (rowD ms D hide k) = redK ms D hide (k + 1) := by
  unfold push redK
  simp only [List.range_succ, List.map_append, List.map_cons, List.map_nil]
def redR (ms : List Int) (D : Dc) (hide : List Int) : Rc := if docOk D = true then redK ms D hide D.2.1.length else ⟨0, [], [], [], [], []⟩
theorem redR_no {ms : List Int} {D : Dc} {hide : List Int} (h : docOk D = false) : redR ms D hide = ⟨0, [], [], [], [], []⟩ := by unfold redR; rw [h]; rfl
theorem redR_yes {ms : List Int} {D : Dc} {hide : List Int} (h : docOk D = true) : redR ms D hide = redK ms D hide D.2.1.length := by unfold redR; rw [h]; rfl

/-! ### contracts -/
def MakesI (xs : List Int) (w : World) (e : Ending) (w' : World) : Prop := ∃ p n c, e = .returned (.slice p n c) ∧ Ow .i64 3 w' w.heap.size w'.heap.size p n c xs ∧ Below w.heap.size w w'
set_option maxHeartbeats 2000000 in
theorem contains_any (p : Option Addr) (n c : Nat) (hide : List Int) (k : Nat) (w : World) (hr : Rd .i64 w p n hide) : Calls Try.prog 60 #[.slice p n c, .int .i64 k] w fun e w' => e = .returned (.bool (hasB hide k)) ∧ w = w' := by
  have HI := Lib.hid (has_idx hide k)
  go_enter Try.func60, Try.ntmps60
  go_wp2_with fail
  refine (Rf.index_any p n c hide (k : Int) _ hr).mono ?_
  rintro e w1 ⟨rfl, rfl⟩
  generalize Rf.placeI hide (k : Int) = r at HI
  go_wp2_with fail
  go_ret
  exact ⟨by rw [← HI.out]; rfl, rfl⟩
theorem hasB_yes {hide : List Int} {k j : Nat} (hj : j < hide.length) (h : hide.getD j 0 = (k : Int)) : hasB hide k = true := by
  refine decide_eq_true ?_
  rw [← h, List.getD_eq_getElem?_getD, List.getElem?_eq_getElem hj]
  exact List.getElem_mem _
theorem hasB_no {hide : List Int} {k : Nat} (h : ∀ j, j < hide.length → hide.getD j 0 ≠ (k : Int)) : hasB hide k = false := by
  refine decide_eq_false fun hm => ?_
  obtain ⟨j, hj, e⟩ := Rn.getD_of_mem (z := (0 : Int)) hm
  exact h j hj e
set_option maxHeartbeats 2000000 in
theorem l7Has_any (p : Option Addr) (n c : Nat) (hide : List Int) (k : Nat) (w : World) (hr : Rd .i64 w p n hide) : Calls Try.prog 64 #[.slice p n c, .int .i64 k] w fun e w' => e = .returned (.bool (hasB hide k)) ∧ w = w' := by
  have HR := Lib.hid hr
  have HL := Lib.hid hr.len
  have hle := hr.le
  clear hr
  go_enter Try.func64, Try.ntmps64
  go_wp2_with fail
  go_loop [5] (fun i => ∃ j : Nat, j ≤ n ∧ i = .int .i64 j ∧ Hid (∀ q, q < j → hide.getD q 0 ≠ (k : Int))) (fun i => n - (intOf i).toNat)
  case atStart => exact ⟨0, Nat.zero_le _, rfl, Lib.hid fun j h => by omega⟩
  case round =>
    obtain ⟨j, hj, rfl, HA⟩ := hrel
    by_cases hlt : j < n
    · obtain ⟨b, o, rfl, hb, hc⟩ := HR.out.at_ hlt
      by_cases he : hide.getD j 0 = (k : Int)
      · have HE := Lib.hid (hasB_yes (by rw [HL.out]; exact hlt) he)
        rw [he] at hc
        clear he
        go_wp2_with fail
        go_ret
        exact ⟨by rw [HE.out]; rfl, rfl⟩
      · have HN2 : Hid (∀ q, q < j + 1 → hide.getD q 0 ≠ (k : Int)) := Lib.hid fun q hq => by
          rcases Nat.lt_succ_iff_lt_or_eq.1 hq with h | rfl
          · exact HA.out q h
          · exact he
        generalize hide.getD j 0 = z at hc he
        have q1 : (z == (k : Int)) = false := beq_eq_false_iff_ne.2 he
        have q3 : decide (z = (k : Int)) = false := decide_eq_false he
        go_wp2_with fail
        go_round
        case rel => exact ⟨j + 1, by omega, by go_num, HN2⟩
        case measure => simp [intOf]; omega
    · obtain rfl : j = n := by omega
      have HE := Lib.hid (hasB_no (fun q hq => HA.out q (by rw [← HL.out]; exact hq)))
      go_wp2_with fail
      go_ret
      exact ⟨by rw [HE.out]; rfl, rfl⟩
set_option maxRecDepth 100000 in
set_option maxHeartbeats 4000000 in
theorem each_any (p : Option Addr) (n c : Nat) (ms : List Int) (x : ByteArray) (y : Int) (w : World) (hr : Rd .i64 w p n ms) (hn : n ≤ 1048576) (hx : x.size ≤ 10000000) (hy : inK .i64 y) : Calls Try.prog 62 #[.slice p n c, .string x, .int .i64 y] w (MakesI (eachD ms x y) w) := by
  obtain ⟨i0, hi, hz0, hz1, hz2⟩ := info_parts SlI.info
  have HR := Lib.hid hr
  have HL := Lib.hid hr.len
  have HY := Lib.hid hy
  clear hr hy
  go_enter Try.func62, Try.ntmps62
  go_wp2_with (refine wpList_make_own _ rfl _ _ 25 rfl w.heap.size 3 i0 (.int .i64 0) 1 Try.underlying25 hi hz0 hz1 .i64 .i64 _ n rfl rfl rfl (by rw [hz2]; omega) (by unfold maxLen; omega) (Nat.le_refl _) ?_; intro w1 hown1 hg1)
  have HM : Hid (Ow .i64 3 w1 w.heap.size w1.heap.size (some ⟨w.heap.size, 0, none⟩) 0 n (eachK ms x y 0) ∧ Below w.heap.size w w1) := Lib.hid ⟨Ow.of_row (k := .i64) (zs := []) hown1 (fun q hq => by cases hq), (Below.refl _ _).grown hg1 (Nat.le_refl _) (fun _ h => by cases h)⟩
  clear hown1 hg1
  go_loopw [7, 15] (fun v i wr => ∃ (k m c' : Nat) (p' : Option Addr), k ≤ n ∧ i = .int .i64 k ∧ v = .slice p' m c' ∧ Hid (Ow .i64 3 wr w.heap.size wr.heap.size p' m c' (eachK ms x y k) ∧ Below w.heap.size w wr)) (fun _ i _ => n - (intOf i).toNat)
  case atStart => exact ⟨0, _, _, _, Nat.zero_le _, rfl, rfl, HM⟩
  case round =>
    obtain ⟨k, m, c', p', hk, rfl, rfl, HK⟩ := hrel
    obtain rfl : k = m := by rw [← HK.out.1.len, eachK_len]
    by_cases hlt : k < n
    · obtain ⟨b, o, rfl, hb, hc⟩ := (HR.out.below HK.out.2).at_ hlt
      have HN := Lib.hid (eachK_next ms x y k)
      generalize ms.getD k 0 = z at hc HN
      obtain ⟨pd1, pd2⟩ := partD_in z x y
      have hsz := HK.out.2.size
      go_wp2_with (first
        | (go_at_call 103; refine (part_any z x y _ hx HY.out).mono ?_; rintro e w2 ⟨rfl, hb2⟩; have HO2 := Lib.hid (HK.out.1.below hb2); have HB2 := Lib.hid (HK.out.2.trans (hb2.mono hsz)); have hs2 := hb2.size; clear hb2)
        | (at_builtin; refine wpList_app1 rfl (.tmp 19) (.tmp 24) 25 rfl i0 _ 8 Try.underlying25 hi hz0 hz1 hz2 rfl rfl (HO2.out.alloc _) w2.heap.size 1 (partD z x y) rfl (by go_simp) ⟨by omega, by omega⟩ (by simp; omega) (by omega) (by omega) ?_; intro p3 c3 w3 how3 hg3; have HO3 := Lib.hid how3; have HB3 := Lib.hid ((HB2.out.alloc (by omega) _).trans ((HO2.out.alloc _).below_row hg3 (by simp; omega))); clear how3 hg3))
      go_roundw
      case rel => exact ⟨k + 1, _, _, _, by omega, by go_num, rfl, Lib.hid ⟨by rw [HN.out]; exact HO3.out, HB3.out⟩⟩
      case measure => simp [intOf]; omega
    · obtain rfl : k = n := by omega
      have HE := Lib.hid (eachK_all ms x y k HL.out)
      go_wp2_with fail
      go_ret
      exact ⟨_, _, _, rfl, by rw [← HE.out]; exact HK.out.1, HK.out.2⟩
end Go.Proofs.Ytjlckfbacphblaa.Od
