/- Mathematics of the digest of a redacted document. -/
import Derived.Test.YtjlckfbacphblaaRm
namespace Go.Proofs.Ytjlckfbacphblaa.Rn
open SlRed Dm Rm Hs Dg Sl

theorem idx_eq : ∀ (ms : List Int) (m : Int) (k : Nat), (∀ j, j < k → ms.getD j 0 ≠ m) → (k = ms.length ∨ (k < ms.length ∧ ms.getD k 0 = m)) → ms.idxOf m = k
  | [], m, k, _, h => by
    rcases h with h | ⟨h, _⟩
    · rw [h]; rfl
    · exact absurd h (Nat.not_lt_zero _)
  | x :: ms, m, 0, _, h => by
    rcases h with h | ⟨_, h⟩
    · cases h
    · have h2 : x = m := h
      rw [h2]
      exact List.idxOf_cons_self
  | x :: ms, m, k + 1, hb, h => by
    have h0 : x ≠ m := hb 0 (Nat.zero_lt_succ _)
    rw [List.idxOf_cons, beq_eq_false_iff_ne.2 h0, cond_false, idx_eq ms m k (fun j hj => hb (j + 1) (by omega)) (by
      rcases h with h | ⟨h1, h2⟩
      · left; simpa using h
      · right; exact ⟨by simpa using h1, h2⟩)]
theorem idx_le (ms : List Int) (m : Int) : ms.idxOf m ≤ ms.length := List.idxOf_le_length
/-- the digest of the part i, as it is told -/
def itemD (m : Int) (D : Rc) (i : Nat) : Int := if D.sh.getD i false = true then partD m (D.ps.getD i ByteArray.empty) (D.ss.getD i 0) else (D.ds.getD i []).getD (D.ms.idxOf m) 0
theorem itemD_show {m : Int} {D : Rc} {i : Nat} (h : D.sh.getD i false = true) : itemD m D i = partD m (D.ps.getD i ByteArray.empty) (D.ss.getD i 0) := if_pos h
theorem itemD_hid {m : Int} {D : Rc} {i : Nat} (h : D.sh.getD i false = false) : itemD m D i = (D.ds.getD i []).getD (D.ms.idxOf m) 0 := if_neg (by rw [h]; decide)
def itemsD (m : Int) (D : Rc) (k : Nat) : List Int := (List.range k).map (itemD m D)
theorem itemsD_next (m : Int) (D : Rc) (k : Nat) : itemsD m D (k + 1) = itemsD m D k ++ [itemD m D k] := by
  unfold itemsD
  rw [List.range_succ, List.map_append]
  rfl
theorem itemsD_len (m : Int) (D : Rc) (k : Nat) : (itemsD m D k).length = k := by simp [itemsD]
/-- there is a hidden part -/
def anyHid (D : Rc) : Bool := decide (∃ i, i < D.sh.length ∧ D.sh.getD i false = false)
theorem anyHid_no {D : Rc} (h : ∀ i, i < D.sh.length → D.sh.getD i false = true) : anyHid D = false := decide_eq_false (fun ⟨i, h1, h2⟩ => by rw [h i h1] at h2; cases h2)
theorem anyHid_yes {D : Rc} {i : Nat} (h : i < D.sh.length) (h2 : D.sh.getD i false = false) : anyHid D = true := decide_eq_true ⟨i, h, h2⟩
theorem anyHid_says {D : Rc} (h : anyHid D = false) {i : Nat} (hi : i < D.sh.length) : D.sh.getD i false = true := by
  rcases hx : D.sh.getD i false with _ | _
  · rw [anyHid_yes hi hx] at h; cases h
  · rfl
noncomputable def redD (m : Int) (D : Rc) : Int := if redOk D = true ∧ ¬ (D.ms.idxOf m = D.ms.length ∧ anyHid D = true) then dig m (D.t :: itemsD m D D.sh.length) else -1
theorem redD_bad {m : Int} {D : Rc} (h : redOk D = false) : redD m D = -1 := if_neg (fun h2 => by rw [h] at h2; cases h2.1)
theorem redD_none {m : Int} {D : Rc} (h : D.ms.idxOf m = D.ms.length) (h2 : anyHid D = true) : redD m D = -1 := if_neg (fun h3 => h3.2 ⟨h, h2⟩)
theorem redD_yes {m : Int} {D : Rc} (h : redOk D = true) (h2 : D.ms.idxOf m = D.ms.length → anyHid D = false) : redD m D = dig m (D.t :: itemsD m D D.sh.length) := if_pos ⟨h, fun ⟨h3, h4⟩ => by rw [h2 h3] at h4; cases h4⟩
theorem redD_in (m : Int) (D : Rc) : -1 ≤ redD m D ∧ redD m D ≤ 2147483646 := by
  unfold redD
  split
  · have := dig_in m (D.t :: itemsD m D D.sh.length); omega
  · omega
theorem mem_showP {D : Rc} {k i : Nat} (hi : i < k) (h : D.sh.getD i false = true) : D.ps.getD i ByteArray.empty ∈ showP D k := by
  unfold showP
  rw [List.mem_map]
  exact ⟨i, List.mem_filter.2 ⟨List.mem_range.2 hi, h⟩, rfl⟩
theorem mem_showS {D : Rc} {k i : Nat} (hi : i < k) (h : D.sh.getD i false = true) : D.ss.getD i 0 ∈ showS D k := by
  unfold showS
  rw [List.mem_map]
  exact ⟨i, List.mem_filter.2 ⟨List.mem_range.2 hi, h⟩, rfl⟩
theorem getD_of_mem {α : Type} {x z : α} {l : List α} (h : x ∈ l) : ∃ j, j < l.length ∧ l.getD j z = x := by
  obtain ⟨j, hj, e⟩ := List.mem_iff_getElem.1 h
  exact ⟨j, hj, by rw [List.getD_eq_getElem?_getD, List.getElem?_eq_getElem hj, e]; rfl⟩
theorem redOk_part {D : Rc} (h : redOk D = true) {i : Nat} (hi : i < D.sh.length) (hs : D.sh.getD i false = true) : (D.ps.getD i ByteArray.empty).size ≤ 40 ∧ (1 ≤ D.ss.getD i 0 ∧ D.ss.getD i 0 ≤ 1000000000000) := by
  obtain ⟨_, _, ht⟩ := redOk_says h
  have hm := mem_showP (D := D) hi hs
  have hm2 := mem_showS (D := D) hi hs
  unfold tailOk at ht
  rw [Bool.or_eq_true] at ht
  rcases ht with ht | ht
  · obtain ⟨_, _, _, h4, h5⟩ := docOk_says ht
    obtain ⟨j, hj, e⟩ := getD_of_mem (z := ByteArray.empty) hm
    obtain ⟨j2, hj2, e2⟩ := getD_of_mem (z := (0 : Int)) hm2
    have h6 := h4 j hj
    have h7 := h5 j2 hj2
    simp only at h6 h7
    rw [e] at h6
    rw [e2] at h7
    exact ⟨h6, h7⟩
  · rw [Bool.and_eq_true, decide_eq_true_eq] at ht
    have := List.length_pos_of_mem hm
    omega
theorem redOk_title {D : Rc} (h : redOk D = true) : 0 ≤ D.t ∧ D.t ≤ 999 := by
  obtain ⟨_, _, ht⟩ := redOk_says h
  unfold tailOk at ht
  rw [Bool.or_eq_true] at ht
  rcases ht with ht | ht
  · exact (docOk_says ht).1
  · rw [Bool.and_eq_true] at ht
    have := ht.2
    unfold inB at this
    exact of_decide_eq_true this
theorem redOk_hid {D : Rc} (h : redOk D = true) {i : Nat} (hi : i < D.sh.length) (hs : D.sh.getD i false = false) : (D.ds.getD i []).length = D.ms.length := by
  obtain ⟨_, hr, _⟩ := redOk_says h
  rcases hr i hi with ⟨h2, _⟩ | ⟨_, h2, _⟩
  · rw [hs] at h2; cases h2
  · exact h2
end Go.Proofs.Ytjlckfbacphblaa.Rn
