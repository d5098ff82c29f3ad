/- Mathematics of redacted documents: valid ones, what is shown of one. -/
import Derived.Test.YtjlckfbacphblaaRk
namespace Go.Proofs.Ytjlckfbacphblaa.Rm
open SlRed Dm

def headOk (D : Rc) : Bool := inB D.sh.length 1 6 && (decide (D.ps.length = D.sh.length) && (decide (D.ss.length = D.sh.length) && decide (D.ds.length = D.sh.length)))
def rowOk (D : Rc) (i : Nat) : Prop :=
  (D.sh.getD i false = true ∧ (D.ds.getD i []).length = 0) ∨ (D.sh.getD i false = false ∧ (D.ds.getD i []).length = D.ms.length ∧ D.ps.getD i ByteArray.empty = ByteArray.empty ∧ D.ss.getD i 0 = 0)
def showP (D : Rc) (k : Nat) : List ByteArray := ((List.range k).filter fun i => D.sh.getD i false).map fun i => D.ps.getD i ByteArray.empty
def showS (D : Rc) (k : Nat) : List Int := ((List.range k).filter fun i => D.sh.getD i false).map fun i => D.ss.getD i 0
theorem showP_hid {D : Rc} {k : Nat} (h : D.sh.getD k false = false) : showP D (k + 1) = showP D k := by
  unfold showP
  rw [List.range_succ, List.filter_append, List.map_append, List.filter_cons_of_neg (by rw [h]; decide)]
  exact List.append_nil _
theorem showS_hid {D : Rc} {k : Nat} (h : D.sh.getD k false = false) : showS D (k + 1) = showS D k := by
  unfold showS
  rw [List.range_succ, List.filter_append, List.map_append, List.filter_cons_of_neg (by rw [h]; decide)]
  exact List.append_nil _
theorem showP_show {D : Rc} {k : Nat} (h : D.sh.getD k false = true) : showP D (k + 1) = showP D k ++ [D.ps.getD k ByteArray.empty] := by
  unfold showP
  rw [List.range_succ, List.filter_append, List.map_append, List.filter_cons_of_pos (by rw [h])]
  rfl
theorem showS_show {D : Rc} {k : Nat} (h : D.sh.getD k false = true) : showS D (k + 1) = showS D k ++ [D.ss.getD k 0] := by
  unfold showS
  rw [List.range_succ, List.filter_append, List.map_append, List.filter_cons_of_pos (by rw [h])]
  rfl
theorem showP_len (D : Rc) (k : Nat) : (showP D k).length ≤ k := by
  unfold showP
  rw [List.length_map]
  have := List.length_filter_le (fun i => D.sh.getD i false) (List.range k)
  rw [List.length_range] at this
  exact this
theorem showS_len (D : Rc) (k : Nat) : (showS D k).length = (showP D k).length := by
  unfold showS showP
  rw [List.length_map, List.length_map]
def tailOk (D : Rc) : Bool := docOk (D.t, showP D D.sh.length, showS D D.sh.length) || (decide ((showP D D.sh.length).length = 0) && inB D.t 0 999)
section
open Classical
noncomputable def rowsOk (D : Rc) : Bool := decide (∀ i, i < D.sh.length → rowOk D i)
theorem rowsOk_no {D : Rc} {k : Nat} (hk : k < D.sh.length) (h : ¬ rowOk D k) : rowsOk D = false := decide_eq_false (fun h2 => h (h2 k hk))
theorem rowsOk_yes {D : Rc} (h : ∀ i, i < D.sh.length → rowOk D i) : rowsOk D = true := decide_eq_true h
theorem rowsOk_says {D : Rc} (h : rowsOk D = true) : ∀ i, i < D.sh.length → rowOk D i := of_decide_eq_true h
end
noncomputable def redOk (D : Rc) : Bool := headOk D && (rowsOk D && tailOk D)
theorem redOk_head {D : Rc} (h : headOk D = false) : redOk D = false := by unfold redOk; rw [h]; rfl
theorem redOk_row {D : Rc} {k : Nat} (hk : k < D.sh.length) (h : ¬ rowOk D k) : redOk D = false := by
  unfold redOk
  rw [rowsOk_no hk h]
  simp
theorem redOk_all {D : Rc} (h : headOk D = true) (ha : ∀ i, i < D.sh.length → rowOk D i) : redOk D = tailOk D := by
  unfold redOk
  rw [h, rowsOk_yes ha]
  rfl
theorem redOk_says {D : Rc} (h : redOk D = true) : headOk D = true ∧ (∀ i, i < D.sh.length → rowOk D i) ∧ tailOk D = true := by
  unfold redOk at h
  simp only [Bool.and_eq_true] at h
  exact ⟨h.1, rowsOk_says h.2.1, h.2.2⟩
theorem headOk_n {D : Rc} (h : inB D.sh.length 1 6 = false) : headOk D = false := by unfold headOk; rw [h]; rfl
theorem headOk_p {D : Rc} (h : ¬ D.ps.length = D.sh.length) : headOk D = false := by unfold headOk; rw [decide_eq_false h]; simp
theorem headOk_s {D : Rc} (h : ¬ D.ss.length = D.sh.length) : headOk D = false := by unfold headOk; rw [decide_eq_false h]; simp
theorem headOk_d {D : Rc} (h : ¬ D.ds.length = D.sh.length) : headOk D = false := by unfold headOk; rw [decide_eq_false h]; simp
theorem headOk_yes {D : Rc} (h : inB D.sh.length 1 6 = true) (h1 : D.ps.length = D.sh.length) (h2 : D.ss.length = D.sh.length) (h3 : D.ds.length = D.sh.length) : headOk D = true := by
  unfold headOk
  rw [h, decide_eq_true h1, decide_eq_true h2, decide_eq_true h3]
  rfl
theorem headOk_says {D : Rc} (h : headOk D = true) : (1 ≤ D.sh.length ∧ D.sh.length ≤ 6) ∧ D.ps.length = D.sh.length ∧ D.ss.length = D.sh.length ∧ D.ds.length = D.sh.length := by
  unfold headOk inB at h
  simp only [Bool.and_eq_true, decide_eq_true_eq] at h
  omega
end Go.Proofs.Ytjlckfbacphblaa.Rm
