/- Mathematics of documents: valid ones, the digest of a part, the digest of a document. -/
import Derived.Test.YtjaholcmaafenaaDg
import Derived.Test.YtjaholcmaafenaaSlStr
import Derived.Test.YtjaholcmaafenaaDer
namespace Go.Proofs.Ytjaholcmaafenaa.Dm
open Hs Dg

/-- Title, Parts, Salts -/
abbrev Dc := Int × List ByteArray × List Int
def inB (x lo hi : Int) : Bool := decide (lo ≤ x ∧ x ≤ hi)
theorem inB_def (x lo hi : Int) : decide (lo ≤ x ∧ x ≤ hi) = inB x lo hi := rfl
def okP (parts : List ByteArray) : Prop := ∀ j, j < parts.length → (parts.getD j ByteArray.empty).size ≤ 40
def okS (salts : List Int) : Prop := ∀ j, j < salts.length → 1 ≤ salts.getD j 0 ∧ salts.getD j 0 ≤ 1000000000000
instance (p : List ByteArray) : Decidable (okP p) := by unfold okP; infer_instance
instance (s : List Int) : Decidable (okS s) := by unfold okS; infer_instance
def docOk (D : Dc) : Bool := inB D.1 0 999 && (inB D.2.1.length 1 6 && (decide (D.2.2.length = D.2.1.length) && (decide (okP D.2.1) && decide (okS D.2.2))))
theorem docOk_title {D : Dc} (h : inB D.1 0 999 = false) : docOk D = false := by unfold docOk; rw [h]; rfl
theorem docOk_size {D : Dc} (h : inB D.2.1.length 1 6 = false) : docOk D = false := by unfold docOk; rw [h]; cases inB D.1 0 999 <;> rfl
theorem docOk_len {D : Dc} (h : ¬ D.2.2.length = D.2.1.length) : docOk D = false := by unfold docOk; rw [decide_eq_false h]; cases inB D.1 0 999 <;> cases inB D.2.1.length 1 6 <;> rfl
theorem docOk_part {D : Dc} {k : Nat} (hk : k < D.2.1.length) (h : ¬ (D.2.1.getD k ByteArray.empty).size ≤ 40) : docOk D = false := by
  unfold docOk
  rw [decide_eq_false (fun h2 : okP D.2.1 => h (h2 k hk))]
  simp
theorem docOk_salt {D : Dc} {k : Nat} (hk : k < D.2.2.length) (h : ¬ (1 ≤ D.2.2.getD k 0 ∧ D.2.2.getD k 0 ≤ 1000000000000)) : docOk D = false := by
  unfold docOk
  rw [decide_eq_false (fun h2 : okS D.2.2 => h (h2 k hk))]
  simp
theorem docOk_all {D : Dc} (h1 : okP D.2.1) (h2 : okS D.2.2) : docOk D = (inB D.1 0 999 && (inB D.2.1.length 1 6 && decide (D.2.2.length = D.2.1.length))) := by
  unfold docOk
  rw [decide_eq_true h1, decide_eq_true h2]
  simp
theorem docOk_yes {D : Dc} (h0 : inB D.1 0 999 = true) (h3 : inB D.2.1.length 1 6 = true) (h4 : D.2.2.length = D.2.1.length) (h1 : okP D.2.1) (h2 : okS D.2.2) : docOk D = true := by
  rw [docOk_all h1 h2, h0, h3, decide_eq_true h4]
  rfl
theorem docOk_says {D : Dc} (h : docOk D = true) : (0 ≤ D.1 ∧ D.1 ≤ 999) ∧ (1 ≤ D.2.1.length ∧ D.2.1.length ≤ 6) ∧ D.2.2.length = D.2.1.length ∧ okP D.2.1 ∧ okS D.2.2 := by
  unfold docOk inB at h
  simp only [Bool.and_eq_true, decide_eq_true_eq] at h
  obtain ⟨h1, h2, h3, h4, h5⟩ := h
  exact ⟨h1, by omega, h3, h4, h5⟩
/-- the digest of a part -/
def partD (m : Int) (s : ByteArray) (salt : Int) : Int := dig m (salt :: strI s)
theorem partD_in (m : Int) (s : ByteArray) (salt : Int) : 0 ≤ partD m s salt ∧ partD m s salt ≤ 2147483646 := dig_in _ _
/-- the digests of the parts, from the first on -/
def partsD (m : Int) (D : Dc) : List Int := (List.range D.2.1.length).map fun i => partD m (D.2.1.getD i ByteArray.empty) (D.2.2.getD i 0)
theorem partsD_len (m : Int) (D : Dc) : (partsD m D).length = D.2.1.length := by simp [partsD]
def docD (m : Int) (D : Dc) : Int := if docOk D then dig m (D.1 :: partsD m D) else -1
theorem docD_no {m : Int} {D : Dc} (h : docOk D = false) : docD m D = -1 := by unfold docD; rw [h]; rfl
theorem docD_yes {m : Int} {D : Dc} (h : docOk D = true) : docD m D = dig m (D.1 :: partsD m D) := by unfold docD; rw [h]; rfl
theorem docD_in (m : Int) (D : Dc) : -1 ≤ docD m D ∧ docD m D ≤ 2147483646 := by
  unfold docD
  split
  · have := dig_in m (D.1 :: partsD m D); omega
  · omega
end Go.Proofs.Ytjaholcmaafenaa.Dm
