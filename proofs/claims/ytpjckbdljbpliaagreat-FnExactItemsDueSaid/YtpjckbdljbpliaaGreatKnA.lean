/- Mathematics of keys: valid ones, marks, whose they are. Contracts of single keys: numbers of keys, owners, methods and times in their ranges; valid keys or not, in the program (rules in a list) and in the reference. -/
import Derived.Test.YtpjckbdljbpliaaGreatEsA
import Derived.Test.YtpjckbdljbpliaaGreatHs
import Derived.Test.YtpjckbdljbpliaaGreatInt
import Derived.Test.YtpjckbdljbpliaaGreatMin
import Derived.LoopTactic
import Derived.Outline
namespace Go.Proofs.YtpjckbdljbpliaaGreat.Kn
open Fnd
/-- Number, Owner, Method, Born, Secret -/
def z5 : I5 := (0, 0, 0, 0, 0)
def okK (k : I5) : Bool := inB k.1 1 99 && (inB k.2.1 0 99 && (inB k.2.2.1 0 99 && (inB k.2.2.2.1 0 10000 && inB k.2.2.2.2 1 2147483646)))
def areK (l : List I5) : Bool := areL okK (fun k => k.1) z5 12 l
abbrev findK (l : List I5) (n : Int) : Int := find l n
/-- the first key with this number -/
abbrev ring (l : List I5) (n : Int) : Option I5 := Fnd.look z5 l n
theorem ring_cases (l : List I5) (n : Int) : (∃ k : Nat, k < l.length ∧ find l n = k ∧ ring l n = some (l.getD k z5) ∧ (l.getD k z5).1 = n ∧ ∀ j, j < k → (l.getD j z5).1 ≠ n) ∨ (find l n = -1 ∧ ring l n = none ∧ ∀ j, j < l.length → (l.getD j z5).1 ≠ n) := Fnd.look_cases z5 l n
def markW (k : I5) (l : List Int) : Int := Hs.khash k.2.2.2.2 (k.2.2.1 :: l)
def checkM (l : List I5) (n : Int) (what : List Int) (mark : Int) : Bool := match ring l n with | some k => decide (markW k what = mark) | none => false
def ownerOf (l : List I5) (n : Int) : Int := match ring l n with | some k => k.2.1 | none => -1
theorem checkM_some {l : List I5} {n : Int} {k : I5} (h : ring l n = some k) (what : List Int) (mark : Int) : checkM l n what mark = decide (markW k what = mark) := by simp [checkM, h]
theorem checkM_none {l : List I5} {n : Int} (h : ring l n = none) (what : List Int) (mark : Int) : checkM l n what mark = false := by simp [checkM, h]
theorem ownerOf_some {l : List I5} {n : Int} {k : I5} (h : ring l n = some k) : ownerOf l n = k.2.1 := by simp [ownerOf, h]
theorem ownerOf_none {l : List I5} {n : Int} (h : ring l n = none) : ownerOf l n = -1 := by simp [ownerOf, h]
def keysOf (l : List I5) (o : Int) : List Int := (l.filter fun k => decide (k.2.1 = o)).map fun k => k.1
theorem keysOf_append (l l' : List I5) (o : Int) : keysOf (l ++ l') o = keysOf l o ++ keysOf l' o := by simp [keysOf]
theorem keysOf_in {o : Int} {k : I5} (h : k.2.1 = o) : keysOf [k] o = [k.1] := by simp [keysOf, h]
theorem keysOf_out {o : Int} {k : I5} (h : ¬ k.2.1 = o) : keysOf [k] o = [] := by simp [keysOf, h]
theorem keysOf_len (l : List I5) (o : Int) : (keysOf l o).length ≤ l.length := by simpa [keysOf] using List.length_filter_le _ l
/-- the mark of the first key with this number; 0 if there is none -/
def markR (l : List I5) (n : Int) (what : List Int) : Int := match ring l n with | some k => markW k what | none => 0
theorem markR_some {l : List I5} {n : Int} {k : I5} (h : ring l n = some k) (what : List Int) : markR l n what = markW k what := by unfold markR; rw [h]
theorem markR_none {l : List I5} {n : Int} (h : ring l n = none) (what : List Int) : markR l n what = 0 := by unfold markR; rw [h]
theorem checkM_ring (l : List I5) (n : Int) (what : List Int) (mark : Int) : checkM l n what mark = ((ring l n).isSome && decide (markR l n what = mark)) := by
  rcases h : ring l n with _ | k
  · rw [checkM_none h]; rfl
  · rw [checkM_some h, markR_some h]; simp
end Go.Proofs.YtpjckbdljbpliaaGreat.Kn

namespace Go.Proofs.YtpjckbdljbpliaaGreat.Ki
open Go.ChangeShapes Go.WideShapes Go.ChangeAt Go.RowKit Sl St Fnd Kn SlKey Ints

theorem box1 (w : World) (o : Obj) : Below w.heap.size w (w.alloc o) := (Below.refl _ _).alloc (Nat.le_refl _) _
theorem says {b b' : Bool} {w w' : World} (h : b' = b) (hb : Below w.heap.size w w') : Val (.bool b) w (.returned (.bool b')) w' := ⟨by rw [h], hb⟩
/-- a range asked -/
def Asks (b : Bool) (w : World) (e : Ending) (w' : World) : Prop := e = .returned (.bool b) ∧ w = w'
end Go.Proofs.YtpjckbdljbpliaaGreat.Ki
