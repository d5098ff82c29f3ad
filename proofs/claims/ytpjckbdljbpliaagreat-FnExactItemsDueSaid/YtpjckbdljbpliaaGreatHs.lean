/- Hashes: mathematics, and contracts in the program and in the reference. -/
import Derived.Test.YtpjckbdljbpliaaGreatSlI
import Derived.Test.YtpjckbdljbpliaaGreatSlB
import Derived.Test.YtpjckbdljbpliaaGreatMin
import Derived.Outline
namespace Go.Proofs.YtpjckbdljbpliaaGreat.Hs
open Go.ChangeShapes Go.WideShapes Go.ChangeAt Go.RowKit Sl

def hstep (h v : Int) : Int := (h * 1000003 + v % 2147483647 + 13) % 2147483647
theorem hstep_def (h v : Int) : (h * 1000003 + v % 2147483647 + 13) % 2147483647 = hstep h v := rfl
theorem hstep_in (h v : Int) : 0 ≤ hstep h v ∧ hstep h v ≤ 2147483646 := by unfold hstep; omega
def hashF (h : Int) (zs : List Int) : Int := zs.foldl hstep h
theorem hashF_nil (h : Int) : hashF h [] = h := rfl
theorem hashF_cons (h v : Int) (zs : List Int) : hashF h (v :: zs) = hashF (hstep h v) zs := rfl
theorem hashF_snoc (h v : Int) (zs : List Int) : hashF h (zs ++ [v]) = hstep (hashF h zs) v := by
  unfold hashF
  rw [List.foldl_append]
  rfl
theorem hashF_in {h : Int} (h0 : 0 ≤ h ∧ h ≤ 2147483646) (zs : List Int) : 0 ≤ hashF h zs ∧ hashF h zs ≤ 2147483646 := by
  induction zs generalizing h with
  | nil => exact h0
  | cons v zs ih => rw [hashF_cons]; exact ih (hstep_in h v)
theorem hashF_take {zs : List Int} {k : Nat} (h : Int) (hk : k < zs.length) : hashF h (zs.take (k + 1)) = hstep (hashF h (zs.take k)) (zs.getD k 0) := by
  rw [List.take_succ_eq_append_getElem hk, hashF_snoc, List.getD_eq_getElem?_getD, List.getElem?_eq_getElem hk]
  rfl
def hash (zs : List Int) : Int := hashF 11 zs
theorem hash_in (zs : List Int) : 0 ≤ hash zs ∧ hash zs ≤ 2147483646 := hashF_in (by omega) zs
def khash (k : Int) (zs : List Int) : Int := hstep (hashF (hstep 11 k) zs) k
theorem khash_in (k : Int) (zs : List Int) : 0 ≤ khash k zs ∧ khash k zs ≤ 2147483646 := hstep_in _ _
theorem khash_hash (k : Int) (zs : List Int) : hash ([k] ++ zs ++ [k]) = khash k zs := by
  unfold hash khash
  rw [hashF_snoc]
  rfl

/-! ### the reference -/
/-- one int that is laid in a block anew -/
theorem lit1_own (w : World) (lo : Nat) (k : Int) (hk : inK .i64 k) (h : lo ≤ w.heap.size) : Ow .i64 3 (w.alloc (.cells #[.int .i64 k] 3)) lo (w.alloc (.cells #[.int .i64 k] 3)).heap.size (some ⟨w.heap.size, 0, none⟩) 1 1 [k] :=
  Ow.of_row (World.ownsRow_lit w #[.int .i64 k] 1 h (by unfold maxLen; omega) rfl) (fun x hx => by rw [List.mem_singleton] at hx; rw [hx]; exact hk)
/-- The call answers a number; what lay before is as it was. -/
def Num (x : Int) (w : World) (e : Ending) (w' : World) : Prop := e = .returned (.int .i64 x) ∧ Below w.heap.size w w'
theorem num_of {x : Int} {w : World} {e : Ending} {w' : World} (h : e = .returned (.int .i64 x) ∧ w = w') : Num x w e w' := by
  obtain ⟨rfl, rfl⟩ := h
  exact ⟨rfl, Below.refl _ _⟩
/-- The call answers b; what lay before is as it was. -/
def Bool_ (b : Bool) (w : World) (e : Ending) (w' : World) : Prop := e = .returned (.bool b) ∧ Below w.heap.size w w'
def validB (k : Int) : Bool := decide (1 ≤ k ∧ k ≤ 2147483646)
/-- the length and the bytes -/
def b2i (xs : List Int) : List Int := (xs.length : Int) :: xs
theorem b2i_take {xs : List Int} {n k : Nat} (hl : xs.length = n) (hk : k < n) : ((n : Int) :: xs.take k) ++ [xs.getD k 0] = (n : Int) :: xs.take (k + 1) := by
  rw [List.take_succ_eq_append_getElem (by omega), List.getD_eq_getElem?_getD, List.getElem?_eq_getElem (by omega)]
  rfl
theorem b2i_end {xs : List Int} {n : Nat} (hl : xs.length = n) : (n : Int) :: xs.take n = b2i xs := by
  unfold b2i
  rw [hl, List.take_of_length_le (by omega)]
/-- on the way: the length and k bytes -/
def B2Way (xs : List Int) (n k : Nat) (p : Option Addr) (m c : Nat) (w wr : World) : Prop :=
  Ow .i64 3 wr w.heap.size wr.heap.size p m c ((n : Int) :: xs.take k) ∧ Below w.heap.size w wr
theorem B2Way.len {xs : List Int} {n k m c : Nat} {p : Option Addr} {w wr : World} (h : B2Way xs n k p m c w wr) (hl : xs.length = n) (hk : k ≤ n) : m = k + 1 := by
  have := h.1.len
  simp only [List.length_cons, List.length_take] at this
  omega
theorem B2Way.next {xs : List Int} {n k m c c' : Nat} {p p' : Option Addr} {w wr w' : World} {T : TypeId} {y : Int} (h : B2Way xs n k p m c w wr) (hl : xs.length = n) (hk : k < n) (hy : xs.getD k 0 = y) (ho : Ow .i64 3 w' w.heap.size w'.heap.size p' (m + 1) c' (((n : Int) :: xs.take k) ++ [y])) (hg : (wr.alloc (.cells #[.int .i64 y] T)).grownBy w' (Value.slice p m c).ownBlock) : B2Way xs n (k + 1) p' (m + 1) c' w w' := by
  subst hy
  rw [b2i_take hl hk] at ho
  exact ⟨ho, (h.2.alloc h.2.size _).trans ((h.1.alloc _).below_row hg (Nat.le_trans h.2.size (by simp)))⟩
theorem B2Way.done {xs : List Int} {n m c : Nat} {p : Option Addr} {w wr : World} (h : B2Way xs n n p m c w wr) (hl : xs.length = n) : SlI.Makes (b2i xs) w (.returned (.slice p m c)) wr := by
  obtain ⟨h1, h2⟩ := h
  rw [b2i_end hl] at h1
  exact ⟨_, _, _, rfl, h1, h2⟩
end Go.Proofs.YtpjckbdljbpliaaGreat.Hs
