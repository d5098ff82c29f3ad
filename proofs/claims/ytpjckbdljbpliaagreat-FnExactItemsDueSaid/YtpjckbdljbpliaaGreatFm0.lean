/- The least time of the methods that a renewal needs (of no program), and a map of Bools of the call's own. -/
import Derived.Test.YtpjckbdljbpliaaGreatDpRenewal
import Derived.Test.YtpjckbdljbpliaaGreatEs
import Derived.Test.YtpjckbdljbpliaaGreatAo
import Derived.Test.YtpjckbdljbpliaaGreatKr
import Derived.Test.YtpjckbdljbpliaaGreatMmA
import Derived.Test.YtpjckbdljbpliaaGreatMin
import Derived.Maps.Own
import Derived.Maps.OwnSet
namespace Go.Proofs.YtpjckbdljbpliaaGreat.Fm0
open Go.ChangeShapes Go.WideShapes Go.ChangeAt Go.RowKit Sl St Ed Dz Es Fnd Kn Kr
def num (us : List I3) (s : I5) : Int := (Ao.aut us s.1).1.2.1
def lost (ks : List I5) (us : List I3) (s : I5) : Bool := !(ring ks (num us s)).isSome
def meth (ks : List I5) (us : List I3) (s : I5) : Int := match ring ks (num us s) with | some k => k.2.2.1 | none => 0
def stpM (ks : List I5) (us : List I3) (t : Int → Int) (a : Int) (s : I5) : Int := Ints.minI a (t (meth ks us s))
def firstM (ks : List I5) (us : List I3) (t : Int → Int) (m : Int) (xs : List I5) : Int := if xs.any (lost ks us) = true then 0 else xs.foldl (stpM ks us t) (t m)
section
variable {ks : List I5} {us : List I3} {t : Int → Int} {m : Int} {xs : List I5}
theorem fold_next {β : Type} {f : β → I5 → β} {z : β} {k : Nat} {x : I5} (h : xs[k]? = some x) : (xs.take (k + 1)).foldl f z = f ((xs.take k).foldl f z) x := by
  rw [List.take_add_one, h]
  simp
theorem first_lost {k : Nat} {x : I5} (hx : xs[k]? = some x) (hl : ring ks (num us x) = none) : firstM ks us t m xs = 0 := if_pos (any_yes hx (by unfold lost; rw [hl]; rfl))
theorem first_all {n : Nat} (h : noneB (lost ks us) xs n) (hn : xs.length = n) : firstM ks us t m xs = (xs.take n).foldl (stpM ks us t) (t m) := by
  unfold firstM
  rw [any_no h hn, if_neg (by simp), ← hn, List.take_length]
theorem not_lost {x : I5} {k : I5} (h : ring ks (num us x) = some k) : lost ks us x = false := by unfold lost; rw [h]; rfl
theorem meth_of {x : I5} {k : I5} (h : ring ks (num us x) = some k) : meth ks us x = k.2.2.1 := by unfold meth; rw [h]
theorem num_in (hA : ∀ a ∈ us, SlAuthority.InR a) (x : I5) : -9223372036854775808 ≤ num us x ∧ num us x ≤ 9223372036854775807 := by
  unfold num
  rcases hq : Ao.aut us x.1 with ⟨⟨a0, a1, a2⟩, b⟩
  rcases Ao.aut_cases us x.1 hq with ⟨k, hk, _, hx, _⟩ | ⟨_, rfl, rfl, rfl, _⟩
  · have h := hA _ (getD_mem Ao.z3 hk)
    rw [hx] at h
    exact h.2.1
  · exact ⟨by show (-9223372036854775808 : Int) ≤ 0; decide, by show (0 : Int) ≤ 9223372036854775807; decide⟩
end
theorem min_self {a b : Int} (h : a ≤ b) : Ints.minI a b = a := Ints.minI_ge (by omega)
theorem min_l (a b : Int) : Ints.minI a b ≤ a := by unfold Ints.minI; split <;> omega
theorem min_r (a b : Int) : Ints.minI a b ≤ b := by unfold Ints.minI; split <;> omega
/-! ### a map of Bools -/
def bR : Value → Option (DataW Unit × List MemPlace)
  | .bool b => some (.lit (.bool b), [])
  | _ => none
theorem bR_inv {v : Value} {b : Bool} {ps : List MemPlace} (h : bR v = some (.lit (.bool b), ps)) : v = .bool b := by
  unfold bR at h
  split at h
  · simp only [Option.some.injEq, Prod.mk.injEq, DataW.lit.injEq, Lit.bool.injEq] at h
    rw [h.1]
  · cases h
theorem zeroB (w : World) : (zeroValue 4).run Tryz.prog w = .ok (.bool false) w := by kernel_rfl
def Met (S : Int → Bool) (g n : Nat) (w : World) : Prop := ∃ D, w.ownsMap Tryz.prog 3 bR g n D ∧ ∀ id, D.atKey (.int .i64 id) (.lit (.bool false)) = .lit (.bool (S id))
section
variable {S : Int → Bool} {g n : Nat} {w w' : World}
theorem Met.made (w : World) : Met (fun _ => false) w.heap.size 0 (w.alloc (.map #[] 0)) := ⟨_, World.ownsMap_made _ _ _ _, fun _ => Maps.atKey_of_not_has rfl _⟩
theorem Met.grown {row : Option Nat} (h : Met S g n w) (hg : w.grownBy w' row) (hne : some g ≠ row) : Met S g n w' := by
  obtain ⟨D, h1, h2⟩ := h
  exact ⟨D, h1.kept hg hne, h2⟩
theorem Met.below (h : Met S g n w) (hb : Below w.heap.size w w') : Met S g n w' := h.grown (Sl.below_grown hb none) (by simp)
theorem Met.alloc (h : Met S g n w) (o : Obj) : Met S g n (w.alloc o) := h.below ((Below.refl _ _).alloc (Nat.le_refl _) _)
theorem Met.lt (h : Met S g n w) : g < w.heap.size := by obtain ⟨D, h1, _⟩ := h; exact h1.lt
theorem Met.put (h : Met S g n w) (hn : n < maxLen) {id : Int} (hid : -9223372036854775808 ≤ id ∧ id ≤ 9223372036854775807) : ∃ w', (Instr.mapUpdate 175 (.map (some g)) (.int .i64 id) (.bool true)).run Tryz.prog w = .ok () w' ∧ Met (fun i => S i || decide (i = id)) g (n + 1) w' ∧ w.grownBy w' (some g) := by
  obtain ⟨D, h1, h2⟩ := h
  obtain ⟨w', hrun, h3, h4⟩ := h1.store (Maps.int_keyed Tryz.underlying3) Tryz.underlying175 hn (Maps.keyOf_int_mk (a := id) Tryz.underlying3 (WalkArith.wf_i64 hid)) (show bR (.bool true) = some (.lit (.bool true), []) from rfl)
  refine ⟨w', hrun, ⟨_, h3, fun i => ?_⟩, h4.grown⟩
  by_cases he : i = id
  · subst he
    rw [Maps.atKey_put_same h1.isMap (int_key _)]
    simp
  · rw [Maps.atKey_put_other (fun e => he (by simp only [Lit.int.injEq, true_and] at e; exact e)), h2]
    simp [he]
theorem Met.get (h : Met S g n w) {id : Int} (hid : -9223372036854775808 ≤ id ∧ id ≤ 9223372036854775807) : (Instr.lookup 175 (.map (some g)) (.int .i64 id) false).run Tryz.prog w = .ok (.bool (S id)) w := by
  obtain ⟨D, h1, h2⟩ := h
  obtain ⟨v, ps, hrun, hv⟩ := h1.lookup (Maps.int_keyed Tryz.underlying3) Tryz.underlying175 (zeroB _) (show bR (.bool false) = some (.lit (.bool false), []) from rfl) (Maps.keyOf_int_mk (a := id) Tryz.underlying3 (WalkArith.wf_i64 hid))
  rw [h2] at hv
  rw [hrun, bR_inv hv]
end
theorem keyField (k0 k1 k2 k3 k4 : Int) (w : World) : (Instr.field 118 (.agg #[.int .i64 k0, .int .i64 k1, .int .i64 k2, .int .i64 k3, .int .i64 k4]) 2).run Tryz.prog w = .ok (.int .i64 k2) w := by kernel_rfl
theorem ring_get {ks : List I5} {g : Nat} {w : World} (h : Holds ks g w) {n x0 x1 x2 x3 x4 : Int} (hn : -9223372036854775808 ≤ n ∧ n ≤ 9223372036854775807) (hs : ring ks n = some (x0, x1, x2, x3, x4)) : (Instr.lookup 173 (.map (some g)) (.int .i64 n) false).run Tryz.prog w = .ok (.agg #[.int .i64 x0, .int .i64 x1, .int .i64 x2, .int .i64 x3, .int .i64 x4]) w := by
  obtain ⟨m', D, hown, hD⟩ := h
  obtain ⟨v, ps, h1, h2⟩ := hown.lookup (Maps.int_keyed Tryz.underlying3) Tryz.underlying173 (zeroE _) (kR_kv z5) (Maps.keyOf_int_mk (a := n) Tryz.underlying3 (WalkArith.wf_i64 hn))
  rcases hD n with ⟨k', g1, g2, g3⟩ | ⟨g1, _⟩
  · rw [hs, Option.some.injEq] at g1
    subst g1
    rw [g3] at h2
    rw [h1, kR_inv h2]
    rfl
  · rw [hs] at g1
    cases g1
/-! ### the end of a method -/
open Mn in
def ends (l : List Me) (id : Int) : Int := if fnd l id < 0 then 0 else (l.getD (fnd l id).toNat z4).2.2.1
open Mn in
theorem ends_none {l : List Me} {id : Int} (h : fnd l id = -1) : ends l id = 0 := by unfold ends; rw [if_pos (by omega)]
open Mn in
theorem ends_at {l : List Me} {id : Int} {k : Nat} (h : fnd l id = k) : ends l id = (l.getD k z4).2.2.1 := by unfold ends; rw [h, if_neg (by omega), Int.toNat_natCast]
end Go.Proofs.YtpjckbdljbpliaaGreat.Fm0
