/- slices.Equal over slices of Step. -/
import Derived.Test.YtkmgnicngcandaaGreatEd
import Derived.Test.YtkmgnicngcandaaGreatDz
import Derived.Test.YtkmgnicngcandaaGreatSlStep
import Derived.LoopTactic
import Derived.Laws.StructEq
import Derived.Deep.QuietTactic
import Derived.BigQuiet
import Derived.Outline
namespace Go.Proofs.YtkmgnicngcandaaGreat.EqStep
open Go.ChangeShapes Go.WideShapes Go.ChangeAt Go.RowKit Sl St Ed Dz
theorem first_ne {α : Type} {xs ys : List α} {k : Nat} {x y : α} (hx : xs[k]? = some x) (hy : ys[k]? = some y) (h : x ≠ y) : xs ≠ ys := fun e => h (by rw [e, hy] at hx; exact (Option.some.inj hx).symm)
theorem all_eq {α : Type} {xs ys : List α} {n : Nat} (h : xs.length = n) (h' : ys.length = n) (ha : ∀ j, j < n → xs[j]? = ys[j]?) : xs = ys := by
  apply List.ext_getElem?
  intro i
  by_cases hi : i < n
  · exact ha i hi
  · rw [List.getElem?_eq_none (by omega), List.getElem?_eq_none (by omega)]
def eqL (xs ys : List (Int × Bool)) : Bool := decide (xs = ys)
set_option maxRecDepth 100000 in
set_option maxHeartbeats 4000000 in
theorem equal_any (p p' : Option Addr) (n n' c c' : Nat) (xs ys : List (Int × Bool)) (w : World) (hr : RdS SlStep.E w p n xs) (hr' : RdS SlStep.E w p' n' ys) : Calls Tryz.prog 78 #[.slice p n c, .slice p' n' c'] w (Val (.bool (eqL xs ys)) w) := by
  have HR := Lib.hid hr
  have HR' := Lib.hid hr'
  have hle := hr.le
  have hle' := hr'.le
  clear hr hr'
  by_cases hne : n = n'
  · subst hne
    go_enter Tryz.func78, Tryz.ntmps78
    go_wp2_with fail
    go_loopw [13] (fun i wr => ∃ k q : Nat, k ≤ n ∧ i = .int .i64 k ∧ wr = w.drewN q ∧ Hid (∀ j, j < k → xs[j]? = ys[j]?)) (fun i _ => n - (intOf i).toNat)
    case atStart => exact ⟨0, 0, Nat.zero_le _, rfl, rfl, fun j hj => absurd hj (Nat.not_lt_zero _)⟩
    case round =>
      obtain ⟨k, q, hk, rfl, rfl, HE⟩ := hrel
      by_cases hlt : k < n
      · obtain ⟨b, o, x, rfl, hb, hx, hc⟩ := HR.out.at_ hlt
        obtain ⟨b', o', y, rfl, hb', hy, hc'⟩ := HR'.out.at_ hlt
        have HX := Lib.hid hx
        have HY := Lib.hid hy
        clear hx hy
        obtain ⟨x0, x1⟩ := x
        obtain ⟨y0, y1⟩ := y
        have hu : ∀ j v, [.int .i64 x0, .bool x1][j]? = some v → w.cell? ⟨b, o + k * 2 + j, none⟩ = some v := hc
        have hv : ∀ j v, [.int .i64 y0, .bool y1][j]? = some v → w.cell? ⟨b', o' + k * 2 + j, none⟩ = some v := hc'
        have u0 : w.cell? ⟨b, o + k * 2, none⟩ = some (.int .i64 x0) := hu 0 _ rfl
        have u1 : w.cell? ⟨b, o + k * 2 + 1, none⟩ = some (.bool x1) := hu 1 _ rfl
        have v0 : w.cell? ⟨b', o' + k * 2, none⟩ = some (.int .i64 y0) := hv 0 _ rfl
        have v1 : w.cell? ⟨b', o' + k * 2 + 1, none⟩ = some (.bool y1) := hv 1 _ rfl
        clear hc hc' hu hv
        by_cases hxy : (x0, x1) = (y0, y1)
        · have HXY := Lib.hid hxy
          simp only [Prod.mk.injEq] at hxy
          obtain ⟨rfl, rfl⟩ := hxy
          go_wp2_with fail
          go_quiet (fail)
          go_wp2_with fail
          refine ⟨⟨k + 1, _, by omega, by go_num, rfl, fun j hj => ?_⟩, by simp [intOf]; omega⟩
          by_cases hjk : j = k
          · rw [hjk, HX.out, HY.out]
          · exact HE.out j (by omega)
        · have HN := Lib.hid (first_ne HX.out HY.out hxy)
          have hd : (¬ x0 = y0) ∨ (x0 = y0 ∧ ¬ x1 = y1) := by
            by_cases e0 : x0 = y0
            rotate_left
            · exact Or.inl e0
            by_cases e1 : x1 = y1
            rotate_left
            · exact Or.inr (⟨e0, e1⟩)
            exact absurd (by rw [e0, e1]) hxy
          rcases hd with hne | ⟨rfl, hne⟩
          all_goals
            clear hxy HX HY
            try (cases x1 <;> cases y1 <;> first | exact absurd rfl hne | skip)
          all_goals
            go_wp2_with fail
            go_quiet (fail)
            go_wp2_with fail
            go_ret
            exact val_of (by rw [show eqL xs ys = false from decide_eq_false HN.out]; rfl) (below_drewN (below_drewN (Below.refl _ _) _) _)
      · obtain rfl : k = n := by omega
        go_wp2_with fail
        go_ret
        exact val_of (by rw [show eqL xs ys = true from decide_eq_true (all_eq HR.out.len HR'.out.len HE.out)]; rfl) (below_drewN (Below.refl _ _) _)
  · have hb1 : ((n : Int) == n') = false := beq_eq_false_iff_ne.2 (by omega)
    have hb2 : ((n : Int) != n') = true := by rw [bne, hb1]; rfl
    have hb3 : (n == n') = false := beq_eq_false_iff_ne.2 hne
    have hb4 : (n != n') = true := by rw [bne, hb3]; rfl
    have HN := Lib.hid hne
    clear hne
    go_enter Tryz.func78, Tryz.ntmps78
    go_wp2_with fail
    go_ret
    exact val_of (by rw [show eqL xs ys = false from decide_eq_false (fun e => HN.out (by rw [← HR.out.len, ← HR'.out.len, e]))]; rfl) (Below.refl _ _)
end Go.Proofs.YtkmgnicngcandaaGreat.EqStep
