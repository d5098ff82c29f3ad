/- Contracts of what is marked in a mandate, in the program: a slice that is cut off behind its last number. -/
import Derived.Test.YtjoeacdoblgncaaMi
import Derived.Test.YtjoeacdoblgncaaGe
import Derived.LoopTactic
import Derived.Outline
namespace Go.Proofs.Ytjoeacdoblgncaa.Mj
open Go.ChangeShapes Go.WideShapes Go.ChangeAt Go.RowKit Sl St Fnd SlMandate Ki Mi Ge
/-- a slice whose block is the call's own, whatever its capacity says -/
def MakesC (zs : List Int) (w : World) (e : Ending) (w' : World) : Prop := ∃ (p : Option Addr) (n c d : Nat), e = .returned (.slice p n c) ∧ Ow .i64 3 w' w.heap.size w'.heap.size p n d zs ∧ Below w.heap.size w w'
theorem makesC_of {zs : List Int} {w w' : World} {e : Ending} (h : SlI.Makes zs w e w') : MakesC zs w e w' := by
  obtain ⟨p, n, c, h1, h2, h3⟩ := h
  exact ⟨p, n, c, c, h1, h2, h3⟩
set_option maxRecDepth 100000 in
set_option maxHeartbeats 4000000 in
theorem mandateInts_any (x0 x1 x2 x3 x4 x5 : Int) (w : World) (h0 : -9223372036854775808 ≤ x0 ∧ x0 ≤ 9223372036854775807) (h1 : -9223372036854775808 ≤ x1 ∧ x1 ≤ 9223372036854775807) (h2 : -9223372036854775808 ≤ x2 ∧ x2 ≤ 9223372036854775807) (h3 : -9223372036854775808 ≤ x3 ∧ x3 ≤ 9223372036854775807) (h4 : -9223372036854775808 ≤ x4 ∧ x4 ≤ 9223372036854775807) (_h5 : -9223372036854775808 ≤ x5 ∧ x5 ≤ 9223372036854775807) : Calls Try.prog 117 #[.agg #[.int .i64 x0, .int .i64 x1, .int .i64 x2, .int .i64 x3, .int .i64 x4, .int .i64 x5]] w (MakesC [105, x0, x1, x2, x3, x4] w) := by
  have hE : Bx (((w.alloc (.cells #[.int .i64 x0, .int .i64 x1, .int .i64 x2, .int .i64 x3, .int .i64 x4, .int .i64 x5] 86)).alloc (.cells #[.slice none 0 0] 106)).alloc (.cells #[.int .i64 105, .int .i64 x0, .int .i64 x1, .int .i64 x2, .int .i64 x3, .int .i64 x4] 3)) (w.heap.size + 1) 106 #[.slice none 0 0] := by
    have h := Bx.new (w.alloc (.cells #[.int .i64 x0, .int .i64 x1, .int .i64 x2, .int .i64 x3, .int .i64 x4, .int .i64 x5] 86)) 106 #[.slice none 0 0]
    rw [World.size_alloc] at h
    exact h.alloc _
  have HE := Lib.hid hE
  have HV : Hid (Below w.heap.size w (((w.alloc (.cells #[.int .i64 x0, .int .i64 x1, .int .i64 x2, .int .i64 x3, .int .i64 x4, .int .i64 x5] 86)).alloc (.cells #[.slice none 0 0] 106)).alloc (.cells #[.int .i64 105, .int .i64 x0, .int .i64 x1, .int .i64 x2, .int .i64 x3, .int .i64 x4] 3))) := Lib.hid ((((Below.refl w.heap.size w).alloc (Nat.le_refl _) (.cells #[.int .i64 x0, .int .i64 x1, .int .i64 x2, .int .i64 x3, .int .i64 x4, .int .i64 x5] 86)).alloc (by simp) (.cells #[.slice none 0 0] 106)).alloc (by simp; omega) (.cells #[.int .i64 105, .int .i64 x0, .int .i64 x1, .int .i64 x2, .int .i64 x3, .int .i64 x4] 3))
  have hY := (litN_at 3 ((w.alloc (.cells #[.int .i64 x0, .int .i64 x1, .int .i64 x2, .int .i64 x3, .int .i64 x4, .int .i64 x5] 86)).alloc (.cells #[.slice none 0 0] 106)) w.heap.size (w.heap.size + 2) [105, x0, x1, x2, x3, x4] (allK_cons ⟨by omega, by omega⟩ (allK_cons h0 (allK_cons h1 (allK_cons h2 (allK_cons h3 (allK_cons h4 (allK_nil _))))))) (by simp; omega) (by simp) (by simp)).rd
  have HY : Hid (Rd .i64 (((w.alloc (.cells #[.int .i64 x0, .int .i64 x1, .int .i64 x2, .int .i64 x3, .int .i64 x4, .int .i64 x5] 86)).alloc (.cells #[.slice none 0 0] 106)).alloc (.cells #[.int .i64 105, .int .i64 x0, .int .i64 x1, .int .i64 x2, .int .i64 x3, .int .i64 x4] 3)) (some ⟨w.heap.size + 2, 0, none⟩) 6 [105, x0, x1, x2, x3, x4]) := Lib.hid hY
  clear hE hY h0 h1 h2 h3 h4
  go_enter Try.func117, Try.ntmps117
  go_wp2_with fail
  generalize (((w.alloc (.cells #[.int .i64 x0, .int .i64 x1, .int .i64 x2, .int .i64 x3, .int .i64 x4, .int .i64 x5] 86)).alloc (.cells #[.slice none 0 0] 106)).alloc (.cells #[.int .i64 105, .int .i64 x0, .int .i64 x1, .int .i64 x2, .int .i64 x3, .int .i64 x4] 3)) = V at HE HV HY ⊢
  refine (write_any (w.heap.size + 1) 106 (by decide) none 0 0 [] _ _ _ [105, x0, x1, x2, x3, x4] w.heap.size w.heap.size V HE.out (Ow.nil_ _ _ _ _ HV.out.size |>.wide (Nat.le_refl _) (Nat.le_refl _) HV.out.size) HY.out HV.out.size (by omega)).mono ?_
  rintro e w1 ⟨rfl, p1, c1, hb1, ho1, ht1⟩
  have k0 := hb1.cell (j := 0) rfl
  have hc1 : 6 ≤ c1 := by
    rcases ho1.form with ⟨_, h, _⟩ | ⟨g, _, _, _, h, _⟩
    · omega
    · omega
  have hc2 : c1 ≤ 9223372036854775807 := by
    rcases ho1.form with ⟨_, h, _⟩ | ⟨g, _, _, _, _, h⟩
    · omega
    · unfold maxLen at h; omega
  have hs := HV.out.size
  have HO := Lib.hid (ho1 : Ow .i64 3 w1 w.heap.size w1.heap.size p1 6 c1 [105, x0, x1, x2, x3, x4])
  have HB := Lib.hid (HV.out.trans (ht1.below (B := w.heap.size) (fun i h => h.elim (fun e => by subst e; omega) (fun e => by simp [Value.ownBlock] at e)) HV.out.size))
  clear hb1 ho1 ht1
  go_wp2_with fail
  go_ret
  exact ⟨_, _, _, _, rfl, HO.out, HB.out⟩
end Go.Proofs.Ytjoeacdoblgncaa.Mj
