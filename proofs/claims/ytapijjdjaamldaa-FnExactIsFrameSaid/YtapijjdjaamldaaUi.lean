/- Contracts of single authorities: valid or not. -/
import Derived.Test.YtapijjdjaamldaaSlAuthority
import Derived.Test.YtapijjdjaamldaaKi
import Derived.Test.YtapijjdjaamldaaSr
import Derived.LoopTactic
import Derived.Outline
namespace Go.Proofs.Ytapijjdjaamldaa.Ui
open Go.ChangeShapes Go.WideShapes Go.ChangeAt Go.RowKit Sl St Fnd SlAuthority Ki
theorem says {b b' : Bool} {w w' : World} (h : b' = b) (hb : Below w.heap.size w w') : SlAuthority.Val (.bool b) w (.returned (.bool b')) w' := ⟨by rw [h], hb⟩
def okU (x : I3) : Bool := inB x.1 0 99 && (inB x.2.1 1 99 && inB x.2.2 0 100)
set_option maxRecDepth 100000 in
set_option maxHeartbeats 4000000 in
theorem isAuthority_any (x0 x1 x2 : Int) (w : World) : Calls Try.prog 148 #[.agg #[.int .i64 x0, .int .i64 x1, .int .i64 x2]] w (Val (.bool (okU (x0, x1, x2))) w) := by
  obtain ⟨β0, h0⟩ : ∃ β, inB x0 0 99 = β := ⟨_, rfl⟩
  have H0 := Lib.hid h0
  obtain ⟨β1, h1⟩ : ∃ β, inB x1 1 99 = β := ⟨_, rfl⟩
  have H1 := Lib.hid h1
  obtain ⟨β2, h2⟩ : ∃ β, inB x2 0 100 = β := ⟨_, rfl⟩
  have H2 := Lib.hid h2
  have HO : Hid (okU (x0, x1, x2) = (β0 && (β1 && β2))) := Lib.hid (by rw [← h0, ← h1, ← h2]; rfl)
  clear h0 h1 h2
  have HX := Lib.hid (Bx.new w 187 #[.int .i64 x0, .int .i64 x1, .int .i64 x2])
  have HB := Lib.hid (box1 w (.cells #[.int .i64 x0, .int .i64 x1, .int .i64 x2] 187))
  go_enter Try.func148, Try.ntmps148
  go_wp2_with fail
  refine (rng_any _ _ _ _).mono ?_
  rintro e w00 ⟨rfl, rfl⟩
  rw [H0.out]
  cases β0
  · go_wp2_with fail
    go_ret
    exact says (by rw [HO.out]; rfl) HB.out
  go_wp2_with fail
  refine (keyNo_any _ _).mono ?_
  rintro e w10 ⟨rfl, rfl⟩
  rw [H1.out]
  cases β1
  · go_wp2_with fail
    go_ret
    exact says (by rw [HO.out]; rfl) HB.out
  go_wp2_with fail
  refine (rng_any _ _ _ _).mono ?_
  rintro e w20 ⟨rfl, rfl⟩
  rw [H2.out]
  cases β2
  all_goals
    go_wp2_with fail
    go_ret
    exact says (by rw [HO.out]; first | rfl | simp [*]) HB.out
end Go.Proofs.Ytapijjdjaamldaa.Ui
