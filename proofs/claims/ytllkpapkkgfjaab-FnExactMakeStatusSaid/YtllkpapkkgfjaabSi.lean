/- Contracts of answers about certificates: valid or not, what is marked; in the program and in the reference. -/
import Derived.Test.YtllkpapkkgfjaabSlStatus
import Derived.Test.YtllkpapkkgfjaabKi
import Derived.Test.YtllkpapkkgfjaabSr
import Derived.LoopTactic
import Derived.Outline
namespace Go.Proofs.Ytllkpapkkgfjaab.Si
open Go.ChangeShapes Go.WideShapes Go.ChangeAt Go.RowKit Sl St Fnd SlStatus Ki
theorem says {b b' : Bool} {w w' : World} (h : b' = b) (hb : Below w.heap.size w w') : SlStatus.Val (.bool b) w (.returned (.bool b')) w' := ⟨by rw [h], hb⟩
def okS (x : I5) : Bool := inB x.1 1 999 && (inB x.2.1 0 10000 && (inB x.2.2.1 (-1) (x.2.1 + 1) && inB x.2.2.2.1 1 99))
set_option maxRecDepth 100000 in
set_option maxHeartbeats 4000000 in
theorem isStatus_any (x0 x1 x2 x3 x4 : Int) (w : World) : Calls Try.prog 26 #[.agg #[.int .i64 x0, .int .i64 x1, .int .i64 x2, .int .i64 x3, .int .i64 x4]] w (Val (.bool (okS (x0, x1, x2, x3, x4))) w) := by
  obtain ⟨β0, h0⟩ : ∃ β, inB x0 1 999 = β := ⟨_, rfl⟩
  have H0 := Lib.hid h0
  obtain ⟨β1, h1⟩ : ∃ β, inB x1 0 10000 = β := ⟨_, rfl⟩
  have H1 := Lib.hid h1
  obtain ⟨β2, h2⟩ : ∃ β, inB x2 (-1) (x1 + 1) = β := ⟨_, rfl⟩
  have H2 := Lib.hid h2
  obtain ⟨β3, h3⟩ : ∃ β, inB x3 1 99 = β := ⟨_, rfl⟩
  have H3 := Lib.hid h3
  have HO : Hid (okS (x0, x1, x2, x3, x4) = (β0 && (β1 && (β2 && β3)))) := Lib.hid (by rw [← h0, ← h1, ← h2, ← h3]; rfl)
  clear h0 h1 h2 h3
  have HX := Lib.hid (Bx.new w 30 #[.int .i64 x0, .int .i64 x1, .int .i64 x2, .int .i64 x3, .int .i64 x4])
  have HB := Lib.hid (box1 w (.cells #[.int .i64 x0, .int .i64 x1, .int .i64 x2, .int .i64 x3, .int .i64 x4] 30))
  go_enter Try.func26, Try.ntmps26
  go_wp2_with fail
  refine (serial_any _ _).mono ?_
  rintro e w00 ⟨rfl, rfl⟩
  rw [H0.out]
  cases β0
  · go_wp2_with fail
    go_ret
    exact says (by rw [HO.out]; rfl) HB.out
  go_wp2_with fail
  replace HB := Lib.hid (HB.out.alloc HB.out.size (.cells #[.int .i64 x1] 3))
  replace HX := Lib.hid (HX.out.alloc (.cells #[.int .i64 x1] 3))
  refine (time1_any _ x1 _ (by go_simp)).mono ?_
  rintro e w10 ⟨rfl, rfl⟩
  rw [H1.out]
  cases β1
  · go_wp2_with fail
    go_ret
    exact says (by rw [HO.out]; rfl) HB.out
  have hx1 := inB_iff.1 H1.out
  have hs1 : 0 ≤ x1 := hx1.1
  have hs2 : x1 ≤ 10000 := hx1.2
  clear hx1
  go_wp2_with fail
  refine (rng_any _ _ _ _).mono ?_
  rintro e w20 ⟨rfl, rfl⟩
  rw [H2.out]
  cases β2
  · go_wp2_with fail
    go_ret
    exact says (by rw [HO.out]; rfl) HB.out
  go_wp2_with fail
  refine (keyNo_any _ _).mono ?_
  rintro e w30 ⟨rfl, rfl⟩
  rw [H3.out]
  cases β3
  all_goals
    go_wp2_with fail
    go_ret
    exact says (by rw [HO.out]; first | rfl | simp [*]) HB.out
set_option maxRecDepth 100000 in
set_option maxHeartbeats 4000000 in
theorem spec_isStatus_any (x0 x1 x2 x3 x4 : Int) (w : World) : Calls Try.prog 28 #[.agg #[.int .i64 x0, .int .i64 x1, .int .i64 x2, .int .i64 x3, .int .i64 x4]] w (Val (.bool (okS (x0, x1, x2, x3, x4))) w) := by
  obtain ⟨β0, h0⟩ : ∃ β, inB x0 1 999 = β := ⟨_, rfl⟩
  have H0 := Lib.hid h0
  obtain ⟨β1, h1⟩ : ∃ β, inB x1 0 10000 = β := ⟨_, rfl⟩
  have H1 := Lib.hid h1
  obtain ⟨β2, h2⟩ : ∃ β, inB x2 (-1) (x1 + 1) = β := ⟨_, rfl⟩
  have H2 := Lib.hid h2
  obtain ⟨β3, h3⟩ : ∃ β, inB x3 1 99 = β := ⟨_, rfl⟩
  have H3 := Lib.hid h3
  have HO : Hid (okS (x0, x1, x2, x3, x4) = (β0 && (β1 && (β2 && β3)))) := Lib.hid (by rw [← h0, ← h1, ← h2, ← h3]; rfl)
  clear h0 h1 h2 h3
  have HX := Lib.hid (Bx.new w 30 #[.int .i64 x0, .int .i64 x1, .int .i64 x2, .int .i64 x3, .int .i64 x4])
  have HB := Lib.hid (box1 w (.cells #[.int .i64 x0, .int .i64 x1, .int .i64 x2, .int .i64 x3, .int .i64 x4] 30))
  go_enter Try.func28, Try.ntmps28
  go_wp2_with fail
  refine (in_any _ _ _ _).mono ?_
  rintro e w00 ⟨rfl, rfl⟩
  rw [H0.out]
  cases β0
  · go_wp2_with fail
    go_ret
    exact says (by rw [HO.out]; rfl) HB.out
  go_wp2_with fail
  refine (time_any _ _).mono ?_
  rintro e w10 ⟨rfl, rfl⟩
  rw [H1.out]
  cases β1
  · go_wp2_with fail
    go_ret
    exact says (by rw [HO.out]; rfl) HB.out
  have hx1 := inB_iff.1 H1.out
  have hs1 : 0 ≤ x1 := hx1.1
  have hs2 : x1 ≤ 10000 := hx1.2
  clear hx1
  go_wp2_with fail
  refine (in_any _ _ _ _).mono ?_
  rintro e w20 ⟨rfl, rfl⟩
  rw [H2.out]
  cases β2
  · go_wp2_with fail
    go_ret
    exact says (by rw [HO.out]; rfl) HB.out
  go_wp2_with fail
  refine (in_any _ _ _ _).mono ?_
  rintro e w30 ⟨rfl, rfl⟩
  rw [H3.out]
  cases β3
  all_goals
    go_wp2_with fail
    go_ret
    exact says (by rw [HO.out]; first | rfl | simp [*]) HB.out
set_option maxRecDepth 100000 in
set_option maxHeartbeats 2000000 in
theorem statusInts_any (x0 x1 x2 x3 x4 : Int) (w : World) (_h0 : -9223372036854775808 ≤ x0 ∧ x0 ≤ 9223372036854775807) (_h1 : -9223372036854775808 ≤ x1 ∧ x1 ≤ 9223372036854775807) (_h2 : -9223372036854775808 ≤ x2 ∧ x2 ≤ 9223372036854775807) (_h3 : -9223372036854775808 ≤ x3 ∧ x3 ≤ 9223372036854775807) (_h4 : -9223372036854775808 ≤ x4 ∧ x4 ≤ 9223372036854775807) : Calls Try.prog 31 #[.agg #[.int .i64 x0, .int .i64 x1, .int .i64 x2, .int .i64 x3, .int .i64 x4]] w (SlI.Makes [102, x0, x1, x2, x3] w) := by
  have HO := Lib.hid (litN_at 3 (w.alloc (.cells #[.int .i64 x0, .int .i64 x1, .int .i64 x2, .int .i64 x3, .int .i64 x4] 30)) w.heap.size (w.heap.size + 1) [102, x0, x1, x2, x3] (allK_cons ⟨by omega, by omega⟩ (allK_cons _h0 (allK_cons _h1 (allK_cons _h2 (allK_cons _h3 (allK_nil _)))))) (by simp) (by simp) (by simp))
  have HB := Lib.hid ((box1 w (.cells #[.int .i64 x0, .int .i64 x1, .int .i64 x2, .int .i64 x3, .int .i64 x4] 30)).alloc (by simp) (.cells #[.int .i64 102, .int .i64 x0, .int .i64 x1, .int .i64 x2, .int .i64 x3] 3))
  go_enter Try.func31, Try.ntmps31
  go_wp2_with fail
  go_ret
  exact ⟨_, _, _, rfl, HO.out, HB.out⟩
set_option maxRecDepth 100000 in
set_option maxHeartbeats 2000000 in
theorem spec_statusInts_any (x0 x1 x2 x3 x4 : Int) (w : World) (_h0 : -9223372036854775808 ≤ x0 ∧ x0 ≤ 9223372036854775807) (_h1 : -9223372036854775808 ≤ x1 ∧ x1 ≤ 9223372036854775807) (_h2 : -9223372036854775808 ≤ x2 ∧ x2 ≤ 9223372036854775807) (_h3 : -9223372036854775808 ≤ x3 ∧ x3 ≤ 9223372036854775807) (_h4 : -9223372036854775808 ≤ x4 ∧ x4 ≤ 9223372036854775807) : Calls Try.prog 30 #[.agg #[.int .i64 x0, .int .i64 x1, .int .i64 x2, .int .i64 x3, .int .i64 x4]] w (SlI.Makes [102, x0, x1, x2, x3] w) := by
  have HO := Lib.hid (litN_at 3 (w.alloc (.cells #[.int .i64 x0, .int .i64 x1, .int .i64 x2, .int .i64 x3, .int .i64 x4] 30)) w.heap.size (w.heap.size + 1) [102, x0, x1, x2, x3] (allK_cons ⟨by omega, by omega⟩ (allK_cons _h0 (allK_cons _h1 (allK_cons _h2 (allK_cons _h3 (allK_nil _)))))) (by simp) (by simp) (by simp))
  have HB := Lib.hid ((box1 w (.cells #[.int .i64 x0, .int .i64 x1, .int .i64 x2, .int .i64 x3, .int .i64 x4] 30)).alloc (by simp) (.cells #[.int .i64 102, .int .i64 x0, .int .i64 x1, .int .i64 x2, .int .i64 x3] 3))
  go_enter Try.func30, Try.ntmps30
  go_wp2_with fail
  go_ret
  exact ⟨_, _, _, rfl, HO.out, HB.out⟩
end Go.Proofs.Ytllkpapkkgfjaab.Si
