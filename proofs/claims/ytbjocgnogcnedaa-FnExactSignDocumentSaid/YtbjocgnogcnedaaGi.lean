/- Contracts of signatures: valid or not, what is marked (the reference); in the program and in the reference. -/
import Derived.Test.YtbjocgnogcnedaaSlSignature
import Derived.Test.YtbjocgnogcnedaaKi
import Derived.Test.YtbjocgnogcnedaaSr
import Derived.LoopTactic
import Derived.Outline
namespace Go.Proofs.Ytbjocgnogcnedaa.Gi
open Go.ChangeShapes Go.WideShapes Go.ChangeAt Go.RowKit Sl St Fnd SlSignature Ki
theorem says {b b' : Bool} {w w' : World} (h : b' = b) (hb : Below w.heap.size w w') : SlSignature.Val (.bool b) w (.returned (.bool b')) w' := ⟨by rw [h], hb⟩
def okG (x : I9) : Bool := inB x.1 1 99 && (inB x.2.1 1 999 && (inB x.2.2.1 0 99 && (inB x.2.2.2.2.2.1 0 99 && (inB x.2.2.2.2.1 1 3 && (inB x.2.2.2.1 0 1000000000000 && (inB x.2.2.2.2.2.2.1 0 1000000000000 && inB x.2.2.2.2.2.2.2.1 0 1000000000000))))))
set_option maxRecDepth 100000 in
set_option maxHeartbeats 4000000 in
theorem spec_isSignature_any (x0 x1 x2 x3 x4 x5 x6 x7 x8 : Int) (w : World) : Calls Try.prog 44 #[.agg #[.int .i64 x0, .int .i64 x1, .int .i64 x2, .int .i64 x3, .int .i64 x4, .int .i64 x5, .int .i64 x6, .int .i64 x7, .int .i64 x8]] w (Val (.bool (okG (x0, x1, x2, x3, x4, x5, x6, x7, x8))) w) := by
  obtain ⟨β0, h0⟩ : ∃ β, inB x0 1 99 = β := ⟨_, rfl⟩
  have H0 := Lib.hid h0
  obtain ⟨β1, h1⟩ : ∃ β, inB x1 1 999 = β := ⟨_, rfl⟩
  have H1 := Lib.hid h1
  obtain ⟨β2, h2⟩ : ∃ β, inB x2 0 99 = β := ⟨_, rfl⟩
  have H2 := Lib.hid h2
  obtain ⟨β3, h3⟩ : ∃ β, inB x5 0 99 = β := ⟨_, rfl⟩
  have H3 := Lib.hid h3
  obtain ⟨β4, h4⟩ : ∃ β, inB x4 1 3 = β := ⟨_, rfl⟩
  have H4 := Lib.hid h4
  obtain ⟨β5, h5⟩ : ∃ β, inB x3 0 1000000000000 = β := ⟨_, rfl⟩
  have H5 := Lib.hid h5
  obtain ⟨β6, h6⟩ : ∃ β, inB x6 0 1000000000000 = β := ⟨_, rfl⟩
  have H6 := Lib.hid h6
  obtain ⟨β7, h7⟩ : ∃ β, inB x7 0 1000000000000 = β := ⟨_, rfl⟩
  have H7 := Lib.hid h7
  have HO : Hid (okG (x0, x1, x2, x3, x4, x5, x6, x7, x8) = (β0 && (β1 && (β2 && (β3 && (β4 && (β5 && (β6 && β7)))))))) := Lib.hid (by rw [← h0, ← h1, ← h2, ← h3, ← h4, ← h5, ← h6, ← h7]; rfl)
  clear h0 h1 h2 h3 h4 h5 h6 h7
  have HX := Lib.hid (Bx.new w 30 #[.int .i64 x0, .int .i64 x1, .int .i64 x2, .int .i64 x3, .int .i64 x4, .int .i64 x5, .int .i64 x6, .int .i64 x7, .int .i64 x8])
  have HB := Lib.hid (box1 w (.cells #[.int .i64 x0, .int .i64 x1, .int .i64 x2, .int .i64 x3, .int .i64 x4, .int .i64 x5, .int .i64 x6, .int .i64 x7, .int .i64 x8] 30))
  go_enter Try.func44, Try.ntmps44
  go_wp2_with fail
  refine (in_any _ _ _ _).mono ?_
  rintro e w00 ⟨rfl, rfl⟩
  rw [H0.out]
  cases β0
  · go_wp2_with fail
    go_ret
    exact says (by rw [HO.out]; rfl) HB.out
  go_wp2_with fail
  refine (in_any _ _ _ _).mono ?_
  rintro e w10 ⟨rfl, rfl⟩
  rw [H1.out]
  cases β1
  · go_wp2_with fail
    go_ret
    exact says (by rw [HO.out]; rfl) HB.out
  go_wp2_with fail
  refine (in_any _ _ _ _).mono ?_
  rintro e w20 ⟨rfl, rfl⟩
  rw [H2.out]
  cases β2
  · go_wp2_with fail
    go_ret
    exact says (by rw [HO.out]; rfl) HB.out
  go_wp2_with fail
  refine (in_any _ _ _ _).mono ?_
  rintro e w30 ⟨rfl, rfl⟩
  rw [H3.out]
  cases β3
  · go_wp2_with fail
    go_ret
    exact says (by rw [HO.out]; rfl) HB.out
  go_wp2_with fail
  refine (in_any _ _ _ _).mono ?_
  rintro e w40 ⟨rfl, rfl⟩
  rw [H4.out]
  cases β4
  · go_wp2_with fail
    go_ret
    exact says (by rw [HO.out]; rfl) HB.out
  go_wp2_with fail
  refine (in_any _ _ _ _).mono ?_
  rintro e w50 ⟨rfl, rfl⟩
  rw [H5.out]
  cases β5
  · go_wp2_with fail
    go_ret
    exact says (by rw [HO.out]; rfl) HB.out
  go_wp2_with fail
  refine (in_any _ _ _ _).mono ?_
  rintro e w60 ⟨rfl, rfl⟩
  rw [H6.out]
  cases β6
  · go_wp2_with fail
    go_ret
    exact says (by rw [HO.out]; rfl) HB.out
  go_wp2_with fail
  refine (in_any _ _ _ _).mono ?_
  rintro e w70 ⟨rfl, rfl⟩
  rw [H7.out]
  cases β7
  all_goals
    go_wp2_with fail
    go_ret
    exact says (by rw [HO.out]; first | rfl | simp [*]) HB.out
set_option maxRecDepth 100000 in
set_option maxHeartbeats 2000000 in
theorem spec_signatureInts_any (x0 x1 x2 x3 x4 x5 x6 x7 x8 : Int) (w : World) (_h0 : -9223372036854775808 ≤ x0 ∧ x0 ≤ 9223372036854775807) (_h1 : -9223372036854775808 ≤ x1 ∧ x1 ≤ 9223372036854775807) (_h2 : -9223372036854775808 ≤ x2 ∧ x2 ≤ 9223372036854775807) (_h3 : -9223372036854775808 ≤ x3 ∧ x3 ≤ 9223372036854775807) (_h4 : -9223372036854775808 ≤ x4 ∧ x4 ≤ 9223372036854775807) (_h5 : -9223372036854775808 ≤ x5 ∧ x5 ≤ 9223372036854775807) (_h6 : -9223372036854775808 ≤ x6 ∧ x6 ≤ 9223372036854775807) (_h7 : -9223372036854775808 ≤ x7 ∧ x7 ≤ 9223372036854775807) (_h8 : -9223372036854775808 ≤ x8 ∧ x8 ≤ 9223372036854775807) : Calls Try.prog 46 #[.agg #[.int .i64 x0, .int .i64 x1, .int .i64 x2, .int .i64 x3, .int .i64 x4, .int .i64 x5, .int .i64 x6, .int .i64 x7, .int .i64 x8]] w (SlI.Makes [104, x0, x1, x2, x3, x4, x5, x6, x7] w) := by
  have HO := Lib.hid (litN_at 3 (w.alloc (.cells #[.int .i64 x0, .int .i64 x1, .int .i64 x2, .int .i64 x3, .int .i64 x4, .int .i64 x5, .int .i64 x6, .int .i64 x7, .int .i64 x8] 30)) w.heap.size (w.heap.size + 1) [104, x0, x1, x2, x3, x4, x5, x6, x7] (allK_cons ⟨by omega, by omega⟩ (allK_cons _h0 (allK_cons _h1 (allK_cons _h2 (allK_cons _h3 (allK_cons _h4 (allK_cons _h5 (allK_cons _h6 (allK_cons _h7 (allK_nil _)))))))))) (by simp) (by simp) (by simp))
  have HB := Lib.hid ((box1 w (.cells #[.int .i64 x0, .int .i64 x1, .int .i64 x2, .int .i64 x3, .int .i64 x4, .int .i64 x5, .int .i64 x6, .int .i64 x7, .int .i64 x8] 30)).alloc (by simp) (.cells #[.int .i64 104, .int .i64 x0, .int .i64 x1, .int .i64 x2, .int .i64 x3, .int .i64 x4, .int .i64 x5, .int .i64 x6, .int .i64 x7] 3))
  go_enter Try.func46, Try.ntmps46
  go_wp2_with fail
  go_ret
  exact ⟨_, _, _, rfl, HO.out, HB.out⟩
end Go.Proofs.Ytbjocgnogcnedaa.Gi
