/- Contracts of mandates: valid or not, what is marked (the reference), their span; in the program and in the reference. -/
import Derived.Test.YtjoeacdoblgncaaSlMandate
import Derived.Test.YtjoeacdoblgncaaKi
import Derived.Test.YtjoeacdoblgncaaSp
import Derived.Test.YtjoeacdoblgncaaSr
import Derived.LoopTactic
import Derived.Outline
namespace Go.Proofs.Ytjoeacdoblgncaa.Mi
open Go.ChangeShapes Go.WideShapes Go.ChangeAt Go.RowKit Sl St Fnd SlMandate Ki Jn Sps
theorem says {b b' : Bool} {w w' : World} (h : b' = b) (hb : Below w.heap.size w w') : SlMandate.Val (.bool b) w (.returned (.bool b')) w' := ⟨by rw [h], hb⟩
def okD (x : I6) : Bool := inB x.1 1 99 && (inB x.2.1 0 99 && (inB x.2.2.2.2.1 1 99 && okB (x.2.2.1, x.2.2.2.1)))
set_option maxHeartbeats 1000000 in
theorem mandateSpan_any (x0 x1 x2 x3 x4 x5 : Int) (w : World) : Calls Try.prog 92 #[.agg #[.int .i64 x0, .int .i64 x1, .int .i64 x2, .int .i64 x3, .int .i64 x4, .int .i64 x5]] w (Val (.agg #[.int .i64 x2, .int .i64 x3]) w) := by
  go_enter Try.func92, Try.ntmps92
  go_wp2_with fail
  exact bodyPost_ret (v := .agg #[.int .i64 x2, .int .i64 x3]) (by simp [results, Try.results92, go_sem]) rfl ⟨rfl, ((Below.refl _ _).alloc (Nat.le_refl _) _).alloc (by simp) _⟩
set_option maxRecDepth 100000 in
set_option maxHeartbeats 4000000 in
theorem isMandate_any (x0 x1 x2 x3 x4 x5 : Int) (w : World) : Calls Try.prog 118 #[.agg #[.int .i64 x0, .int .i64 x1, .int .i64 x2, .int .i64 x3, .int .i64 x4, .int .i64 x5]] w (Val (.bool (okD (x0, x1, x2, x3, x4, x5))) w) := by
  obtain ⟨β0, h0⟩ : ∃ β, inB x0 1 99 = β := ⟨_, rfl⟩
  have H0 := Lib.hid h0
  obtain ⟨β1, h1⟩ : ∃ β, inB x1 0 99 = β := ⟨_, rfl⟩
  have H1 := Lib.hid h1
  obtain ⟨β2, h2⟩ : ∃ β, inB x4 1 99 = β := ⟨_, rfl⟩
  have H2 := Lib.hid h2
  obtain ⟨β3, h3⟩ : ∃ β, okB (x2, x3) = β := ⟨_, rfl⟩
  have H3 := Lib.hid h3
  have HO : Hid (okD (x0, x1, x2, x3, x4, x5) = (β0 && (β1 && (β2 && β3)))) := Lib.hid (by rw [← h0, ← h1, ← h2, ← h3]; rfl)
  clear h0 h1 h2 h3
  have HX := Lib.hid (Bx.new w 86 #[.int .i64 x0, .int .i64 x1, .int .i64 x2, .int .i64 x3, .int .i64 x4, .int .i64 x5])
  have HB := Lib.hid (box1 w (.cells #[.int .i64 x0, .int .i64 x1, .int .i64 x2, .int .i64 x3, .int .i64 x4, .int .i64 x5] 86))
  go_enter Try.func118, Try.ntmps118
  go_wp2_with fail
  refine (rng_any _ _ _ _).mono ?_
  rintro e w00 ⟨rfl, rfl⟩
  rw [H0.out]
  cases β0
  · go_wp2_with fail
    go_ret
    exact says (by rw [HO.out]; rfl) HB.out
  go_wp2_with fail
  refine (isOwner_any _ _).mono ?_
  rintro e w10 ⟨rfl, rfl⟩
  rw [H1.out]
  cases β1
  · go_wp2_with fail
    go_ret
    exact says (by rw [HO.out]; rfl) HB.out
  go_wp2_with fail
  refine (keyNo_any _ _).mono ?_
  rintro e w20 ⟨rfl, rfl⟩
  rw [H2.out]
  cases β2
  · go_wp2_with fail
    go_ret
    exact says (by rw [HO.out]; rfl) HB.out
  go_wp2_with fail
  refine (mandateSpan_any _ _ _ _ _ _ _).mono ?_
  rintro e w30 ⟨rfl, hb⟩
  replace HB := Lib.hid (below_on HB.out hb)
  replace HX := Lib.hid (HX.out.below hb)
  clear hb
  go_wp2_with fail
  refine (isSpan_any _ _ _).mono ?_
  rintro e w31 ⟨rfl, hb⟩
  replace HB := Lib.hid (below_on HB.out hb)
  replace HX := Lib.hid (HX.out.below hb)
  clear hb
  rw [H3.out]
  cases β3
  all_goals
    go_wp2_with fail
    go_ret
    exact says (by rw [HO.out]; first | rfl | simp [*]) HB.out
set_option maxRecDepth 100000 in
set_option maxHeartbeats 4000000 in
theorem spec_isMandate_any (x0 x1 x2 x3 x4 x5 : Int) (w : World) : Calls Try.prog 87 #[.agg #[.int .i64 x0, .int .i64 x1, .int .i64 x2, .int .i64 x3, .int .i64 x4, .int .i64 x5]] w (Val (.bool (okD (x0, x1, x2, x3, x4, x5))) w) := by
  obtain ⟨β0, h0⟩ : ∃ β, inB x0 1 99 = β := ⟨_, rfl⟩
  have H0 := Lib.hid h0
  obtain ⟨β1, h1⟩ : ∃ β, inB x1 0 99 = β := ⟨_, rfl⟩
  have H1 := Lib.hid h1
  obtain ⟨β2, h2⟩ : ∃ β, inB x4 1 99 = β := ⟨_, rfl⟩
  have H2 := Lib.hid h2
  obtain ⟨β3, h3⟩ : ∃ β, okB (x2, x3) = β := ⟨_, rfl⟩
  have H3 := Lib.hid h3
  have HO : Hid (okD (x0, x1, x2, x3, x4, x5) = (β0 && (β1 && (β2 && β3)))) := Lib.hid (by rw [← h0, ← h1, ← h2, ← h3]; rfl)
  clear h0 h1 h2 h3
  have HX := Lib.hid (Bx.new w 86 #[.int .i64 x0, .int .i64 x1, .int .i64 x2, .int .i64 x3, .int .i64 x4, .int .i64 x5])
  have HB := Lib.hid (box1 w (.cells #[.int .i64 x0, .int .i64 x1, .int .i64 x2, .int .i64 x3, .int .i64 x4, .int .i64 x5] 86))
  go_enter Try.func87, Try.ntmps87
  go_wp2_with fail
  refine (in_any _ _ _ _).mono ?_
  rintro e w00 ⟨rfl, rfl⟩
  rw [H0.out]
  cases β0
  · go_wp2_with fail
    go_ret
    exact says (by rw [HO.out]; rfl) HB.out
  go_wp2_with fail
  refine (in_any _ _ _ _).mono ?_
  rintro e w10 ⟨rfl, rfl⟩
  rw [H1.out]
  cases β1
  · go_wp2_with fail
    go_ret
    exact says (by rw [HO.out]; rfl) HB.out
  go_wp2_with fail
  refine (in_any _ _ _ _).mono ?_
  rintro e w20 ⟨rfl, rfl⟩
  rw [H2.out]
  cases β2
  · go_wp2_with fail
    go_ret
    exact says (by rw [HO.out]; rfl) HB.out
  go_wp2_with fail
  refine (spec_isSpan_any _ _ _).mono ?_
  rintro e w30 ⟨rfl, hb⟩
  replace HB := Lib.hid (below_on HB.out hb)
  replace HX := Lib.hid (HX.out.below hb)
  clear hb
  rw [H3.out]
  cases β3
  all_goals
    go_wp2_with fail
    go_ret
    exact says (by rw [HO.out]; first | rfl | simp [*]) HB.out
set_option maxRecDepth 100000 in
set_option maxHeartbeats 2000000 in
theorem spec_mandateInts_any (x0 x1 x2 x3 x4 x5 : Int) (w : World) (_h0 : -9223372036854775808 ≤ x0 ∧ x0 ≤ 9223372036854775807) (_h1 : -9223372036854775808 ≤ x1 ∧ x1 ≤ 9223372036854775807) (_h2 : -9223372036854775808 ≤ x2 ∧ x2 ≤ 9223372036854775807) (_h3 : -9223372036854775808 ≤ x3 ∧ x3 ≤ 9223372036854775807) (_h4 : -9223372036854775808 ≤ x4 ∧ x4 ≤ 9223372036854775807) (_h5 : -9223372036854775808 ≤ x5 ∧ x5 ≤ 9223372036854775807) : Calls Try.prog 89 #[.agg #[.int .i64 x0, .int .i64 x1, .int .i64 x2, .int .i64 x3, .int .i64 x4, .int .i64 x5]] w (SlI.Makes [105, x0, x1, x2, x3, x4] w) := by
  have HO := Lib.hid (litN_at 3 (w.alloc (.cells #[.int .i64 x0, .int .i64 x1, .int .i64 x2, .int .i64 x3, .int .i64 x4, .int .i64 x5] 86)) w.heap.size (w.heap.size + 1) [105, x0, x1, x2, x3, x4] (allK_cons ⟨by omega, by omega⟩ (allK_cons _h0 (allK_cons _h1 (allK_cons _h2 (allK_cons _h3 (allK_cons _h4 (allK_nil _))))))) (by simp) (by simp) (by simp))
  have HB := Lib.hid ((box1 w (.cells #[.int .i64 x0, .int .i64 x1, .int .i64 x2, .int .i64 x3, .int .i64 x4, .int .i64 x5] 86)).alloc (by simp) (.cells #[.int .i64 105, .int .i64 x0, .int .i64 x1, .int .i64 x2, .int .i64 x3, .int .i64 x4] 3))
  go_enter Try.func89, Try.ntmps89
  go_wp2_with fail
  go_ret
  exact ⟨_, _, _, rfl, HO.out, HB.out⟩
end Go.Proofs.Ytjoeacdoblgncaa.Mi
