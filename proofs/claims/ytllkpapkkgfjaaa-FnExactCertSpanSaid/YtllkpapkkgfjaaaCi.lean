/- Contracts of certificates: valid or not, what is marked, their span; in the program and in the reference. -/
import Derived.Test.YtllkpapkkgfjaaaSlCert
import Derived.Test.YtllkpapkkgfjaaaKi
import Derived.Test.YtllkpapkkgfjaaaSp
import Derived.Test.YtllkpapkkgfjaaaSr
import Derived.LoopTactic
import Derived.Outline
namespace Go.Proofs.Ytllkpapkkgfjaaa.Ci
open Go.ChangeShapes Go.WideShapes Go.ChangeAt Go.RowKit Sl St Fnd SlCert Ki Jn Sps
theorem says {b b' : Bool} {w w' : World} (h : b' = b) (hb : Below w.heap.size w w') : Val (.bool b) w (.returned (.bool b')) w' := ⟨by rw [h], hb⟩
def okC (x : I7) : Bool := inB x.1 1 999 && (inB x.2.1 1 99 && (inB x.2.2.2.2.2.1 1 99 && (decide (x.2.1 ≠ x.2.2.2.2.2.1) && (inB x.2.2.1 0 99 && okB (x.2.2.2.1, x.2.2.2.2.1)))))
set_option maxHeartbeats 1000000 in
theorem spec_certSpan_any (x0 x1 x2 x3 x4 x5 x6 : Int) (w : World) : Calls Try.prog 50 #[.agg #[.int .i64 x0, .int .i64 x1, .int .i64 x2, .int .i64 x3, .int .i64 x4, .int .i64 x5, .int .i64 x6]] w (Val (.agg #[.int .i64 x3, .int .i64 x4]) w) := by
  go_enter Try.func50, Try.ntmps50
  go_wp2_with fail
  exact bodyPost_ret (v := .agg #[.int .i64 x3, .int .i64 x4]) (by simp [results, Try.results50, go_sem]) rfl ⟨rfl, ((Below.refl _ _).alloc (Nat.le_refl _) _).alloc (by simp) _⟩
set_option maxHeartbeats 1000000 in
theorem certSpan_any (x0 x1 x2 x3 x4 x5 x6 : Int) (w : World) : Calls Try.prog 51 #[.agg #[.int .i64 x0, .int .i64 x1, .int .i64 x2, .int .i64 x3, .int .i64 x4, .int .i64 x5, .int .i64 x6]] w (Val (.agg #[.int .i64 x3, .int .i64 x4]) w) := by
  go_enter Try.func51, Try.ntmps51
  go_wp2_with fail
  exact bodyPost_ret (v := .agg #[.int .i64 x3, .int .i64 x4]) (by simp [results, Try.results51, go_sem]) rfl ⟨rfl, ((Below.refl _ _).alloc (Nat.le_refl _) _).alloc (by simp) _⟩
set_option maxRecDepth 100000 in
set_option maxHeartbeats 4000000 in
theorem isCert_any (x0 x1 x2 x3 x4 x5 x6 : Int) (w : World) : Calls Try.prog 47 #[.agg #[.int .i64 x0, .int .i64 x1, .int .i64 x2, .int .i64 x3, .int .i64 x4, .int .i64 x5, .int .i64 x6]] w (Val (.bool (okC (x0, x1, x2, x3, x4, x5, x6))) w) := by
  obtain ⟨β0, h0⟩ : ∃ β, inB x0 1 999 = β := ⟨_, rfl⟩
  have H0 := Lib.hid h0
  obtain ⟨β1, h1⟩ : ∃ β, inB x1 1 99 = β := ⟨_, rfl⟩
  have H1 := Lib.hid h1
  obtain ⟨β2, h2⟩ : ∃ β, inB x5 1 99 = β := ⟨_, rfl⟩
  have H2 := Lib.hid h2
  obtain ⟨β3, h3⟩ : ∃ β, decide (x1 ≠ x5) = β := ⟨_, rfl⟩
  have H3 := Lib.hid h3
  obtain ⟨β4, h4⟩ : ∃ β, inB x2 0 99 = β := ⟨_, rfl⟩
  have H4 := Lib.hid h4
  obtain ⟨β5, h5⟩ : ∃ β, okB (x3, x4) = β := ⟨_, rfl⟩
  have H5 := Lib.hid h5
  have HO : Hid (okC (x0, x1, x2, x3, x4, x5, x6) = (β0 && (β1 && (β2 && (β3 && (β4 && β5)))))) := Lib.hid (by rw [← h0, ← h1, ← h2, ← h3, ← h4, ← h5]; rfl)
  clear h0 h1 h2 h3 h4 h5
  have HX := Lib.hid (Bx.new w 58 #[.int .i64 x0, .int .i64 x1, .int .i64 x2, .int .i64 x3, .int .i64 x4, .int .i64 x5, .int .i64 x6])
  have HB := Lib.hid (box1 w (.cells #[.int .i64 x0, .int .i64 x1, .int .i64 x2, .int .i64 x3, .int .i64 x4, .int .i64 x5, .int .i64 x6] 58))
  go_enter Try.func47, Try.ntmps47
  go_wp2_with fail
  refine (serial_any _ _).mono ?_
  rintro e w00 ⟨rfl, rfl⟩
  rw [H0.out]
  cases β0
  · go_wp2_with fail
    go_ret
    exact says (by rw [HO.out]; rfl) HB.out
  go_wp2_with fail
  refine (keyNo_any _ _).mono ?_
  rintro e w10 ⟨rfl, rfl⟩
  rw [H1.out]
  cases β1
  · go_wp2_with fail
    go_ret
    exact says (by rw [HO.out]; rfl) HB.out
  go_wp2_with fail
  refine (keyNo_any _ _).mono ?_
  rintro e w20 ⟨rfl, rfl⟩
  rw [H2.out]
  cases β2
  · go_wp2_with fail
    go_ret
    exact says (by rw [HO.out]; rfl) HB.out
  by_cases hd3 : x1 = x5
  · have HF : Hid (β3 = false) := Lib.hid (by rw [← H3.out]; exact decide_eq_false (fun h => h hd3))
    subst hd3
    go_wp2_with fail
    go_ret
    exact says (by rw [HO.out, HF.out]; rfl) HB.out
  have HT3 : Hid (β3 = true) := Lib.hid (by rw [← H3.out]; exact decide_eq_true hd3)
  obtain rfl := HT3.out
  have hb3 : (x1 != x5) = true := by simpa using hd3
  have he3 : (x1 == x5) = false := by simpa using hd3
  go_wp2_with fail
  refine (isOwner_any _ _).mono ?_
  rintro e w40 ⟨rfl, rfl⟩
  rw [H4.out]
  cases β4
  · go_wp2_with fail
    go_ret
    exact says (by rw [HO.out]; rfl) HB.out
  go_wp2_with fail
  refine (certSpan_any _ _ _ _ _ _ _ _).mono ?_
  rintro e w50 ⟨rfl, hb⟩
  replace HB := Lib.hid (below_on HB.out hb)
  replace HX := Lib.hid (HX.out.below hb)
  clear hb
  go_wp2_with fail
  refine (isSpan_any _ _ _).mono ?_
  rintro e w51 ⟨rfl, hb⟩
  replace HB := Lib.hid (below_on HB.out hb)
  replace HX := Lib.hid (HX.out.below hb)
  clear hb
  rw [H5.out]
  cases β5
  all_goals
    go_wp2_with fail
    go_ret
    exact says (by rw [HO.out]; first | rfl | simp [*]) HB.out
set_option maxRecDepth 100000 in
set_option maxHeartbeats 4000000 in
theorem spec_isCert_any (x0 x1 x2 x3 x4 x5 x6 : Int) (w : World) : Calls Try.prog 45 #[.agg #[.int .i64 x0, .int .i64 x1, .int .i64 x2, .int .i64 x3, .int .i64 x4, .int .i64 x5, .int .i64 x6]] w (Val (.bool (okC (x0, x1, x2, x3, x4, x5, x6))) w) := by
  obtain ⟨β0, h0⟩ : ∃ β, inB x0 1 999 = β := ⟨_, rfl⟩
  have H0 := Lib.hid h0
  obtain ⟨β1, h1⟩ : ∃ β, inB x1 1 99 = β := ⟨_, rfl⟩
  have H1 := Lib.hid h1
  obtain ⟨β2, h2⟩ : ∃ β, inB x5 1 99 = β := ⟨_, rfl⟩
  have H2 := Lib.hid h2
  obtain ⟨β3, h3⟩ : ∃ β, decide (x1 ≠ x5) = β := ⟨_, rfl⟩
  have H3 := Lib.hid h3
  obtain ⟨β4, h4⟩ : ∃ β, inB x2 0 99 = β := ⟨_, rfl⟩
  have H4 := Lib.hid h4
  obtain ⟨β5, h5⟩ : ∃ β, okB (x3, x4) = β := ⟨_, rfl⟩
  have H5 := Lib.hid h5
  have HO : Hid (okC (x0, x1, x2, x3, x4, x5, x6) = (β0 && (β1 && (β2 && (β3 && (β4 && β5)))))) := Lib.hid (by rw [← h0, ← h1, ← h2, ← h3, ← h4, ← h5]; rfl)
  clear h0 h1 h2 h3 h4 h5
  have HX := Lib.hid (Bx.new w 58 #[.int .i64 x0, .int .i64 x1, .int .i64 x2, .int .i64 x3, .int .i64 x4, .int .i64 x5, .int .i64 x6])
  have HB := Lib.hid (box1 w (.cells #[.int .i64 x0, .int .i64 x1, .int .i64 x2, .int .i64 x3, .int .i64 x4, .int .i64 x5, .int .i64 x6] 58))
  go_enter Try.func45, Try.ntmps45
  go_wp2_with fail
  refine (in_any _ _ _ _).mono ?_
  rintro e w00 ⟨rfl, rfl⟩
  rw [H0.out]
  cases β0
  · go_wp2_with fail
    go_ret
    exact says (by rw [HO.out]; rfl) HB.out
  go_wp2_with fail
  refine (in_any _ _ _ _).mono ?_
  rintro e w10 ⟨rfl, rfl⟩
  rw [H1.out]
  cases β1
  · go_wp2_with fail
    go_ret
    exact says (by rw [HO.out]; rfl) HB.out
  go_wp2_with fail
  refine (in_any _ _ _ _).mono ?_
  rintro e w20 ⟨rfl, rfl⟩
  rw [H2.out]
  cases β2
  · go_wp2_with fail
    go_ret
    exact says (by rw [HO.out]; rfl) HB.out
  by_cases hd3 : x1 = x5
  · have HF : Hid (β3 = false) := Lib.hid (by rw [← H3.out]; exact decide_eq_false (fun h => h hd3))
    subst hd3
    go_wp2_with fail
    go_ret
    exact says (by rw [HO.out, HF.out]; rfl) HB.out
  have HT3 : Hid (β3 = true) := Lib.hid (by rw [← H3.out]; exact decide_eq_true hd3)
  obtain rfl := HT3.out
  have hb3 : (x1 != x5) = true := by simpa using hd3
  have he3 : (x1 == x5) = false := by simpa using hd3
  go_wp2_with fail
  refine (in_any _ _ _ _).mono ?_
  rintro e w40 ⟨rfl, rfl⟩
  rw [H4.out]
  cases β4
  · go_wp2_with fail
    go_ret
    exact says (by rw [HO.out]; rfl) HB.out
  go_wp2_with fail
  refine (spec_certSpan_any _ _ _ _ _ _ _ _).mono ?_
  rintro e w50 ⟨rfl, hb⟩
  replace HB := Lib.hid (below_on HB.out hb)
  replace HX := Lib.hid (HX.out.below hb)
  clear hb
  go_wp2_with fail
  refine (spec_isSpan_any _ _ _).mono ?_
  rintro e w51 ⟨rfl, hb⟩
  replace HB := Lib.hid (below_on HB.out hb)
  replace HX := Lib.hid (HX.out.below hb)
  clear hb
  rw [H5.out]
  cases β5
  all_goals
    go_wp2_with fail
    go_ret
    exact says (by rw [HO.out]; first | rfl | simp [*]) HB.out
set_option maxRecDepth 100000 in
set_option maxHeartbeats 2000000 in
theorem certInts_any (x0 x1 x2 x3 x4 x5 x6 : Int) (w : World) (_h0 : -9223372036854775808 ≤ x0 ∧ x0 ≤ 9223372036854775807) (_h1 : -9223372036854775808 ≤ x1 ∧ x1 ≤ 9223372036854775807) (_h2 : -9223372036854775808 ≤ x2 ∧ x2 ≤ 9223372036854775807) (_h3 : -9223372036854775808 ≤ x3 ∧ x3 ≤ 9223372036854775807) (_h4 : -9223372036854775808 ≤ x4 ∧ x4 ≤ 9223372036854775807) (_h5 : -9223372036854775808 ≤ x5 ∧ x5 ≤ 9223372036854775807) (_h6 : -9223372036854775808 ≤ x6 ∧ x6 ≤ 9223372036854775807) : Calls Try.prog 49 #[.agg #[.int .i64 x0, .int .i64 x1, .int .i64 x2, .int .i64 x3, .int .i64 x4, .int .i64 x5, .int .i64 x6]] w (SlI.Makes [101, x0, x1, x2, x3, x4, x5] w) := by
  have HO := Lib.hid (litN_at 3 (w.alloc (.cells #[.int .i64 x0, .int .i64 x1, .int .i64 x2, .int .i64 x3, .int .i64 x4, .int .i64 x5, .int .i64 x6] 58)) w.heap.size (w.heap.size + 1) [101, x0, x1, x2, x3, x4, x5] (allK_cons ⟨by omega, by omega⟩ (allK_cons _h0 (allK_cons _h1 (allK_cons _h2 (allK_cons _h3 (allK_cons _h4 (allK_cons _h5 (allK_nil _)))))))) (by simp) (by simp) (by simp))
  have HB := Lib.hid ((box1 w (.cells #[.int .i64 x0, .int .i64 x1, .int .i64 x2, .int .i64 x3, .int .i64 x4, .int .i64 x5, .int .i64 x6] 58)).alloc (by simp) (.cells #[.int .i64 101, .int .i64 x0, .int .i64 x1, .int .i64 x2, .int .i64 x3, .int .i64 x4, .int .i64 x5] 3))
  go_enter Try.func49, Try.ntmps49
  go_wp2_with fail
  go_ret
  exact ⟨_, _, _, rfl, HO.out, HB.out⟩
set_option maxRecDepth 100000 in
set_option maxHeartbeats 2000000 in
theorem spec_certInts_any (x0 x1 x2 x3 x4 x5 x6 : Int) (w : World) (_h0 : -9223372036854775808 ≤ x0 ∧ x0 ≤ 9223372036854775807) (_h1 : -9223372036854775808 ≤ x1 ∧ x1 ≤ 9223372036854775807) (_h2 : -9223372036854775808 ≤ x2 ∧ x2 ≤ 9223372036854775807) (_h3 : -9223372036854775808 ≤ x3 ∧ x3 ≤ 9223372036854775807) (_h4 : -9223372036854775808 ≤ x4 ∧ x4 ≤ 9223372036854775807) (_h5 : -9223372036854775808 ≤ x5 ∧ x5 ≤ 9223372036854775807) (_h6 : -9223372036854775808 ≤ x6 ∧ x6 ≤ 9223372036854775807) : Calls Try.prog 48 #[.agg #[.int .i64 x0, .int .i64 x1, .int .i64 x2, .int .i64 x3, .int .i64 x4, .int .i64 x5, .int .i64 x6]] w (SlI.Makes [101, x0, x1, x2, x3, x4, x5] w) := by
  have HO := Lib.hid (litN_at 3 (w.alloc (.cells #[.int .i64 x0, .int .i64 x1, .int .i64 x2, .int .i64 x3, .int .i64 x4, .int .i64 x5, .int .i64 x6] 58)) w.heap.size (w.heap.size + 1) [101, x0, x1, x2, x3, x4, x5] (allK_cons ⟨by omega, by omega⟩ (allK_cons _h0 (allK_cons _h1 (allK_cons _h2 (allK_cons _h3 (allK_cons _h4 (allK_cons _h5 (allK_nil _)))))))) (by simp) (by simp) (by simp))
  have HB := Lib.hid ((box1 w (.cells #[.int .i64 x0, .int .i64 x1, .int .i64 x2, .int .i64 x3, .int .i64 x4, .int .i64 x5, .int .i64 x6] 58)).alloc (by simp) (.cells #[.int .i64 101, .int .i64 x0, .int .i64 x1, .int .i64 x2, .int .i64 x3, .int .i64 x4, .int .i64 x5] 3))
  go_enter Try.func48, Try.ntmps48
  go_wp2_with fail
  go_ret
  exact ⟨_, _, _, rfl, HO.out, HB.out⟩
end Go.Proofs.Ytllkpapkkgfjaaa.Ci
