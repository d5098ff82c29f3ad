/- Contracts of keys, valid or not: in the program (rules in a list) and in the reference. -/
import Derived.Test.YtapijjdjaamldaaKi
namespace Go.Proofs.Ytapijjdjaamldaa.Kj
open Go.ChangeShapes Go.WideShapes Go.ChangeAt Go.RowKit Sl St Fnd Kn SlKey Ints Ki

theorem ks5 {w : World} {g : Nat} {T : TypeId} {x0 x1 x2 x3 x4 : Value} (h : Bx w g T #[x0, x1, x2, x3, x4]) : w.cell? ⟨g, 0, none⟩ = some x0 ∧ w.cell? ⟨g, 1, none⟩ = some x1 ∧ w.cell? ⟨g, 2, none⟩ = some x2 ∧ w.cell? ⟨g, 3, none⟩ = some x3 ∧ w.cell? ⟨g, 4, none⟩ = some x4 := ⟨h.cell rfl, h.cell rfl, h.cell rfl, h.cell rfl, h.cell rfl⟩
/-! ### the rules -/
set_option maxHeartbeats 1000000 in
theorem hasNumber_any (x0 x1 x2 x3 x4 : Int) (w : World) : Calls Try.prog 173 #[.agg #[.int .i64 x0, .int .i64 x1, .int .i64 x2, .int .i64 x3, .int .i64 x4]] w (Val (.bool (inB x0 1 99)) w) := by
  go_enter Try.func173, Try.ntmps173
  go_wp2_with fail
  refine (keyNo_any _ _).mono ?_
  rintro e w1 ⟨rfl, rfl⟩
  go_wp2_with fail
  go_ret
  exact ⟨rfl, box1 _ _⟩
set_option maxHeartbeats 1000000 in
theorem hasOwner_any (x0 x1 x2 x3 x4 : Int) (w : World) : Calls Try.prog 174 #[.agg #[.int .i64 x0, .int .i64 x1, .int .i64 x2, .int .i64 x3, .int .i64 x4]] w (Val (.bool (inB x1 0 99)) w) := by
  go_enter Try.func174, Try.ntmps174
  go_wp2_with fail
  refine (isOwner_any _ _).mono ?_
  rintro e w1 ⟨rfl, rfl⟩
  go_wp2_with fail
  go_ret
  exact ⟨rfl, box1 _ _⟩
set_option maxHeartbeats 1000000 in
theorem hasMethod_any (x0 x1 x2 x3 x4 : Int) (w : World) : Calls Try.prog 175 #[.agg #[.int .i64 x0, .int .i64 x1, .int .i64 x2, .int .i64 x3, .int .i64 x4]] w (Val (.bool (inB x2 0 99)) w) := by
  go_enter Try.func175, Try.ntmps175
  go_wp2_with fail
  refine (methodId_any _ _).mono ?_
  rintro e w1 ⟨rfl, rfl⟩
  go_wp2_with fail
  go_ret
  exact ⟨rfl, box1 _ _⟩
set_option maxHeartbeats 1000000 in
theorem hasBirth_any (x0 x1 x2 x3 x4 : Int) (w : World) : Calls Try.prog 176 #[.agg #[.int .i64 x0, .int .i64 x1, .int .i64 x2, .int .i64 x3, .int .i64 x4]] w (Val (.bool (inB x3 0 10000)) w) := by
  go_enter Try.func176, Try.ntmps176
  go_wp2_with fail
  refine (time1_any _ x3 _ (by go_simp)).mono ?_
  rintro e w1 ⟨rfl, rfl⟩
  go_wp2_with fail
  go_ret
  exact ⟨rfl, (box1 _ _).alloc (by simp) _⟩
set_option maxHeartbeats 1000000 in
theorem hasSecret_any (x0 x1 x2 x3 x4 : Int) (w : World) : Calls Try.prog 177 #[.agg #[.int .i64 x0, .int .i64 x1, .int .i64 x2, .int .i64 x3, .int .i64 x4]] w (Val (.bool (inB x4 1 2147483646)) w) := by
  go_enter Try.func177, Try.ntmps177
  go_wp2_with fail
  refine (secret_any _ _).mono ?_
  rintro e w1 ⟨rfl, rfl⟩
  go_wp2_with fail
  go_ret
  exact ⟨rfl, box1 _ _⟩
set_option maxRecDepth 100000 in
set_option maxHeartbeats 4000000 in
theorem isKey_any (x0 x1 x2 x3 x4 : Int) (w : World) : Calls Try.prog 145 #[.agg #[.int .i64 x0, .int .i64 x1, .int .i64 x2, .int .i64 x3, .int .i64 x4]] w (Val (.bool (okK (x0, x1, x2, x3, x4))) w) := by
  obtain ⟨β0, h0⟩ : ∃ β, inB x0 1 99 = β := ⟨_, rfl⟩
  obtain ⟨β1, h1⟩ : ∃ β, inB x1 0 99 = β := ⟨_, rfl⟩
  obtain ⟨β2, h2⟩ : ∃ β, inB x2 0 99 = β := ⟨_, rfl⟩
  obtain ⟨β3, h3⟩ : ∃ β, inB x3 0 10000 = β := ⟨_, rfl⟩
  obtain ⟨β4, h4⟩ : ∃ β, inB x4 1 2147483646 = β := ⟨_, rfl⟩
  have H0 := Lib.hid h0
  have H1 := Lib.hid h1
  have H2 := Lib.hid h2
  have H3 := Lib.hid h3
  have H4 := Lib.hid h4
  have HO : Hid (okK (x0, x1, x2, x3, x4) = (β0 && (β1 && (β2 && (β3 && β4))))) := Lib.hid (by rw [← h0, ← h1, ← h2, ← h3, ← h4]; rfl)
  clear h0 h1 h2 h3 h4
  have HX := Lib.hid (Bx.new w 185 #[.int .i64 x0, .int .i64 x1, .int .i64 x2, .int .i64 x3, .int .i64 x4])
  have HB := Lib.hid (box1 w (.cells #[.int .i64 x0, .int .i64 x1, .int .i64 x2, .int .i64 x3, .int .i64 x4] 185))
  go_enter Try.func145, Try.ntmps145
  go_wp2_with fail
  have HL : Hid (Bx ((w.alloc (.cells #[.int .i64 x0, .int .i64 x1, .int .i64 x2, .int .i64 x3, .int .i64 x4] 185)).alloc (.cells #[.func (.func 173) #[] #[], .func (.func 174) #[] #[], .func (.func 175) #[] #[], .func (.func 176) #[] #[], .func (.func 177) #[] #[]] 183)) (w.heap.size + 1) 183 #[.func (.func 173) #[] #[], .func (.func 174) #[] #[], .func (.func 175) #[] #[], .func (.func 176) #[] #[], .func (.func 177) #[] #[]]) := Lib.hid (by
    have h := Bx.new (w.alloc (.cells #[.int .i64 x0, .int .i64 x1, .int .i64 x2, .int .i64 x3, .int .i64 x4] 185)) 183 #[.func (.func 173) #[] #[], .func (.func 174) #[] #[], .func (.func 175) #[] #[], .func (.func 176) #[] #[], .func (.func 177) #[] #[]]
    rw [World.size_alloc] at h
    exact h)
  have HX2 := Lib.hid (HX.out.alloc (.cells #[.func (.func 173) #[] #[], .func (.func 174) #[] #[], .func (.func 175) #[] #[], .func (.func 176) #[] #[], .func (.func 177) #[] #[]] 183))
  have HB2 := Lib.hid (HB.out.alloc HB.out.size (.cells #[.func (.func 173) #[] #[], .func (.func 174) #[] #[], .func (.func 175) #[] #[], .func (.func 176) #[] #[], .func (.func 177) #[] #[]] 183))
  generalize (w.alloc (.cells #[.int .i64 x0, .int .i64 x1, .int .i64 x2, .int .i64 x3, .int .i64 x4] 185)).alloc (.cells #[.func (.func 173) #[] #[], .func (.func 174) #[] #[], .func (.func 175) #[] #[], .func (.func 176) #[] #[], .func (.func 177) #[] #[]] 183) = V at HL HX2 HB2 ⊢
  go_loopw [9] (fun i wr => ∃ k : Nat, k ≤ 5 ∧ i = .int .i64 k ∧ Hid (Below V.heap.size V wr) ∧ Hid ((1 ≤ k → β0 = true) ∧ (2 ≤ k → β1 = true) ∧ (3 ≤ k → β2 = true) ∧ (4 ≤ k → β3 = true) ∧ (5 ≤ k → β4 = true))) (fun i _ => 5 - (intOf i).toNat)
  case atStart => exact ⟨0, by omega, rfl, Lib.hid (Below.refl _ _), Lib.hid ⟨fun h => by omega, fun h => by omega, fun h => by omega, fun h => by omega, fun h => by omega⟩⟩
  case round =>
    obtain ⟨k, hk, rfl, HW, HK⟩ := hrel
    have hx := HX2.out.below HW.out
    have hl := HL.out.below HW.out
    have HBW := Lib.hid (below_on HB2.out HW.out)
    obtain ⟨c0, c1, c2, c3, c4⟩ := ks5 hx
    obtain rfl | rfl | rfl | rfl | rfl | rfl : k = 0 ∨ k = 1 ∨ k = 2 ∨ k = 3 ∨ k = 4 ∨ k = 5 := by omega
    · have d := hl.cell (j := 0) rfl
      clear hx hl
      cases β0
      · have HF : Hid (okK (x0, x1, x2, x3, x4) = false) := Lib.hid (by rw [HO.out]; simp)
        go_wp2_with fail
        refine (hasNumber_any _ _ _ _ _ _).mono ?_
        rintro e w1 ⟨rfl, hb⟩
        rw [H0.out]
        have HB3 := Lib.hid (below_on HBW.out hb)
        clear hb
        go_wp2_with fail
        go_ret
        exact says (by rw [HF.out]) HB3.out
      · go_wp2_with fail
        refine (hasNumber_any _ _ _ _ _ _).mono ?_
        rintro e w1 ⟨rfl, hb⟩
        rw [H0.out]
        have HW3 := Lib.hid (below_on HW.out hb)
        clear hb
        go_wp2_with fail
        go_roundw
        case rel => exact ⟨1, by omega, by go_num, HW3, Lib.hid ⟨fun _ => by first | rfl | trivial, fun h => by omega, fun h => by omega, fun h => by omega, fun h => by omega⟩⟩
        case measure => simp [intOf]
    · have d := hl.cell (j := 1) rfl
      clear hx hl
      cases β1
      · have HF : Hid (okK (x0, x1, x2, x3, x4) = false) := Lib.hid (by rw [HO.out, HK.out.1 (by omega)]; simp)
        go_wp2_with fail
        refine (hasOwner_any _ _ _ _ _ _).mono ?_
        rintro e w1 ⟨rfl, hb⟩
        rw [H1.out]
        have HB3 := Lib.hid (below_on HBW.out hb)
        clear hb
        go_wp2_with fail
        go_ret
        exact says (by rw [HF.out]) HB3.out
      · go_wp2_with fail
        refine (hasOwner_any _ _ _ _ _ _).mono ?_
        rintro e w1 ⟨rfl, hb⟩
        rw [H1.out]
        have HW3 := Lib.hid (below_on HW.out hb)
        clear hb
        go_wp2_with fail
        go_roundw
        case rel => exact ⟨2, by omega, by go_num, HW3, Lib.hid ⟨fun _ => HK.out.1 (by omega), fun _ => by first | rfl | trivial, fun h => by omega, fun h => by omega, fun h => by omega⟩⟩
        case measure => simp [intOf]
    · have d := hl.cell (j := 2) rfl
      clear hx hl
      cases β2
      · have HF : Hid (okK (x0, x1, x2, x3, x4) = false) := Lib.hid (by rw [HO.out, HK.out.1 (by omega), HK.out.2.1 (by omega)]; simp)
        go_wp2_with fail
        refine (hasMethod_any _ _ _ _ _ _).mono ?_
        rintro e w1 ⟨rfl, hb⟩
        rw [H2.out]
        have HB3 := Lib.hid (below_on HBW.out hb)
        clear hb
        go_wp2_with fail
        go_ret
        exact says (by rw [HF.out]) HB3.out
      · go_wp2_with fail
        refine (hasMethod_any _ _ _ _ _ _).mono ?_
        rintro e w1 ⟨rfl, hb⟩
        rw [H2.out]
        have HW3 := Lib.hid (below_on HW.out hb)
        clear hb
        go_wp2_with fail
        go_roundw
        case rel => exact ⟨3, by omega, by go_num, HW3, Lib.hid ⟨fun _ => HK.out.1 (by omega), fun _ => HK.out.2.1 (by omega), fun _ => by first | rfl | trivial, fun h => by omega, fun h => by omega⟩⟩
        case measure => simp [intOf]
    · have d := hl.cell (j := 3) rfl
      clear hx hl
      cases β3
      · have HF : Hid (okK (x0, x1, x2, x3, x4) = false) := Lib.hid (by rw [HO.out, HK.out.1 (by omega), HK.out.2.1 (by omega), HK.out.2.2.1 (by omega)]; simp)
        go_wp2_with fail
        refine (hasBirth_any _ _ _ _ _ _).mono ?_
        rintro e w1 ⟨rfl, hb⟩
        rw [H3.out]
        have HB3 := Lib.hid (below_on HBW.out hb)
        clear hb
        go_wp2_with fail
        go_ret
        exact says (by rw [HF.out]) HB3.out
      · go_wp2_with fail
        refine (hasBirth_any _ _ _ _ _ _).mono ?_
        rintro e w1 ⟨rfl, hb⟩
        rw [H3.out]
        have HW3 := Lib.hid (below_on HW.out hb)
        clear hb
        go_wp2_with fail
        go_roundw
        case rel => exact ⟨4, by omega, by go_num, HW3, Lib.hid ⟨fun _ => HK.out.1 (by omega), fun _ => HK.out.2.1 (by omega), fun _ => HK.out.2.2.1 (by omega), fun _ => by first | rfl | trivial, fun h => by omega⟩⟩
        case measure => simp [intOf]
    · have d := hl.cell (j := 4) rfl
      clear hx hl
      cases β4
      · have HF : Hid (okK (x0, x1, x2, x3, x4) = false) := Lib.hid (by rw [HO.out, HK.out.1 (by omega), HK.out.2.1 (by omega), HK.out.2.2.1 (by omega), HK.out.2.2.2.1 (by omega)]; simp)
        go_wp2_with fail
        refine (hasSecret_any _ _ _ _ _ _).mono ?_
        rintro e w1 ⟨rfl, hb⟩
        rw [H4.out]
        have HB3 := Lib.hid (below_on HBW.out hb)
        clear hb
        go_wp2_with fail
        go_ret
        exact says (by rw [HF.out]) HB3.out
      · go_wp2_with fail
        refine (hasSecret_any _ _ _ _ _ _).mono ?_
        rintro e w1 ⟨rfl, hb⟩
        rw [H4.out]
        have HW3 := Lib.hid (below_on HW.out hb)
        clear hb
        go_wp2_with fail
        go_roundw
        case rel => exact ⟨5, by omega, by go_num, HW3, Lib.hid ⟨fun _ => HK.out.1 (by omega), fun _ => HK.out.2.1 (by omega), fun _ => HK.out.2.2.1 (by omega), fun _ => HK.out.2.2.2.1 (by omega), fun _ => by first | rfl | trivial⟩⟩
        case measure => simp [intOf]
    · have HT : Hid (okK (x0, x1, x2, x3, x4) = true) := Lib.hid (by rw [HO.out, HK.out.1 (by omega), HK.out.2.1 (by omega), HK.out.2.2.1 (by omega), HK.out.2.2.2.1 (by omega), HK.out.2.2.2.2 (by omega)]; rfl)
      clear hx hl
      go_wp2_with fail
      go_ret
      exact says (by rw [HT.out]) HBW.out
set_option maxRecDepth 100000 in
set_option maxHeartbeats 4000000 in
theorem spec_isKey_any (x0 x1 x2 x3 x4 : Int) (w : World) : Calls Try.prog 139 #[.agg #[.int .i64 x0, .int .i64 x1, .int .i64 x2, .int .i64 x3, .int .i64 x4]] w (Val (.bool (okK (x0, x1, x2, x3, x4))) w) := by
  obtain ⟨β0, h0⟩ : ∃ β, inB x0 1 99 = β := ⟨_, rfl⟩
  obtain ⟨β1, h1⟩ : ∃ β, inB x1 0 99 = β := ⟨_, rfl⟩
  obtain ⟨β2, h2⟩ : ∃ β, inB x2 0 99 = β := ⟨_, rfl⟩
  obtain ⟨β3, h3⟩ : ∃ β, inB x3 0 10000 = β := ⟨_, rfl⟩
  obtain ⟨β4, h4⟩ : ∃ β, inB x4 1 2147483646 = β := ⟨_, rfl⟩
  have H0 := Lib.hid h0
  have H1 := Lib.hid h1
  have H2 := Lib.hid h2
  have H3 := Lib.hid h3
  have H4 := Lib.hid h4
  have HO : Hid (okK (x0, x1, x2, x3, x4) = (β0 && (β1 && (β2 && (β3 && β4))))) := Lib.hid (by rw [← h0, ← h1, ← h2, ← h3, ← h4]; rfl)
  clear h0 h1 h2 h3 h4
  have HB := Lib.hid (box1 w (.cells #[.int .i64 x0, .int .i64 x1, .int .i64 x2, .int .i64 x3, .int .i64 x4] 185))
  go_enter Try.func139, Try.ntmps139
  go_wp2_with fail
  refine (in_any _ _ _ _).mono ?_
  rintro e w1 ⟨rfl, rfl⟩
  rw [H0.out]
  cases β0
  · go_wp2_with fail
    go_ret
    exact says (by rw [HO.out]; rfl) HB.out
  go_wp2_with fail
  refine (in_any _ _ _ _).mono ?_
  rintro e w1 ⟨rfl, rfl⟩
  rw [H1.out]
  cases β1
  · go_wp2_with fail
    go_ret
    exact says (by rw [HO.out]; rfl) HB.out
  go_wp2_with fail
  refine (in_any _ _ _ _).mono ?_
  rintro e w1 ⟨rfl, rfl⟩
  rw [H2.out]
  cases β2
  · go_wp2_with fail
    go_ret
    exact says (by rw [HO.out]; rfl) HB.out
  go_wp2_with fail
  refine (time_any _ _).mono ?_
  rintro e w1 ⟨rfl, rfl⟩
  rw [H3.out]
  cases β3
  · go_wp2_with fail
    go_ret
    exact says (by rw [HO.out]; rfl) HB.out
  go_wp2_with fail
  refine (spec_secret_any _ _).mono ?_
  rintro e w1 ⟨rfl, rfl⟩
  rw [H4.out]
  cases β4
  all_goals
    go_wp2_with fail
    go_ret
    exact says (by rw [HO.out]; rfl) HB.out
end Go.Proofs.Ytapijjdjaamldaa.Kj
