/- Contracts of numbers that are carried, and of valid signatures, in the program. -/
import Derived.Test.YtbjocgnogcnedaaGe
import Derived.Test.YtbjocgnogcnedaaKi
import Derived.LoopTactic
import Derived.Outline
namespace Go.Proofs.Ytbjocgnogcnedaa.Gs
open Go.ChangeShapes Go.WideShapes Go.ChangeAt Go.RowKit Sl St Fnd SlSignature Ki Gi Ge
theorem says {b b' : Bool} {w w' : World} (h : b' = b) (hb : Below w.heap.size w w') : SlSignature.Val (.bool b) w (.returned (.bool b')) w' := ⟨by rw [h], hb⟩
set_option maxRecDepth 100000 in
set_option maxHeartbeats 8000000 in
theorem carried_any (g : Nat) (x y z : Int) (w : World) (hx : w.cell? ⟨g, 0, none⟩ = some (.int .i64 x)) (hy : w.cell? ⟨g, 1, none⟩ = some (.int .i64 y)) (hz : w.cell? ⟨g, 2, none⟩ = some (.int .i64 z)) : Calls Try.prog 74 #[.slice (some ⟨g, 0, none⟩) 3 3] w fun e w' => e = .returned (.bool (inB x 0 1000000000000 && (inB y 0 1000000000000 && inB z 0 1000000000000))) ∧ w' = w := by
  rcases h1 : inB x 0 1000000000000 with _ | _ <;> rcases h2 : inB y 0 1000000000000 with _ | _ <;> rcases h3 : inB z 0 1000000000000 with _ | _
  all_goals
    have H1 := Lib.hid h1
    have H2 := Lib.hid h2
    have H3 := Lib.hid h3
    clear h1 h2 h3
    go_enter Try.func74, Try.ntmps74
    go_wp2_with fail
    go_loop [7] (fun i => ∃ k : Nat, k ≤ 3 ∧ i = .int .i64 k ∧ Hid ((1 ≤ k → inB x 0 1000000000000 = true) ∧ (2 ≤ k → inB y 0 1000000000000 = true) ∧ (3 ≤ k → inB z 0 1000000000000 = true))) (fun i => 3 - (intOf i).toNat)
    case atStart => exact ⟨0, Nat.zero_le _, rfl, Lib.hid ⟨fun h => by omega, fun h => by omega, fun h => by omega⟩⟩
    case round =>
      obtain ⟨k, hk, rfl, HK⟩ := hrel
      obtain rfl | rfl | rfl | rfl : k = 0 ∨ k = 1 ∨ k = 2 ∨ k = 3 := by omega
      · go_wp2_with fail
        refine (rng_any _ _ _ _).mono ?_
        rintro e w1 ⟨rfl, rfl⟩
        rw [H1.out]
        go_wp2_with fail
        first
          | (go_ret; exact ⟨rfl, rfl⟩)
          | (go_round; (case rel => exact ⟨1, by omega, rfl, Lib.hid ⟨fun _ => H1.out, fun h => by omega, fun h => by omega⟩⟩); (case measure => simp [intOf]))
      · go_wp2_with fail
        refine (rng_any _ _ _ _).mono ?_
        rintro e w1 ⟨rfl, rfl⟩
        rw [H2.out]
        go_wp2_with fail
        first
          | (go_ret; exact ⟨by first | rfl | (have h := HK.out.1 (by omega); rw [H1.out] at h; simp at h), rfl⟩)
          | (go_round; (case rel => exact ⟨2, by omega, rfl, Lib.hid ⟨fun _ => HK.out.1 (by omega), fun _ => H2.out, fun h => by omega⟩⟩); (case measure => simp [intOf]))
      · go_wp2_with fail
        refine (rng_any _ _ _ _).mono ?_
        rintro e w1 ⟨rfl, rfl⟩
        rw [H3.out]
        go_wp2_with fail
        first
          | (go_ret; exact ⟨by first | rfl | (have h := HK.out.1 (by omega); rw [H1.out] at h; simp at h; done) | (have h := HK.out.2.1 (by omega); rw [H2.out] at h; simp at h), rfl⟩)
          | (go_round; (case rel => exact ⟨3, by omega, rfl, Lib.hid ⟨fun _ => HK.out.1 (by omega), fun _ => HK.out.2.1 (by omega), fun _ => H3.out⟩⟩); (case measure => simp [intOf]))
      · go_wp2_with fail
        go_ret
        exact ⟨by first | rfl | (have h := HK.out.1 (by omega); rw [H1.out] at h; simp at h; done) | (have h := HK.out.2.1 (by omega); rw [H2.out] at h; simp at h; done) | (have h := HK.out.2.2 (by omega); rw [H3.out] at h; simp at h), rfl⟩
set_option maxRecDepth 100000 in
set_option maxHeartbeats 4000000 in
theorem isSignature_any (x0 x1 x2 x3 x4 x5 x6 x7 x8 : Int) (w : World) : Calls Try.prog 53 #[.agg #[.int .i64 x0, .int .i64 x1, .int .i64 x2, .int .i64 x3, .int .i64 x4, .int .i64 x5, .int .i64 x6, .int .i64 x7, .int .i64 x8]] w (Val (.bool (okG (x0, x1, x2, x3, x4, x5, x6, x7, x8))) w) := by
  obtain ⟨β0, h0⟩ : ∃ β, inB x0 1 99 = β := ⟨_, rfl⟩
  have H0 := Lib.hid h0
  obtain ⟨β1, h1⟩ : ∃ β, inB x1 1 999 = β := ⟨_, rfl⟩
  have H1 := Lib.hid h1
  obtain ⟨β2, h2⟩ : ∃ β, inB x2 0 99 = β := ⟨_, rfl⟩
  have H2 := Lib.hid h2
  obtain ⟨β3, h3⟩ : ∃ β, inB x5 0 99 = β := ⟨_, rfl⟩
  have H3 := Lib.hid h3
  obtain ⟨β4, h4⟩ : ∃ β, inB x4 1 3 = β := ⟨_, rfl⟩
  have H4 := Lib.hid h4
  obtain ⟨β5, h5⟩ : ∃ β, (inB x3 0 1000000000000 && (inB x6 0 1000000000000 && inB x7 0 1000000000000)) = β := ⟨_, rfl⟩
  have H5 := Lib.hid h5
  have HO : Hid (okG (x0, x1, x2, x3, x4, x5, x6, x7, x8) = (β0 && (β1 && (β2 && (β3 && (β4 && β5)))))) := Lib.hid (by rw [← h0, ← h1, ← h2, ← h3, ← h4, ← h5]; rfl)
  clear h0 h1 h2 h3 h4 h5
  have HX := Lib.hid (Bx.new w 30 #[.int .i64 x0, .int .i64 x1, .int .i64 x2, .int .i64 x3, .int .i64 x4, .int .i64 x5, .int .i64 x6, .int .i64 x7, .int .i64 x8])
  have HB := Lib.hid (box1 w (.cells #[.int .i64 x0, .int .i64 x1, .int .i64 x2, .int .i64 x3, .int .i64 x4, .int .i64 x5, .int .i64 x6, .int .i64 x7, .int .i64 x8] 30))
  go_enter Try.func53, Try.ntmps53
  go_wp2_with fail
  refine (keyNo_any _ _).mono ?_
  rintro e w00 ⟨rfl, rfl⟩
  rw [H0.out]
  cases β0
  · go_wp2_with fail
    go_ret
    exact says (by rw [HO.out]; rfl) HB.out
  go_wp2_with fail
  refine (serial_any _ _).mono ?_
  rintro e w10 ⟨rfl, rfl⟩
  rw [H1.out]
  cases β1
  · go_wp2_with fail
    go_ret
    exact says (by rw [HO.out]; rfl) HB.out
  go_wp2_with fail
  refine (methodId_any _ _).mono ?_
  rintro e w20 ⟨rfl, rfl⟩
  rw [H2.out]
  cases β2
  · go_wp2_with fail
    go_ret
    exact says (by rw [HO.out]; rfl) HB.out
  go_wp2_with fail
  refine (rng_any _ _ _ _).mono ?_
  rintro e w30 ⟨rfl, rfl⟩
  rw [H3.out]
  cases β3
  · go_wp2_with fail
    go_ret
    exact says (by rw [HO.out]; rfl) HB.out
  go_wp2_with fail
  refine (rng_any _ _ _ _).mono ?_
  rintro e w40 ⟨rfl, rfl⟩
  rw [H4.out]
  cases β4
  · go_wp2_with fail
    go_ret
    exact says (by rw [HO.out]; rfl) HB.out
  go_wp2_with fail
  replace HB := Lib.hid (HB.out.alloc HB.out.size (.cells #[.int .i64 x3, .int .i64 x6, .int .i64 x7] 3))
  replace HX := Lib.hid (HX.out.alloc (.cells #[.int .i64 x3, .int .i64 x6, .int .i64 x7] 3))
  refine (carried_any _ x3 x6 x7 _ (by go_simp) (by go_simp) (by go_simp)).mono ?_
  rintro e w50 ⟨rfl, rfl⟩
  rw [H5.out]
  cases β5
  all_goals
    go_wp2_with fail
    go_ret
    exact says (by rw [HO.out]; first | rfl | simp [*]) HB.out
end Go.Proofs.Ytbjocgnogcnedaa.Gs
