/- Contracts of single keys: numbers of keys, owners, methods and times in their ranges; valid keys or not, in the program (rules in a list) and in the reference. -/
import Derived.Test.YtllkpapkkgfjaaaSlKey
import Derived.Test.YtllkpapkkgfjaaaKn
import Derived.Test.YtllkpapkkgfjaaaInt
import Derived.Test.YtllkpapkkgfjaaaMin
import Derived.LoopTactic
import Derived.Outline
namespace Go.Proofs.Ytllkpapkkgfjaaa.Ki
open Go.ChangeShapes Go.WideShapes Go.ChangeAt Go.RowKit Sl St Fnd Kn SlKey Ints

theorem box1 (w : World) (o : Obj) : Below w.heap.size w (w.alloc o) := (Below.refl _ _).alloc (Nat.le_refl _) _
theorem says {b b' : Bool} {w w' : World} (h : b' = b) (hb : Below w.heap.size w w') : Val (.bool b) w (.returned (.bool b')) w' := ⟨by rw [h], hb⟩
/-- a range asked -/
def Asks (b : Bool) (w : World) (e : Ending) (w' : World) : Prop := e = .returned (.bool b) ∧ w = w'
theorem keyNo_any (x : Int) (w : World) : Calls Try.prog 96 #[.int .i64 x] w (Asks (inB x 1 99) w) := by
  go_enter Try.func96, Try.ntmps96
  go_wp2_with fail
  refine (inRange_any _ _ _ _ (inB_def _ _ _) _).mono ?_
  rintro e w1 ⟨rfl, rfl⟩
  go_wp2_with fail
  go_ret
  exact ⟨rfl, rfl⟩
theorem owner_any (x : Int) (w : World) : Calls Try.prog 97 #[.int .i64 x] w (Asks (inB x 0 99) w) := by
  go_enter Try.func97, Try.ntmps97
  go_wp2_with fail
  refine (inRange_any _ _ _ _ (inB_def _ _ _) _).mono ?_
  rintro e w1 ⟨rfl, rfl⟩
  go_wp2_with fail
  go_ret
  exact ⟨rfl, rfl⟩
theorem methodId_any (x : Int) (w : World) : Calls Try.prog 102 #[.int .i64 x] w (Asks (inB x 0 99) w) := by
  go_enter Try.func102, Try.ntmps102
  go_wp2_with fail
  refine (inRange_any _ _ _ _ (inB_def _ _ _) _).mono ?_
  rintro e w1 ⟨rfl, rfl⟩
  go_wp2_with fail
  go_ret
  exact ⟨rfl, rfl⟩
theorem serial_any (x : Int) (w : World) : Calls Try.prog 95 #[.int .i64 x] w (Asks (inB x 1 999) w) := by
  go_enter Try.func95, Try.ntmps95
  go_wp2_with fail
  refine (inRange_any _ _ _ _ (inB_def _ _ _) _).mono ?_
  rintro e w1 ⟨rfl, rfl⟩
  go_wp2_with fail
  go_ret
  exact ⟨rfl, rfl⟩
theorem secret_any (x : Int) (w : World) : Calls Try.prog 117 #[.int .i64 x] w (Asks (inB x 1 2147483646) w) := by
  go_enter Try.func117, Try.ntmps117
  go_wp2_with fail
  refine (inRange_any _ _ _ _ (inB_def _ _ _) _).mono ?_
  rintro e w1 ⟨rfl, rfl⟩
  go_wp2_with fail
  go_ret
  exact ⟨rfl, rfl⟩
theorem spec_secret_any (x : Int) (w : World) : Calls Try.prog 91 #[.int .i64 x] w (Asks (inB x 1 2147483646) w) := by
  go_enter Try.func91, Try.ntmps91
  go_wp2_with fail
  refine (l1In_any _ _ _ _ (inB_def _ _ _) _).mono ?_
  rintro e w1 ⟨rfl, rfl⟩
  go_wp2_with fail
  go_ret
  exact ⟨rfl, rfl⟩
theorem in_any (x lo hi : Int) (w : World) : Calls Try.prog 89 #[.int .i64 x, .int .i64 lo, .int .i64 hi] w (Asks (inB x lo hi) w) := l1In_any _ _ _ _ (inB_def _ _ _) _
theorem rng_any (x lo hi : Int) (w : World) : Calls Try.prog 103 #[.int .i64 x, .int .i64 lo, .int .i64 hi] w (Asks (inB x lo hi) w) := inRange_any _ _ _ _ (inB_def _ _ _) _
theorem time_any (t : Int) (w : World) : Calls Try.prog 90 #[.int .i64 t] w (Asks (inB t 0 10000) w) := by
  go_enter Try.func90, Try.ntmps90
  go_wp2_with fail
  refine (l1In_any _ _ _ _ (inB_def _ _ _) _).mono ?_
  rintro e w1 ⟨rfl, rfl⟩
  go_wp2_with fail
  go_ret
  exact ⟨rfl, rfl⟩
set_option maxHeartbeats 1000000 in
/-- one time -/
theorem time1_any (g : Nat) (x : Int) (w : World) (hx : w.cell? ⟨g, 0, none⟩ = some (.int .i64 x)) : Calls Try.prog 116 #[.slice (some ⟨g, 0, none⟩) 1 1] w (Asks (inB x 0 10000) w) := by
  rcases h1 : inB x 0 10000 with _ | _
  all_goals
    have H1 := Lib.hid h1
    clear h1
    go_enter Try.func116, Try.ntmps116
    go_wp2_with fail
    go_loop [7] (fun i => ∃ k : Nat, k ≤ 1 ∧ i = .int .i64 k ∧ Hid (1 ≤ k → inB x 0 10000 = true)) (fun i => 1 - (intOf i).toNat)
    case atStart => exact ⟨0, Nat.zero_le _, rfl, Lib.hid fun h => by omega⟩
    case round =>
      obtain ⟨k, hk, rfl, HK⟩ := hrel
      obtain rfl | rfl : k = 0 ∨ k = 1 := by omega
      · go_wp2_with fail
        refine (rng_any _ _ _ _).mono ?_
        rintro e w1 ⟨rfl, rfl⟩
        rw [H1.out]
        go_wp2_with fail
        first
          | (go_ret; exact ⟨rfl, rfl⟩)
          | (go_round; (case rel => exact ⟨1, by omega, rfl, Lib.hid fun _ => H1.out⟩); (case measure => simp [intOf]))
      · go_wp2_with fail
        go_ret
        exact ⟨by first | rfl | (have h := HK.out (by omega); rw [H1.out] at h; simp_all), rfl⟩

theorem ks5 {w : World} {g : Nat} {T : TypeId} {x0 x1 x2 x3 x4 : Value} (h : Bx w g T #[x0, x1, x2, x3, x4]) : w.cell? ⟨g, 0, none⟩ = some x0 ∧ w.cell? ⟨g, 1, none⟩ = some x1 ∧ w.cell? ⟨g, 2, none⟩ = some x2 ∧ w.cell? ⟨g, 3, none⟩ = some x3 ∧ w.cell? ⟨g, 4, none⟩ = some x4 := ⟨h.cell rfl, h.cell rfl, h.cell rfl, h.cell rfl, h.cell rfl⟩
/-! ### the rules -/
set_option maxHeartbeats 1000000 in
theorem hasNumber_any (x0 x1 x2 x3 x4 : Int) (w : World) : Calls Try.prog 81 #[.agg #[.int .i64 x0, .int .i64 x1, .int .i64 x2, .int .i64 x3, .int .i64 x4]] w (Val (.bool (inB x0 1 99)) w) := by
  go_enter Try.func81, Try.ntmps81
  go_wp2_with fail
  refine (keyNo_any _ _).mono ?_
  rintro e w1 ⟨rfl, rfl⟩
  go_wp2_with fail
  go_ret
  exact ⟨rfl, box1 _ _⟩
set_option maxHeartbeats 1000000 in
theorem hasOwner_any (x0 x1 x2 x3 x4 : Int) (w : World) : Calls Try.prog 82 #[.agg #[.int .i64 x0, .int .i64 x1, .int .i64 x2, .int .i64 x3, .int .i64 x4]] w (Val (.bool (inB x1 0 99)) w) := by
  go_enter Try.func82, Try.ntmps82
  go_wp2_with fail
  refine (owner_any _ _).mono ?_
  rintro e w1 ⟨rfl, rfl⟩
  go_wp2_with fail
  go_ret
  exact ⟨rfl, box1 _ _⟩
set_option maxHeartbeats 1000000 in
theorem hasMethod_any (x0 x1 x2 x3 x4 : Int) (w : World) : Calls Try.prog 83 #[.agg #[.int .i64 x0, .int .i64 x1, .int .i64 x2, .int .i64 x3, .int .i64 x4]] w (Val (.bool (inB x2 0 99)) w) := by
  go_enter Try.func83, Try.ntmps83
  go_wp2_with fail
  refine (methodId_any _ _).mono ?_
  rintro e w1 ⟨rfl, rfl⟩
  go_wp2_with fail
  go_ret
  exact ⟨rfl, box1 _ _⟩
set_option maxHeartbeats 1000000 in
theorem hasBirth_any (x0 x1 x2 x3 x4 : Int) (w : World) : Calls Try.prog 84 #[.agg #[.int .i64 x0, .int .i64 x1, .int .i64 x2, .int .i64 x3, .int .i64 x4]] w (Val (.bool (inB x3 0 10000)) w) := by
  go_enter Try.func84, Try.ntmps84
  go_wp2_with fail
  refine (time1_any _ x3 _ (by go_simp)).mono ?_
  rintro e w1 ⟨rfl, rfl⟩
  go_wp2_with fail
  go_ret
  exact ⟨rfl, (box1 _ _).alloc (by simp) _⟩
set_option maxHeartbeats 1000000 in
theorem hasSecret_any (x0 x1 x2 x3 x4 : Int) (w : World) : Calls Try.prog 85 #[.agg #[.int .i64 x0, .int .i64 x1, .int .i64 x2, .int .i64 x3, .int .i64 x4]] w (Val (.bool (inB x4 1 2147483646)) w) := by
  go_enter Try.func85, Try.ntmps85
  go_wp2_with fail
  refine (secret_any _ _).mono ?_
  rintro e w1 ⟨rfl, rfl⟩
  go_wp2_with fail
  go_ret
  exact ⟨rfl, box1 _ _⟩
set_option maxRecDepth 100000 in
set_option maxHeartbeats 4000000 in
theorem isKey_any (x0 x1 x2 x3 x4 : Int) (w : World) : Calls Try.prog 24 #[.agg #[.int .i64 x0, .int .i64 x1, .int .i64 x2, .int .i64 x3, .int .i64 x4]] w (Val (.bool (okK (x0, x1, x2, x3, x4))) w) := by
  obtain ⟨β0, h0⟩ : ∃ β, inB x0 1 99 = β := ⟨_, rfl⟩
  obtain ⟨β1, h1⟩ : ∃ β, inB x1 0 99 = β := ⟨_, rfl⟩
  obtain ⟨β2, h2⟩ : ∃ β, inB x2 0 99 = β := ⟨_, rfl⟩
  obtain ⟨β3, h3⟩ : ∃ β, inB x3 0 10000 = β := ⟨_, rfl⟩
  obtain ⟨β4, h4⟩ : ∃ β, inB x4 1 2147483646 = β := ⟨_, rfl⟩
  have H0 := Lib.hid h0
  have H1 := Lib.hid h1
  have H2 := Lib.hid h2
  have H3 := Lib.hid h3
  have H4 := Lib.hid h4
  have HO : Hid (okK (x0, x1, x2, x3, x4) = (β0 && (β1 && (β2 && (β3 && β4))))) := Lib.hid (by rw [← h0, ← h1, ← h2, ← h3, ← h4]; rfl)
  clear h0 h1 h2 h3 h4
  have HX := Lib.hid (Bx.new w 32 #[.int .i64 x0, .int .i64 x1, .int .i64 x2, .int .i64 x3, .int .i64 x4])
  have HB := Lib.hid (box1 w (.cells #[.int .i64 x0, .int .i64 x1, .int .i64 x2, .int .i64 x3, .int .i64 x4] 32))
  go_enter Try.func24, Try.ntmps24
  go_wp2_with fail
  have HL : Hid (Bx ((w.alloc (.cells #[.int .i64 x0, .int .i64 x1, .int .i64 x2, .int .i64 x3, .int .i64 x4] 32)).alloc (.cells #[.func (.func 81) #[] #[], .func (.func 82) #[] #[], .func (.func 83) #[] #[], .func (.func 84) #[] #[], .func (.func 85) #[] #[]] 36)) (w.heap.size + 1) 36 #[.func (.func 81) #[] #[], .func (.func 82) #[] #[], .func (.func 83) #[] #[], .func (.func 84) #[] #[], .func (.func 85) #[] #[]]) := Lib.hid (by
    have h := Bx.new (w.alloc (.cells #[.int .i64 x0, .int .i64 x1, .int .i64 x2, .int .i64 x3, .int .i64 x4] 32)) 36 #[.func (.func 81) #[] #[], .func (.func 82) #[] #[], .func (.func 83) #[] #[], .func (.func 84) #[] #[], .func (.func 85) #[] #[]]
    rw [World.size_alloc] at h
    exact h)
  have HX2 := Lib.hid (HX.out.alloc (.cells #[.func (.func 81) #[] #[], .func (.func 82) #[] #[], .func (.func 83) #[] #[], .func (.func 84) #[] #[], .func (.func 85) #[] #[]] 36))
  have HB2 := Lib.hid (HB.out.alloc HB.out.size (.cells #[.func (.func 81) #[] #[], .func (.func 82) #[] #[], .func (.func 83) #[] #[], .func (.func 84) #[] #[], .func (.func 85) #[] #[]] 36))
  generalize (w.alloc (.cells #[.int .i64 x0, .int .i64 x1, .int .i64 x2, .int .i64 x3, .int .i64 x4] 32)).alloc (.cells #[.func (.func 81) #[] #[], .func (.func 82) #[] #[], .func (.func 83) #[] #[], .func (.func 84) #[] #[], .func (.func 85) #[] #[]] 36) = V at HL HX2 HB2 ⊢
  go_loopw [9] (fun i wr => ∃ k : Nat, k ≤ 5 ∧ i = .int .i64 k ∧ Hid (Below V.heap.size V wr) ∧ Hid ((1 ≤ k → β0 = true) ∧ (2 ≤ k → β1 = true) ∧ (3 ≤ k → β2 = true) ∧ (4 ≤ k → β3 = true) ∧ (5 ≤ k → β4 = true))) (fun i _ => 5 - (intOf i).toNat)
  case atStart => exact ⟨0, by omega, rfl, Lib.hid (Below.refl _ _), Lib.hid ⟨fun h => by omega, fun h => by omega, fun h => by omega, fun h => by omega, fun h => by omega⟩⟩
  case round =>
    obtain ⟨k, hk, rfl, HW, HK⟩ := hrel
    have hx := HX2.out.below HW.out
    have hl := HL.out.below HW.out
    have HBW := Lib.hid (below_on HB2.out HW.out)
    obtain ⟨c0, c1, c2, c3, c4⟩ := ks5 hx
    obtain rfl | rfl | rfl | rfl | rfl | rfl : k = 0 ∨ k = 1 ∨ k = 2 ∨ k = 3 ∨ k = 4 ∨ k = 5 := by omega
    · have d := hl.cell (j := 0) rfl
      clear hx hl
      cases β0
      · have HF : Hid (okK (x0, x1, x2, x3, x4) = false) := Lib.hid (by rw [HO.out]; simp)
        go_wp2_with fail
        refine (hasNumber_any _ _ _ _ _ _).mono ?_
        rintro e w1 ⟨rfl, hb⟩
        rw [H0.out]
        have HB3 := Lib.hid (below_on HBW.out hb)
        clear hb
        go_wp2_with fail
        go_ret
        exact says (by rw [HF.out]) HB3.out
      · go_wp2_with fail
        refine (hasNumber_any _ _ _ _ _ _).mono ?_
        rintro e w1 ⟨rfl, hb⟩
        rw [H0.out]
        have HW3 := Lib.hid (below_on HW.out hb)
        clear hb
        go_wp2_with fail
        go_roundw
        case rel => exact ⟨1, by omega, by go_num, HW3, Lib.hid ⟨fun _ => by first | rfl | trivial, fun h => by omega, fun h => by omega, fun h => by omega, fun h => by omega⟩⟩
        case measure => simp [intOf]
    · have d := hl.cell (j := 1) rfl
      clear hx hl
      cases β1
      · have HF : Hid (okK (x0, x1, x2, x3, x4) = false) := Lib.hid (by rw [HO.out, HK.out.1 (by omega)]; simp)
        go_wp2_with fail
        refine (hasOwner_any _ _ _ _ _ _).mono ?_
        rintro e w1 ⟨rfl, hb⟩
        rw [H1.out]
        have HB3 := Lib.hid (below_on HBW.out hb)
        clear hb
        go_wp2_with fail
        go_ret
        exact says (by rw [HF.out]) HB3.out
      · go_wp2_with fail
        refine (hasOwner_any _ _ _ _ _ _).mono ?_
        rintro e w1 ⟨rfl, hb⟩
        rw [H1.out]
        have HW3 := Lib.hid (below_on HW.out hb)
        clear hb
        go_wp2_with fail
        go_roundw
        case rel => exact ⟨2, by omega, by go_num, HW3, Lib.hid ⟨fun _ => HK.out.1 (by omega), fun _ => by first | rfl | trivial, fun h => by omega, fun h => by omega, fun h => by omega⟩⟩
        case measure => simp [intOf]
    · have d := hl.cell (j := 2) rfl
      clear hx hl
      cases β2
      · have HF : Hid (okK (x0, x1, x2, x3, x4) = false) := Lib.hid (by rw [HO.out, HK.out.1 (by omega), HK.out.2.1 (by omega)]; simp)
        go_wp2_with fail
        refine (hasMethod_any _ _ _ _ _ _).mono ?_
        rintro e w1 ⟨rfl, hb⟩
        rw [H2.out]
        have HB3 := Lib.hid (below_on HBW.out hb)
        clear hb
        go_wp2_with fail
        go_ret
        exact says (by rw [HF.out]) HB3.out
      · go_wp2_with fail
        refine (hasMethod_any _ _ _ _ _ _).mono ?_
        rintro e w1 ⟨rfl, hb⟩
        rw [H2.out]
        have HW3 := Lib.hid (below_on HW.out hb)
        clear hb
        go_wp2_with fail
        go_roundw
        case rel => exact ⟨3, by omega, by go_num, HW3, Lib.hid ⟨fun _ => HK.out.1 (by omega), fun _ => HK.out.2.1 (by omega), fun _ => by first | rfl | trivial, fun h => by omega, fun h => by omega⟩⟩
        case measure => simp [intOf]
    · have d := hl.cell (j := 3) rfl
      clear hx hl
      cases β3
      · have HF : Hid (okK (x0, x1, x2, x3, x4) = false) := Lib.hid (by rw [HO.out, HK.out.1 (by omega), HK.out.2.1 (by omega), HK.out.2.2.1 (by omega)]; simp)
        go_wp2_with fail
        refine (hasBirth_any _ _ _ _ _ _).mono ?_
        rintro e w1 ⟨rfl, hb⟩
        rw [H3.out]
        have HB3 := Lib.hid (below_on HBW.out hb)
        clear hb
        go_wp2_with fail
        go_ret
        exact says (by rw [HF.out]) HB3.out
      · go_wp2_with fail
        refine (hasBirth_any _ _ _ _ _ _).mono ?_
        rintro e w1 ⟨rfl, hb⟩
        rw [H3.out]
        have HW3 := Lib.hid (below_on HW.out hb)
        clear hb
        go_wp2_with fail
        go_roundw
        case rel => exact ⟨4, by omega, by go_num, HW3, Lib.hid ⟨fun _ => HK.out.1 (by omega), fun _ => HK.out.2.1 (by omega), fun _ => HK.out.2.2.1 (by omega), fun _ => by first | rfl | trivial, fun h => by omega⟩⟩
        case measure => simp [intOf]
    · have d := hl.cell (j := 4) rfl
      clear hx hl
      cases β4
      · have HF : Hid (okK (x0, x1, x2, x3, x4) = false) := Lib.hid (by rw [HO.out, HK.out.1 (by omega), HK.out.2.1 (by omega), HK.out.2.2.1 (by omega), HK.out.2.2.2.1 (by omega)]; simp)
        go_wp2_with fail
        refine (hasSecret_any _ _ _ _ _ _).mono ?_
        rintro e w1 ⟨rfl, hb⟩
        rw [H4.out]
        have HB3 := Lib.hid (below_on HBW.out hb)
        clear hb
        go_wp2_with fail
        go_ret
        exact says (by rw [HF.out]) HB3.out
      · go_wp2_with fail
        refine (hasSecret_any _ _ _ _ _ _).mono ?_
        rintro e w1 ⟨rfl, hb⟩
        rw [H4.out]
        have HW3 := Lib.hid (below_on HW.out hb)
        clear hb
        go_wp2_with fail
        go_roundw
        case rel => exact ⟨5, by omega, by go_num, HW3, Lib.hid ⟨fun _ => HK.out.1 (by omega), fun _ => HK.out.2.1 (by omega), fun _ => HK.out.2.2.1 (by omega), fun _ => HK.out.2.2.2.1 (by omega), fun _ => by first | rfl | trivial⟩⟩
        case measure => simp [intOf]
    · have HT : Hid (okK (x0, x1, x2, x3, x4) = true) := Lib.hid (by rw [HO.out, HK.out.1 (by omega), HK.out.2.1 (by omega), HK.out.2.2.1 (by omega), HK.out.2.2.2.1 (by omega), HK.out.2.2.2.2 (by omega)]; rfl)
      clear hx hl
      go_wp2_with fail
      go_ret
      exact says (by rw [HT.out]) HBW.out
set_option maxRecDepth 100000 in
set_option maxHeartbeats 4000000 in
theorem spec_isKey_any (x0 x1 x2 x3 x4 : Int) (w : World) : Calls Try.prog 29 #[.agg #[.int .i64 x0, .int .i64 x1, .int .i64 x2, .int .i64 x3, .int .i64 x4]] w (Val (.bool (okK (x0, x1, x2, x3, x4))) w) := by
  obtain ⟨β0, h0⟩ : ∃ β, inB x0 1 99 = β := ⟨_, rfl⟩
  obtain ⟨β1, h1⟩ : ∃ β, inB x1 0 99 = β := ⟨_, rfl⟩
  obtain ⟨β2, h2⟩ : ∃ β, inB x2 0 99 = β := ⟨_, rfl⟩
  obtain ⟨β3, h3⟩ : ∃ β, inB x3 0 10000 = β := ⟨_, rfl⟩
  obtain ⟨β4, h4⟩ : ∃ β, inB x4 1 2147483646 = β := ⟨_, rfl⟩
  have H0 := Lib.hid h0
  have H1 := Lib.hid h1
  have H2 := Lib.hid h2
  have H3 := Lib.hid h3
  have H4 := Lib.hid h4
  have HO : Hid (okK (x0, x1, x2, x3, x4) = (β0 && (β1 && (β2 && (β3 && β4))))) := Lib.hid (by rw [← h0, ← h1, ← h2, ← h3, ← h4]; rfl)
  clear h0 h1 h2 h3 h4
  have HB := Lib.hid (box1 w (.cells #[.int .i64 x0, .int .i64 x1, .int .i64 x2, .int .i64 x3, .int .i64 x4] 32))
  go_enter Try.func29, Try.ntmps29
  go_wp2_with fail
  refine (in_any _ _ _ _).mono ?_
  rintro e w1 ⟨rfl, rfl⟩
  rw [H0.out]
  cases β0
  · go_wp2_with fail
    go_ret
    exact says (by rw [HO.out]; rfl) HB.out
  go_wp2_with fail
  refine (in_any _ _ _ _).mono ?_
  rintro e w1 ⟨rfl, rfl⟩
  rw [H1.out]
  cases β1
  · go_wp2_with fail
    go_ret
    exact says (by rw [HO.out]; rfl) HB.out
  go_wp2_with fail
  refine (in_any _ _ _ _).mono ?_
  rintro e w1 ⟨rfl, rfl⟩
  rw [H2.out]
  cases β2
  · go_wp2_with fail
    go_ret
    exact says (by rw [HO.out]; rfl) HB.out
  go_wp2_with fail
  refine (time_any _ _).mono ?_
  rintro e w1 ⟨rfl, rfl⟩
  rw [H3.out]
  cases β3
  · go_wp2_with fail
    go_ret
    exact says (by rw [HO.out]; rfl) HB.out
  go_wp2_with fail
  refine (spec_secret_any _ _).mono ?_
  rintro e w1 ⟨rfl, rfl⟩
  rw [H4.out]
  cases β4
  all_goals
    go_wp2_with fail
    go_ret
    exact says (by rw [HO.out]; rfl) HB.out
end Go.Proofs.Ytllkpapkkgfjaaa.Ki
