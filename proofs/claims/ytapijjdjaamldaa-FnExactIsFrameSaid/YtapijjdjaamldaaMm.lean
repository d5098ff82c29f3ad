/- Contracts of methods: one valid or not, lists of them valid or not; in the program and in the reference. -/
import Derived.Test.YtapijjdjaamldaaSlMethod
import Derived.Test.YtapijjdjaamldaaMin
import Derived.Deep.RegionHeld3
import Derived.Deep.QuietTactic
import Derived.BigQuiet
import Derived.Outline
namespace Go.Proofs.Ytapijjdjaamldaa.Mm
open Go.ChangeShapes Go.WideShapes Go.ChangeAt Go.RowKit Sl St Mn SlMethod Ints

/-- The call answers b; what lay before is as it was. -/
def Tells (b : Bool) (w : World) (e : Ending) (w' : World) : Prop := e = .returned (.bool b) ∧ Below w.heap.size w w'
theorem tells {b b' : Bool} {w w' : World} (h : b' = b) (hb : Below w.heap.size w w') : Tells b w (.returned (.bool b')) w' := ⟨by rw [h], hb⟩
theorem min_b (a b : Int) (w : World) : Calls Try.prog 180 #[.int .i64 a, .int .i64 b] w fun e w' => e = .returned (.int .i64 (minI a b)) ∧ Below w.heap.size w w' :=
  (min_any a b w).mono fun _ _ ⟨he, hw⟩ => ⟨he, by rw [hw]; exact (Below.refl _ _).alloc (Nat.le_refl _) _⟩
theorem l4Time_b (t : Int) (w : World) : Calls Try.prog 102 #[.int .i64 t] w fun e w' => e = .returned (.bool (inB t 0 10000)) ∧ w = w' := by
  go_enter Try.func102, Try.ntmps102
  go_wp2_with fail
  refine (l1In_any _ _ _ _ (inB_def _ _ _) _).mono ?_
  rintro e w1 ⟨rfl, rfl⟩
  go_wp2_with fail
  go_ret
  exact ⟨rfl, rfl⟩
theorem box1 (w : World) (o : Obj) : Below w.heap.size w (w.alloc o) := (Below.refl _ _).alloc (Nat.le_refl _) _

/-! ### one method -/
theorem q_inRange (x lo hi : Int) (β : Bool) (h : decide (lo ≤ x ∧ x ≤ hi) = β) (w : World) (n : Nat) : Calls Try.prog 57 #[.int .i64 x, .int .i64 lo, .int .i64 hi] (w.drewN n) fun e w'' => e = .returned (.bool β) ∧ ∃ m, w'' = w.drewN m :=
  Calls.quiet_of_same ((inRange_any x lo hi β h _).mono fun _ _ h => ⟨h.1, h.2.symm⟩)
theorem mid_any (x : Int) (β : Bool) (h : decide (0 ≤ x ∧ x ≤ 99) = β) (w : World) : Calls Try.prog 179 #[.int .i64 x] w fun e w' => e = .returned (.bool β) ∧ w = w' := by
  go_enter Try.func179, Try.ntmps179
  go_wp2_with fail
  refine (inRange_any _ _ _ _ h _).mono ?_
  rintro e w1 ⟨rfl, rfl⟩
  go_wp2_with fail
  go_ret
  exact ⟨rfl, rfl⟩
theorem q_mid (x : Int) (β : Bool) (h : decide (0 ≤ x ∧ x ≤ 99) = β) (w : World) (n : Nat) : Calls Try.prog 179 #[.int .i64 x] (w.drewN n) fun e w'' => e = .returned (.bool β) ∧ ∃ m, w'' = w.drewN m :=
  Calls.quiet_of_same ((mid_any x β h _).mono fun _ _ h => ⟨h.1, h.2.symm⟩)
theorem bx4 {w : World} {g : Nat} {T : TypeId} {x y z u : Value} (h : Bx w g T #[x, y, z, u]) : w.cell? ⟨g, 0, none⟩ = some x ∧ w.cell? ⟨g, 1, none⟩ = some y ∧ w.cell? ⟨g, 2, none⟩ = some z ∧ w.cell? ⟨g, 3, none⟩ = some u := ⟨h.cell rfl, h.cell rfl, h.cell rfl, h.cell rfl⟩
-- isMethod
set_option maxRecDepth 100000 in
set_option maxHeartbeats 4000000 in
theorem isMethod_any (i k e b : Int) (w : World) : Calls Try.prog 151 #[.agg #[.int .i64 i, .int .i64 k, .int .i64 e, .int .i64 b]] w (Tells (okM (i, k, e, b)) w) := by
  obtain ⟨β1, h1⟩ : ∃ β, decide (0 ≤ i ∧ i ≤ 99) = β := ⟨_, rfl⟩
  have H1 := Lib.hid h1
  obtain ⟨β2, h2⟩ : ∃ β, decide (0 ≤ k ∧ k ≤ 10000) = β := ⟨_, rfl⟩
  have H2 := Lib.hid h2
  obtain ⟨β3, h3⟩ : ∃ β, decide (1 ≤ e ∧ e ≤ 10001) = β := ⟨_, rfl⟩
  have H3 := Lib.hid h3
  obtain ⟨β4, h4⟩ : ∃ β, decide (1 ≤ b ∧ b ≤ 10001) = β := ⟨_, rfl⟩
  have H4 := Lib.hid h4
  obtain ⟨μ, hμ⟩ : ∃ μ, minI e b = μ := ⟨_, rfl⟩
  have HM : Hid (decide (k < μ) = (decide (k < e) && decide (k < b))) := Lib.hid (by rw [← hμ, ← Bool.decide_and]; congr 1; unfold minI; rw [eq_iff_iff]; split <;> omega)
  have HU := Lib.hid hμ
  have HO : Hid (okM (i, k, e, b) = (β1 && (β2 && (β3 && (β4 && decide (k < μ)))))) := Lib.hid (by rw [HM.out, ← h1, ← h2, ← h3, ← h4]; rfl)
  clear h1 h2 h3 h4 hμ HM
  have HX := Lib.hid (Bx.new w 190 #[.int .i64 i, .int .i64 k, .int .i64 e, .int .i64 b])
  have HB := Lib.hid (box1 w (.cells #[.int .i64 i, .int .i64 k, .int .i64 e, .int .i64 b] 190))
  obtain ⟨c0, c1, c2, c3⟩ := bx4 HX.out
  cases β1
  · go_enter Try.func151, Try.ntmps151
    go_wp2_with fail
    go_quiet (first | (go_at_call 179; with_reducible exact q_mid i _ H1.out _ _) | (go_at_call 57; with_reducible exact q_inRange k 0 10000 _ H2.out _ _) | (go_at_call 57; with_reducible exact q_inRange e 1 10001 _ H3.out _ _) | (go_at_call 57; with_reducible exact q_inRange b 1 10001 _ H4.out _ _))
    go_wp2_with fail
    go_ret
    exact tells (by rw [HO.out]; rfl) (below_drewN HB.out _)
  cases β2
  · go_enter Try.func151, Try.ntmps151
    go_wp2_with fail
    go_quiet (first | (go_at_call 179; with_reducible exact q_mid i _ H1.out _ _) | (go_at_call 57; with_reducible exact q_inRange k 0 10000 _ H2.out _ _) | (go_at_call 57; with_reducible exact q_inRange e 1 10001 _ H3.out _ _) | (go_at_call 57; with_reducible exact q_inRange b 1 10001 _ H4.out _ _))
    go_wp2_with fail
    go_ret
    exact tells (by rw [HO.out]; rfl) (below_drewN HB.out _)
  cases β3
  · go_enter Try.func151, Try.ntmps151
    go_wp2_with fail
    go_quiet (first | (go_at_call 179; with_reducible exact q_mid i _ H1.out _ _) | (go_at_call 57; with_reducible exact q_inRange k 0 10000 _ H2.out _ _) | (go_at_call 57; with_reducible exact q_inRange e 1 10001 _ H3.out _ _) | (go_at_call 57; with_reducible exact q_inRange b 1 10001 _ H4.out _ _))
    go_wp2_with fail
    go_ret
    exact tells (by rw [HO.out]; rfl) (below_drewN HB.out _)
  cases β4
  · go_enter Try.func151, Try.ntmps151
    go_wp2_with fail
    go_quiet (first | (go_at_call 179; with_reducible exact q_mid i _ H1.out _ _) | (go_at_call 57; with_reducible exact q_inRange k 0 10000 _ H2.out _ _) | (go_at_call 57; with_reducible exact q_inRange e 1 10001 _ H3.out _ _) | (go_at_call 57; with_reducible exact q_inRange b 1 10001 _ H4.out _ _))
    go_wp2_with fail
    go_ret
    exact tells (by rw [HO.out]; rfl) (below_drewN HB.out _)
  by_cases g : k < μ
  all_goals
    go_enter Try.func151, Try.ntmps151
    go_wp2_with fail
    go_region_held3 (fun w' => w'.cell? ⟨w.heap.size, 0, none⟩ = some (.int .i64 i) ∧ w'.cell? ⟨w.heap.size, 1, none⟩ = some (.int .i64 k) ∧ w'.cell? ⟨w.heap.size, 2, none⟩ = some (.int .i64 e) ∧ w'.cell? ⟨w.heap.size, 3, none⟩ = some (.int .i64 b)) (first | exact bx4 HX1.out | exact bx4 HX.out | go_keep) (first
        | (go_at_call 179; (with_reducible refine (mid_any i _ H1.out _).mono ?_); rintro e w1 ⟨rfl, rfl⟩)
        | (go_at_call 57; (with_reducible refine (inRange_any k 0 10000 _ H2.out _).mono ?_); rintro e w1 ⟨rfl, rfl⟩)
        | (go_at_call 57; (with_reducible refine (inRange_any e 1 10001 _ H3.out _).mono ?_); rintro e w1 ⟨rfl, rfl⟩)
        | (go_at_call 57; (with_reducible refine (inRange_any b 1 10001 _ H4.out _).mono ?_); rintro e w1 ⟨rfl, rfl⟩)
        | (go_at_call 180; (with_reducible refine (min_b e b _).mono ?_); rintro e w1 ⟨rfl, hb⟩; rw [HU.out]; have HX1 := Lib.hid (HX.out.drew1.below hb); have HB1 := Lib.hid (below_on (below_drewN HB.out 1) hb); clear hb))
    all_goals go_wp2_with fail
    all_goals go_ret
    all_goals exact tells (by rw [HO.out]; simp [*]) HB1.out
-- end isMethod
set_option maxRecDepth 100000 in
set_option maxHeartbeats 2000000 in
theorem spec_isMethod_any (i k e b : Int) (w : World) : Calls Try.prog 140 #[.agg #[.int .i64 i, .int .i64 k, .int .i64 e, .int .i64 b]] w (Tells (okM (i, k, e, b)) w) := by
  obtain ⟨β1, h1⟩ : ∃ β, inB i 0 99 = β := ⟨_, rfl⟩
  obtain ⟨β2, h2⟩ : ∃ β, inB k 0 10000 = β := ⟨_, rfl⟩
  obtain ⟨β3, h3⟩ : ∃ β, inB e 1 10001 = β := ⟨_, rfl⟩
  obtain ⟨β4, h4⟩ : ∃ β, inB b 1 10001 = β := ⟨_, rfl⟩
  have H1 := Lib.hid h1
  have H2 := Lib.hid h2
  have H3 := Lib.hid h3
  have H4 := Lib.hid h4
  have HO : Hid (okM (i, k, e, b) = (β1 && (β2 && (β3 && (β4 && (decide (k < e) && decide (k < b))))))) := Lib.hid (by rw [← h1, ← h2, ← h3, ← h4]; rfl)
  clear h1 h2 h3 h4
  go_enter Try.func140, Try.ntmps140
  go_wp2_with fail
  refine (l1In_any _ _ _ _ H1.out _).mono ?_
  rintro e w1 ⟨rfl, rfl⟩
  cases β1
  · go_wp2_with fail
    go_ret
    exact tells (by rw [HO.out]; rfl) (box1 _ _)
  go_wp2_with fail
  refine (l4Time_b _ _).mono ?_
  rintro e w1 ⟨rfl, rfl⟩
  rw [H2.out]
  cases β2
  · go_wp2_with fail
    go_ret
    exact tells (by rw [HO.out]; rfl) (box1 _ _)
  go_wp2_with fail
  refine (l1In_any _ _ _ _ H3.out _).mono ?_
  rintro e w1 ⟨rfl, rfl⟩
  cases β3
  · go_wp2_with fail
    go_ret
    exact tells (by rw [HO.out]; rfl) (box1 _ _)
  go_wp2_with fail
  refine (l1In_any _ _ _ _ H4.out _).mono ?_
  rintro e w1 ⟨rfl, rfl⟩
  cases β4
  · go_wp2_with fail
    go_ret
    exact tells (by rw [HO.out]; rfl) (box1 _ _)
  by_cases g1 : k < e <;> by_cases g2 : k < b
  all_goals
    go_wp2_with fail
    go_ret
    exact tells (by rw [HO.out]; simp [*]) (box1 _ _)
end Go.Proofs.Ytapijjdjaamldaa.Mm
