/- Contracts of single spans: valid or not, made, met, inside; in the program and in the reference. -/
import Derived.Test.YtfojilogcecphaaGreatJn
import Derived.Test.YtfojilogcecphaaGreatMin
import Derived.Test.YtfojilogcecphaaGreatBx
import Derived.Deep.RegionHeld3
import Derived.Outline
namespace Go.Proofs.YtfojilogcecphaaGreat.Sps
open Go.ChangeShapes Go.WideShapes Go.ChangeAt Go.RowKit Sl Jn Ints

/-- The call answers b; what lay before is as it was. -/
def Tells (b : Bool) (w : World) (e : Ending) (w' : World) : Prop := e = .returned (.bool b) ∧ Below w.heap.size w w'
theorem tells {b b' : Bool} {w w' : World} (h : b' = b) (hb : Below w.heap.size w w') : Tells b w (.returned (.bool b')) w' := ⟨by rw [h], hb⟩
/-- The call answers a span and b; what lay before is as it was. -/
def Spans (s : Sp) (b : Bool) (w : World) (e : Ending) (w' : World) : Prop := e = .returned (.tuple #[.agg #[.int .i64 s.1, .int .i64 s.2], .bool b]) ∧ Below w.heap.size w w'
theorem maxI_max (a b : Int) : maxI a b = max a b := by unfold maxI; omega
theorem minI_min (a b : Int) : minI a b = min a b := by unfold minI; omega
theorem max_b (a b : Int) (w : World) : Calls Tryz.prog 180 #[.int .i64 a, .int .i64 b] w fun e w' => e = .returned (.int .i64 (max a b)) ∧ Below w.heap.size w w' :=
  (max_any a b w).mono fun _ _ ⟨he, hw⟩ => ⟨by rw [he, maxI_max], by rw [hw]; exact (Below.refl _ _).alloc (Nat.le_refl _) _⟩
theorem min_b (a b : Int) (w : World) : Calls Tryz.prog 47 #[.int .i64 a, .int .i64 b] w fun e w' => e = .returned (.int .i64 (min a b)) ∧ Below w.heap.size w w' :=
  (min_any a b w).mono fun _ _ ⟨he, hw⟩ => ⟨by rw [he, minI_min], by rw [hw]; exact (Below.refl _ _).alloc (Nat.le_refl _) _⟩
theorem spec_max_b (a b : Int) (w : World) : Calls Tryz.prog 120 #[.int .i64 a, .int .i64 b] w fun e w' => e = .returned (.int .i64 (max a b)) ∧ w = w' :=
  (spec_max_any a b w).mono fun _ _ ⟨he, hw⟩ => ⟨by rw [he, maxI_max], hw⟩
theorem spec_min_b (a b : Int) (w : World) : Calls Tryz.prog 54 #[.int .i64 a, .int .i64 b] w fun e w' => e = .returned (.int .i64 (min a b)) ∧ w = w' :=
  (spec_min_any a b w).mono fun _ _ ⟨he, hw⟩ => ⟨by rw [he, minI_min], hw⟩

/-! ### valid or not -/
def tmB (t : Int) : Bool := decide (0 ≤ t ∧ t ≤ 10000)
theorem okB_parts (a b : Int) : okB (a, b) = (tmB a && (tmB b && decide (a ≤ b))) := by
  unfold okB tmB
  by_cases h1 : 0 ≤ a ∧ a ≤ 10000 <;> by_cases h2 : 0 ≤ b ∧ b ≤ 10000 <;> by_cases h3 : a ≤ b <;> simp [h1, h2, h3] <;> omega
/-- both are times -/
theorem times_any (g : Nat) (x y : Int) (w : World) (hx : w.cell? ⟨g, 0, none⟩ = some (.int .i64 x)) (hy : w.cell? ⟨g, 1, none⟩ = some (.int .i64 y)) : Calls Tryz.prog 156 #[.slice (some ⟨g, 0, none⟩) 2 2] w fun e w' => e = .returned (.bool (tmB x && tmB y)) ∧ w = w' := by
  rcases h1 : tmB x with _ | _ <;> rcases h2 : tmB y with _ | _
  all_goals
    have H1 := Lib.hid h1
    have H2 := Lib.hid h2
    clear h1 h2
    go_enter Tryz.func156, Tryz.ntmps156
    go_wp2_with fail
    go_loop [7] (fun i => ∃ k : Nat, k ≤ 2 ∧ i = .int .i64 k ∧ Hid ((1 ≤ k → tmB x = true) ∧ (2 ≤ k → tmB y = true))) (fun i => 2 - (intOf i).toNat)
    case atStart => exact ⟨0, Nat.zero_le _, rfl, Lib.hid ⟨fun h => by omega, fun h => by omega⟩⟩
    case round =>
      obtain ⟨k, hk, rfl, HK⟩ := hrel
      obtain rfl | rfl | rfl : k = 0 ∨ k = 1 ∨ k = 2 := by omega
      · go_wp2_with fail
        refine (inRange_any _ _ _ _ H1.out _).mono ?_
        rintro e w1 ⟨rfl, rfl⟩
        go_wp2_with fail
        first
          | (go_ret; exact ⟨rfl, rfl⟩)
          | (go_round; (case rel => exact ⟨1, by omega, rfl, Lib.hid ⟨fun _ => H1.out, fun h => by omega⟩⟩); (case measure => simp [intOf]))
      · go_wp2_with fail
        refine (inRange_any _ _ _ _ H2.out _).mono ?_
        rintro e w1 ⟨rfl, rfl⟩
        go_wp2_with fail
        first
          | (go_ret; exact ⟨by rw [HK.out.1 (by omega)] at *; rfl, rfl⟩)
          | (go_round; (case rel => exact ⟨2, by omega, rfl, Lib.hid ⟨fun _ => HK.out.1 (by omega), fun _ => H2.out⟩⟩); (case measure => simp [intOf]))
      · go_wp2_with fail
        go_ret
        exact ⟨by first | rfl | (have h := HK.out.1 (by omega); have h' := HK.out.2 (by omega); rw [H1.out] at h; rw [H2.out] at h'; simp_all), rfl⟩
set_option maxHeartbeats 1000000 in
theorem isSpan_any (a b : Int) (w : World) : Calls Tryz.prog 181 #[.agg #[.int .i64 a, .int .i64 b]] w (Tells (okB (a, b)) w) := by
  rcases h1 : (tmB a && tmB b) with _ | _
  · have H1 := Lib.hid h1
    clear h1
    go_enter Tryz.func181, Tryz.ntmps181
    go_wp2_with fail
    refine (times_any _ a b _ (by go_simp) (by go_simp)).mono ?_
    rintro e w1 ⟨rfl, rfl⟩
    rw [H1.out]
    go_wp2_with fail
    go_ret
    exact tells (by rw [okB_parts, ← Bool.and_assoc, H1.out]; rfl) (((Below.refl _ _).alloc (Nat.le_refl _) _).alloc (by simp) _)
  · by_cases h2 : a ≤ b
    all_goals
      have H1 := Lib.hid h1
      have H2 := Lib.hid h2
      clear h1
      go_enter Tryz.func181, Tryz.ntmps181
      go_wp2_with fail
      refine (times_any _ a b _ (by go_simp) (by go_simp)).mono ?_
      rintro e w1 ⟨rfl, rfl⟩
      rw [H1.out]
      go_wp2_with fail
      go_ret
      exact tells (by rw [okB_parts, ← Bool.and_assoc, H1.out]; simp [H2.out]) (((Below.refl _ _).alloc (Nat.le_refl _) _).alloc (by simp) _)
theorem l4Time_any (t : Int) (w : World) : Calls Tryz.prog 116 #[.int .i64 t] w fun e w' => e = .returned (.bool (tmB t)) ∧ w = w' := by
  go_enter Tryz.func116, Tryz.ntmps116
  go_wp2_with fail
  refine (l1In_any _ _ _ (tmB t) rfl _).mono ?_
  rintro e w1 ⟨rfl, rfl⟩
  go_wp2_with fail
  go_ret
  exact ⟨rfl, rfl⟩
set_option maxHeartbeats 1000000 in
theorem spec_isSpan_any (a b : Int) (w : World) : Calls Tryz.prog 118 #[.agg #[.int .i64 a, .int .i64 b]] w (Tells (okB (a, b)) w) := by
  rcases h1 : tmB a with _ | _
  · have H1 := Lib.hid h1
    clear h1
    go_enter Tryz.func118, Tryz.ntmps118
    go_wp2_with fail
    refine (l4Time_any a _).mono ?_
    rintro e w1 ⟨rfl, rfl⟩
    rw [H1.out]
    go_wp2_with fail
    go_ret
    exact tells (by rw [okB_parts, H1.out]; rfl) ((Below.refl _ _).alloc (Nat.le_refl _) _)
  · rcases h2 : tmB b with _ | _
    · have H1 := Lib.hid h1
      have H2 := Lib.hid h2
      clear h1 h2
      go_enter Tryz.func118, Tryz.ntmps118
      go_wp2_with fail
      refine (l4Time_any a _).mono ?_
      rintro e w1 ⟨rfl, rfl⟩
      rw [H1.out]
      go_wp2_with fail
      refine (l4Time_any b _).mono ?_
      rintro e w1 ⟨rfl, rfl⟩
      rw [H2.out]
      go_wp2_with fail
      go_ret
      exact tells (by rw [okB_parts, H1.out, H2.out]; rfl) ((Below.refl _ _).alloc (Nat.le_refl _) _)
    · by_cases h3 : a ≤ b
      all_goals
        have H1 := Lib.hid h1
        have H2 := Lib.hid h2
        have H3 := Lib.hid h3
        clear h1 h2
        go_enter Tryz.func118, Tryz.ntmps118
        go_wp2_with fail
        refine (l4Time_any a _).mono ?_
        rintro e w1 ⟨rfl, rfl⟩
        rw [H1.out]
        go_wp2_with fail
        refine (l4Time_any b _).mono ?_
        rintro e w1 ⟨rfl, rfl⟩
        rw [H2.out]
        go_wp2_with fail
        go_ret
        exact tells (by rw [okB_parts, H1.out, H2.out]; simp [H3.out]) ((Below.refl _ _).alloc (Nat.le_refl _) _)

/-! ### made -/
def makeB (f t : Int) : Bool := okB (max f 0, min t 10000)
def makeS (f t : Int) : Sp := if makeB f t = true then (max f 0, min t 10000) else (0, 0)
theorem makeS_yes {f t : Int} (h : makeB f t = true) : makeS f t = (max f 0, min t 10000) := if_pos h
theorem makeS_no {f t : Int} (h : makeB f t = false) : makeS f t = (0, 0) := if_neg (by rw [h]; simp)
set_option maxHeartbeats 1000000 in
theorem make_any (f t : Int) (w : World) : Calls Tryz.prog 157 #[.int .i64 f, .int .i64 t] w (Spans (makeS f t) (makeB f t) w) := by
  rcases hm : makeB f t with _ | _
  all_goals
    have HM := Lib.hid hm
    first | have HS := Lib.hid (makeS_yes hm) | have HS := Lib.hid (makeS_no hm)
    clear hm
    go_enter Tryz.func157, Tryz.ntmps157
    go_wp2_with fail
    refine (max_b f 0 _).mono ?_
    rintro e w1 ⟨rfl, hb1⟩
    have HB1 := Lib.hid (((Below.refl w.heap.size w).alloc (Nat.le_refl _) _).trans (hb1.mono (by simp)))
    have HR1 := Lib.hid ((Bx.new w 105 #[.int .i64 0, .int .i64 0]).below hb1)
    clear hb1
    go_wp2_with fail
    refine (min_b t 10000 _).mono ?_
    rintro e w2 ⟨rfl, hb2⟩
    have HB2 := Lib.hid (below_on HB1.out hb2)
    have HR2 := Lib.hid (HR1.out.below hb2)
    clear hb2
    go_wp2_with fail
    refine (isSpan_any _ _ _).mono ?_
    rintro e w3 ⟨rfl, hb3⟩
    rw [show okB (max f 0, min t 10000) = _ from HM.out]
    have HB3 := Lib.hid (below_on (HB2.out.alloc HB2.out.size _) hb3)
    obtain ⟨c1, c2, c3, c4⟩ := ((HR2.out.alloc _).below hb3).two
    obtain ⟨d1, d2, d3, d4⟩ := ((Bx.new w2 105 #[.int .i64 (max f 0), .int .i64 (min t 10000)]).below hb3).two
    have hne : w.heap.size ≠ w2.heap.size := by have := HR2.out.lt; omega
    clear hb3
    go_wp2_with fail
    rw [HS.out]
    first
      | exact bodyPost_ret (v := .tuple #[.agg #[.int .i64 0, .int .i64 0], .bool false]) (by simp [results, Tryz.results157, go_sem, c1, c2]) rfl ⟨rfl, (HB3.out.setCell (p := ⟨w.heap.size, 0, none⟩) (Nat.le_refl _) _).setCell (p := ⟨w.heap.size, 1, none⟩) (Nat.le_refl _) _⟩
      | exact bodyPost_ret (v := .tuple #[.agg #[.int .i64 (max f 0), .int .i64 (min t 10000)], .bool true]) (by simp [results, Tryz.results157, go_sem, c1, c2]) rfl ⟨rfl, (HB3.out.setCell (p := ⟨w.heap.size, 0, none⟩) (Nat.le_refl _) _).setCell (p := ⟨w.heap.size, 1, none⟩) (Nat.le_refl _) _⟩
theorem makeB_le {f t x y : Int} (hx : max 0 f = x) (hy : min 10000 t = y) : makeB f t = decide (x ≤ y) := by
  unfold makeB okB
  subst hx hy
  by_cases h : max 0 f ≤ min 10000 t <;> simp [h] <;> omega
theorem makeS_at {f t x y : Int} (hx : max 0 f = x) (hy : min 10000 t = y) : (max f 0, min t 10000) = (x, y) := by
  rw [← hx, ← hy, Int.max_comm, Int.min_comm]
set_option maxHeartbeats 1000000 in
theorem spec_make_any (f t : Int) (w : World) : Calls Tryz.prog 117 #[.int .i64 f, .int .i64 t] w (Spans (makeS f t) (makeB f t) w) := by
  obtain ⟨x, hx⟩ : ∃ x, max 0 f = x := ⟨_, rfl⟩
  obtain ⟨y, hy⟩ : ∃ y, min 10000 t = y := ⟨_, rfl⟩
  by_cases hle : x ≤ y
  all_goals
    first
      | have HM : Hid (makeB f t = true) := Lib.hid (by rw [makeB_le hx hy]; exact decide_eq_true hle)
      | have HM : Hid (makeB f t = false) := Lib.hid (by rw [makeB_le hx hy]; exact decide_eq_false hle)
    first
      | have HS : Hid (makeS f t = (x, y)) := Lib.hid (by rw [makeS_yes HM.out]; exact makeS_at hx hy)
      | have HS : Hid (makeS f t = (0, 0)) := Lib.hid (makeS_no HM.out)
    have HX := Lib.hid hx
    have HY := Lib.hid hy
    clear hx hy
    go_enter Tryz.func117, Tryz.ntmps117
    go_wp2_with fail
    refine (spec_max_b _ _ _).mono ?_
    rintro e w1 ⟨rfl, rfl⟩
    rw [HX.out]
    go_wp2_with fail
    refine (spec_min_b _ _ _).mono ?_
    rintro e w1 ⟨rfl, rfl⟩
    rw [HY.out]
    go_wp2_with fail
    rw [HS.out, HM.out]
    first
      | exact bodyPost_ret (v := .tuple #[.agg #[.int .i64 0, .int .i64 0], .bool false]) (by simp [results, Tryz.results117, go_sem]) rfl ⟨rfl, ((Below.refl _ _).alloc (Nat.le_refl _) _).alloc (by simp) _⟩
      | exact bodyPost_ret (v := .tuple #[.agg #[.int .i64 x, .int .i64 y], .bool true]) (by simp [results, Tryz.results117, go_sem]) rfl ⟨rfl, ((Below.refl _ _).alloc (Nat.le_refl _) _).alloc (by simp) _⟩

/-! ### met -/
def meetR (a b : Sp) : Sp := if meets a b = true then meet a b else (0, 0)
theorem meetR_yes {a b : Sp} (h : meets a b = true) : meetR a b = meet a b := if_pos h
theorem meetR_no {a b : Sp} (h : meets a b = false) : meetR a b = (0, 0) := if_neg (by rw [h]; simp)
theorem meet_make {a b : Sp} (h1 : okB a = true) (h2 : okB b = true) : makeB (max a.1 b.1) (min a.2 b.2) = meets a b ∧ makeS (max a.1 b.1) (min a.2 b.2) = meetR a b := by
  have v1 := okB_yes h1
  have v2 := okB_yes h2
  have h : makeB (max a.1 b.1) (min a.2 b.2) = meets a b := by
    rw [makeB_le rfl rfl]
    unfold meets
    rw [h1, h2, Bool.true_and, Bool.true_and, decide_eq_decide]
    omega
  refine ⟨h, ?_⟩
  unfold makeS meetR meet
  rw [h]
  by_cases hm : meets a b = true
  · rw [if_pos hm, if_pos hm]
    have h3 := (meets_yes hm).2.2
    refine Prod.ext ?_ ?_ <;> simp only <;> omega
  · rw [if_neg hm, if_neg hm]
/-- the world of the three boxes -/
def boxes (a b c d : Int) (w : World) : World := ((w.alloc (.cells #[.int .i64 a, .int .i64 b] 105)).alloc (.cells #[.int .i64 c, .int .i64 d] 105)).alloc (.cells #[.int .i64 0, .int .i64 0] 105)
theorem boxes_at (a b c d : Int) (w : World) : Bx (boxes a b c d w) w.heap.size 105 #[.int .i64 a, .int .i64 b] ∧ Bx (boxes a b c d w) (w.heap.size + 1) 105 #[.int .i64 c, .int .i64 d] ∧ Bx (boxes a b c d w) (w.heap.size + 1 + 1) 105 #[.int .i64 0, .int .i64 0] ∧ Below w.heap.size w (boxes a b c d w) ∧ (boxes a b c d w).heap.size = w.heap.size + 3 := by
  refine ⟨((Bx.new w _ _).alloc _).alloc _, ?_, ?_, (((Below.refl w.heap.size w).alloc (Nat.le_refl _) _).alloc (by simp) _).alloc (by simp; omega) _, by simp [boxes]⟩
  · have h := (Bx.new (w.alloc (.cells #[.int .i64 a, .int .i64 b] 105)) 105 #[.int .i64 c, .int .i64 d]).alloc (.cells #[.int .i64 0, .int .i64 0] 105)
    rw [World.size_alloc] at h
    exact h
  · have h := Bx.new ((w.alloc (.cells #[.int .i64 a, .int .i64 b] 105)).alloc (.cells #[.int .i64 c, .int .i64 d] 105)) 105 #[.int .i64 0, .int .i64 0]
    rw [World.size_alloc, World.size_alloc] at h
    exact h
theorem boxes_def (a b c d : Int) (w : World) : ((w.alloc (.cells #[.int .i64 a, .int .i64 b] 105)).alloc (.cells #[.int .i64 c, .int .i64 d] 105)).alloc (.cells #[.int .i64 0, .int .i64 0] 105) = boxes a b c d w := rfl
/-! ### inside -/
/-- the world of two boxes -/
def boxes2 (a b c d : Int) (w : World) : World := (w.alloc (.cells #[.int .i64 a, .int .i64 b] 105)).alloc (.cells #[.int .i64 c, .int .i64 d] 105)
theorem boxes2_at (a b c d : Int) (w : World) : Bx (boxes2 a b c d w) w.heap.size 105 #[.int .i64 a, .int .i64 b] ∧ Bx (boxes2 a b c d w) (w.heap.size + 1) 105 #[.int .i64 c, .int .i64 d] ∧ Below w.heap.size w (boxes2 a b c d w) := by
  refine ⟨(Bx.new w _ _).alloc _, ?_, ((Below.refl w.heap.size w).alloc (Nat.le_refl _) _).alloc (by simp) _⟩
  have h := Bx.new (w.alloc (.cells #[.int .i64 a, .int .i64 b] 105)) 105 #[.int .i64 c, .int .i64 d]
  rw [World.size_alloc] at h
  exact h
theorem boxes2_def (a b c d : Int) (w : World) : (w.alloc (.cells #[.int .i64 a, .int .i64 b] 105)).alloc (.cells #[.int .i64 c, .int .i64 d] 105) = boxes2 a b c d w := rfl
theorem inside_off1 {a b : Sp} (h : okB a = false) : inside a b = false := by unfold inside; rw [h]; rfl
theorem inside_off2 {a b : Sp} (h : okB b = false) : inside a b = false := by unfold inside; rw [h, Bool.and_false]; rfl
theorem inside_on {a b c d : Int} (h1 : okB (a, b) = true) (h2 : okB (c, d) = true) : inside (a, b) (c, d) = decide (c ≤ a ∧ b ≤ d) := by unfold inside; rw [h1, h2]; rfl
end Go.Proofs.YtfojilogcecphaaGreat.Sps
