/- Contracts of what is compared: numbers, lists of numbers, pieces; in the program. Contract of the reference's EqualInts. Contracts of pieces compared, in the reference. -/
import Derived.Test.YtjaholcmaafenaaSlPiece
import Derived.Test.YtjaholcmaafenaaFnd
import Derived.Deep.RegionHeld3
import Derived.LoopTactic
import Derived.Outline
import Derived.Test.YtjaholcmaafenaaSlI
import Derived.Deep.QuietTactic
import Derived.BigQuiet
namespace Go.Proofs.Ytjaholcmaafenaa.Cp
open Go.ChangeShapes Go.WideShapes Go.ChangeAt Go.RowKit Sl St
def cI (a b : Int) : Int := if a < b then -1 else if b < a then 1 else 0
theorem cI_lt {a b : Int} (h : a < b) : cI a b = -1 := if_pos h
theorem cI_gt {a b : Int} (h : b < a) : cI a b = 1 := by unfold cI; rw [if_neg (by omega), if_pos h]
theorem cI_eq (a : Int) : cI a a = 0 := by unfold cI; rw [if_neg (by omega), if_neg (by omega)]
theorem cI_ne {a b : Int} (h : a ≠ b) : cI a b ≠ 0 := by
  rcases (by omega : a < b ∨ b < a) with h' | h'
  · rw [cI_lt h']; omega
  · rw [cI_gt h']; omega
def cL : List Int → List Int → Int
  | [], [] => 0
  | [], _ :: _ => -1
  | _ :: _, [] => 1
  | x :: xs, y :: ys => if x = y then cL xs ys else cI x y
theorem cL_refl : ∀ xs : List Int, cL xs xs = 0
  | [] => rfl
  | x :: xs => by rw [cL, if_pos rfl]; exact cL_refl xs
theorem cL_zero : ∀ {xs ys : List Int}, cL xs ys = 0 → xs = ys
  | [], [], _ => rfl
  | [], _ :: _, h => by simp [cL] at h
  | _ :: _, [], h => by simp [cL] at h
  | x :: xs, y :: ys, h => by
    rw [cL] at h
    split at h
    · next e => rw [e, cL_zero h]
    · next e => exact absurd h (cI_ne e)
theorem drop_at {xs : List Int} {k : Nat} (h : k < xs.length) : xs.drop k = xs.getD k 0 :: xs.drop (k + 1) := by
  rw [List.drop_eq_getElem_cons h, List.getD_eq_getElem?_getD, List.getElem?_eq_getElem h]
  rfl
def or3 (a b c : Int) : Int := if a ≠ 0 then a else if b ≠ 0 then b else c
def cP (k k' : Int) (xs ys : List Int) (m m' : Int) : Int := or3 (cL xs ys) (cI k k') (cI m m')
theorem says {b b' : Value} {w w' : World} (h : b' = b) (hb : Below w.heap.size w w') : SlPiece.Val b w (.returned b') w' := ⟨by rw [h], hb⟩
theorem nan_any (x : Int) (w : World) : Calls Try.prog 156 #[.int .i64 x] w fun e w' => e = .returned (.bool false) ∧ w = w' := by
  go_enter Try.func156, Try.ntmps156
  go_wp2_with fail
  go_ret
  exact ⟨by simp, rfl⟩
theorem cmp_any (a b : Int) (w : World) : Calls Try.prog 155 #[.int .i64 a, .int .i64 b] w fun e w' => e = .returned (.int .i64 (cI a b)) ∧ w = w' := by
  rcases (by omega : a < b ∨ b < a ∨ a = b) with h | h | h
  · have HE := Lib.hid (cI_lt h)
    go_enter Try.func155, Try.ntmps155
    go_wp2_with fail
    refine (nan_any _ _).mono ?_
    rintro e w1 ⟨rfl, rfl⟩
    go_wp2_with fail
    refine (nan_any _ _).mono ?_
    rintro e w1 ⟨rfl, rfl⟩
    go_wp2_with fail
    go_ret
    exact ⟨by rw [HE.out]; rfl, rfl⟩
  · have HE := Lib.hid (cI_gt h)
    have h' : ¬ a < b := by omega
    go_enter Try.func155, Try.ntmps155
    go_wp2_with fail
    refine (nan_any _ _).mono ?_
    rintro e w1 ⟨rfl, rfl⟩
    go_wp2_with fail
    refine (nan_any _ _).mono ?_
    rintro e w1 ⟨rfl, rfl⟩
    go_wp2_with fail
    go_ret
    exact ⟨by rw [HE.out]; rfl, rfl⟩
  · subst h
    have HE := Lib.hid (cI_eq a)
    go_enter Try.func155, Try.ntmps155
    go_wp2_with fail
    refine (nan_any _ _).mono ?_
    rintro e w1 ⟨rfl, rfl⟩
    go_wp2_with fail
    refine (nan_any _ _).mono ?_
    rintro e w1 ⟨rfl, rfl⟩
    go_wp2_with fail
    go_ret
    exact ⟨by rw [HE.out]; rfl, rfl⟩
set_option maxRecDepth 100000 in
set_option maxHeartbeats 4000000 in
theorem cmpL_any (p q : Option Addr) (n m c d : Nat) (xs ys : List Int) (w : World) (hr : Rd .i64 w p n xs) (hs : Rd .i64 w q m ys) : Calls Try.prog 154 #[.slice p n c, .slice q m d] w fun e w' => e = .returned (.int .i64 (cL xs ys)) ∧ w = w' := by
  have HR := Lib.hid hr
  have HS := Lib.hid hs
  have L1 := Lib.hid hr.len
  have L2 := Lib.hid hs.len
  have hle := hr.le
  have hle' := hs.le
  clear hr hs
  go_enter Try.func154, Try.ntmps154
  go_wp2_with fail
  go_loop [11] (fun i => ∃ k : Nat, k ≤ n ∧ k ≤ m ∧ i = .int .i64 k ∧ Hid (cL xs ys = cL (xs.drop k) (ys.drop k))) (fun i => n - (intOf i).toNat)
  case atStart => exact ⟨0, Nat.zero_le _, Nat.zero_le _, rfl, Lib.hid rfl⟩
  case round =>
    obtain ⟨k, hk, hk', rfl, HE⟩ := hrel
    by_cases hlt : k < n
    · obtain ⟨b, o, rfl, hb, hc⟩ := HR.out.at_ hlt
      have D1 := Lib.hid (drop_at (xs := xs) (k := k) (by rw [L1.out]; exact hlt))
      by_cases hlt' : k < m
      · obtain ⟨b', o', rfl, hb', hc'⟩ := HS.out.at_ hlt'
        have D2 := Lib.hid (drop_at (xs := ys) (k := k) (by rw [L2.out]; exact hlt'))
        generalize xs.getD k 0 = x at hc D1
        generalize ys.getD k 0 = y at hc' D2
        by_cases hxy : x = y
        · have HN : Hid (cL xs ys = cL (xs.drop (k + 1)) (ys.drop (k + 1))) := Lib.hid (by rw [HE.out, D1.out, D2.out, cL, if_pos hxy])
          have HZ : Hid (cI x y = 0) := Lib.hid (by rw [hxy]; exact cI_eq y)
          clear hxy
          go_wp2_with fail
          refine (cmp_any x y _).mono ?_
          rintro e w1 ⟨rfl, rfl⟩
          rw [HZ.out]
          go_wp2_with fail
          go_round
          case rel => exact ⟨k + 1, by omega, by omega, by go_num, HN⟩
          case measure => simp [intOf]; omega
        · have HN : Hid (cL xs ys = cI x y) := Lib.hid (by rw [HE.out, D1.out, D2.out, cL, if_neg hxy])
          have hz := cI_ne hxy
          obtain ⟨z, HZ, hz'⟩ : ∃ z, Hid (cI x y = z) ∧ z ≠ 0 := ⟨_, Lib.hid rfl, hz⟩
          have e1 : (z != 0) = true := bne_iff_ne.2 hz'
          have e2 : (z == 0) = false := beq_eq_false_iff_ne.2 hz'
          clear hz'
          clear hxy hz
          go_wp2_with fail
          refine (cmp_any x y _).mono ?_
          rintro e w1 ⟨rfl, rfl⟩
          rw [HZ.out]
          go_wp2_with fail
          go_ret
          exact ⟨by rw [HN.out, HZ.out]; rfl, rfl⟩
      · obtain rfl : k = m := by omega
        have D2 : ys.drop k = [] := List.drop_eq_nil_of_le (by rw [L2.out]; exact Nat.le_refl _)
        have HN : Hid (cL xs ys = 1) := Lib.hid (by rw [HE.out, D1.out, D2]; rfl)
        clear D2
        go_wp2_with fail
        go_ret
        exact ⟨by rw [HN.out]; rfl, rfl⟩
    · obtain rfl : k = n := by omega
      have D1 : xs.drop k = [] := List.drop_eq_nil_of_le (by rw [L1.out]; exact Nat.le_refl _)
      by_cases hlt' : k < m
      · have HN : Hid (cL xs ys = -1) := Lib.hid (by rw [HE.out, D1, drop_at (xs := ys) (k := k) (by rw [L2.out]; exact hlt')]; rfl)
        clear D1
        go_wp2_with fail
        go_ret
        exact ⟨by rw [HN.out]; rfl, rfl⟩
      · have D2 : ys.drop k = [] := List.drop_eq_nil_of_le (by rw [L2.out]; omega)
        have HN : Hid (cL xs ys = 0) := Lib.hid (by rw [HE.out, D1, D2]; rfl)
        clear D2
        have hlt2 : ¬ k < m := hlt'
        clear D1
        go_wp2_with fail
        go_ret
        exact ⟨by rw [HN.out]; rfl, rfl⟩
set_option maxRecDepth 100000 in
set_option maxHeartbeats 4000000 in
theorem or_any (g : Nat) (a b c : Int) (w : World) (h : Bx w g 3 #[.int .i64 a, .int .i64 b, .int .i64 c]) : Calls Try.prog 153 #[.slice (some ⟨g, 0, none⟩) 3 3] w fun e w' => e = .returned (.int .i64 (or3 a b c)) ∧ w = w' := by
  have HX := Lib.hid h
  clear h
  rcases Classical.em (a = 0) with ha | ha
  rotate_left
  · have HE : Hid (or3 a b c = a) := Lib.hid (by unfold or3; rw [if_pos ha])
    have e1 : (a != 0) = true := bne_iff_ne.2 ha
    have e2 : (a == 0) = false := beq_eq_false_iff_ne.2 ha
    have c0 := HX.out.cell (j := 0) rfl
    clear ha
    go_enter Try.func153, Try.ntmps153
    go_wp2_with fail
    go_loop [8] (fun i => i = .int .i64 0) (fun _ => 0)
    case atStart => rfl
    case round =>
      obtain rfl := hrel
      go_wp2_with fail
      go_ret
      exact ⟨by rw [HE.out]; rfl, rfl⟩
  subst ha
  rcases Classical.em (b = 0) with hb | hb
  rotate_left
  · have HE : Hid (or3 0 b c = b) := Lib.hid (by unfold or3; rw [if_neg (by simp), if_pos hb])
    have e1 : (b != 0) = true := bne_iff_ne.2 hb
    have e2 : (b == 0) = false := beq_eq_false_iff_ne.2 hb
    have c0 := HX.out.cell (j := 0) rfl
    have c1 := HX.out.cell (j := 1) rfl
    clear hb
    go_enter Try.func153, Try.ntmps153
    go_wp2_with fail
    go_loop [8] (fun i => i = .int .i64 0 ∨ i = .int .i64 1) (fun i => 3 - (intOf i).toNat)
    case atStart => exact Or.inl rfl
    case round =>
      rcases hrel with rfl | rfl
      · go_wp2_with fail
        go_round
        case rel => exact Or.inr rfl
        case measure => simp [intOf]
      · go_wp2_with fail
        go_ret
        exact ⟨by rw [HE.out]; rfl, rfl⟩
  subst hb
  have HE : Hid (or3 0 0 c = c) := Lib.hid (by unfold or3; rw [if_neg (by simp), if_neg (by simp)])
  have c0 := HX.out.cell (j := 0) rfl
  have c1 := HX.out.cell (j := 1) rfl
  have c2 := HX.out.cell (j := 2) rfl
  rcases Classical.em (c = 0) with hc | hc
  · subst hc
    go_enter Try.func153, Try.ntmps153
    go_wp2_with fail
    go_loop [8] (fun i => i = .int .i64 0 ∨ i = .int .i64 1 ∨ i = .int .i64 2 ∨ i = .int .i64 3) (fun i => 4 - (intOf i).toNat)
    case atStart => exact Or.inl rfl
    case round =>
      rcases hrel with rfl | rfl | rfl | rfl
      · go_wp2_with fail
        go_round
        case rel => exact Or.inr (Or.inl rfl)
        case measure => simp [intOf]
      · go_wp2_with fail
        go_round
        case rel => exact Or.inr (Or.inr (Or.inl rfl))
        case measure => simp [intOf]
      · go_wp2_with fail
        go_round
        case rel => exact Or.inr (Or.inr (Or.inr rfl))
        case measure => simp [intOf]
      · go_wp2_with fail
        go_ret
        exact ⟨by rw [HE.out]; rfl, rfl⟩
  have e1 : (c != 0) = true := bne_iff_ne.2 hc
  have e2 : (c == 0) = false := beq_eq_false_iff_ne.2 hc
  clear hc
  go_enter Try.func153, Try.ntmps153
  go_wp2_with fail
  go_loop [8] (fun i => i = .int .i64 0 ∨ i = .int .i64 1 ∨ i = .int .i64 2) (fun i => 4 - (intOf i).toNat)
  case atStart => exact Or.inl rfl
  case round =>
    rcases hrel with rfl | rfl | rfl
    · go_wp2_with fail
      go_round
      case rel => exact Or.inr (Or.inl rfl)
      case measure => simp [intOf]
    · go_wp2_with fail
      go_round
      case rel => exact Or.inr (Or.inr rfl)
      case measure => simp [intOf]
    · go_wp2_with fail
      go_ret
      exact ⟨by rw [HE.out]; rfl, rfl⟩
theorem drewB {W w : World} {B : Nat} (h : Below B W w) : Below B W w.drew := below_drewN h 1
theorem six {w : World} {g h : Nat} {T T' : TypeId} {x0 x1 x2 y0 y1 y2 : Value} (a : Bx w g T #[x0, x1, x2]) (b : Bx w h T' #[y0, y1, y2]) : w.cell? ⟨g, 0, none⟩ = some x0 ∧ w.cell? ⟨g, 1, none⟩ = some x1 ∧ w.cell? ⟨g, 2, none⟩ = some x2 ∧ w.cell? ⟨h, 0, none⟩ = some y0 ∧ w.cell? ⟨h, 1, none⟩ = some y1 ∧ w.cell? ⟨h, 2, none⟩ = some y2 := ⟨a.cell rfl, a.cell rfl, a.cell rfl, b.cell rfl, b.cell rfl, b.cell rfl⟩
set_option maxRecDepth 100000 in
set_option maxHeartbeats 8000000 in
theorem cmpP_any (k : Int) (p : Option Addr) (n c : Nat) (m k' : Int) (q : Option Addr) (n' d : Nat) (m' : Int) (xs ys : List Int) (w : World) (hr : Rd .i64 w p n xs) (hs : Rd .i64 w q n' ys) : Calls Try.prog 152 #[.agg #[.int .i64 k, .slice p n c, .int .i64 m], .agg #[.int .i64 k', .slice q n' d, .int .i64 m']] w (SlPiece.Val (.int .i64 (cP k k' xs ys m m')) w) := by
  have hB : Below w.heap.size w ((w.alloc (.cells #[.int .i64 k, .slice p n c, .int .i64 m] 97)).alloc (.cells #[.int .i64 k', .slice q n' d, .int .i64 m'] 97)) := ((Below.refl w.heap.size w).alloc (Nat.le_refl _) _).alloc (by simp) _
  have HX := Lib.hid ((Bx.new w 97 #[.int .i64 k, .slice p n c, .int .i64 m]).alloc (.cells #[.int .i64 k', .slice q n' d, .int .i64 m'] 97))
  have hy := Bx.new (w.alloc (.cells #[.int .i64 k, .slice p n c, .int .i64 m] 97)) 97 #[.int .i64 k', .slice q n' d, .int .i64 m']
  rw [World.size_alloc] at hy
  have HY := Lib.hid hy
  have HR := Lib.hid (hr.below hB)
  have HS := Lib.hid (hs.below hB)
  have HB := Lib.hid hB
  clear hy hB hr hs
  go_enter Try.func152, Try.ntmps152
  go_wp2_with fail
  generalize ((w.alloc (.cells #[.int .i64 k, .slice p n c, .int .i64 m] 97)).alloc (.cells #[.int .i64 k', .slice q n' d, .int .i64 m'] 97)) = V at HX HY HB HR HS ⊢
  have HBu := HB
  have HXu := HX
  have HYu := HY
  replace HB := Lib.hid (drewB HB.out)
  replace HX := Lib.hid HX.out.drew1
  replace HY := Lib.hid HY.out.drew1
  replace HR : Hid (Rd .i64 V.drew p n xs) := Lib.hid (HR.out.drewN 1)
  replace HS : Hid (Rd .i64 V.drew q n' ys) := Lib.hid (HS.out.drewN 1)
  have HZ := Lib.hid (Bx.new V 3 #[.int .i64 (cL xs ys), .int .i64 (cI k k'), .int .i64 (cI m m')]).drew1
  go_region_held3 (fun w' => w'.cell? ⟨w.heap.size, 0, none⟩ = some (.int .i64 k) ∧ w'.cell? ⟨w.heap.size, 1, none⟩ = some (.slice p n c) ∧ w'.cell? ⟨w.heap.size, 2, none⟩ = some (.int .i64 m) ∧ w'.cell? ⟨w.heap.size + 1, 0, none⟩ = some (.int .i64 k') ∧ w'.cell? ⟨w.heap.size + 1, 1, none⟩ = some (.slice q n' d) ∧ w'.cell? ⟨w.heap.size + 1, 2, none⟩ = some (.int .i64 m')) (first | exact six HX.out HY.out | exact six (HXu.out.alloc _).drew1 (HYu.out.alloc _).drew1 | exact six (HX.out.alloc _) (HY.out.alloc _) | go_keep) (first
    | (go_at_call 154; (with_reducible refine (cmpL_any p q n n' c d xs ys _ HR.out HS.out).mono ?_); rintro e w1 ⟨rfl, rfl⟩)
    | (go_at_call 155; (with_reducible refine (cmp_any k k' _).mono ?_); rintro e w1 ⟨rfl, rfl⟩)
    | (go_at_call 155; (with_reducible refine (cmp_any m m' _).mono ?_); rintro e w1 ⟨rfl, rfl⟩)
    | (go_at_call 153; (with_reducible refine (or_any _ _ _ _ _ HZ.out).mono ?_); rintro e w1 ⟨rfl, rfl⟩))
  all_goals
    go_wp2_with fail
    go_ret
    exact says rfl (by first | exact drewB (HBu.out.alloc HBu.out.size _) | exact HB.out.alloc HB.out.size _)
theorem cP_before {k k' : Int} {xs ys : List Int} {m m' z : Int} (h : cP k k' xs ys m m' = z) : decide (z < 0) = decide (cP k k' xs ys m m' < 0) := by rw [h]
set_option maxRecDepth 100000 in
set_option maxHeartbeats 4000000 in
theorem equal_any (k : Int) (p : Option Addr) (n c : Nat) (m k' : Int) (q : Option Addr) (n' d : Nat) (m' : Int) (xs ys : List Int) (w : World) (hr : Rd .i64 w p n xs) (hs : Rd .i64 w q n' ys) : Calls Try.prog 151 #[.agg #[.int .i64 k, .slice p n c, .int .i64 m], .agg #[.int .i64 k', .slice q n' d, .int .i64 m']] w (SlPiece.Val (.bool (decide (cP k k' xs ys m m' = 0))) w) := by
  have hB : Below w.heap.size w ((w.alloc (.cells #[.int .i64 k, .slice p n c, .int .i64 m] 97)).alloc (.cells #[.int .i64 k', .slice q n' d, .int .i64 m'] 97)) := ((Below.refl w.heap.size w).alloc (Nat.le_refl _) _).alloc (by simp) _
  have HR := Lib.hid (hr.below hB)
  have HS := Lib.hid (hs.below hB)
  have HB := Lib.hid hB
  clear hB hr hs
  obtain ⟨z, hz⟩ : ∃ z, cP k k' xs ys m m' = z := ⟨_, rfl⟩
  have HZ := Lib.hid hz
  rw [hz]
  clear hz
  go_enter Try.func151, Try.ntmps151
  go_wp2_with fail
  refine (cmpP_any k p n c m k' q n' d m' xs ys _ HR.out HS.out).mono ?_
  rintro e w1 ⟨rfl, hb⟩
  rw [HZ.out]
  replace HB := Lib.hid (below_on HB.out hb)
  clear hb
  by_cases h : z = 0
  all_goals
    have HD := Lib.hid h
    have e1 : (z == 0) = decide (z = 0) := rfl
    clear h
    go_wp2_with fail
    go_ret
    exact says (by simp [HD.out]) HB.out
end Go.Proofs.Ytjaholcmaafenaa.Cp

namespace Go.Proofs.Ytjaholcmaafenaa.Eqi
open Go.ChangeShapes Go.WideShapes Go.ChangeAt Go.RowKit Sl
def eqL (xs ys : List Int) : Bool := decide (xs = ys)
theorem eqL_yes {xs ys : List Int} (h : xs = ys) : eqL xs ys = true := decide_eq_true h
theorem eqL_no {xs ys : List Int} (h : xs ≠ ys) : eqL xs ys = false := decide_eq_false h
def Tells (b : Bool) (w : World) (e : Ending) (w' : World) : Prop := e = .returned (.bool b) ∧ Below w.heap.size w w'
theorem tells {b b' : Bool} {w w' : World} (h : b' = b) (hb : Below w.heap.size w w') : Tells b w (.returned (.bool b')) w' := ⟨by rw [h], hb⟩
theorem eqL_first {xs ys : List Int} {k : Nat} (h : xs.getD k 0 ≠ ys.getD k 0) : eqL xs ys = false := eqL_no fun e => h (by rw [e])
theorem eqL_all {xs ys : List Int} {n : Nat} (h : xs.length = n) (h' : ys.length = n) (ha : ∀ j, j < n → xs.getD j 0 = ys.getD j 0) : eqL xs ys = true := by
  refine eqL_yes (List.ext_getElem (by omega) fun i h1 h2 => ?_)
  have := ha i (by omega)
  simpa [List.getD_eq_getElem?_getD, h1, h2] using this
set_option maxHeartbeats 1000000 in
theorem spec_eqI_any (p p' : Option Addr) (n n' c c' : Nat) (xs ys : List Int) (w : World) (hr : Rd .i64 w p n xs) (hr' : Rd .i64 w p' n' ys) : Calls Try.prog 147 #[.slice p n c, .slice p' n' c'] w (Tells (eqL xs ys) w) := by
  have HR := Lib.hid hr
  have HR' := Lib.hid hr'
  have hle := hr.le
  have hle' := hr'.le
  clear hr hr'
  by_cases hne : n = n'
  · subst hne
    go_enter Try.func147, Try.ntmps147
    go_wp2_with fail
    go_loopw [5] (fun i wr => ∃ k q : Nat, k ≤ n ∧ i = .int .i64 k ∧ wr = w.drewN q ∧ Hid (∀ j, j < k → xs.getD j 0 = ys.getD j 0)) (fun i _ => n - (intOf i).toNat)
    case atStart => exact ⟨0, 0, Nat.zero_le _, rfl, rfl, fun j hj => absurd hj (Nat.not_lt_zero _)⟩
    case round =>
      obtain ⟨k, q, hk, rfl, rfl, HE⟩ := hrel
      by_cases hlt : k < n
      · obtain ⟨b, o, rfl, hb, hc⟩ := HR.out.at_ hlt
        obtain ⟨b', o', rfl, hb', hc'⟩ := HR'.out.at_ hlt
        generalize hx : xs.getD k 0 = x at hc
        generalize hy : ys.getD k 0 = y at hc'
        have HX := Lib.hid hx
        have HY := Lib.hid hy
        clear hx hy
        by_cases hxy : x = y
        · have HXY := Lib.hid hxy
          have hb1 : (x == y) = true := beq_iff_eq.2 hxy
          have hb2 : (x != y) = false := by rw [bne, hb1]; rfl
          clear hxy
          go_wp2_with fail
          go_quiet (fail)
          go_wp2_with fail
          refine ⟨⟨k + 1, _, by omega, by go_num, rfl, fun j hj => ?_⟩, by simp [intOf]; omega⟩
          by_cases hjk : j = k
          · rw [hjk, HX.out, HY.out, HXY.out]
          · exact HE.out j (by omega)
        · have HXY := Lib.hid hxy
          have hb1 : (x == y) = false := beq_eq_false_iff_ne.2 hxy
          have hb2 : (x != y) = true := by rw [bne, hb1]; rfl
          clear hxy
          go_wp2_with fail
          go_quiet (fail)
          go_wp2_with fail
          go_ret
          exact tells (by rw [eqL_first (k := k) (by rw [HX.out, HY.out]; exact HXY.out)]) (below_drewN (below_drewN (Below.refl _ _) _) _)
      · obtain rfl : k = n := by omega
        go_wp2_with fail
        go_ret
        exact tells (by rw [eqL_all HR.out.len HR'.out.len HE.out]) (below_drewN (Below.refl _ _) _)
  · have hb1 : ((n : Int) == n') = false := beq_eq_false_iff_ne.2 (by omega)
    have hb2 : ((n : Int) != n') = true := by rw [bne, hb1]; rfl
    have hb3 : (n == n') = false := beq_eq_false_iff_ne.2 hne
    have hb4 : (n != n') = true := by rw [bne, hb3]; rfl
    have HN := Lib.hid hne
    clear hne
    go_enter Try.func147, Try.ntmps147
    go_wp2_with fail
    go_ret
    exact tells (by rw [eqL_no (fun e => HN.out (by rw [← HR.out.len, ← HR'.out.len, e]))]) (Below.refl _ _)
end Go.Proofs.Ytjaholcmaafenaa.Eqi

namespace Go.Proofs.Ytjaholcmaafenaa.Cq
open Go.ChangeShapes Go.WideShapes Go.ChangeAt Go.RowKit Sl St Cp
theorem zero_iff {k k' : Int} {xs ys : List Int} {m m' : Int} : decide (cP k k' xs ys m m' = 0) = (decide (k = k') && (decide (m = m') && Eqi.eqL xs ys)) := by
  unfold cP or3 Eqi.eqL
  by_cases h1 : xs = ys
  · subst h1
    rw [cL_refl, if_neg (by simp)]
    by_cases h2 : k = k'
    · subst h2
      rw [cI_eq, if_neg (by simp)]
      by_cases h3 : m = m'
      · subst h3; simp [cI_eq]
      · have := cI_ne h3
        simp [h3, this]
    · have := cI_ne h2
      simp [h2, this]
  · have : cL xs ys ≠ 0 := fun e => h1 (cL_zero e)
    simp [h1, this]
set_option maxRecDepth 100000 in
set_option maxHeartbeats 4000000 in
theorem spec_equal_any (k : Int) (p : Option Addr) (n c : Nat) (m k' : Int) (q : Option Addr) (n' d : Nat) (m' : Int) (xs ys : List Int) (w : World) (hr : Rd .i64 w p n xs) (hs : Rd .i64 w q n' ys) : Calls Try.prog 141 #[.agg #[.int .i64 k, .slice p n c, .int .i64 m], .agg #[.int .i64 k', .slice q n' d, .int .i64 m']] w (SlPiece.Val (.bool (decide (cP k k' xs ys m m' = 0))) w) := by
  have hz := zero_iff (k := k) (k' := k') (xs := xs) (ys := ys) (m := m) (m' := m')
  have hB : Below w.heap.size w ((w.alloc (.cells #[.int .i64 k, .slice p n c, .int .i64 m] 97)).alloc (.cells #[.int .i64 k', .slice q n' d, .int .i64 m'] 97)) := ((Below.refl w.heap.size w).alloc (Nat.le_refl _) _).alloc (by simp) _
  have HX := Lib.hid ((Bx.new w 97 #[.int .i64 k, .slice p n c, .int .i64 m]).alloc (.cells #[.int .i64 k', .slice q n' d, .int .i64 m'] 97))
  have hy := Bx.new (w.alloc (.cells #[.int .i64 k, .slice p n c, .int .i64 m] 97)) 97 #[.int .i64 k', .slice q n' d, .int .i64 m']
  rw [World.size_alloc] at hy
  have HY := Lib.hid hy
  have HR := Lib.hid (hr.below hB)
  have HS := Lib.hid (hs.below hB)
  have HB := Lib.hid hB
  have L1 := Lib.hid hr.len
  have L2 := Lib.hid hs.len
  have hle := hr.le
  have hle' := hs.le
  clear hy hB hr hs
  by_cases h1 : k = k'
  rotate_left
  · have HE : Hid (decide (cP k k' xs ys m m' = 0) = false) := Lib.hid (by rw [hz, decide_eq_false h1]; rfl)
    have e1 : (k == k') = false := beq_eq_false_iff_ne.2 h1
    clear hz h1
    go_enter Try.func141, Try.ntmps141
    go_wp2_with fail
    go_ret
    exact says (by rw [HE.out]; try rfl) HB.out
  by_cases h2 : m = m'
  rotate_left
  · have HE : Hid (decide (cP k k' xs ys m m' = 0) = false) := Lib.hid (by rw [hz, decide_eq_false h2]; simp)
    have e1 : (m == m') = false := beq_eq_false_iff_ne.2 h2
    clear hz h2
    subst h1
    go_enter Try.func141, Try.ntmps141
    go_wp2_with fail
    go_ret
    exact says (by rw [HE.out]; try rfl) HB.out
  have HE : Hid (decide (cP k k' xs ys m m' = 0) = Eqi.eqL xs ys) := Lib.hid (by rw [hz, decide_eq_true h1, decide_eq_true h2]; rfl)
  clear hz
  subst h1
  subst h2
  go_enter Try.func141, Try.ntmps141
  go_wp2_with fail
  refine (Eqi.spec_eqI_any p q n n' c d xs ys _ HR.out HS.out).mono ?_
  rintro e w1 ⟨rfl, hb⟩
  replace HB := Lib.hid (below_on HB.out hb)
  clear hb
  go_wp2_with fail
  go_ret
  exact says (by rw [HE.out]; try rfl) HB.out
/-- the first k numbers are equal -/
theorem step {xs ys : List Int} {k : Nat} (h : cL xs ys = cL (xs.drop k) (ys.drop k)) (h1 : k < xs.length) (h2 : k < ys.length) (he : xs.getD k 0 = ys.getD k 0) : cL xs ys = cL (xs.drop (k + 1)) (ys.drop (k + 1)) := by
  rw [h, drop_at h1, drop_at h2, cL, if_pos he]
theorem first_ne {xs ys : List Int} {k : Nat} (h : cL xs ys = cL (xs.drop k) (ys.drop k)) (h1 : k < xs.length) (h2 : k < ys.length) (he : xs.getD k 0 ≠ ys.getD k 0) : cL xs ys = cI (xs.getD k 0) (ys.getD k 0) := by
  rw [h, drop_at h1, drop_at h2, cL, if_neg he]
theorem neg_iff {x y : Int} (h : x ≠ y) (k k' : Int) (m m' : Int) {xs ys : List Int} (he : cL xs ys = cI x y) : decide (cP k k' xs ys m m' < 0) = decide (x < y) := by
  unfold cP or3
  rw [he, if_pos (cI_ne h)]
  rcases (by omega : x < y ∨ y < x) with h' | h'
  · rw [cI_lt h']; simp [h']
  · rw [cI_gt h']
    have : ¬ x < y := by omega
    simp [this]
theorem len_short {xs ys : List Int} {k : Nat} (h : cL xs ys = cL (xs.drop k) (ys.drop k)) (h1 : xs.length = k) (h2 : k < ys.length) (k1 k2 m m' : Int) : decide (cP k1 k2 xs ys m m' < 0) = true := by
  have e : cL xs ys = -1 := by rw [h, List.drop_eq_nil_of_le (by omega), drop_at h2]; rfl
  unfold cP or3
  rw [e, if_pos (by omega)]
  rfl
theorem len_long {xs ys : List Int} {k : Nat} (h : cL xs ys = cL (xs.drop k) (ys.drop k)) (h1 : k < xs.length) (h2 : ys.length = k) (k1 k2 m m' : Int) : decide (cP k1 k2 xs ys m m' < 0) = false := by
  have d2 : ys.drop k = [] := List.drop_eq_nil_of_le (by omega)
  have e : cL xs ys = 1 := by rw [h, drop_at h1, d2]; rfl
  unfold cP or3
  rw [e, if_pos (by omega)]
  rfl
theorem len_same {xs ys : List Int} {k : Nat} (h : cL xs ys = cL (xs.drop k) (ys.drop k)) (h1 : xs.length = k) (h2 : ys.length = k) (k1 k2 m m' : Int) : cP k1 k2 xs ys m m' = or3 0 (cI k1 k2) (cI m m') := by
  have d1 : xs.drop k = [] := List.drop_eq_nil_of_le (by omega)
  have d2 : ys.drop k = [] := List.drop_eq_nil_of_le (by omega)
  unfold cP
  rw [h, d1, d2]
  rfl
theorem key_ne {a b : Int} (h : a ≠ b) (c : Int) : decide (or3 0 (cI a b) c < 0) = decide (a < b) := by
  unfold or3
  rw [if_neg (by simp), if_pos (cI_ne h)]
  rcases (by omega : a < b ∨ b < a) with h' | h'
  · rw [cI_lt h']; simp [h']
  · rw [cI_gt h']
    have : ¬ a < b := by omega
    simp [this]
theorem key_eq (a m m' : Int) : decide (or3 0 (cI a a) (cI m m') < 0) = decide (m < m') := by
  unfold or3
  rw [if_neg (by simp), cI_eq, if_neg (by simp)]
  rcases (by omega : m < m' ∨ m' < m ∨ m = m') with h' | h' | h'
  · rw [cI_lt h']; simp [h']
  · rw [cI_gt h']
    have : ¬ m < m' := by omega
    simp [this]
  · subst h'; simp [cI_eq]
theorem bell {W : World} {B : Nat} {w : World} (h : Below B W w) (q : Nat) : Below B W (w.drewN q) := below_drewN h q
end Go.Proofs.Ytjaholcmaafenaa.Cq
