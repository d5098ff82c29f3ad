/- Contracts of the method that ends last of those in use; in the program and in the reference. -/
import Derived.Test.YtllkpapkkgfjaacMq
import Derived.Test.YtllkpapkkgfjaacMv
namespace Go.Proofs.Ytllkpapkkgfjaac.Mt
open Go.ChangeShapes Go.WideShapes Go.ChangeAt Go.RowKit Sl St Mn SlMethod Mm Mb Mq Mv Ints

/-- the cells of what was offered so far -/
def stc : Option Me → Array Value
  | none => #[.int .i64 (-1), .int .i64 0, .int .i64 0, .int .i64 0, .bool false]
  | some x => #[.int .i64 x.1, .int .i64 x.2.1, .int .i64 x.2.2.1, .int .i64 x.2.2.2, .bool true]
/-- what is kept when x is offered -/
def keep (s : Option Me) (x : Me) : Option Me := match s with | none => some x | some y => if y.2.2.1 < x.2.2.1 then some x else some y
/-- the call turns one block alone -/
def Puts (B : Nat) (cs : Array Value) (w : World) (e : Ending) (w' : World) : Prop := e = .returned (.tuple #[]) ∧ Bx w' B 162 cs ∧ w.grownBy w' (some B)
theorem bx5 {w : World} {g : Nat} {T : TypeId} {x y z u v : Value} (h : Bx w g T #[x, y, z, u, v]) : w.cell? ⟨g, 0, none⟩ = some x ∧ w.cell? ⟨g, 1, none⟩ = some y ∧ w.cell? ⟨g, 2, none⟩ = some z ∧ w.cell? ⟨g, 3, none⟩ = some u ∧ w.cell? ⟨g, 4, none⟩ = some v ∧ w.frozen? ⟨g, 0, none⟩ = false ∧ w.frozen? ⟨g, 1, none⟩ = false ∧ w.frozen? ⟨g, 2, none⟩ = false ∧ w.frozen? ⟨g, 3, none⟩ = false ∧ w.frozen? ⟨g, 4, none⟩ = false :=
  ⟨h.cell rfl, h.cell rfl, h.cell rfl, h.cell rfl, h.cell rfl, h.free _, h.free _, h.free _, h.free _, h.free _⟩
theorem grown_more {w w1 : World} {g : Nat} (h : w.grownBy w1 (some g)) (j : Nat) (v : Value) : w.grownBy (w1.setCell ⟨g, j, none⟩ v) (some g) :=
  ⟨h.os, h.tape, h.output, by simpa [World.setCell] using h.size, fun i hi hne => (Below.heap_setCell w1 ⟨g, j, none⟩ v i (by rintro rfl; exact hne rfl)).trans (h.block i hi hne)⟩
theorem put5 {w w1 : World} {g : Nat} {T : TypeId} {a b c d e : Value} (h : Bx w1 g T #[a, b, c, d, e]) (hg : w.grownBy w1 (some g)) (x0 x1 x2 x3 x4 : Value) :
    Bx (((((w1.setCell ⟨g, 0, none⟩ x0).setCell ⟨g, 1, none⟩ x1).setCell ⟨g, 2, none⟩ x2).setCell ⟨g, 3, none⟩ x3).setCell ⟨g, 4, none⟩ x4) g T #[x0, x1, x2, x3, x4] ∧ w.grownBy (((((w1.setCell ⟨g, 0, none⟩ x0).setCell ⟨g, 1, none⟩ x1).setCell ⟨g, 2, none⟩ x2).setCell ⟨g, 3, none⟩ x3).setCell ⟨g, 4, none⟩ x4) (some g) :=
  ⟨((((h.set_ 0 x0).set_ 1 x1).set_ 2 x2).set_ 3 x3).set_ 4 x4, grown_more (grown_more (grown_more (grown_more (grown_more hg 0 x0) 1 x1) 2 x2) 3 x3) 4 x4⟩
theorem drewN_grown {w w1 : World} {r : Option Nat} (h : w.grownBy w1 r) (n : Nat) : w.grownBy (w1.drewN n) r := ⟨h.os, h.tape, h.output, h.size, h.block⟩
set_option maxRecDepth 100000 in
set_option maxHeartbeats 4000000 in
theorem offer_any (B : Nat) (s : Option Me) (x0 x1 x2 x3 : Int) (w : World) (hB : Bx w B 162 (stc s)) : Calls Try.prog 137 #[.pointer (some ⟨B, 0, none⟩), .agg #[.int .i64 x0, .int .i64 x1, .int .i64 x2, .int .i64 x3]] w (Puts B (stc (keep s (x0, x1, x2, x3))) w) := by
  have HX := Lib.hid (hB.alloc (.cells #[.int .i64 x0, .int .i64 x1, .int .i64 x2, .int .i64 x3] 103))
  have HG := Lib.hid (World.grownBy_alloc w (.cells #[.int .i64 x0, .int .i64 x1, .int .i64 x2, .int .i64 x3] 103) (some B))
  obtain ⟨m0, m1, m2, m3⟩ := bx4 (Bx.new w 103 #[.int .i64 x0, .int .i64 x1, .int .i64 x2, .int .i64 x3])
  clear hB
  cases s with
  | none =>
    obtain ⟨c0, c1, c2, c3, c4, f0, f1, f2, f3, f4⟩ := bx5 HX.out
    go_enter Try.func137, Try.ntmps137
    go_wp2_with fail
    go_quiet (fail)
    go_wp2_with fail
    obtain ⟨h1, h2⟩ := put5 (Bx.drewN HX.out nq) (drewN_grown HG.out nq) (.int .i64 x0) (.int .i64 x1) (.int .i64 x2) (.int .i64 x3) (.bool true)
    go_end0
    exact ⟨rfl, h1, h2⟩
  | some y =>
    obtain ⟨y0, y1, y2, y3⟩ := y
    obtain ⟨c0, c1, c2, c3, c4, f0, f1, f2, f3, f4⟩ := bx5 HX.out
    by_cases hlt : y2 < x2
    · have HK : Hid (keep (some (y0, y1, y2, y3)) (x0, x1, x2, x3) = some (x0, x1, x2, x3)) := Lib.hid (if_pos hlt)
      go_enter Try.func137, Try.ntmps137
      go_wp2_with fail
      go_quiet (fail)
      go_wp2_with fail
      obtain ⟨h1, h2⟩ := put5 (Bx.drewN HX.out nq) (drewN_grown HG.out nq) (.int .i64 x0) (.int .i64 x1) (.int .i64 x2) (.int .i64 x3) (.bool true)
      go_end0
      exact ⟨rfl, by rw [HK.out]; exact h1, h2⟩
    · have HK : Hid (keep (some (y0, y1, y2, y3)) (x0, x1, x2, x3) = some (y0, y1, y2, y3)) := Lib.hid (if_neg hlt)
      go_enter Try.func137, Try.ntmps137
      go_wp2_with fail
      go_quiet (fail)
      go_wp2_with fail
      go_end0
      exact ⟨rfl, by rw [HK.out]; exact Bx.drewN HX.out nq, drewN_grown HG.out nq⟩

/-! ### the loop of the program -/
def stOf (xs : List Me) (o : Option Nat) : Option Me := o.map fun b => xs.getD b z4
theorem stOf_out {xs : List Me} {t : Int} {k : Nat} (h : ¬ inUse (xs.getD k z4) t) : stOf xs (bestN xs t (k + 1)) = stOf xs (bestN xs t k) := by rw [bestN_out h]
theorem stOf_in {xs : List Me} {t : Int} {k : Nat} (h : inUse (xs.getD k z4) t) : stOf xs (bestN xs t (k + 1)) = keep (stOf xs (bestN xs t k)) (xs.getD k z4) := by
  rcases hb : bestN xs t k with _ | b
  · rw [bestN_first h hb]; rfl
  · by_cases hm : (xs.getD b z4).2.2.1 < (xs.getD k z4).2.2.1
    · rw [bestN_more h hb hm]; exact (if_pos hm).symm
    · rw [bestN_less h hb hm]; exact (if_neg hm).symm
theorem best_st (xs : List Me) (t : Int) (n : Nat) (h : xs.length = n) : (stc (stOf xs (bestN xs t n)))[0]? = some (.int .i64 (best xs t)) := by
  subst h
  rcases hb : bestN xs t xs.length with _ | b
  · rw [best_none hb]; rfl
  · rw [best_at hb]; rfl
set_option maxRecDepth 100000 in
set_option maxHeartbeats 4000000 in
theorem best_any (p : Option Addr) (n c : Nat) (xs : List Me) (t : Int) (w : World) (hr : RdS E w p n xs) : Calls Try.prog 80 #[.slice p n c, .int .i64 t] w (Val (.int .i64 (best xs t)) w) := by
  have HR := Lib.hid hr
  have HL := Lib.hid hr.len
  have hle := hr.le
  have HN := Lib.hid (Bx.new w 162 (stc none))
  have HB0 := Lib.hid (box1 w (.cells (stc none) 162))
  clear hr
  go_enter Try.func80, Try.ntmps80
  go_wp2_with fail
  go_loopw [12] (fun i wr => ∃ k : Nat, k ≤ n ∧ i = .int .i64 k ∧ Hid (Bx wr w.heap.size 162 (stc (stOf xs (bestN xs t k))) ∧ Below w.heap.size w wr)) (fun i _ => n - (intOf i).toNat)
  case atStart => exact ⟨0, Nat.zero_le _, rfl, Lib.hid ⟨HN.out, HB0.out⟩⟩
  case round =>
    obtain ⟨k, hk, rfl, HK⟩ := hrel
    by_cases hlt : k < n
    · obtain ⟨b, o, x0, x1, x2, x3, rfl, hb, hx, hat⟩ := c4_at (HR.out.below HK.out.2) hlt
      have HX := Lib.hid hx
      have HBX := Lib.hid (HK.out.1.alloc (.cells #[.int .i64 x0, .int .i64 x1, .int .i64 x2, .int .i64 x3] 103))
      have HW := Lib.hid (HK.out.2.alloc HK.out.2.size (.cells #[.int .i64 x0, .int .i64 x1, .int .i64 x2, .int .i64 x3] 103))
      obtain ⟨g0, g1, g2, g3⟩ := hat
      rcases hβ : (decide (x1 ≤ t) && decide (t < x2)) with _ | _
      · have HQ := Lib.hid hβ
        have HS := Lib.hid (stOf_out (xs := xs) (t := t) (k := k) (by rw [HX.out]; rintro ⟨h1, h2⟩; have h3 : x1 ≤ t := h1; have h4 : t < x2 := h2; rw [decide_eq_true h3, decide_eq_true h4] at hβ; cases hβ))
        clear hx hβ
        go_wp2_with fail
        refine (from_any t x1 x2 _ HQ.out _).mono ?_
        rintro e w1 ⟨rfl, rfl⟩
        go_wp2_with fail
        go_roundw
        case rel => exact ⟨k + 1, by omega, by go_num, Lib.hid ⟨by rw [HS.out]; exact HBX.out, HW.out⟩⟩
        case measure => simp [intOf]; omega
      · have HQ := Lib.hid hβ
        have HS := Lib.hid (stOf_in (xs := xs) (t := t) (k := k) (by rw [HX.out]; simp at hβ; exact hβ))
        clear hx hβ
        go_wp2_with fail
        refine (from_any t x1 x2 _ HQ.out _).mono ?_
        rintro e w1 ⟨rfl, rfl⟩
        go_wp2_with fail
        refine (offer_any w.heap.size _ x0 x1 x2 x3 _ HBX.out).mono ?_
        rintro e w1 ⟨rfl, hb1, hg1⟩
        have HB1 := Lib.hid hb1
        have HW1 := Lib.hid (HW.out.grown hg1 HW.out.size (fun q e => by cases e; exact Nat.le_refl _))
        clear hb1 hg1
        go_wp2_with fail
        go_roundw
        case rel => exact ⟨k + 1, by omega, by go_num, Lib.hid ⟨by rw [HS.out, HX.out]; exact HB1.out, HW1.out⟩⟩
        case measure => simp [intOf]; omega
    · obtain rfl : k = n := by omega
      have c0 := HK.out.1.cell (best_st xs t k HL.out)
      go_wp2_with fail
      go_ret
      exact ⟨rfl, HK.out.2⟩

/-! ### the reference -/
def bI : Option Nat → Int | none => -1 | some b => (b : Int)
end Go.Proofs.Ytllkpapkkgfjaac.Mt
