/- Contracts: what touches, what covers; in the program (slices.ContainsFunc with a closure) and in the reference. -/
import Derived.Test.YtcenbbbghhmpfaaJs
import Derived.Test.YtcenbbbghhmpfaaShelfG
import Derived.Shelf.SlicesQ.IndexFunc
namespace Go.Proofs.Ytcenbbbghhmpfaa.Tc
open Go.ChangeShapes Go.WideShapes Go.ChangeAt Go.RowKit Go.Shelf Sl St Jn Sps SlSpan Jo

theorem nth_at {xs : List Sp} {j : Nat} (h : j < xs.length) : xs[j]? = some xs[j]! := by
  rw [List.getElem?_eq_getElem h]
  simp [h]
theorem index_none (g : Nat) (lb : Array Value) (q : Option Addr) (c : Nat) (w : World) : Calls Try.prog 98 #[.slice q 0 c, .func (.func g) #[] lb] w fun e w' => e = .returned (.int .i64 (-1)) ∧ w = w' := by
  go_enter Try.func98, Try.ntmps98
  go_wp2_with fail
  go_loop [8] (fun i => i = .int .i64 0) (fun _ => 0)
  case atStart => rfl
  case round =>
    obtain rfl := hrel
    go_wp2_with fail
    go_ret
    exact ⟨rfl, rfl⟩
/-- one of them is such -/
theorem has_any (pr : Sp → Bool) (g : Nat) (lb : Array Value) (eg : ∀ args w, (callFunc g args).run Try.prog w = .ok (.enter g args) w) (q : Option Addr) (n c : Nat) (xs : List Sp) (w : World) (hr : RdS E w q n xs)
    (hp : PredBelow Try.prog g lb (fun x => .agg (E.of x).toArray) pr w) : Calls Try.prog 67 #[.slice q n c, .func (.func g) #[] lb] w (Tells (xs.any pr) w) := by
  rcases Nat.eq_zero_or_pos n with hn | hn
  · subst hn
    obtain rfl : xs = [] := List.eq_nil_of_length_eq_zero hr.len
    go_enter Try.func67, Try.ntmps67
    go_wp2_with fail
    refine (index_none _ _ _ _ _).mono ?_
    rintro e w1 ⟨rfl, rfl⟩
    go_wp2_with fail
    go_ret
    exact ⟨rfl, Below.refl _ _⟩
  · obtain ⟨b, o, e, hb, hc⟩ := hr.2.2 hn
    subst e
    have h := AnyQ.slices_ContainsFunc Try.laysHas 2 Try.isAgg28 Try.sizeOf28 E.of E.len pr g lb eg b o n c xs w hp (by rw [hr.len]; exact Nat.le_refl _) hr.le hb (fun j hj i v hi => hc j _ (nth_at hj) i v hi)
    rw [List.take_of_length_le (by rw [hr.len]; exact Nat.le_refl _)] at h
    exact h
theorem touch_pred (a b : Int) (B : Nat) (w : World) (hB : B < w.heap.size) (hx : Bx w B 28 #[.int .i64 a, .int .i64 b]) :
    PredBelow Try.prog 68 #[.pointer (some ⟨B, 0, none⟩)] (fun x => .agg (E.of x).toArray) (fun x => meets x (a, b)) w := fun W x hb => by
  obtain ⟨xa, xb⟩ := x
  show Calls Try.prog 68 #[.agg #[.int .i64 xa, .int .i64 xb], .pointer (some ⟨B, 0, none⟩)] W _
  have HX := Lib.hid (hx.below hb)
  have hBW : B < W.heap.size := Nat.lt_of_lt_of_le hB hb.size
  have hne : B ≠ W.heap.size := by omega
  obtain ⟨c1, c2, c3, c4⟩ := HX.out.two
  have HB := Lib.hid hb
  clear hx hb
  go_enter Try.func68, Try.ntmps68
  go_wp2_with fail
  refine (meet_any _ _ _ _ _).mono ?_
  rintro e w1 ⟨rfl, hb1⟩
  have HB1 := Lib.hid ((HB.out.alloc HB.out.size _).trans (hb1.mono (Nat.le_trans HB.out.size (by simp))))
  clear hb1
  go_wp2_with fail
  go_ret
  exact ⟨rfl, HB1.out.alloc HB1.out.size _⟩
set_option maxRecDepth 100000 in
theorem touches_any (q : Option Addr) (n c : Nat) (xs : List Sp) (a b : Int) (w : World) (hr : RdS E w q n xs) : Calls Try.prog 22 #[.slice q n c, .agg #[.int .i64 a, .int .i64 b]] w (Tells (touches xs (a, b)) w) := by
  have HR := Lib.hid hr
  clear hr
  go_enter Try.func22, Try.ntmps22
  go_wp2_with fail
  refine (has_any (fun x => meets x (a, b)) _ _ (enters_of Try.func68 (by kernel_rfl) rfl) _ _ _ _ _ (HR.out.alloc _) (touch_pred a b _ _ (by simp) (Bx.new _ _ _))).mono ?_
  rintro e w1 ⟨rfl, hb1⟩
  have HB1 := Lib.hid (((Below.refl w.heap.size w).alloc (Nat.le_refl _) _).trans (hb1.mono (by simp)))
  clear hb1
  go_wp2_with fail
  go_ret
  exact ⟨rfl, HB1.out⟩
theorem cover_pred (a b : Int) (B : Nat) (w : World) (hB : B < w.heap.size) (hx : Bx w B 28 #[.int .i64 a, .int .i64 b]) :
    PredBelow Try.prog 69 #[.pointer (some ⟨B, 0, none⟩)] (fun x => .agg (E.of x).toArray) (fun x => inside (a, b) x) w := fun W x hb => by
  obtain ⟨xa, xb⟩ := x
  show Calls Try.prog 69 #[.agg #[.int .i64 xa, .int .i64 xb], .pointer (some ⟨B, 0, none⟩)] W _
  have HX := Lib.hid (hx.below hb)
  have hBW : B < W.heap.size := Nat.lt_of_lt_of_le hB hb.size
  have hne : B ≠ W.heap.size := by omega
  obtain ⟨c1, c2, c3, c4⟩ := HX.out.two
  have HB := Lib.hid hb
  clear hx hb
  go_enter Try.func69, Try.ntmps69
  go_wp2_with fail
  refine (inside_any _ _ _ _ _).mono ?_
  rintro e w1 ⟨rfl, hb1⟩
  have HB1 := Lib.hid ((HB.out.alloc HB.out.size _).trans (hb1.mono (Nat.le_trans HB.out.size (by simp))))
  clear hb1
  go_wp2_with fail
  go_ret
  exact ⟨rfl, HB1.out⟩
/-- on the way: none of those so far; the box of the one stands -/
def Way (a b : Int) (ys : List Sp) (w wr : World) : Prop := Below w.heap.size w wr ∧ Bx wr w.heap.size 28 #[.int .i64 a, .int .i64 b] ∧ touches ys (a, b) = false
theorem Way.start (a b : Int) (w : World) : Way a b [] w (w.alloc (.cells #[.int .i64 a, .int .i64 b] 28)) := ⟨(Below.refl _ _).alloc (Nat.le_refl _) _, Bx.new _ _ _, rfl⟩
theorem Way.next {a b : Int} {xs : List Sp} {k : Nat} {x : Sp} {w wr w2 : World} (h : Way a b (xs.take k) w wr) (hk : k < xs.length) (hx : xs[k] = x) (hm : meets x (a, b) = false) (hb : Below wr.heap.size wr w2) : Way a b (xs.take (k + 1)) w w2 := by
  subst hx
  refine ⟨below_on h.1 hb, h.2.1.below hb, ?_⟩
  have h3 := h.2.2
  unfold touches at h3 ⊢
  rw [take_at hk, List.any_append, h3]
  simp [hm]
theorem any_at {xs : List Sp} {k : Nat} {s x : Sp} (hk : k < xs.length) (hx : xs[k] = x) (h : meets x s = true) : touches xs s = true := by
  rw [← hx] at h
  unfold touches
  rw [List.any_eq_true]
  exact ⟨_, List.getElem_mem hk, h⟩
def CWay (a b : Int) (ys : List Sp) (w wr : World) : Prop := Below w.heap.size w wr ∧ Bx wr w.heap.size 28 #[.int .i64 a, .int .i64 b] ∧ ys.any (inside (a, b)) = false
theorem CWay.start {a b : Int} {w w1 : World} (h : Below (w.alloc (.cells #[.int .i64 a, .int .i64 b] 28)).heap.size (w.alloc (.cells #[.int .i64 a, .int .i64 b] 28)) w1) : CWay a b [] w w1 := ⟨((Below.refl w.heap.size w).alloc (Nat.le_refl _) _).trans (h.mono (by simp)), (Bx.new _ _ _).below h, rfl⟩
theorem CWay.next {a b : Int} {xs : List Sp} {k : Nat} {x : Sp} {w wr w2 : World} (h : CWay a b (xs.take k) w wr) (hk : k < xs.length) (hx : xs[k] = x) (hm : inside (a, b) x = false) (hb : Below wr.heap.size wr w2) : CWay a b (xs.take (k + 1)) w w2 := by
  subst hx
  refine ⟨below_on h.1 hb, h.2.1.below hb, ?_⟩
  rw [take_at hk, List.any_append, h.2.2]
  simp [hm]
theorem cany_at {xs : List Sp} {k : Nat} {s x : Sp} (hk : k < (join xs).length) (hx : (join xs)[k] = x) (h : inside s x = true) : covers xs s = true := by
  rw [← hx] at h
  unfold covers
  rw [List.any_eq_true]
  exact ⟨_, List.getElem_mem hk, h⟩
end Go.Proofs.Ytcenbbbghhmpfaa.Tc
