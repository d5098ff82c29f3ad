/- Contracts: what touches, what covers; in the program (slices.ContainsFunc with a closure) and in the reference. -/
import Derived.Test.YtlgkgccmilapbaaJs
import Derived.Test.YtlgkgccmilapbaaShelfG
import Derived.Shelf.SlicesQ.IndexFunc
namespace Go.Proofs.Ytlgkgccmilapbaa.Tc
open Go.ChangeShapes Go.WideShapes Go.ChangeAt Go.RowKit Go.Shelf Sl St Jn Sps SlSpan Jo

theorem nth_at {xs : List Sp} {j : Nat} (h : j < xs.length) : xs[j]? = some xs[j]! := by
  rw [List.getElem?_eq_getElem h]
  simp [h]
theorem index_none (g : Nat) (lb : Array Value) (q : Option Addr) (c : Nat) (w : World) : Calls Try.prog 101 #[.slice q 0 c, .func (.func g) #[] lb] w fun e w' => e = .returned (.int .i64 (-1)) ∧ w = w' := by
  go_enter Try.func101, Try.ntmps101
  go_wp2_with fail
  go_loop [8] (fun i => i = .int .i64 0) (fun _ => 0)
  case atStart => rfl
  case round =>
    obtain rfl := hrel
    go_wp2_with fail
    go_ret
    exact ⟨rfl, rfl⟩
/-- one of them is such -/
theorem has_any (pr : Sp → Bool) (g : Nat) (lb : Array Value) (eg : ∀ args w, (callFunc g args).run Try.prog w = .ok (.enter g args) w) (q : Option Addr) (n c : Nat) (xs : List Sp) (w : World) (hr : RdS E w q n xs)
    (hp : PredBelow Try.prog g lb (fun x => .agg (E.of x).toArray) pr w) : Calls Try.prog 77 #[.slice q n c, .func (.func g) #[] lb] w (Tells (xs.any pr) w) := by
  rcases Nat.eq_zero_or_pos n with hn | hn
  · subst hn
    obtain rfl : xs = [] := List.eq_nil_of_length_eq_zero hr.len
    go_enter Try.func77, Try.ntmps77
    go_wp2_with fail
    refine (index_none _ _ _ _ _).mono ?_
    rintro e w1 ⟨rfl, rfl⟩
    go_wp2_with fail
    go_ret
    exact ⟨rfl, Below.refl _ _⟩
  · obtain ⟨b, o, e, hb, hc⟩ := hr.2.2 hn
    subst e
    have h := AnyQ.slices_ContainsFunc Try.laysHasSpan 2 Try.isAgg40 Try.sizeOf40 E.of E.len pr g lb eg b o n c xs w hp (by rw [hr.len]; exact Nat.le_refl _) hr.le hb (fun j hj i v hi => hc j _ (nth_at hj) i v hi)
    rw [List.take_of_length_le (by rw [hr.len]; exact Nat.le_refl _)] at h
    exact h
theorem cover_pred (a b : Int) (B : Nat) (w : World) (hB : B < w.heap.size) (hx : Bx w B 40 #[.int .i64 a, .int .i64 b]) :
    PredBelow Try.prog 78 #[.pointer (some ⟨B, 0, none⟩)] (fun x => .agg (E.of x).toArray) (fun x => inside (a, b) x) w := fun W x hb => by
  obtain ⟨xa, xb⟩ := x
  show Calls Try.prog 78 #[.agg #[.int .i64 xa, .int .i64 xb], .pointer (some ⟨B, 0, none⟩)] W _
  have HX := Lib.hid (hx.below hb)
  have hBW : B < W.heap.size := Nat.lt_of_lt_of_le hB hb.size
  have hne : B ≠ W.heap.size := by omega
  obtain ⟨c1, c2, c3, c4⟩ := HX.out.two
  have HB := Lib.hid hb
  clear hx hb
  go_enter Try.func78, Try.ntmps78
  go_wp2_with fail
  refine (inside_any _ _ _ _ _).mono ?_
  rintro e w1 ⟨rfl, hb1⟩
  have HB1 := Lib.hid ((HB.out.alloc HB.out.size _).trans (hb1.mono (Nat.le_trans HB.out.size (by simp))))
  clear hb1
  go_wp2_with fail
  go_ret
  exact ⟨rfl, HB1.out⟩
/-- on the way: none of those so far; the box of the one stands -/
def Way (a b : Int) (ys : List Sp) (w wr : World) : Prop := Below w.heap.size w wr ∧ Bx wr w.heap.size 40 #[.int .i64 a, .int .i64 b] ∧ touches ys (a, b) = false
theorem Way.start (a b : Int) (w : World) : Way a b [] w (w.alloc (.cells #[.int .i64 a, .int .i64 b] 40)) := ⟨(Below.refl _ _).alloc (Nat.le_refl _) _, Bx.new _ _ _, rfl⟩
theorem Way.next {a b : Int} {xs : List Sp} {k : Nat} {x : Sp} {w wr w2 : World} (h : Way a b (xs.take k) w wr) (hk : k < xs.length) (hx : xs[k] = x) (hm : meets x (a, b) = false) (hb : Below wr.heap.size wr w2) : Way a b (xs.take (k + 1)) w w2 := by
  subst hx
  refine ⟨below_on h.1 hb, h.2.1.below hb, ?_⟩
  have h3 := h.2.2
  unfold touches at h3 ⊢
  rw [take_at hk, List.any_append, h3]
  simp [hm]
theorem any_at {xs : List Sp} {k : Nat} {s x : Sp} (hk : k < xs.length) (hx : xs[k] = x) (h : meets x s = true) : touches xs s = true := by
  rw [← hx] at h
  unfold touches
  rw [List.any_eq_true]
  exact ⟨_, List.getElem_mem hk, h⟩
def CWay (a b : Int) (ys : List Sp) (w wr : World) : Prop := Below w.heap.size w wr ∧ Bx wr w.heap.size 40 #[.int .i64 a, .int .i64 b] ∧ ys.any (inside (a, b)) = false
theorem CWay.start {a b : Int} {w w1 : World} (h : Below (w.alloc (.cells #[.int .i64 a, .int .i64 b] 40)).heap.size (w.alloc (.cells #[.int .i64 a, .int .i64 b] 40)) w1) : CWay a b [] w w1 := ⟨((Below.refl w.heap.size w).alloc (Nat.le_refl _) _).trans (h.mono (by simp)), (Bx.new _ _ _).below h, rfl⟩
theorem CWay.next {a b : Int} {xs : List Sp} {k : Nat} {x : Sp} {w wr w2 : World} (h : CWay a b (xs.take k) w wr) (hk : k < xs.length) (hx : xs[k] = x) (hm : inside (a, b) x = false) (hb : Below wr.heap.size wr w2) : CWay a b (xs.take (k + 1)) w w2 := by
  subst hx
  refine ⟨below_on h.1 hb, h.2.1.below hb, ?_⟩
  rw [take_at hk, List.any_append, h.2.2]
  simp [hm]
theorem cany_at {xs : List Sp} {k : Nat} {s x : Sp} (hk : k < (join xs).length) (hx : (join xs)[k] = x) (h : inside s x = true) : covers xs s = true := by
  rw [← hx] at h
  unfold covers
  rw [List.any_eq_true]
  exact ⟨_, List.getElem_mem hk, h⟩
set_option maxRecDepth 100000 in
set_option maxHeartbeats 1000000 in
theorem spec_covers_any (p : Option Addr) (n c : Nat) (xs : List Sp) (a b : Int) (w : World) (hr : RdS E w p n xs) (hn : n ≤ 1099511627776) : Calls Try.prog 51 #[.slice p n c, .agg #[.int .i64 a, .int .i64 b]] w (Tells (covers xs (a, b)) w) := by
  have HR := Lib.hid hr
  have HL := Lib.hid hr.len
  have hle := hr.le
  clear hr
  go_enter Try.func51, Try.ntmps51
  go_wp2_with fail
  refine (spec_join_any _ _ _ _ _ (HR.out.alloc _) hn).mono ?_
  rintro e w1 ⟨q, m, cc, rfl, ho, hb1⟩
  have HR1 := Lib.hid ho.rd
  have hle := ho.rd.le
  have HL := Lib.hid ho.rd.len
  have HB1 := Lib.hid hb1
  clear ho hb1
  go_wp2_with fail
  go_loopw [6] (fun i wr => ∃ k : Nat, k ≤ m ∧ i = .int .i64 k ∧ Hid (CWay a b ((join xs).take k) w wr ∧ Below w1.heap.size w1 wr)) (fun i _ => m - (intOf i).toNat)
  case atStart => exact ⟨0, Nat.zero_le _, rfl, Lib.hid ⟨CWay.start HB1.out, Below.refl _ _⟩⟩
  case round =>
    obtain ⟨k, hk, rfl, HW⟩ := hrel
    by_cases hlt : k < m
    · obtain ⟨g, o, rfl, hg, hat⟩ := rd_at (HR1.out.below HW.out.2) hlt
      have hkL : Hid (k < (join xs).length) := Lib.hid (by rw [HL.out]; exact hlt)
      generalize hx : (join xs).getD k zero = x at hat
      have HX := Lib.hid (getD_at hkL.out hx)
      obtain ⟨xa, xb⟩ := x
      obtain ⟨c1, c2, c3, c4⟩ := HW.out.1.2.1.two
      have HAT := Lib.hid hat
      obtain ⟨hc0, hc1⟩ := hat
      simp only at hc0 hc1
      clear hx
      have i1 : (0 : Int) ≤ (k : Int) := by omega
      have i2 : (k : Int) < (m : Int) := by omega
      have hwl : w.heap.size < wr.heap.size := HW.out.1.2.1.lt
      rcases hmt : inside (a, b) (xa, xb) with _ | _
      all_goals
        have HMt := Lib.hid hmt
        clear hmt
        go_wp2_with fail
        go_region_held3 (fun w' => w'.cell? ⟨g, o + k * 2, none⟩ = some (.int .i64 xa) ∧ w'.cell? ⟨g, o + k * 2 + 1, none⟩ = some (.int .i64 xb) ∧ w'.cell? ⟨w.heap.size, 0, none⟩ = some (.int .i64 a) ∧ w'.cell? ⟨w.heap.size, 1, none⟩ = some (.int .i64 b)) (first | exact ⟨hat2.1, hat2.2, HX2.out.cell rfl, HX2.out.cell rfl⟩ | go_keep) (first
          | (go_at_call 76; refine (spec_inside_any _ _ _ _ _).mono ?_; rintro e w2 ⟨rfl, hb2⟩; rw [HMt.out]; have HB2 := Lib.hid ((below_drewN (Below.refl wr.heap.size wr) 1).trans hb2); have hat2 := HAT.out.below HB2.out hg; have HX2 := Lib.hid (HW.out.1.2.1.below HB2.out); clear hb2))
        go_wp2_with fail
        first
          | (go_roundw; (case rel => exact ⟨k + 1, by omega, by go_num, Lib.hid ⟨HW.out.1.next hkL.out HX.out HMt.out HB2.out, below_on HW.out.2 HB2.out⟩⟩); (case measure => simp [intOf]; omega))
          | (go_ret; refine ⟨?_, below_on HW.out.1.1 HB2.out⟩; rw [cany_at hkL.out HX.out HMt.out]; rfl)
    · obtain rfl : k = m := by omega
      go_wp2_with fail
      go_ret
      have h := HW.out.1.2.2
      rw [List.take_of_length_le (by rw [HL.out]; exact Nat.le_refl _)] at h
      refine ⟨?_, HW.out.1.1⟩
      rw [show covers xs (a, b) = false from h]
      rfl
end Go.Proofs.Ytlgkgccmilapbaa.Tc
