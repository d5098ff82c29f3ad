/- Contracts: the stretches gone through (a range over a function), those at whose beginning it is so, joined. -/
import Derived.RangeFuncNested
import Derived.RangeFuncBound
import Derived.RangeFuncCalls
import Derived.RangeFuncLeaves
import Derived.RangeFuncBox
import Derived.Shelf.Abstract
import Derived.WalkKit
import Derived.OwnWalkIn
import Derived.TacticsInMore
import Derived.LoopNIn
import Derived.LoopIn
import Derived.Test.YtlgkgccmilapbaaEg1
import Derived.Test.YtlgkgccmilapbaaJi
import Derived.Test.YtlgkgccmilapbaaQt
import Derived.Test.YtlgkgccmilapbaaCi
namespace Go.Proofs.Ytlgkgccmilapbaa.Eg2
open Go.ChangeShapes Go.WideShapes Go.ChangeAt Go.RowKit Go.Shelf Sl St Jn Sps SlSpan Fnd Ki Eg
attribute [local go_sem] Oper.semAt_some
/-! ### what turns is of another type -/
def Typed (w : World) (T : TypeId) (row : Option Nat) : Prop := ∀ r, row = some r → ∃ cur, w.heap[r]? = some (.cells cur T (0, 0))
theorem typed_own {α : Type} {E : En α} {T : TypeId} {w : World} {lo hi n c : Nat} {p : Option Addr} {xs : List α} (h : OwS E T w lo hi p n c xs) : Typed w T (Value.slice p n c).ownBlock := fun _ e => Tn.own_type h.1 e
theorem typed_bx {w : World} {g : Nat} {T : TypeId} {cs : Array Value} (h : Bx w g T cs) : Typed w T (some g) := fun r e => by cases e; exact ⟨cs, h⟩
theorem ow_typed {T T' : TypeId} {w w' : World} {row : Option Nat} {lo hi n c : Nat} {p : Option Addr} {zs : List Int} (h : Ow .i64 T w lo hi p n c zs) (hg : w.grownBy w' row) (ht : Typed w T' row) (hne : T ≠ T') : Ow .i64 T w' lo hi p n c zs := Tn.owI_turn h (Tn.Turn.of_grown hg) fun g e hs => Tn.type_ne (Tn.own_type h.1 e) (ht g hs) hne
theorem owS_typed {α : Type} {E : En α} {T T' : TypeId} {w w' : World} {row : Option Nat} {lo hi n c : Nat} {p : Option Addr} {xs : List α} (h : OwS E T w lo hi p n c xs) (hg : w.grownBy w' row) (ht : Typed w T' row) (hne : T ≠ T') : OwS E T w' lo hi p n c xs := Tn.owS_turn h (Tn.Turn.of_grown hg) fun g e hs => Tn.type_ne (Tn.own_type h.1 e) (ht g hs) hne
theorem bx_typed {T T' : TypeId} {w w' : World} {row : Option Nat} {g : Nat} {cs : Array Value} (h : Bx w g T cs) (hg : w.grownBy w' row) (ht : Typed w T' row) (hne : T ≠ T') : Bx w' g T cs := h.grown hg fun e => Tn.type_ne ⟨cs, h⟩ (ht g e.symm) hne
theorem grown_set1 (w : World) (g j : Nat) (v : Value) : w.grownBy (w.setCell ⟨g, j, none⟩ v) (some g) := ⟨rfl, rfl, rfl, by simp [World.setCell], fun i hi hne => Below.heap_setCell w ⟨g, j, none⟩ v i (by rintro rfl; exact hne rfl)⟩
theorem bx_own {A B : World} {row : Option Nat} {g : Nat} {T : TypeId} {cs : Array Value} (h : Bx A g T cs) (hg : A.grownBy B row) (hr : ∀ r, row = some r → ∃ o : Obj, A.heap[r]? = some o ∧ o.isCells = false) : Bx B g T cs :=
  h.grown hg (fun e => by obtain ⟨o, ho, hc⟩ := hr g e.symm; rw [show A.heap[g]? = _ from h] at ho; cases ho; cases hc)
theorem owS_own {α : Type} {E : En α} {T : TypeId} {A B : World} {row : Option Nat} {lo hi n c : Nat} {p : Option Addr} {xs : List α} (h : OwS E T A lo hi p n c xs) (hg : A.grownBy B row) (hr : ∀ r, row = some r → ∃ o : Obj, A.heap[r]? = some o ∧ o.isCells = false) : OwS E T B lo hi p n c xs := Tn.owS_turn h (Tn.Turn.of_grown hg) fun g e hs => by
  obtain ⟨o, ho, hc⟩ := hr g hs
  obtain ⟨cur, h2⟩ := Tn.own_type h.1 e
  rw [h2] at ho
  cases ho
  cases hc
theorem ow_own {T : TypeId} {A B : World} {row : Option Nat} {lo hi n c : Nat} {p : Option Addr} {zs : List Int} (h : Ow .i64 T A lo hi p n c zs) (hg : A.grownBy B row) (hr : ∀ r, row = some r → ∃ o : Obj, A.heap[r]? = some o ∧ o.isCells = false) : Ow .i64 T B lo hi p n c zs := Tn.owI_turn h (Tn.Turn.of_grown hg) fun g e hs => by
  obtain ⟨o, ho, hc⟩ := hr g hs
  obtain ⟨cur, h2⟩ := Tn.own_type h.1 e
  rw [h2] at ho
  cases ho
  cases hc
/-! ### an append in a round -/
theorem wpListIn_app1S {α : Type} {E : En α} {T : TypeId} {F : Fence} {N : Nat} {P : Program} {w : World} {ops : Array Oper} {rest : List Oper} {o : Oper} {a : Act} {Q : Exit → Act → World → Prop} {lo hi : Nat} {p : Option Addr} {n c : Nat} {xs : List α}
    (hgd : o.guard = none) (s x : Operand) (t : TypeId) (ho : o.op = .call { callee := .builtin .append, args := #[s, x], argTypes := #[t, t] })
    (i : TypeInfo) (z : Value) (bytes : Nat) (ht : P.underlying t = some (.slice T)) (hi' : P.info? T = some i) (hz : i.zero = some z) (hsize : i.size = E.C) (hby : i.bytes = bytes) (hzs : z.cells.size = E.C)
    (hs : a.eval s = .slice p n c) (how : OwS E T w lo hi p n c xs) (g cc : Nat) (y : α) (hx : a.eval x = .slice (some ⟨g, 0, none⟩) 1 cc) (hc : ∀ j v, (E.of y)[j]? = some v → w.cell? ⟨g, j, none⟩ = some v)
    (hlo : lo ≤ w.heap.size) (hb : (n + 1) * bytes ≤ 140737488355328) (hb' : n + 1 ≤ 140737488355328)
    (h : ∀ p' c' w', OwS E T w' lo w'.heap.size p' (n + 1) c' (xs ++ [y]) → w.grownBy w' (Value.slice p n c).ownBlock → wpListIn F N P ops Q rest (a.put o.dst (.slice p' (n + 1) c')) w') : wpListIn F N P ops Q (o :: rest) a w := by
  refine wpListIn_append_own w hgd s x t ho lo T i z E.C bytes ht hi' hz hsize hby hzs E.pos (.slice p n c) n (fl E xs) hs how.own ⟨g, 0, none⟩ 1 cc (E.of y) hx (by rw [E.len, Nat.one_mul]) (fun j u hu => by rw [Addr.add_lit, Nat.zero_add]; exact hc j u hu) (E.one y) (by unfold maxLen; omega) hb hlo ?_
  intro v' w' hown hg _
  obtain ⟨p3, c3, rfl⟩ : ∃ p3 c3, v' = .slice p3 (n + 1) c3 := row_formS hown
  rw [← fl_one E y, ← fl_append] at hown
  exact h p3 c3 w' (OwS.of_row hown) hg
/-! ### what comes -/
def encs (x : Sp) : Array Value := #[.agg #[.int .i64 x.1, .int .i64 x.2]]
def upto {α : Type} (f : Nat → α) (k : Nat) : List α := (List.range k).map f
theorem upto_succ {α : Type} (f : Nat → α) (k : Nat) : upto f (k + 1) = upto f k ++ [f k] := by simp [upto, List.range_succ]
theorem upto_length {α : Type} (f : Nat → α) (k : Nat) : (upto f k).length = k := by simp [upto]
def str (ds : List Int) (k : Nat) : Sp := (ds.getD k 0, ds.getD (k + 1) 0 - 1)
theorem strs_upto : ∀ ds : List Int, Egm.strs ds = upto (str ds) (ds.length - 1)
  | [] => rfl
  | [a] => rfl
  | a :: b :: r => by
    have ih := strs_upto (b :: r)
    show (a, b - 1) :: Egm.strs (b :: r) = _
    rw [ih]
    unfold upto
    rw [show (a :: b :: r).length - 1 = ((b :: r).length - 1) + 1 by simp, List.range_succ_eq_map, List.map_cons, List.map_map]
    rfl
/-- what a round keeps: what lay before the call, the list of changes and its variable -/
def Kp (B Bs lo hi : Nat) (p : Option Addr) (n c : Nat) (ds : List Int) (W W' : World) : Prop := Below B W W' ∧ (Bx W Bs 117 #[.slice p n c] → Bx W' Bs 117 #[.slice p n c]) ∧ (Ow .i64 3 W lo hi p n c ds → Ow .i64 3 W' lo hi p n c ds)
theorem Kp.trans {B Bs lo hi : Nat} {p : Option Addr} {n c : Nat} {ds : List Int} {X Y Z : World} (h : Kp B Bs lo hi p n c ds X Y) (k : Kp B Bs lo hi p n c ds Y Z) : Kp B Bs lo hi p n c ds X Z := ⟨h.1.trans k.1, fun x => k.2.1 (h.2.1 x), fun x => k.2.2 (h.2.2 x)⟩
set_option maxRecDepth 100000 in
set_option maxHeartbeats 4000000 in
theorem strs_in (F : Fence) (m : Nat) (hF : F.fn 98) (hro : F.round = none) (hm : 1 ≤ m) (B l Bs lo hi : Nat) (p : Option Addr) (n c : Nat) (ds : List Int) (h1 : 1 ≤ n) (hn : n ≤ 5) (hc : n + 1 ≤ c) (hd : ∀ x ∈ ds, 0 ≤ x ∧ x ≤ 10001) (J Jx : List Sp → World → Prop)
    (hY : ∀ pre x W, J pre W → pre.length < n → YieldAt F (m - 1) Try.prog l (encs x) W fun e W' =>
      (e = .returned (.bool true) ∧ J (pre ++ [x]) W' ∧ Kp B Bs lo hi p (n + 1) c ds W W') ∨ (e = .returned (.bool false) ∧ Jx (pre ++ [x]) W'))
    (W : World) (hO : Ow .i64 3 W lo hi p (n + 1) c ds) (hBs : Bx W Bs 117 #[.slice p (n + 1) c]) (h0 : J [] W) :
    CallsIn F m Try.prog 98 #[.func (.yield l) #[] #[], .pointer (some ⟨Bs, 0, none⟩)] W fun e W' => (∃ v, e = .returned v) ∧
      ((∃ ys, ys = upto (str ds) n ∧ J ys W') ∨ (∃ pre, (∃ k, k ≤ n ∧ pre = upto (str ds) k) ∧ Jx pre W')) := by
  have hl := hO.len
  obtain ⟨b, o, rfl, _, _⟩ := hO.rd.at_ (i := 0) (by omega)
  have hcs := hBs.cell (j := 0) rfl
  have hc1 : ¬ c = 1 := by omega
  have hc2 : 1 ≤ c := by omega
  refine callsIn_of_wp Try.func98 rfl hF ?_ hro
  simp only [Try.ntmps98, List.size_toArray, List.length_cons, List.length_nil, Nat.reduceAdd, Nat.reduceSub, Array.replicate_succ, Array.replicate_zero, List.push_toArray, List.append_toArray, List.nil_append, List.cons_append]
  gi_wp2
  gi_loopw [8] (fun i wr => ∃ k : Nat, k ≤ n ∧ i = .int .i64 k ∧ J (upto (str ds) k) wr ∧ Ow .i64 3 wr lo hi (some ⟨b, o, none⟩) (n + 1) c ds ∧ Bx wr Bs 117 #[.slice (some ⟨b, o, none⟩) (n + 1) c]) (fun i _ => n - (intOf i).toNat)
  case atStart => exact ⟨0, Nat.zero_le _, rfl, h0, hO, hBs⟩
  case round =>
    obtain ⟨k, hk, rfl, hJ, hOr, hX⟩ := hrel
    by_cases hlt : k < n
    · obtain ⟨b1, o1, e1, _, g1⟩ := hOr.rd.at_ (i := k + 1) (by omega)
      obtain ⟨b2, o2, e2, _, g0⟩ := hOr.rd.at_ (i := k) (by omega)
      cases e1
      cases e2
      obtain ⟨fn, tmps, assign, body, hy, hRR⟩ := hY _ (str ds k) wr hJ (by rw [upto_length]; omega)
      rw [← upto_succ] at hRR
      have hb := hd (ds.getD (k + 1) 0) (getD_mem 0 (by omega))
      simp only [encs, str] at hy
      generalize ds.getD (k + 1) 0 = d at g1 hy hb
      generalize ds.getD k 0 = a at g0 hy
      rw [show o + (k + 1) = o + 1 + k by omega] at g1
      have hcx := hX.cell (j := 0) rfl
      have i1 : (0 : Int) ≤ (k : Int) := by omega
      have i2 : (k : Int) < (n : Int) := by omega
      have i3 : (k : Int) < (n : Int) + 1 := by omega
      gi_wp2
      refine hRR.mono ?_
      rintro e W3 (⟨rfl, hJ3, hk3⟩ | ⟨rfl, hJx3⟩)
      · gi_wp2
        go_roundw
        case rel => exact ⟨k + 1, by omega, by go_num, hJ3, hk3.2.2 hOr, hk3.2.1 hX⟩
        case measure => simp [intOf]; omega
      · gi_wp2
        refine bodyPost_ret (results_none rfl _ _ _) rfl ?_
        exact ⟨⟨_, rfl⟩, .inr ⟨_, ⟨k + 1, by omega, rfl⟩, hJx3⟩⟩
    · obtain rfl : k = n := by omega
      gi_wp2
      go_end0
      exact ⟨⟨_, rfl⟩, .inl ⟨_, rfl, hJ⟩⟩
theorem strs_stops (F : Fence) (m : Nat) (hF : F.fn 98) (hro : F.round = none) (hm : 1 ≤ m) (B Bs lo hi : Nat) (p : Option Addr) (n c : Nat) (ds : List Int) (h1 : 1 ≤ n) (hn : n ≤ 5) (hc : n + 1 ≤ c) (hd : ∀ x ∈ ds, 0 ≤ x ∧ x ≤ 10001) (w : World) (hO : Ow .i64 3 w lo hi p (n + 1) c ds) (hBs : Bx w Bs 117 #[.slice p (n + 1) c]) :
    SeqStopsK F m Try.prog 98 #[.pointer (some ⟨Bs, 0, none⟩)] encs (Kp B Bs lo hi p (n + 1) c ds) (fun ys => ys = upto (str ds) n) (fun pre => ∃ k, k ≤ n ∧ pre = upto (str ds) k) n w := fun l J Jx W hW _ _ hY h0 =>
  strs_in F m hF hro hm B l Bs lo hi p n c ds h1 hn hc hd J Jx hY W (hO.below hW) (hBs.below hW) h0
/-! ### one of them at a time -/
theorem box9 (w : World) (x0 x1 x2 f to x5 x6 u b : Int) : Bx (w.alloc (.cells #[.int .i64 x0, .int .i64 x1, .int .i64 x2, .int .i64 f, .int .i64 to, .int .i64 x5, .int .i64 x6, .int .i64 u, .int .i64 b] 71)) w.heap.size 71 #[.int .i64 x0, .int .i64 x1, .int .i64 x2, .int .i64 f, .int .i64 to, .int .i64 x5, .int .i64 x6, .int .i64 u, .int .i64 b] := Bx.new _ _ _
theorem bx9 {w : World} {g : Nat} {T : TypeId} {y0 y1 y2 y3 y4 y5 y6 y7 y8 : Value} (h : Bx w g T #[y0, y1, y2, y3, y4, y5, y6, y7, y8]) : w.cell? ⟨g, 0, none⟩ = some y0 ∧ w.cell? ⟨g, 1, none⟩ = some y1 ∧ w.cell? ⟨g, 2, none⟩ = some y2 ∧ w.cell? ⟨g, 3, none⟩ = some y3 ∧ w.cell? ⟨g, 4, none⟩ = some y4 ∧ w.cell? ⟨g, 5, none⟩ = some y5 ∧ w.cell? ⟨g, 6, none⟩ = some y6 ∧ w.cell? ⟨g, 7, none⟩ = some y7 ∧ w.cell? ⟨g, 8, none⟩ = some y8 := ⟨h.cell rfl, h.cell rfl, h.cell rfl, h.cell rfl, h.cell rfl, h.cell rfl, h.cell rfl, h.cell rfl, h.cell rfl⟩
set_option maxRecDepth 100000 in
set_option maxHeartbeats 2000000 in
theorem good_any (x0 x1 x2 f to x5 x6 u b : Int) (t : Int) (w : World) : Calls Try.prog 44 #[.agg #[.int .i64 x0, .int .i64 x1, .int .i64 x2, .int .i64 f, .int .i64 to, .int .i64 x5, .int .i64 x6, .int .i64 u, .int .i64 b], .int .i64 t] w (Tells (Egm.goodB f to u t) w) := by
  have HX := Lib.hid (box9 w x0 x1 x2 f to x5 x6 u b)
  have HB := Lib.hid (box1 w (.cells #[.int .i64 x0, .int .i64 x1, .int .i64 x2, .int .i64 f, .int .i64 to, .int .i64 x5, .int .i64 x6, .int .i64 u, .int .i64 b] 71))
  rcases h1 : okB (f, to) with _ | _
  · have HG : Hid (Egm.goodB f to u t = false) := Lib.hid (by simp [Egm.goodB, h1])
    have H1 := Lib.hid h1
    clear h1
    go_enter Try.func44, Try.ntmps44
    go_wp2_with fail
    generalize (w.alloc (.cells #[.int .i64 x0, .int .i64 x1, .int .i64 x2, .int .i64 f, .int .i64 to, .int .i64 x5, .int .i64 x6, .int .i64 u, .int .i64 b] 71)) = V at HX HB ⊢
    refine (Ci.certSpan_any x0 x1 x2 f to x5 x6 _).mono ?_
    rintro e w1 ⟨rfl, hb1⟩
    replace HB := Lib.hid (below_on HB.out hb1)
    replace HX := Lib.hid (HX.out.below hb1)
    clear hb1
    go_wp2_with fail
    refine (isSpan_any _ _ _).mono ?_
    rintro e w2 ⟨rfl, hb2⟩
    rw [H1.out]
    replace HB := Lib.hid (below_on HB.out hb2)
    clear hb2
    go_wp2_with fail
    go_ret
    exact tells HG.out.symm HB.out
  · have H1 := Lib.hid h1
    obtain ⟨β, hβ⟩ : ∃ β, decide (f ≤ t ∧ t ≤ to) = β := ⟨_, rfl⟩
    have HG : Hid (Egm.goodB f to u t = (β && (decide (t ≤ u) && decide (u ≤ 10000)))) := Lib.hid (by simp [Egm.goodB, h1, hβ])
    have Hβ := Lib.hid hβ
    clear h1 hβ
    cases β
    all_goals
      by_cases h3 : t ≤ u
      all_goals
        by_cases h4 : u ≤ 10000
        all_goals
          have n3 : decide (t ≤ u) = decide (t ≤ u) := rfl
          clear n3
          go_enter Try.func44, Try.ntmps44
          go_wp2_with fail
          generalize (w.alloc (.cells #[.int .i64 x0, .int .i64 x1, .int .i64 x2, .int .i64 f, .int .i64 to, .int .i64 x5, .int .i64 x6, .int .i64 u, .int .i64 b] 71)) = V at HX HB ⊢
          refine (Ci.certSpan_any x0 x1 x2 f to x5 x6 _).mono ?_
          rintro e w1 ⟨rfl, hb1⟩
          replace HB := Lib.hid (below_on HB.out hb1)
          replace HX := Lib.hid (HX.out.below hb1)
          clear hb1
          go_wp2_with fail
          refine (isSpan_any _ _ _).mono ?_
          rintro e w2 ⟨rfl, hb2⟩
          rw [H1.out]
          replace HB := Lib.hid (below_on HB.out hb2)
          replace HX := Lib.hid (HX.out.below hb2)
          clear hb2
          obtain ⟨e0, e1, e2, e3, e4, e5, e6, e7, e8⟩ := bx9 HX.out
          go_wp2_with fail
          refine (Ints.inRange_any _ _ _ _ Hβ.out _).mono ?_
          rintro e w3 ⟨rfl, rfl⟩
          go_wp2_with fail
          go_ret
          exact tells (by rw [HG.out]; simp [h3, h4]) HB.out
set_option maxRecDepth 100000 in
set_option maxHeartbeats 2000000 in
theorem bad_any (x0 x1 x2 f to x5 x6 u b : Int) (t : Int) (w : World) : Calls Try.prog 49 #[.agg #[.int .i64 x0, .int .i64 x1, .int .i64 x2, .int .i64 f, .int .i64 to, .int .i64 x5, .int .i64 x6, .int .i64 u, .int .i64 b], .int .i64 t] w (Tells (Egm.badB f to b t) w) := by
  have HX := Lib.hid (box9 w x0 x1 x2 f to x5 x6 u b)
  have HB := Lib.hid (box1 w (.cells #[.int .i64 x0, .int .i64 x1, .int .i64 x2, .int .i64 f, .int .i64 to, .int .i64 x5, .int .i64 x6, .int .i64 u, .int .i64 b] 71))
  by_cases h1 : t < f
  all_goals
    by_cases h2 : to < t
    all_goals
      by_cases h3 : b ≤ t
      all_goals
        have HG : Hid (Egm.badB f to b t = (decide (t < f) || (decide (to < t) || decide (b ≤ t)))) := Lib.hid rfl
        go_enter Try.func49, Try.ntmps49
        go_wp2_with fail
        go_ret
        exact tells (by rw [HG.out]; simp [h1, h2, h3]) HB.out
set_option maxRecDepth 100000 in
set_option maxHeartbeats 2000000 in
theorem open_any (x0 x1 x2 f to x5 x6 u b : Int) (t : Int) (w : World) : Calls Try.prog 50 #[.agg #[.int .i64 x0, .int .i64 x1, .int .i64 x2, .int .i64 f, .int .i64 to, .int .i64 x5, .int .i64 x6, .int .i64 u, .int .i64 b], .int .i64 t] w (Tells (Egm.openB f to u b t) w) := by
  have HX := Lib.hid (box9 w x0 x1 x2 f to x5 x6 u b)
  have HB := Lib.hid (box1 w (.cells #[.int .i64 x0, .int .i64 x1, .int .i64 x2, .int .i64 f, .int .i64 to, .int .i64 x5, .int .i64 x6, .int .i64 u, .int .i64 b] 71))
  obtain ⟨g, hg⟩ : ∃ g, Egm.goodB f to u t = g := ⟨_, rfl⟩
  obtain ⟨d, hd⟩ : ∃ d, Egm.badB f to b t = d := ⟨_, rfl⟩
  have HO : Hid (Egm.openB f to u b t = (!g && !d)) := Lib.hid (by unfold Egm.openB; rw [hg, hd])
  have HG := Lib.hid hg
  have HD := Lib.hid hd
  clear hg hd
  cases g
  all_goals
    go_enter Try.func50, Try.ntmps50
    go_wp2_with fail
    generalize (w.alloc (.cells #[.int .i64 x0, .int .i64 x1, .int .i64 x2, .int .i64 f, .int .i64 to, .int .i64 x5, .int .i64 x6, .int .i64 u, .int .i64 b] 71)) = V at HX HB ⊢
    refine (good_any x0 x1 x2 f to x5 x6 u b t _).mono ?_
    rintro e w1 ⟨rfl, hb1⟩
    rw [HG.out]
    replace HB := Lib.hid (below_on HB.out hb1)
    replace HX := Lib.hid (HX.out.below hb1)
    clear hb1
    obtain ⟨e0, e1, e2, e3, e4, e5, e6, e7, e8⟩ := bx9 HX.out
    go_wp2_with fail
  · refine (bad_any x0 x1 x2 f to x5 x6 u b t _).mono ?_
    rintro e w2 ⟨rfl, hb2⟩
    rw [HD.out]
    replace HB := Lib.hid (below_on HB.out hb2)
    clear hb2
    go_wp2_with fail
    go_ret
    exact tells (by rw [HO.out]; simp) HB.out
  · go_ret
    exact tells (by rw [HO.out]; simp) HB.out
end Go.Proofs.Ytlgkgccmilapbaa.Eg2
