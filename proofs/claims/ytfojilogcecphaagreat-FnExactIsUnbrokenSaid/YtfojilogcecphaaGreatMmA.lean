/- Contracts of methods: one valid or not, lists of them valid or not; in the program and in the reference. The places of methods: slices.Backward over methods, the map of places that is filled from the last to the first, and what asks it. Contracts of lists of methods: valid or not, the place, the break and the life of an Id; in the program and in the reference. -/
import Derived.Test.YtfojilogcecphaaGreatSlMethod
import Derived.Test.YtfojilogcecphaaGreatMin
import Derived.Deep.RegionHeld3
import Derived.Deep.QuietTactic
import Derived.BigQuiet
import Derived.Outline
import Derived.RangeFuncNested
import Derived.RangeFuncBound
import Derived.RangeFuncCalls
import Derived.RangeFuncLeaves
import Derived.RangeFuncBox
import Derived.Shelf.Abstract
import Derived.WalkKit
import Derived.OwnWalkIn
import Derived.TacticsInMore
import Derived.LoopNIn
import Derived.LoopIn
import Derived.Maps.OwnIn
import Derived.Maps.OwnSet
import Derived.LoopTactic
namespace Go.Proofs.YtfojilogcecphaaGreat.Mm
open Go.ChangeShapes Go.WideShapes Go.ChangeAt Go.RowKit Sl St Mn SlMethod Ints

/-- The call answers b; what lay before is as it was. -/
def Tells (b : Bool) (w : World) (e : Ending) (w' : World) : Prop := e = .returned (.bool b) ∧ Below w.heap.size w w'
theorem tells {b b' : Bool} {w w' : World} (h : b' = b) (hb : Below w.heap.size w w') : Tells b w (.returned (.bool b')) w' := ⟨by rw [h], hb⟩
theorem min_b (a b : Int) (w : World) : Calls Tryz.prog 47 #[.int .i64 a, .int .i64 b] w fun e w' => e = .returned (.int .i64 (minI a b)) ∧ Below w.heap.size w w' :=
  (min_any a b w).mono fun _ _ ⟨he, hw⟩ => ⟨he, by rw [hw]; exact (Below.refl _ _).alloc (Nat.le_refl _) _⟩
theorem l4Time_b (t : Int) (w : World) : Calls Tryz.prog 116 #[.int .i64 t] w fun e w' => e = .returned (.bool (inB t 0 10000)) ∧ w = w' := by
  go_enter Tryz.func116, Tryz.ntmps116
  go_wp2_with fail
  refine (l1In_any _ _ _ _ (inB_def _ _ _) _).mono ?_
  rintro e w1 ⟨rfl, rfl⟩
  go_wp2_with fail
  go_ret
  exact ⟨rfl, rfl⟩
theorem box1 (w : World) (o : Obj) : Below w.heap.size w (w.alloc o) := (Below.refl _ _).alloc (Nat.le_refl _) _

/-! ### one method -/
theorem q_inRange (x lo hi : Int) (β : Bool) (h : decide (lo ≤ x ∧ x ≤ hi) = β) (w : World) (n : Nat) : Calls Tryz.prog 106 #[.int .i64 x, .int .i64 lo, .int .i64 hi] (w.drewN n) fun e w'' => e = .returned (.bool β) ∧ ∃ m, w'' = w.drewN m :=
  Calls.quiet_of_same ((inRange_any x lo hi β h _).mono fun _ _ h => ⟨h.1, h.2.symm⟩)
theorem bx4 {w : World} {g : Nat} {T : TypeId} {x y z u : Value} (h : Bx w g T #[x, y, z, u]) : w.cell? ⟨g, 0, none⟩ = some x ∧ w.cell? ⟨g, 1, none⟩ = some y ∧ w.cell? ⟨g, 2, none⟩ = some z ∧ w.cell? ⟨g, 3, none⟩ = some u := ⟨h.cell rfl, h.cell rfl, h.cell rfl, h.cell rfl⟩
-- isMethod
end Go.Proofs.YtfojilogcecphaaGreat.Mm

namespace Go.Proofs.YtfojilogcecphaaGreat.Mb
open Go.ChangeShapes Go.WideShapes Go.ChangeAt Go.RowKit Go.Shelf Sl St Mn SlMethod Mm
attribute [local go_sem] Oper.semAt_some

/-! ### what comes: a place and its method -/
/-- a place and a method, within their ranges -/
abbrev It := { x : Nat × Me // x.1 ≤ 9223372036854775807 ∧ InR x.2 }
theorem z4_in : InR z4 := by unfold InR z4; simp
theorem inr_getD {xs : List Me} (hR : ∀ x ∈ xs, InR x) (k : Nat) : InR (xs.getD k z4) := by
  by_cases h : k < xs.length
  · exact hR _ (getD_mem z4 h)
  · rw [List.getD_eq_getElem?_getD, List.getElem?_eq_none (by omega)]; exact z4_in
open Classical in
noncomputable def it (xs : List Me) (hR : ∀ x ∈ xs, InR x) (r : Nat) : It := if h : r ≤ 9223372036854775807 then ⟨(r, xs.getD r z4), h, inr_getD hR r⟩ else ⟨(0, z4), by omega, z4_in⟩
theorem it_val {xs : List Me} (hR : ∀ x ∈ xs, InR x) {r : Nat} (h : r ≤ 9223372036854775807) : (it xs hR r).1 = (r, xs.getD r z4) := by unfold it; rw [dif_pos h]
def encs (x : It) : Array Value := #[.int .i64 (x.1.1 : Int), .agg #[.int .i64 x.1.2.1, .int .i64 x.1.2.2.1, .int .i64 x.1.2.2.2.1, .int .i64 x.1.2.2.2.2]]
/-- f 0, .., f (k - 1) -/
def upto {α : Type} (f : Nat → α) (k : Nat) : List α := (List.range k).map f
theorem upto_zero {α : Type} (f : Nat → α) : upto f 0 = [] := rfl
theorem upto_succ {α : Type} (f : Nat → α) (k : Nat) : upto f (k + 1) = upto f k ++ [f k] := by simp [upto, List.range_succ]
theorem upto_length {α : Type} (f : Nat → α) (k : Nat) : (upto f k).length = k := by simp [upto]
/-- what comes at the k-th round, from the last place on -/
noncomputable def back (xs : List Me) (hR : ∀ x ∈ xs, InR x) (k : Nat) : It := it xs hR (xs.length - 1 - k)

/-! ### slices.Backward -/
/-- what a round keeps: what lay below n₀, and the box of the slice -/
def Kp (n₀ Bs : Nat) (T : TypeId) (v : Value) (W W' : World) : Prop := Below n₀ W W' ∧ (Bx W Bs T #[v] → Bx W' Bs T #[v])
theorem Kp.trans {n₀ Bs : Nat} {T : TypeId} {v : Value} {A B C : World} (h : Kp n₀ Bs T v A B) (k : Kp n₀ Bs T v B C) : Kp n₀ Bs T v A C := ⟨h.1.trans k.1, fun x => k.2 (h.2 x)⟩
set_option maxRecDepth 100000 in
set_option maxHeartbeats 4000000 in
theorem back1_in (F : Fence) (m : Nat) (hF : F.fn 208) (hro : F.round = none) (hm : 1 ≤ m) (l Bs : Nat) (p : Option Addr) (n c : Nat) (xs : List Me) (hR : ∀ x ∈ xs, InR x) (w0 : World) (hr : RdS E w0 p n xs) (J Jx : List It → World → Prop)
    (hY : ∀ pre x W, J pre W → pre.length < n → YieldAt F (m - 1) Tryz.prog l (encs x) W fun e W' =>
      (e = .returned (.bool true) ∧ J (pre ++ [x]) W' ∧ Kp w0.heap.size Bs 37 (.slice p n c) W W') ∨ (e = .returned (.bool false) ∧ Jx (pre ++ [x]) W'))
    (W : World) (hW : Below w0.heap.size w0 W) (hBs : Bx W Bs 37 #[.slice p n c]) (h0 : J [] W) :
    CallsIn F m Tryz.prog 208 #[.func (.yield l) #[] #[], .pointer (some ⟨Bs, 0, none⟩)] W fun e W' => (∃ v, e = .returned v) ∧
      ((∃ ys, ys = upto (back xs hR) n ∧ J ys W') ∨ (∃ pre, (∃ k, k ≤ n ∧ pre = upto (back xs hR) k) ∧ Jx pre W')) := by
  have hle := hr.le
  have hl := hr.len
  have hcs := hBs.cell (j := 0) rfl
  refine callsIn_of_wp Tryz.func208 rfl hF ?_ hro
  simp only [Tryz.ntmps208, List.size_toArray, List.length_cons, List.length_nil, Nat.reduceAdd, Nat.reduceSub, Array.replicate_succ, Array.replicate_zero, List.push_toArray, List.append_toArray, List.nil_append, List.cons_append]
  gi_wp2
  gi_loopw [3] (fun i wr => (i = .int .i64 (-1) ∧ J (upto (back xs hR) n) wr) ∨ ∃ r : Nat, r < n ∧ i = .int .i64 r ∧ J (upto (back xs hR) (n - 1 - r)) wr ∧ Below w0.heap.size w0 wr ∧ Bx wr Bs 37 #[.slice p n c])
    (fun i _ => (intOf i + 1).toNat)
  case atStart =>
    rcases Nat.eq_zero_or_pos n with rfl | hpos
    · exact Or.inl ⟨by simp, h0⟩
    · exact Or.inr ⟨n - 1, by omega, by congr 1; omega, by rw [Nat.sub_self]; exact h0, hW, hBs⟩
  case round =>
    rcases hrel with ⟨rfl, hJ⟩ | ⟨r, hlt, rfl, hJ, hB, hX⟩
    · gi_wp2
      go_end0
      exact ⟨⟨_, rfl⟩, .inl ⟨_, rfl, hJ⟩⟩
    · obtain ⟨b, o, rfl, hb, hat⟩ := rd_at (hr.below hB) hlt
      have hyy := hY _ (it xs hR r) wr hJ (by rw [upto_length]; omega)
      obtain ⟨fn, tmps, assign, body, hy, hRR⟩ := hyy
      have hnext : upto (back xs hR) (n - 1 - r) ++ [it xs hR r] = upto (back xs hR) (n - 1 - r + 1) := by
        rw [upto_succ]; unfold back; rw [hl, show n - 1 - (n - 1 - r) = r by omega]
      rw [hnext] at hRR
      simp only [encs, it_val hR (show r ≤ 9223372036854775807 by omega)] at hy
      change At wr b (o + r * 4) (xs.getD r z4) at hat
      generalize xs.getD r z4 = x at hat hy
      obtain ⟨hc0, hc1, hc2, hc3⟩ := hat
      have hcx := hX.cell (j := 0) rfl
      gi_wp2
      refine hRR.mono ?_
      rintro e W3 (⟨rfl, hJ3, hk3⟩ | ⟨rfl, hJx3⟩)
      · gi_wp2
        go_roundw
        case rel =>
          rcases Nat.eq_zero_or_pos r with rfl | hpos
          · exact Or.inl ⟨by simp, by rw [show n - 1 - 0 + 1 = n by omega] at hJ3; exact hJ3⟩
          · exact Or.inr ⟨r - 1, by omega, by congr 1; omega, by rw [show n - 1 - (r - 1) = n - 1 - r + 1 by omega]; exact hJ3, hB.trans hk3.1, hk3.2 hX⟩
        case measure => simp [intOf]
      · gi_wp2
        refine bodyPost_ret (results_none rfl _ _ _) rfl ?_
        exact ⟨⟨_, rfl⟩, .inr ⟨_, ⟨n - 1 - r + 1, by omega, rfl⟩, hJx3⟩⟩
set_option maxHeartbeats 1000000 in
/-- the slice is boxed; the function value captures the box -/
theorem back_in (F : Fence) (m : Nat) (hF : F.fn 196) (hro : F.round = none) (p : Option Addr) (n c : Nat) (w : World) :
    CallsIn F m Tryz.prog 196 #[.slice p n c] w fun e w' => e = .returned (.func (.func 208) #[] #[.pointer (some ⟨w.heap.size, 0, none⟩)]) ∧ w' = w.alloc (.cells #[.slice p n c] 37) := by
  refine callsIn_of_wp Tryz.func196 rfl hF ?_ hro
  simp only [Tryz.ntmps196, List.size_toArray, List.length_cons, List.length_nil, Nat.reduceAdd, Nat.reduceSub, Array.replicate_succ, Array.replicate_zero, List.push_toArray, List.append_toArray, List.nil_append, List.cons_append]
  gi_wp2
  go_ret
  exact ⟨rfl, rfl⟩
theorem back_stops (F : Fence) (m : Nat) (hF : F.fn 208) (hro : F.round = none) (hm : 1 ≤ m) (Bs : Nat) (p : Option Addr) (n c : Nat) (xs : List Me) (hR : ∀ x ∈ xs, InR x) (w0 w : World) (hr : RdS E w0 p n xs) (hB : Below w0.heap.size w0 w) (hBs : Bx w Bs 37 #[.slice p n c]) :
    SeqStopsK F m Tryz.prog 208 #[.pointer (some ⟨Bs, 0, none⟩)] encs (Kp w0.heap.size Bs 37 (.slice p n c)) (fun ys => ys = upto (back xs hR) n) (fun pre => ∃ k, k ≤ n ∧ pre = upto (back xs hR) k) n w := fun l J Jx W hW _ _ hY h0 =>
  back1_in F m hF hro hm l Bs p n c xs hR w0 hr J Jx hY W (below_on hB hW) (hBs.below hW) h0
/-! ### the map of places -/
theorem bx_own {A B : World} {row : Option Nat} {g : Nat} {T : TypeId} {cs : Array Value} (h : Bx A g T cs) (hg : A.grownBy B row) (hr : ∀ r, row = some r → ∃ o : Obj, A.heap[r]? = some o ∧ o.isCells = false) : Bx B g T cs :=
  h.grown hg (fun e => by obtain ⟨o, ho, hc⟩ := hr g e.symm; rw [show A.heap[g]? = _ from h] at ho; cases ho; cases hc)
theorem zeroE (w : World) : (zeroValue 3).run Tryz.prog w = .ok (.int .i64 0) w := by kernel_rfl
def put1 (D : DataW Unit) (x : It) : DataW Unit := D.put (.int .i64 x.1.2.1) (.lit (.int .i64 (x.1.1 : Int)))
def datum (pre : List It) : DataW Unit := pre.foldl put1 (.map [])
theorem datum_snoc (pre : List It) (x : It) : datum (pre ++ [x]) = (datum pre).put (.int .i64 x.1.2.1) (.lit (.int .i64 (x.1.1 : Int))) := by simp [datum, put1]
theorem datum_map : ∀ (xs : List It) (D : DataW Unit), Maps.IsMap D → Maps.IsMap (xs.foldl put1 D)
  | [], _, h => h
  | _ :: xs, _, h => datum_map xs _ (h.put _ _)
theorem int_key (i : Int) : WideAt.IsKeyLit (.int .i64 i) := trivial
/-- what the map of the last j places says of an Id -/
theorem datum_part (xs : List Me) (hR : ∀ x ∈ xs, InR x) (hn : xs.length ≤ 9223372036854775807) (id : Int) : ∀ j, j ≤ xs.length →
    (∃ k, xs.length - j ≤ k ∧ k < xs.length ∧ (xs.getD k z4).1 = id ∧ (∀ i, xs.length - j ≤ i → i < k → (xs.getD i z4).1 ≠ id) ∧ Maps.has (datum (upto (back xs hR) j)) (.int .i64 id) = true ∧ ∀ z, (datum (upto (back xs hR) j)).atKey (.int .i64 id) z = .lit (.int .i64 (k : Int))) ∨
    ((∀ i, xs.length - j ≤ i → i < xs.length → (xs.getD i z4).1 ≠ id) ∧ Maps.has (datum (upto (back xs hR) j)) (.int .i64 id) = false)
  | 0, _ => .inr ⟨fun i h1 h2 => by omega, rfl⟩
  | j + 1, hj => by
    have ih := datum_part xs hR hn id j (by omega)
    have hm : Maps.IsMap (datum (upto (back xs hR) j)) := datum_map _ _ Maps.isMap_empty
    rw [upto_succ, datum_snoc]
    have hv : (back xs hR j).1 = (xs.length - 1 - j, xs.getD (xs.length - 1 - j) z4) := it_val hR (by omega)
    rw [hv]
    dsimp only
    generalize hq : xs.length - 1 - j = q
    by_cases he : (xs.getD q z4).1 = id
    · rw [he]
      exact .inl ⟨q, by omega, by omega, he, fun i h1 h2 => by omega, Maps.has_put_same hm (int_key _) _, fun z => Maps.atKey_put_same hm (int_key _) _ z⟩
    · have hne : (Lit.int .i64 id) ≠ (Lit.int .i64 (xs.getD q z4).1) := fun e => he (by simp only [Lit.int.injEq, true_and] at e; exact e.symm)
      rcases ih with ⟨k, h1, h2, h3, h4, h5, h6⟩ | ⟨h1, h2⟩
      · refine .inl ⟨k, by omega, h2, h3, fun i g1 g2 => ?_, by rw [Maps.has_put_other hne]; exact h5, fun z => by rw [Maps.atKey_put_other hne]; exact h6 z⟩
        rcases Nat.eq_or_lt_of_le g1 with g | g
        · rw [show i = q by omega]; exact he
        · exact h4 i (by omega) g2
      · refine .inr ⟨fun i g1 g2 => ?_, by rw [Maps.has_put_other hne]; exact h2⟩
        rcases Nat.eq_or_lt_of_le g1 with g | g
        · rw [show i = q by omega]; exact he
        · exact h1 i (by omega) g2
/-- what the whole map says of an Id -/
theorem datum_all (xs : List Me) (hR : ∀ x ∈ xs, InR x) (n : Nat) (hl : xs.length = n) (hn : n ≤ 9223372036854775807) (id : Int) :
    (∃ k : Nat, k < n ∧ fnd xs id = k ∧ Maps.has (datum (upto (back xs hR) n)) (.int .i64 id) = true ∧ ∀ z, (datum (upto (back xs hR) n)).atKey (.int .i64 id) z = .lit (.int .i64 (k : Int))) ∨
    (fnd xs id = -1 ∧ Maps.has (datum (upto (back xs hR) n)) (.int .i64 id) = false) := by
  subst hl
  rcases datum_part xs hR hn id xs.length (Nat.le_refl _) with ⟨k, h1, h2, h3, h4, h5, h6⟩ | ⟨h1, h2⟩
  · exact .inl ⟨k, h2, fnd_at h2 h3 (fun j hj => h4 j (by omega) hj), h5, h6⟩
  · exact .inr ⟨fnd_none (fun j hj => h1 j (by omega) hj), h2⟩
set_option maxRecDepth 100000 in
set_option maxHeartbeats 4000000 in
theorem placesOf_any (p : Option Addr) (n c : Nat) (xs : List Me) (hR : ∀ x ∈ xs, InR x) (w : World) (hr : RdS E w p n xs) : Calls Tryz.prog 187 #[.slice p n c] w fun e W' =>
    e = .returned (.map (some w.heap.size)) ∧ W'.ownsMap Tryz.prog 3 (plainElem (H := Unit) Tryz.prog 3) w.heap.size n (datum (upto (back xs hR) n)) ∧ Below w.heap.size w W' := by
  have hmm := @run_makeMap Tryz.prog
  have hle := hr.le
  refine (callsIn_wide (n := 3)).1 ?_
  refine callsIn_of_wp_marks Tryz.func187 rfl trivial ?_ rfl
  simp only [Tryz.ntmps187, List.size_toArray, List.length_cons, List.length_nil, Nat.reduceAdd, Nat.reduceSub, Array.replicate_succ, Array.replicate_zero, List.push_toArray, List.append_toArray, List.nil_append, List.cons_append]
  gi_wp2_with (refine ⟨trivial, ?_⟩; gi_at_call 196; refine (back_in Fence.wide _ trivial rfl _ _ _ _).mono ?_; rintro e w' ⟨rfl, rfl⟩)
  have hm0 := ((World.ownsMap_made w Tryz.prog 3 (plainElem (H := Unit) Tryz.prog 3)).alloc (.cells #[.map (some w.heap.size)] 246)).alloc (.cells #[.slice p n c] 37)
  have bS := (Bx.new (w.alloc (.map #[] 0)) 246 #[.map (some w.heap.size)]).alloc (.cells #[.slice p n c] 37)
  have bN := Bx.new ((w.alloc (.map #[] 0)).alloc (.cells #[.map (some w.heap.size)] 246)) 37 #[.slice p n c]
  simp only [World.size_alloc] at bS bN
  have hB0 : Below w.heap.size w (((w.alloc (.map #[] 0)).alloc (.cells #[.map (some w.heap.size)] 246)).alloc (.cells #[.slice p n c] 37)) := (((Below.refl _ w).alloc (Nat.le_refl _) _).alloc (by simp) _).alloc (by simp; omega) _
  have hsz : (((w.alloc (.map #[] 0)).alloc (.cells #[.map (some w.heap.size)] 246)).alloc (.cells #[.slice p n c] 37)).heap.size = w.heap.size + 3 := by simp
  obtain ⟨W0, hW0⟩ : ∃ W0, (((w.alloc (.map #[] 0)).alloc (.cells #[.map (some w.heap.size)] 246)).alloc (.cells #[.slice p n c] 37)) = W0 := ⟨_, rfl⟩
  rw [hW0] at hm0 bS bN hB0 hsz ⊢
  clear hW0
  refine wpIn_rangeFunc_ownH (F := Fence.wide) rfl (by omega) (gf := 208) (lb := #[.pointer (some ⟨w.heap.size + 1 + 1, 0, none⟩)]) rfl trivial (enters_of Tryz.func208 (by kernel_rfl) rfl)
    (back_stops Fence.wide _ trivial rfl (by omega) (w.heap.size + 1 + 1) p n c xs hR w W0 hr hB0 bN) Kp.trans
    (fun W l o o' hl h hc hw => ⟨belowK_b (w := w) (Nat.le_refl _) W l o o' (by omega) h hc hw, fun hx => hx.grown (grownBy_putObj' W l o') (by intro e; simp only [Option.some.injEq] at e; omega)⟩)
    (Below.refl _ _) (fun _ => rfl)
    (fun pre W => (Bx W (w.heap.size + 1) 246 #[.map (some w.heap.size)] ∧ W.ownsMap Tryz.prog 3 (plainElem (H := Unit) Tryz.prog 3) w.heap.size pre.length (datum pre) ∧ W0.heap.size ≤ W.heap.size) ∧ Below w.heap.size w W)
    (fun _ _ _ => False)
    (OwnFrom.and (fun s A B row hs hg hr => ⟨bx_own hs.1 hg (fun r e => (hr r e).2), hs.2.1.kept hg (fun e => by have := (hr _ e.symm).1; omega), Nat.le_trans hs.2.2 hg.size⟩) (ownFrom_below (Nat.le_refl _) (by omega)))
    (fun _ _ _ _ _ hs _ _ => hs)
    ⟨⟨bS, hm0, Nat.le_refl _⟩, hB0⟩
    (fun x a' W => ∃ Bm, W0.heap.size ≤ Bm ∧ Bx W Bm 138 #[.int .i64 x.1.2.1, .int .i64 x.1.2.2.1, .int .i64 x.1.2.2.2.1, .int .i64 x.1.2.2.2.2] ∧ a' = { tmps := #[.slice p n c, undef, .map none, .pointer (some ⟨w.heap.size + 1, 0, none⟩), .int .i64 (x.1.1 : Int), .pointer (some ⟨Bm, 0, none⟩), .map (some w.heap.size), .slice p n c, .func (.func 208) #[] #[.pointer (some ⟨w.heap.size + 1 + 1, 0, none⟩)], .int .i64 (x.1.1 : Int), .agg #[.int .i64 x.1.2.1, .int .i64 x.1.2.2.1, .int .i64 x.1.2.2.2.1, .int .i64 x.1.2.2.2.2], undef, undef, undef, undef, undef], defers := [] })
    (fun x a' _ X Y row hs hg hr => by obtain ⟨Bm, h1, h2, h3⟩ := hs; exact ⟨Bm, h1, bx_own h2 hg (fun r e => (hr r e).2), h3⟩)
    ?assign ?body ?done ?stop
  case assign =>
    rintro l pre x W K ⟨⟨bS1, hown, hs1⟩, hB1⟩ hK
    dsimp only [encs]
    gi_wp2
    exact hK _ _ ((KeepsOthers.alloc _ _).from _) ⟨(Below.refl _ W).alloc hB1.size _, fun hx => hx.alloc _⟩ ⟨⟨bS1.alloc _, hown.alloc _, by simp; omega⟩, hB1.alloc hB1.size _⟩ ⟨W.heap.size, hs1, Bx.new W _ _, rfl⟩
  case body =>
    rintro l pre x a' W hl ⟨r, hr⟩ ⟨⟨bS1, hown, hs1⟩, hB1⟩ ⟨Bm, hBm, bX, rfl⟩ hlt
    have cS := bS1.cell (j := 0) rfl
    have cX := bX.cell (j := 0) rfl
    have hkey := Maps.keyOf_int_mk (a := x.1.2.1) Tryz.underlying3 (WalkArith.wf_i64 x.2.2.1)
    have hwf : (Lit.int .i64 (x.1.1 : Int)).wf = true := WalkArith.wf_i64 (by have := x.2.1; omega)
    gi_wp2_with (gi_at_mapUpdate; refine wpListIn_mapUpdate_own _ rfl _ _ _ 246 rfl 3 3 (Maps.int_keyed Tryz.underlying3) Tryz.underlying246 _ w.heap.size pre.length _ rfl hown (by unfold maxLen; omega) _ _ _ rfl rfl hkey _ [] (plainElem_int Tryz.underlying3 hwf) ?_; intro w1 hown1 hgrow1)
    exact ⟨KeepsFrom.of_grownBy hgrow1 (fun j e => by cases e; omega), ⟨(Below.refl _ W).grown hgrow1 hB1.size (fun k e => by cases e; exact Nat.le_refl _), fun hx => hx.grown hgrow1 (by intro e; simp only [Option.some.injEq] at e; omega)⟩,
      ⟨bS1.grown hgrow1 (by intro e; simp only [Option.some.injEq] at e; omega), by rw [datum_snoc, List.length_append]; exact hown1, Nat.le_trans hs1 hgrow1.size⟩, hB1.grown hgrow1 hB1.size (fun k e => by cases e; exact Nat.le_refl _)⟩
  case done =>
    rintro D ys W hD rfl ⟨⟨bS1, hown, _⟩, hB1⟩ hK
    have cS := bS1.cell (j := 0) rfl
    gi_wp2
    refine ⟨by simp, .inl ⟨_, _, rfl, run_takeDeferred hK, ?_⟩⟩
    rw [upto_length] at hown
    exact ⟨_, results_tmp rfl _ _ _, rfl, hown.kept (grownBy_putObj' _ D _) (fun e => by cases e; omega), hB1.trans (belowK_b (w := w) (Nat.le_refl _) W D _ _ (by omega) hK rfl rfl)⟩
  case stop =>
    rintro D c pre W _ _ h _
    exact h.elim
/-! ### what asks it -/
set_option maxRecDepth 100000 in
set_option maxHeartbeats 2000000 in
theorem find_any (p : Option Addr) (n c : Nat) (xs : List Me) (hR : ∀ x ∈ xs, InR x) (id : Int) (hid : -9223372036854775808 ≤ id ∧ id ≤ 9223372036854775807) (w : World) (hr : RdS E w p n xs) : Calls Tryz.prog 173 #[.slice p n c, .int .i64 id] w (Val (.int .i64 (fnd xs id)) w) := by
  have HC := Lib.hid (datum_all xs hR n hr.len hr.le id)
  have HR := Lib.hid hr
  have hkey := Maps.keyOf_int_mk (a := id) Tryz.underlying3 (WalkArith.wf_i64 hid)
  clear hr
  go_enter Tryz.func173, Tryz.ntmps173
  go_wp2_with fail
  refine (placesOf_any p n c xs hR _ HR.out).mono ?_
  rintro e w1 ⟨rfl, hown, hb⟩
  have HB := Lib.hid hb
  clear hb
  rcases HC.out with ⟨k, hk, hf, hh, ha⟩ | ⟨hf, hh⟩
  all_goals
    have HH := Lib.hid hh
    have HF := Lib.hid hf
    clear hh hf
    go_wp2_with (at_lookup; refine wpList_lookup_own_ok_int _ rfl _ _ 246 rfl 3 3 .i64 (Maps.int_keyed Tryz.underlying3) Tryz.underlying246 Tryz.underlying3 (zeroE _) w.heap.size n _ rfl hown _ _ rfl hkey ?_; intro c hat hwc; rw [HH.out])
    go_ret
  · have e1 := hat.symm.trans (ha _)
    simp only [DataW.lit.injEq, Lit.int.injEq, true_and] at e1
    exact ⟨by rw [HF.out, e1]; rfl, HB.out⟩
  · exact ⟨by rw [HF.out]; rfl, HB.out⟩
end Go.Proofs.YtfojilogcecphaaGreat.Mb

namespace Go.Proofs.YtfojilogcecphaaGreat.Mq
open Go.ChangeShapes Go.WideShapes Go.ChangeAt Go.RowKit Sl St Mn SlMethod Mm Mb Ints

theorem zero_z4 : SlMethod.zero = z4 := rfl
/-! ### the break -/
set_option maxHeartbeats 1000000 in
theorem brk_any (p : Option Addr) (n c : Nat) (xs : List Me) (hR : ∀ x ∈ xs, InR x) (id : Int) (hid : -9223372036854775808 ≤ id ∧ id ≤ 9223372036854775807) (w : World) (hr : RdS E w p n xs) : Calls Tryz.prog 148 #[.slice p n c, .int .i64 id] w (Val (.int .i64 (brk xs id)) w) := by
  have hl := hr.len
  have hle := hr.le
  rcases fnd_in xs id with hf | ⟨k, hk, hf⟩
  · have HF := Lib.hid hf
    have HS := Lib.hid (brk_none hf)
    clear hf
    go_enter Tryz.func148, Tryz.ntmps148
    go_wp2_with fail
    refine (find_any p n c xs hR id hid _ hr).mono ?_
    rintro e w1 ⟨rfl, hb⟩
    rw [HF.out]
    go_wp2_with fail
    go_ret
    exact ⟨by rw [HS.out]; rfl, hb⟩
  · have HF := Lib.hid hf
    have HS := Lib.hid (brk_at hf)
    rw [hl] at hk
    clear hf hl
    go_enter Tryz.func148, Tryz.ntmps148
    go_wp2_with fail
    refine (find_any p n c xs hR id hid _ hr).mono ?_
    rintro e w1 ⟨rfl, hb⟩
    rw [HF.out]
    obtain ⟨b, o, rfl, _, hat⟩ := rd_at (hr.below hb) hk
    rw [zero_z4] at hat
    obtain ⟨_, _, _, h3⟩ := hat
    rw [← HS.out] at h3
    have HB := Lib.hid hb
    clear hb hr
    go_wp2_with fail
    go_ret
    exact ⟨rfl, HB.out⟩
set_option maxHeartbeats 1000000 in
theorem spec_find_any (p : Option Addr) (n c : Nat) (xs : List Me) (id : Int) (w : World) (hr : RdS E w p n xs) : Calls Tryz.prog 152 #[.slice p n c, .int .i64 id] w (Val (.int .i64 (fnd xs id)) w) := by
  have HR := Lib.hid hr
  have HL := Lib.hid hr.len
  have hle := hr.le
  clear hr
  go_enter Tryz.func152, Tryz.ntmps152
  go_wp2_with fail
  go_loop [5] (fun i => ∃ k : Nat, k ≤ n ∧ i = .int .i64 k ∧ Hid (∀ j, j < k → (xs.getD j z4).1 ≠ id)) (fun i => n - (intOf i).toNat)
  case atStart => exact ⟨0, Nat.zero_le _, rfl, Lib.hid fun j h => by omega⟩
  case round =>
    obtain ⟨k, hk, rfl, HK⟩ := hrel
    by_cases hlt : k < n
    · obtain ⟨b, o, rfl, hb, hat⟩ := rd_at HR.out hlt
      rw [zero_z4] at hat
      generalize hx : xs.getD k z4 = x at hat
      have HX := Lib.hid hx
      clear hx
      obtain ⟨h0, _, _, _⟩ := hat
      generalize hy : x.1 = y at h0
      have HY := Lib.hid hy
      clear hy
      by_cases he : y = id
      · have HE := Lib.hid (fnd_at (l := xs) (id := id) (k := k) (by rw [HL.out]; exact hlt) (by rw [HX.out, HY.out]; exact he) HK.out)
        go_wp2_with fail
        go_ret
        exact ⟨by rw [HE.out]; rfl, Below.refl _ _⟩
      · have HN : Hid (∀ j, j < k + 1 → (xs.getD j z4).1 ≠ id) := Lib.hid fun j hj => by
          rcases Nat.lt_succ_iff_lt_or_eq.1 hj with h | rfl
          · exact HK.out j h
          · rw [HX.out, HY.out]; exact he
        go_wp2_with fail
        go_round
        case rel => exact ⟨k + 1, by omega, by go_num, HN⟩
        case measure => simp [intOf]; omega
    · obtain rfl : k = n := by omega
      have HE := Lib.hid (fnd_none (l := xs) (id := id) (by rw [HL.out]; exact HK.out))
      go_wp2_with fail
      go_ret
      exact ⟨by rw [HE.out]; rfl, Below.refl _ _⟩
set_option maxHeartbeats 1000000 in
theorem spec_brk_any (p : Option Addr) (n c : Nat) (xs : List Me) (id : Int) (w : World) (hr : RdS E w p n xs) : Calls Tryz.prog 127 #[.slice p n c, .int .i64 id] w (Val (.int .i64 (brk xs id)) w) := by
  have hl := hr.len
  have hle := hr.le
  rcases fnd_in xs id with hf | ⟨k, hk, hf⟩
  · have HF := Lib.hid hf
    have HS := Lib.hid (brk_none hf)
    clear hf
    go_enter Tryz.func127, Tryz.ntmps127
    go_wp2_with fail
    refine (spec_find_any p n c xs id _ hr).mono ?_
    rintro e w1 ⟨rfl, hb⟩
    rw [HF.out]
    go_wp2_with fail
    go_ret
    exact ⟨by rw [HS.out]; rfl, hb⟩
  · have HF := Lib.hid hf
    have HS := Lib.hid (brk_at hf)
    rw [hl] at hk
    clear hf hl
    go_enter Tryz.func127, Tryz.ntmps127
    go_wp2_with fail
    refine (spec_find_any p n c xs id _ hr).mono ?_
    rintro e w1 ⟨rfl, hb⟩
    rw [HF.out]
    obtain ⟨b, o, rfl, _, hat⟩ := rd_at (hr.below hb) hk
    rw [zero_z4] at hat
    obtain ⟨_, _, _, h3⟩ := hat
    rw [← HS.out] at h3
    have HB := Lib.hid hb
    clear hb hr
    go_wp2_with fail
    go_ret
    exact ⟨rfl, HB.out⟩

/-! ### alive or not -/
end Go.Proofs.YtfojilogcecphaaGreat.Mq
