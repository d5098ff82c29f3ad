/- The ring of keys: slices.Backward over keys, the map of the first key with each number that is filled from the last to the first, and what asks it. Contracts of slices.Grow and slices.Concat over two slices of ints. Contracts of the mark of a key over ints; in the program (slices.Concat) and in the reference (append). Contracts: the first Key with a number; in the program (slices.IndexFunc with a closure) and in the reference. Contracts of what is asked of a list of keys: a mark checked, whose a key is, which keys are somebody's; in the program (the ring of keys) and in the reference. -/
import Derived.RangeFuncNested
import Derived.RangeFuncBound
import Derived.RangeFuncCalls
import Derived.RangeFuncLeaves
import Derived.RangeFuncBox
import Derived.Shelf.Abstract
import Derived.WalkKit
import Derived.OwnWalkIn
import Derived.TacticsInMore
import Derived.LoopNIn
import Derived.LoopIn
import Derived.Maps.OwnIn
import Derived.Maps.OwnSet
import Derived.Test.YtfojilogcecphaaGreatSlKey
import Derived.Test.YtfojilogcecphaaGreatKnA
import Derived.Outline
import Derived.Test.YtfojilogcecphaaGreatSlI
import Derived.Test.YtfojilogcecphaaGreatSrA
import Derived.Test.YtfojilogcecphaaGreatBx
import Derived.Lib.AppendZeros
import Derived.LoopTactic
import Derived.Test.YtfojilogcecphaaGreatHsA
import Derived.Deep.RegionHeld3
import Derived.Test.YtfojilogcecphaaGreatFnd
import Derived.Test.YtfojilogcecphaaGreatShelfG
import Derived.Shelf.SlicesQ.IndexFunc
import Derived.Deep.QuietTactic
import Derived.BigQuiet
namespace Go.Proofs.YtfojilogcecphaaGreat.Kr
open Go.ChangeShapes Go.WideShapes Go.ChangeAt Go.RowKit Go.Shelf Sl St Fnd Kn SlKey
attribute [local go_sem] Oper.semAt_some

/-! ### what comes: a place and its method -/
/-- a place and a method, within their ranges -/
abbrev It := { x : Nat × I5 // x.1 ≤ 9223372036854775807 ∧ InR x.2 }
theorem z5_in : InR z5 := by unfold InR z5; simp
theorem inr_getD {xs : List I5} (hR : ∀ x ∈ xs, InR x) (k : Nat) : InR (xs.getD k z5) := by
  by_cases h : k < xs.length
  · exact hR _ (getD_mem z5 h)
  · rw [List.getD_eq_getElem?_getD, List.getElem?_eq_none (by omega)]; exact z5_in
open Classical in
noncomputable def it (xs : List I5) (hR : ∀ x ∈ xs, InR x) (r : Nat) : It := if h : r ≤ 9223372036854775807 then ⟨(r, xs.getD r z5), h, inr_getD hR r⟩ else ⟨(0, z5), by omega, z5_in⟩
theorem it_val {xs : List I5} (hR : ∀ x ∈ xs, InR x) {r : Nat} (h : r ≤ 9223372036854775807) : (it xs hR r).1 = (r, xs.getD r z5) := by unfold it; rw [dif_pos h]
def encs (x : It) : Array Value := #[.int .i64 (x.1.1 : Int), .agg #[.int .i64 x.1.2.1, .int .i64 x.1.2.2.1, .int .i64 x.1.2.2.2.1, .int .i64 x.1.2.2.2.2.1, .int .i64 x.1.2.2.2.2.2]]
/-- f 0, .., f (k - 1) -/
def upto {α : Type} (f : Nat → α) (k : Nat) : List α := (List.range k).map f
theorem upto_zero {α : Type} (f : Nat → α) : upto f 0 = [] := rfl
theorem upto_succ {α : Type} (f : Nat → α) (k : Nat) : upto f (k + 1) = upto f k ++ [f k] := by simp [upto, List.range_succ]
theorem upto_length {α : Type} (f : Nat → α) (k : Nat) : (upto f k).length = k := by simp [upto]
/-- what comes at the k-th round, from the last place on -/
noncomputable def back (xs : List I5) (hR : ∀ x ∈ xs, InR x) (k : Nat) : It := it xs hR (xs.length - 1 - k)

/-! ### slices.Backward -/
/-- what a round keeps: what lay below n₀, and the box of the slice -/
def Kp (n₀ Bs : Nat) (T : TypeId) (v : Value) (W W' : World) : Prop := Below n₀ W W' ∧ (Bx W Bs T #[v] → Bx W' Bs T #[v])
theorem Kp.trans {n₀ Bs : Nat} {T : TypeId} {v : Value} {A B C : World} (h : Kp n₀ Bs T v A B) (k : Kp n₀ Bs T v B C) : Kp n₀ Bs T v A C := ⟨h.1.trans k.1, fun x => k.2 (h.2 x)⟩
set_option maxRecDepth 100000 in
set_option maxHeartbeats 4000000 in
theorem back1_in (F : Fence) (m : Nat) (hF : F.fn 184) (hro : F.round = none) (hm : 1 ≤ m) (l Bs : Nat) (p : Option Addr) (n c : Nat) (xs : List I5) (hR : ∀ x ∈ xs, InR x) (w0 : World) (hr : RdS E w0 p n xs) (J Jx : List It → World → Prop)
    (hY : ∀ pre x W, J pre W → pre.length < n → YieldAt F (m - 1) Tryz.prog l (encs x) W fun e W' =>
      (e = .returned (.bool true) ∧ J (pre ++ [x]) W' ∧ Kp w0.heap.size Bs 35 (.slice p n c) W W') ∨ (e = .returned (.bool false) ∧ Jx (pre ++ [x]) W'))
    (W : World) (hW : Below w0.heap.size w0 W) (hBs : Bx W Bs 35 #[.slice p n c]) (h0 : J [] W) :
    CallsIn F m Tryz.prog 184 #[.func (.yield l) #[] #[], .pointer (some ⟨Bs, 0, none⟩)] W fun e W' => (∃ v, e = .returned v) ∧
      ((∃ ys, ys = upto (back xs hR) n ∧ J ys W') ∨ (∃ pre, (∃ k, k ≤ n ∧ pre = upto (back xs hR) k) ∧ Jx pre W')) := by
  have hle := hr.le
  have hl := hr.len
  have hcs := hBs.cell (j := 0) rfl
  refine callsIn_of_wp Tryz.func184 rfl hF ?_ hro
  simp only [Tryz.ntmps184, List.size_toArray, List.length_cons, List.length_nil, Nat.reduceAdd, Nat.reduceSub, Array.replicate_succ, Array.replicate_zero, List.push_toArray, List.append_toArray, List.nil_append, List.cons_append]
  gi_wp2
  gi_loopw [3] (fun i wr => (i = .int .i64 (-1) ∧ J (upto (back xs hR) n) wr) ∨ ∃ r : Nat, r < n ∧ i = .int .i64 r ∧ J (upto (back xs hR) (n - 1 - r)) wr ∧ Below w0.heap.size w0 wr ∧ Bx wr Bs 35 #[.slice p n c])
    (fun i _ => (intOf i + 1).toNat)
  case atStart =>
    rcases Nat.eq_zero_or_pos n with rfl | hpos
    · exact Or.inl ⟨by simp, h0⟩
    · exact Or.inr ⟨n - 1, by omega, by congr 1; omega, by rw [Nat.sub_self]; exact h0, hW, hBs⟩
  case round =>
    rcases hrel with ⟨rfl, hJ⟩ | ⟨r, hlt, rfl, hJ, hB, hX⟩
    · gi_wp2
      go_end0
      exact ⟨⟨_, rfl⟩, .inl ⟨_, rfl, hJ⟩⟩
    · obtain ⟨b, o, rfl, hb, hat⟩ := rd_at (hr.below hB) hlt
      have hyy := hY _ (it xs hR r) wr hJ (by rw [upto_length]; omega)
      obtain ⟨fn, tmps, assign, body, hy, hRR⟩ := hyy
      have hnext : upto (back xs hR) (n - 1 - r) ++ [it xs hR r] = upto (back xs hR) (n - 1 - r + 1) := by
        rw [upto_succ]; unfold back; rw [hl, show n - 1 - (n - 1 - r) = r by omega]
      rw [hnext] at hRR
      simp only [encs, it_val hR (show r ≤ 9223372036854775807 by omega)] at hy
      change At wr b (o + r * 5) (xs.getD r z5) at hat
      generalize xs.getD r z5 = x at hat hy
      obtain ⟨hc0, hc1, hc2, hc3, hc4⟩ := hat
      have hcx := hX.cell (j := 0) rfl
      gi_wp2
      refine hRR.mono ?_
      rintro e W3 (⟨rfl, hJ3, hk3⟩ | ⟨rfl, hJx3⟩)
      · gi_wp2
        go_roundw
        case rel =>
          rcases Nat.eq_zero_or_pos r with rfl | hpos
          · exact Or.inl ⟨by simp, by rw [show n - 1 - 0 + 1 = n by omega] at hJ3; exact hJ3⟩
          · exact Or.inr ⟨r - 1, by omega, by congr 1; omega, by rw [show n - 1 - (r - 1) = n - 1 - r + 1 by omega]; exact hJ3, hB.trans hk3.1, hk3.2 hX⟩
        case measure => simp [intOf]
      · gi_wp2
        refine bodyPost_ret (results_none rfl _ _ _) rfl ?_
        exact ⟨⟨_, rfl⟩, .inr ⟨_, ⟨n - 1 - r + 1, by omega, rfl⟩, hJx3⟩⟩
set_option maxHeartbeats 1000000 in
/-- the slice is boxed; the function value captures the box -/
theorem back_in (F : Fence) (m : Nat) (hF : F.fn 162) (hro : F.round = none) (p : Option Addr) (n c : Nat) (w : World) :
    CallsIn F m Tryz.prog 162 #[.slice p n c] w fun e w' => e = .returned (.func (.func 184) #[] #[.pointer (some ⟨w.heap.size, 0, none⟩)]) ∧ w' = w.alloc (.cells #[.slice p n c] 35) := by
  refine callsIn_of_wp Tryz.func162 rfl hF ?_ hro
  simp only [Tryz.ntmps162, List.size_toArray, List.length_cons, List.length_nil, Nat.reduceAdd, Nat.reduceSub, Array.replicate_succ, Array.replicate_zero, List.push_toArray, List.append_toArray, List.nil_append, List.cons_append]
  gi_wp2
  go_ret
  exact ⟨rfl, rfl⟩
theorem back_stops (F : Fence) (m : Nat) (hF : F.fn 184) (hro : F.round = none) (hm : 1 ≤ m) (Bs : Nat) (p : Option Addr) (n c : Nat) (xs : List I5) (hR : ∀ x ∈ xs, InR x) (w0 w : World) (hr : RdS E w0 p n xs) (hB : Below w0.heap.size w0 w) (hBs : Bx w Bs 35 #[.slice p n c]) :
    SeqStopsK F m Tryz.prog 184 #[.pointer (some ⟨Bs, 0, none⟩)] encs (Kp w0.heap.size Bs 35 (.slice p n c)) (fun ys => ys = upto (back xs hR) n) (fun pre => ∃ k, k ≤ n ∧ pre = upto (back xs hR) k) n w := fun l J Jx W hW _ _ hY h0 =>
  back1_in F m hF hro hm l Bs p n c xs hR w0 hr J Jx hY W (below_on hB hW) (hBs.below hW) h0
/-! ### the map of places -/
theorem bx_own {A B : World} {row : Option Nat} {g : Nat} {T : TypeId} {cs : Array Value} (h : Bx A g T cs) (hg : A.grownBy B row) (hr : ∀ r, row = some r → ∃ o : Obj, A.heap[r]? = some o ∧ o.isCells = false) : Bx B g T cs :=
  h.grown hg (fun e => by obtain ⟨o, ho, hc⟩ := hr g e.symm; rw [show A.heap[g]? = _ from h] at ho; cases ho; cases hc)
theorem zeroE (w : World) : (zeroValue 130).run Tryz.prog w = .ok (.agg #[.int .i64 0, .int .i64 0, .int .i64 0, .int .i64 0, .int .i64 0]) w := by kernel_rfl
/-- how a key in the map reads -/
def kd (k : I5) : DataW Unit := .agg [.lit (.int .i64 k.1), .lit (.int .i64 k.2.1), .lit (.int .i64 k.2.2.1), .lit (.int .i64 k.2.2.2.1), .lit (.int .i64 k.2.2.2.2)]
def kv (k : I5) : Value := .agg #[.int .i64 k.1, .int .i64 k.2.1, .int .i64 k.2.2.1, .int .i64 k.2.2.2.1, .int .i64 k.2.2.2.2]
theorem kv_inj {a b : I5} (h : kv a = kv b) : a = b := by
  obtain ⟨a0, a1, a2, a3, a4⟩ := a
  obtain ⟨b0, b1, b2, b3, b4⟩ := b
  simp only [kv, Value.agg.injEq, Array.mk.injEq, List.cons.injEq, Value.int.injEq, true_and, and_true] at h
  obtain ⟨rfl, rfl, rfl, rfl, rfl⟩ := h
  rfl
theorem kd_inj {a b : I5} (h : kd a = kd b) : a = b := by
  obtain ⟨a0, a1, a2, a3, a4⟩ := a
  obtain ⟨b0, b1, b2, b3, b4⟩ := b
  simp only [kd, DataW.agg.injEq, List.cons.injEq, DataW.lit.injEq, Lit.int.injEq, true_and, and_true] at h
  obtain ⟨rfl, rfl, rfl, rfl, rfl⟩ := h
  rfl
open Classical in
noncomputable def kR (v : Value) : Option (DataW Unit × List MemPlace) := if h : ∃ k, v = kv k then some (kd h.choose, []) else none
theorem kR_kv (k : I5) : kR (kv k) = some (kd k, []) := by
  have h : ∃ k', kv k = kv k' := ⟨k, rfl⟩
  unfold kR
  rw [dif_pos h, ← kv_inj h.choose_spec]
theorem kR_inv {v : Value} {k : I5} {ps : List MemPlace} (h : kR v = some (kd k, ps)) : v = kv k := by
  unfold kR at h
  split at h
  · rename_i hk
    simp only [Option.some.injEq, Prod.mk.injEq] at h
    rw [hk.choose_spec, kd_inj h.1]
  · cases h
def put1 (D : DataW Unit) (x : It) : DataW Unit := D.put (.int .i64 x.1.2.1) (kd x.1.2)
def datum (pre : List It) : DataW Unit := pre.foldl put1 (.map [])
theorem datum_snoc (pre : List It) (x : It) : datum (pre ++ [x]) = (datum pre).put (.int .i64 x.1.2.1) (kd x.1.2) := by simp [datum, put1]
theorem datum_map : ∀ (xs : List It) (D : DataW Unit), Maps.IsMap D → Maps.IsMap (xs.foldl put1 D)
  | [], _, h => h
  | _ :: xs, _, h => datum_map xs _ (h.put _ _)
theorem int_key (i : Int) : WideAt.IsKeyLit (.int .i64 i) := trivial
/-- what the map of the last j places says of a number -/
theorem datum_part (xs : List I5) (hR : ∀ x ∈ xs, InR x) (hn : xs.length ≤ 9223372036854775807) (id : Int) : ∀ j, j ≤ xs.length →
    (∃ k, xs.length - j ≤ k ∧ k < xs.length ∧ (xs.getD k z5).1 = id ∧ (∀ i, xs.length - j ≤ i → i < k → (xs.getD i z5).1 ≠ id) ∧ Maps.has (datum (upto (back xs hR) j)) (.int .i64 id) = true ∧ ∀ z, (datum (upto (back xs hR) j)).atKey (.int .i64 id) z = kd (xs.getD k z5)) ∨
    ((∀ i, xs.length - j ≤ i → i < xs.length → (xs.getD i z5).1 ≠ id) ∧ Maps.has (datum (upto (back xs hR) j)) (.int .i64 id) = false)
  | 0, _ => .inr ⟨fun i h1 h2 => by omega, rfl⟩
  | j + 1, hj => by
    have ih := datum_part xs hR hn id j (by omega)
    have hm : Maps.IsMap (datum (upto (back xs hR) j)) := datum_map _ _ Maps.isMap_empty
    rw [upto_succ, datum_snoc]
    have hv : (back xs hR j).1 = (xs.length - 1 - j, xs.getD (xs.length - 1 - j) z5) := it_val hR (by omega)
    rw [hv]
    dsimp only
    generalize hq : xs.length - 1 - j = q
    by_cases he : (xs.getD q z5).1 = id
    · rw [he]
      exact .inl ⟨q, by omega, by omega, he, fun i h1 h2 => by omega, Maps.has_put_same hm (int_key _) _, fun z => Maps.atKey_put_same hm (int_key _) _ z⟩
    · have hne : (Lit.int .i64 id) ≠ (Lit.int .i64 (xs.getD q z5).1) := fun e => he (by simp only [Lit.int.injEq, true_and] at e; exact e.symm)
      rcases ih with ⟨k, h1, h2, h3, h4, h5, h6⟩ | ⟨h1, h2⟩
      · refine .inl ⟨k, by omega, h2, h3, fun i g1 g2 => ?_, by rw [Maps.has_put_other hne]; exact h5, fun z => by rw [Maps.atKey_put_other hne]; exact h6 z⟩
        rcases Nat.eq_or_lt_of_le g1 with g | g
        · rw [show i = q by omega]; exact he
        · exact h4 i (by omega) g2
      · refine .inr ⟨fun i g1 g2 => ?_, by rw [Maps.has_put_other hne]; exact h2⟩
        rcases Nat.eq_or_lt_of_le g1 with g | g
        · rw [show i = q by omega]; exact he
        · exact h1 i (by omega) g2
/-- a map that holds the first key with each number -/
def Holds (xs : List I5) (g : Nat) (w : World) : Prop := ∃ n D, w.ownsMap Tryz.prog 3 kR g n D ∧ ∀ id, (∃ k, ring xs id = some k ∧ Maps.has D (.int .i64 id) = true ∧ ∀ z, D.atKey (.int .i64 id) z = kd k) ∨ (ring xs id = none ∧ Maps.has D (.int .i64 id) = false ∧ ∀ z, D.atKey (.int .i64 id) z = z)
theorem Holds.grown {xs : List I5} {g : Nat} {w w' : World} {row : Option Nat} (h : Holds xs g w) (hg : w.grownBy w' row) (hne : some g ≠ row) : Holds xs g w' := by
  obtain ⟨n, D, h1, h2⟩ := h
  exact ⟨n, D, h1.kept hg hne, h2⟩
theorem Holds.below {xs : List I5} {g : Nat} {w w' : World} (h : Holds xs g w) (hb : Below w.heap.size w w') : Holds xs g w' := h.grown (Sl.below_grown hb none) (by simp)
theorem Holds.drewN {xs : List I5} {g : Nat} {w : World} (h : Holds xs g w) (q : Nat) : Holds xs g (w.drewN q) := h
theorem Holds.alloc {xs : List I5} {g : Nat} {w : World} (h : Holds xs g w) (o : Obj) : Holds xs g (w.alloc o) := h.below ((Below.refl _ _).alloc (Nat.le_refl _) _)
theorem Holds.lt {xs : List I5} {g : Nat} {w : World} (h : Holds xs g w) : g < w.heap.size := by obtain ⟨n, D, h1, h2⟩ := h; exact h1.lt
theorem datum_all (xs : List I5) (hR : ∀ x ∈ xs, InR x) (n : Nat) (hl : xs.length = n) (hn : n ≤ 9223372036854775807) (id : Int) :
    (∃ k, ring xs id = some k ∧ Maps.has (datum (upto (back xs hR) n)) (.int .i64 id) = true ∧ ∀ z, (datum (upto (back xs hR) n)).atKey (.int .i64 id) z = kd k) ∨
    (ring xs id = none ∧ Maps.has (datum (upto (back xs hR) n)) (.int .i64 id) = false ∧ ∀ z, (datum (upto (back xs hR) n)).atKey (.int .i64 id) z = z) := by
  subst hl
  rcases ring_cases xs id with ⟨k', g1, _, g3, g4, g5⟩ | ⟨_, g2, g3⟩
  · rcases datum_part xs hR hn id xs.length (Nat.le_refl _) with ⟨k, h1, h2, h3, h4, h5, h6⟩ | ⟨h1, h2⟩
    · obtain rfl : k = k' := by
        rcases Nat.lt_trichotomy k k' with h | h | h
        · exact absurd h3 (g5 k h)
        · exact h
        · exact absurd g4 (h4 k' (by omega) h)
      exact .inl ⟨_, g3, h5, h6⟩
    · exact absurd g4 (h1 k' (by omega) g1)
  · rcases datum_part xs hR hn id xs.length (Nat.le_refl _) with ⟨k, h1, h2, h3, h4, h5, h6⟩ | ⟨h1, h2⟩
    · exact absurd h3 (g3 k h2)
    · exact .inr ⟨g2, h2, fun z => Maps.atKey_of_not_has h2 z⟩
set_option maxRecDepth 100000 in
set_option maxHeartbeats 4000000 in
theorem ringOf_any (p : Option Addr) (n c : Nat) (xs : List I5) (hR : ∀ x ∈ xs, InR x) (w : World) (hr : RdS E w p n xs) : Calls Tryz.prog 141 #[.slice p n c] w fun e W' =>
    e = .returned (.map (some w.heap.size)) ∧ Holds xs w.heap.size W' ∧ Below w.heap.size w W' := by
  have hmm := @run_makeMap Tryz.prog
  have hle := hr.le
  refine (callsIn_wide (n := 3)).1 ?_
  refine callsIn_of_wp_marks Tryz.func141 rfl trivial ?_ rfl
  simp only [Tryz.ntmps141, List.size_toArray, List.length_cons, List.length_nil, Nat.reduceAdd, Nat.reduceSub, Array.replicate_succ, Array.replicate_zero, List.push_toArray, List.append_toArray, List.nil_append, List.cons_append]
  gi_wp2_with (refine ⟨trivial, ?_⟩; gi_at_call 162; refine (back_in Fence.wide _ trivial rfl _ _ _ _).mono ?_; rintro e w' ⟨rfl, rfl⟩)
  have hm0 := ((World.ownsMap_made w Tryz.prog 3 kR).alloc (.cells #[.map (some w.heap.size)] 201)).alloc (.cells #[.slice p n c] 35)
  have bS := (Bx.new (w.alloc (.map #[] 0)) 201 #[.map (some w.heap.size)]).alloc (.cells #[.slice p n c] 35)
  have bN := Bx.new ((w.alloc (.map #[] 0)).alloc (.cells #[.map (some w.heap.size)] 201)) 35 #[.slice p n c]
  simp only [World.size_alloc] at bS bN
  have hB0 : Below w.heap.size w (((w.alloc (.map #[] 0)).alloc (.cells #[.map (some w.heap.size)] 201)).alloc (.cells #[.slice p n c] 35)) := (((Below.refl _ w).alloc (Nat.le_refl _) _).alloc (by simp) _).alloc (by simp; omega) _
  have hsz : (((w.alloc (.map #[] 0)).alloc (.cells #[.map (some w.heap.size)] 201)).alloc (.cells #[.slice p n c] 35)).heap.size = w.heap.size + 3 := by simp
  obtain ⟨W0, hW0⟩ : ∃ W0, (((w.alloc (.map #[] 0)).alloc (.cells #[.map (some w.heap.size)] 201)).alloc (.cells #[.slice p n c] 35)) = W0 := ⟨_, rfl⟩
  rw [hW0] at hm0 bS bN hB0 hsz ⊢
  clear hW0
  refine wpIn_rangeFunc_ownH (F := Fence.wide) rfl (by omega) (gf := 184) (lb := #[.pointer (some ⟨w.heap.size + 1 + 1, 0, none⟩)]) rfl trivial (enters_of Tryz.func184 (by kernel_rfl) rfl)
    (back_stops Fence.wide _ trivial rfl (by omega) (w.heap.size + 1 + 1) p n c xs hR w W0 hr hB0 bN) Kp.trans
    (fun W l o o' hl h hc hw => ⟨belowK_b (w := w) (Nat.le_refl _) W l o o' (by omega) h hc hw, fun hx => hx.grown (grownBy_putObj' W l o') (by intro e; simp only [Option.some.injEq] at e; omega)⟩)
    (Below.refl _ _) (fun _ => rfl)
    (fun pre W => (Bx W (w.heap.size + 1) 201 #[.map (some w.heap.size)] ∧ W.ownsMap Tryz.prog 3 kR w.heap.size pre.length (datum pre) ∧ W0.heap.size ≤ W.heap.size) ∧ Below w.heap.size w W)
    (fun _ _ _ => False)
    (OwnFrom.and (fun s A B row hs hg hr => ⟨bx_own hs.1 hg (fun r e => (hr r e).2), hs.2.1.kept hg (fun e => by have := (hr _ e.symm).1; omega), Nat.le_trans hs.2.2 hg.size⟩) (ownFrom_below (Nat.le_refl _) (by omega)))
    (fun _ _ _ _ _ hs _ _ => hs)
    ⟨⟨bS, hm0, Nat.le_refl _⟩, hB0⟩
    (fun x a' W => ∃ Bm, W0.heap.size ≤ Bm ∧ Bx W Bm 130 #[.int .i64 x.1.2.1, .int .i64 x.1.2.2.1, .int .i64 x.1.2.2.2.1, .int .i64 x.1.2.2.2.2.1, .int .i64 x.1.2.2.2.2.2] ∧ a' = { tmps := #[.slice p n c, undef, .map none, .pointer (some ⟨w.heap.size + 1, 0, none⟩), undef, .pointer (some ⟨Bm, 0, none⟩), .map (some w.heap.size), .slice p n c, .func (.func 184) #[] #[.pointer (some ⟨w.heap.size + 1 + 1, 0, none⟩)], .int .i64 (x.1.1 : Int), .agg #[.int .i64 x.1.2.1, .int .i64 x.1.2.2.1, .int .i64 x.1.2.2.2.1, .int .i64 x.1.2.2.2.2.1, .int .i64 x.1.2.2.2.2.2], undef, undef, undef, undef, undef], defers := [] })
    (fun x a' _ X Y row hs hg hr => by obtain ⟨Bm, h1, h2, h3⟩ := hs; exact ⟨Bm, h1, bx_own h2 hg (fun r e => (hr r e).2), h3⟩)
    ?assign ?body ?done ?stop
  case assign =>
    rintro l pre x W K ⟨⟨bS1, hown, hs1⟩, hB1⟩ hK
    dsimp only [encs]
    gi_wp2
    exact hK _ _ ((KeepsOthers.alloc _ _).from _) ⟨(Below.refl _ W).alloc hB1.size _, fun hx => hx.alloc _⟩ ⟨⟨bS1.alloc _, hown.alloc _, by simp; omega⟩, hB1.alloc hB1.size _⟩ ⟨W.heap.size, hs1, Bx.new W _ _, rfl⟩
  case body =>
    rintro l pre x a' W hl ⟨r, hr⟩ ⟨⟨bS1, hown, hs1⟩, hB1⟩ ⟨Bm, hBm, bX, rfl⟩ hlt
    have cS := bS1.cell (j := 0) rfl
    have cX := bX.cell (j := 0) rfl
    have cX1 := bX.cell (j := 1) rfl
    have cX2 := bX.cell (j := 2) rfl
    have cX3 := bX.cell (j := 3) rfl
    have cX4 := bX.cell (j := 4) rfl
    have hkey := Maps.keyOf_int_mk (a := x.1.2.1) Tryz.underlying3 (WalkArith.wf_i64 x.2.2.1)
    gi_wp2_with (gi_at_mapUpdate; refine wpListIn_mapUpdate_own _ rfl _ _ _ 201 rfl 3 130 (Maps.int_keyed Tryz.underlying3) Tryz.underlying201 _ w.heap.size pre.length _ rfl hown (by unfold maxLen; omega) _ _ _ rfl rfl hkey (kd x.1.2) [] (kR_kv x.1.2) ?_; intro w1 hown1 hgrow1)
    exact ⟨KeepsFrom.of_grownBy hgrow1 (fun j e => by cases e; omega), ⟨(Below.refl _ W).grown hgrow1 hB1.size (fun k e => by cases e; exact Nat.le_refl _), fun hx => hx.grown hgrow1 (by intro e; simp only [Option.some.injEq] at e; omega)⟩,
      ⟨bS1.grown hgrow1 (by intro e; simp only [Option.some.injEq] at e; omega), by rw [datum_snoc, List.length_append]; exact hown1, Nat.le_trans hs1 hgrow1.size⟩, hB1.grown hgrow1 hB1.size (fun k e => by cases e; exact Nat.le_refl _)⟩
  case done =>
    rintro D ys W hD rfl ⟨⟨bS1, hown, _⟩, hB1⟩ hK
    have cS := bS1.cell (j := 0) rfl
    gi_wp2
    refine ⟨by simp, .inl ⟨_, _, rfl, run_takeDeferred hK, ?_⟩⟩
    rw [upto_length] at hown
    exact ⟨_, results_tmp rfl _ _ _, rfl, ⟨_, _, hown.kept (grownBy_putObj' _ D _) (fun e => by cases e; omega), datum_all xs hR n hr.len hr.le⟩, hB1.trans (belowK_b (w := w) (Nat.le_refl _) W D _ _ (by omega) hK rfl rfl)⟩
  case stop =>
    rintro D c pre W _ _ h _
    exact h.elim
end Go.Proofs.YtfojilogcecphaaGreat.Kr

namespace Go.Proofs.YtfojilogcecphaaGreat.Cc
open Go.ChangeShapes Go.WideShapes Go.ChangeAt Go.RowKit Sl SlI

/-- what is new: a slice without elements, and room behind it -/
def Room (w : World) (e : Ending) (w' : World) : Prop := ∃ p c, e = .returned (.slice p 0 c) ∧ Ow .i64 3 w' w.heap.size w'.heap.size p 0 c [] ∧ Below w.heap.size w w'
theorem zeros_size (z : Value) (n : Nat) (h : z.cells.size = 1) : (Builtin.zeroCells z.cells n).size = n := by
  simp [Builtin.zeroCells, h]
set_option maxRecDepth 100000 in
set_option maxHeartbeats 1000000 in
theorem grow_any (m : Nat) (w : World) (hm : m ≤ 100000000) : Calls Tryz.prog 207 #[.slice none 0 0, .int .i64 m] w (Room w) := by
  obtain ⟨i0, hi, hz0, hz1, hz2⟩ := info_parts SlI.info
  rcases Nat.eq_zero_or_pos m with rfl | hpos
  · go_enter Tryz.func207, Tryz.ntmps207
    go_wp2_with fail
    go_ret
    exact ⟨_, _, rfl, (Ow.nil_ .i64 _ w _ (Nat.le_refl _)), Below.refl _ _⟩
  · have hneg : ¬ (m : Int) < 0 := by omega
    have hp : (0 : Int) < (m : Int) := by omega
    have hG : m ≤ grownCap w m 0 3 := grownCap_ge w _ _ _
    have hG2 : grownCap w m 0 3 ≤ maxLen := grownCap_le_maxLen w m 0 3 (by unfold maxLen; omega)
    have hrz : ∀ ty, (Builtin.append_ #[31, 3] ty #[.slice none 0 0, .int .i64 m]).run Tryz.prog w = .ok (.slice (some ⟨w.heap.size, 0, none⟩) m (grownCap w m 0 3)) (w.drew.alloc (.cells (Builtin.zeroCells (Value.int .i64 0).cells m ++ Builtin.zeroCells (Value.int .i64 0).cells (grownCap w m 0 3 - m)) 3)) :=
      fun ty => Lib.run_append_nil_zeros w 31 3 ty 3 i0 _ .i64 .i64 Tryz.underlying31 Tryz.underlying3 hi hz0 m hpos (by rw [hz1]; decide) (by omega) (by rw [hz2]; omega)
    have hF := World.ownsRow_made (base := w.heap.size) (e := 3) (size := 1) w.drew (Builtin.zeroCells (Value.int .i64 0).cells m ++ Builtin.zeroCells (Value.int .i64 0).cells (grownCap w m 0 3 - m)) (grownCap w m 0 3) (Nat.le_refl _) hG2 (by rw [Array.size_append, zeros_size _ _ rfl, zeros_size _ _ rfl]; omega)
    have HF := Lib.hid hF
    clear hF
    generalize grownCap w m 0 3 = G at hG hG2 hrz HF
    unfold maxLen at hG2
    generalize (Builtin.zeroCells (Value.int .i64 0).cells m ++ Builtin.zeroCells (Value.int .i64 0).cells (G - m)) = cs at hrz HF
    have HB : Hid (Below w.heap.size w (w.drew.alloc (.cells cs 3))) := Lib.hid ((below_drewN (Below.refl _ _) 1).alloc (Nat.le_refl _) _)
    go_enter Tryz.func207, Tryz.ntmps207
    go_wp2_with (at_builtin; refine Lib.wpList_append_run _ rfl _ _ _ _ rfl _ _ rfl rfl _ _ (hrz _) ?_)
    all_goals
      go_ret
      exact ⟨_, _, rfl, Ow.of_row (zs := []) HF.out (allK_nil _), HB.out⟩
/-- the sum of what has been counted -/
def sumN (n1 n2 k : Nat) : Nat := if k = 0 then 0 else if k = 1 then n1 else n1 + n2
def catL (zs1 zs2 : List Int) (k : Nat) : List Int := if k = 0 then [] else if k = 1 then zs1 else zs1 ++ zs2
set_option maxRecDepth 100000 in
set_option maxHeartbeats 4000000 in
theorem concat_any (B : Nat) (T : TypeId) (p1 : Option Addr) (n1 c1 : Nat) (zs1 : List Int) (p2 : Option Addr) (n2 c2 : Nat) (zs2 : List Int) (w : World) (hB : Bx w B T #[.slice p1 n1 c1, .slice p2 n2 c2])
    (hr1 : Rd .i64 w p1 n1 zs1) (hr2 : Rd .i64 w p2 n2 zs2) (h1 : n1 ≤ 10000000) (h2 : n2 ≤ 10000000) : Calls Tryz.prog 195 #[.slice (some ⟨B, 0, none⟩) 2 2] w (SlI.Makes (zs1 ++ zs2) w) := by
  obtain ⟨i0, hi, hz0, hz1, hz2⟩ := info_parts SlI.info
  have HR1 := Lib.hid hr1
  have HR2 := Lib.hid hr2
  have HX := Lib.hid hB
  have q0 := hB.cell (j := 0) rfl
  have q1 := hB.cell (j := 1) rfl
  have s1 : ¬ (n1 : Int) < 0 := by omega
  have s2 : ¬ ((n1 : Int) + (n2 : Int)) < 0 := by omega
  clear hr1 hr2 hB
  go_enter Tryz.func195, Tryz.ntmps195
  go_wp2_with fail
  go_loop [3, 11] (fun s i => ∃ k : Nat, k ≤ 2 ∧ i = .int .i64 k ∧ s = .int .i64 (sumN n1 n2 k : Nat)) (fun _ i => 2 - (intOf i).toNat)
  case atStart => exact ⟨0, by omega, rfl, rfl⟩
  case round =>
    obtain ⟨k, hk, rfl, rfl⟩ := hrel
    obtain rfl | rfl | rfl : k = 0 ∨ k = 1 ∨ k = 2 := by omega
    · simp only [sumN, if_true]
      go_wp2_with fail
      go_round
      case rel => exact ⟨1, by omega, by go_num, by simp⟩
      case measure => simp [intOf]
    · simp only [sumN, if_true, show ¬ (1 = 0) by decide, if_false]
      go_wp2_with fail
      go_round
      case rel => exact ⟨2, by omega, by go_num, by simp⟩
      case measure => simp [intOf]
    · simp only [sumN, show ¬ (2 = 0) by decide, show ¬ (2 = 1) by decide, if_false]
      go_wp2_with fail
      refine (grow_any (n1 + n2) _ (by omega)).mono ?_
      rintro e w1 ⟨p, c, rfl, ho, hb⟩
      have HO := Lib.hid ho
      have HB := Lib.hid hb
      have hs := hb.size
      have r0 := (HX.out.below hb).cell (j := 0) rfl
      have r1 := (HX.out.below hb).cell (j := 1) rfl
      clear ho hb q0 q1
      go_wp2_with fail
      go_loopw [6, 27] (fun v i wr => ∃ (k m c' : Nat) (p' : Option Addr), k ≤ 2 ∧ i = .int .i64 k ∧ v = .slice p' m c' ∧ Hid (Ow .i64 3 wr w.heap.size wr.heap.size p' m c' (catL zs1 zs2 k) ∧ Below w.heap.size w wr)) (fun _ i _ => 2 - (intOf i).toNat)
      case atStart => exact ⟨0, 0, _, _, by omega, rfl, rfl, Lib.hid ⟨HO.out, HB.out⟩⟩
      case round =>
        clear r0 r1
        obtain ⟨k, m, c', p', hk, rfl, rfl, HK⟩ := hrel
        have hsz := HK.out.2.size
        have hl := HK.out.1.len
        have hl1 := HR1.out.len
        have q0 := (HX.out.below HK.out.2).cell (j := 0) rfl
        have q1 := (HX.out.below HK.out.2).cell (j := 1) rfl
        obtain rfl | rfl | rfl : k = 0 ∨ k = 1 ∨ k = 2 := by omega
        · obtain rfl : m = 0 := by simpa [catL] using hl.symm
          have HC : Hid (catL zs1 zs2 0 ++ zs1 = catL zs1 zs2 1) := Lib.hid (by simp [catL])
          clear hl hl1
          go_wp2_with (at_builtin; refine wpList_appR rfl (.tmp 31) (.tmp 32) 31 rfl i0 _ 8 Tryz.underlying31 hi hz0 hz1 hz2 rfl rfl HK.out.1 p1 n1 c1 zs1 rfl (HR1.out.below HK.out.2) hsz (by omega) (by omega) ?_; intro p3 c3 w3 how3 hg3; rw [HC.out, Nat.zero_add] at how3; have HO3 := Lib.hid how3; have HB3 := Lib.hid (below_row HK.out.2 HK.out.1 hg3 (Nat.le_refl _)); clear how3 hg3)
          go_roundw
          case rel => exact ⟨1, _, _, _, by omega, by go_num, rfl, Lib.hid ⟨HO3.out, HB3.out⟩⟩
          case measure => simp [intOf]
        · obtain rfl : m = n1 := by rw [← hl, ← hl1]; simp [catL]
          have HC : Hid (catL zs1 zs2 1 ++ zs2 = catL zs1 zs2 2) := Lib.hid (by simp [catL])
          clear hl hl1
          go_wp2_with (at_builtin; refine wpList_appR rfl (.tmp 31) (.tmp 32) 31 rfl i0 _ 8 Tryz.underlying31 hi hz0 hz1 hz2 rfl rfl HK.out.1 p2 n2 c2 zs2 rfl (HR2.out.below HK.out.2) hsz (by omega) (by omega) ?_; intro p3 c3 w3 how3 hg3; rw [HC.out] at how3; have HO3 := Lib.hid how3; have HB3 := Lib.hid (below_row HK.out.2 HK.out.1 hg3 (Nat.le_refl _)); clear how3 hg3)
          go_roundw
          case rel => exact ⟨2, _, _, _, by omega, by go_num, rfl, Lib.hid ⟨HO3.out, HB3.out⟩⟩
          case measure => simp [intOf]
        · have HC : Hid (catL zs1 zs2 2 = zs1 ++ zs2) := Lib.hid (by simp [catL])
          clear hl hl1
          go_wp2_with fail
          go_ret
          exact ⟨_, _, _, rfl, by rw [← HC.out]; exact HK.out.1, HK.out.2⟩
end Go.Proofs.YtfojilogcecphaaGreat.Cc

namespace Go.Proofs.YtfojilogcecphaaGreat.Km
open Go.ChangeShapes Go.WideShapes Go.ChangeAt Go.RowKit Sl St Fnd Kn SlKey Ki

theorem ks {w : World} {g : Nat} {T : TypeId} {x0 x1 x2 x3 x4 : Value} (h : Bx w g T #[x0, x1, x2, x3, x4]) : w.cell? ⟨g, 4, none⟩ = some x4 ∧ w.cell? ⟨g, 2, none⟩ = some x2 := ⟨h.cell rfl, h.cell rfl⟩
theorem lit1_in (V : World) (T : TypeId) (x : Int) (hx : inK .i64 x) : Rd .i64 (V.alloc (.cells #[.int .i64 x] T)) (some ⟨V.heap.size, 0, none⟩) 1 [x] :=
  (litN_own T V V.heap.size [x] (allK_cons hx (allK_nil _)) (Nat.le_refl _) (by simp)).rd
set_option maxRecDepth 100000 in
set_option maxHeartbeats 4000000 in
theorem spec_markWith_any (x0 x1 x2 x3 x4 : Int) (p : Option Addr) (n c : Nat) (zs : List Int) (w : World) (hr : Rd .i64 w p n zs) (h2 : inK .i64 x2) (h4 : inK .i64 x4) (hn : n ≤ 10000000) :
    Calls Tryz.prog 153 #[.agg #[.int .i64 x0, .int .i64 x1, .int .i64 x2, .int .i64 x3, .int .i64 x4], .slice p n c] w (Val (.int .i64 (markW (x0, x1, x2, x3, x4) zs)) w) := by
  obtain ⟨i0, hi, hz0, hz1, hz2⟩ := info_parts SlI.info
  have HX := Lib.hid (Bx.new w 130 #[.int .i64 x0, .int .i64 x1, .int .i64 x2, .int .i64 x3, .int .i64 x4])
  have HB := Lib.hid (box1 w (.cells #[.int .i64 x0, .int .i64 x1, .int .i64 x2, .int .i64 x3, .int .i64 x4] 130))
  have HR := Lib.hid (hr.below HB.out)
  have H2 := Lib.hid h2
  have H4 := Lib.hid h4
  clear hr h2 h4
  go_enter Tryz.func153, Tryz.ntmps153
  go_wp2_with fail
  generalize w.alloc (.cells #[.int .i64 x0, .int .i64 x1, .int .i64 x2, .int .i64 x3, .int .i64 x4] 130) = V at HX HB HR ⊢
  have HO : Hid (Ow .i64 3 (V.alloc (.cells #[.int .i64 x2] 3)) V.heap.size (V.alloc (.cells #[.int .i64 x2] 3)).heap.size (some ⟨V.heap.size, 0, none⟩) 1 1 [x2]) := Lib.hid (litN_own 3 V V.heap.size [x2] (allK_cons H2.out (allK_nil _)) (Nat.le_refl _) (by simp))
  have HL := Lib.hid (box1 V (.cells #[.int .i64 x2] 3))
  go_region_held3 (fun w' => w'.cell? ⟨w.heap.size, 4, none⟩ = some (.int .i64 x4) ∧ w'.cell? ⟨w.heap.size, 2, none⟩ = some (.int .i64 x2)) (first | exact ks HX2.out | exact ks HX1.out | exact ks (HX.out.alloc _).drew1 | exact ks HX.out.drew1 | go_keep) (first
    | (refine step_appR (by rfl) (.tmp 9) (.tmp 10) 31 (by rfl) i0 _ 8 Tryz.underlying31 hi hz0 hz1 hz2 (by rfl) (by rfl) (HO.out.drewN 1) _ _ _ _ (by rfl) ((HR.out.below HL.out).drewN 1) (by simp) (by omega) (by omega) ?_; intro p1 c1 w1 how1 hg1; have hv : Below V.heap.size V w1 := (below_drewN HL.out 1).trans ((HO.out.drewN 1).below_row hg1 (by simp)); have HB1 := Lib.hid (below_on HB.out hv); have HX1 := Lib.hid (HX.out.below hv); have HO1 := Lib.hid how1; clear how1 hg1 hv)
    | (go_at_call 177; (with_reducible refine (Hs.spec_khash_any x4 _ _ _ _ _ HO1.out.rd H4.out (by omega)).mono ?_); rintro e w2 ⟨rfl, hb2⟩; have HB2 := Lib.hid (below_on HB1.out hb2); have HX2 := Lib.hid (HX1.out.below hb2); clear hb2))
  all_goals
    go_wp2_with fail
    go_ret
    exact ⟨rfl, HB2.out⟩
set_option maxRecDepth 100000 in
set_option maxHeartbeats 4000000 in
theorem markWith_any (x0 x1 x2 x3 x4 : Int) (p : Option Addr) (n c : Nat) (zs : List Int) (w : World) (hr : Rd .i64 w p n zs) (h2 : inK .i64 x2) (hn : n ≤ 10000000) :
    Calls Tryz.prog 185 #[.agg #[.int .i64 x0, .int .i64 x1, .int .i64 x2, .int .i64 x3, .int .i64 x4], .slice p n c] w (Val (.int .i64 (markW (x0, x1, x2, x3, x4) zs)) w) := by
  have HX := Lib.hid (Bx.new w 130 #[.int .i64 x0, .int .i64 x1, .int .i64 x2, .int .i64 x3, .int .i64 x4])
  have HB := Lib.hid (box1 w (.cells #[.int .i64 x0, .int .i64 x1, .int .i64 x2, .int .i64 x3, .int .i64 x4] 130))
  have HR := Lib.hid (hr.below HB.out)
  have H2 := Lib.hid h2
  clear hr h2
  go_enter Tryz.func185, Tryz.ntmps185
  go_wp2_with fail
  generalize w.alloc (.cells #[.int .i64 x0, .int .i64 x1, .int .i64 x2, .int .i64 x3, .int .i64 x4] 130) = V at HX HB HR ⊢
  have HL := Lib.hid (box1 V (.cells #[.int .i64 x2] 3))
  have HM := Lib.hid (box1 (V.alloc (.cells #[.int .i64 x2] 3)) (.cells #[.slice (some ⟨V.heap.size, 0, none⟩) 1 1, .slice p n c] 31))
  have HC : Hid (Bx ((V.alloc (.cells #[.int .i64 x2] 3)).alloc (.cells #[.slice (some ⟨V.heap.size, 0, none⟩) 1 1, .slice p n c] 31)) (V.heap.size + 1) 31 #[.slice (some ⟨V.heap.size, 0, none⟩) 1 1, .slice p n c]) := Lib.hid (by
    have h := Bx.new (V.alloc (.cells #[.int .i64 x2] 3)) 31 #[.slice (some ⟨V.heap.size, 0, none⟩) 1 1, .slice p n c]
    rw [World.size_alloc] at h
    exact h)
  have HO := Lib.hid ((lit1_in V 3 x2 H2.out).below HM.out)
  have HRM := Lib.hid ((HR.out.below HL.out).below HM.out)
  have HBM := Lib.hid (below_on (below_on HB.out HL.out) HM.out)
  have HXM := Lib.hid ((HX.out.below HL.out).below HM.out)
  go_region_held3 (fun w' => w'.cell? ⟨w.heap.size, 4, none⟩ = some (.int .i64 x4) ∧ w'.cell? ⟨w.heap.size, 2, none⟩ = some (.int .i64 x2)) (first | exact ks HX1.out | exact ks HXM.out.drew1 | exact ks (HX.out.alloc _).drew1 | exact ks HX.out.drew1 | go_keep) (first
    | (go_at_call 195; (with_reducible refine (Cc.concat_any _ _ _ _ _ _ _ _ _ _ _ HC.out.drew1 HO.out.drew1 HRM.out.drew1 (by omega) hn).mono ?_); rintro e w1 ⟨p1, n1, c1, rfl, ho, hb⟩; have HB1 := Lib.hid (below_on HBM.out (below_on (below_drewN (Below.refl _ _) 1) hb)); have HX1 := Lib.hid (HXM.out.drew1.below hb); have HO1 := Lib.hid ho; clear ho hb)
    | (go_at_call 194; (with_reducible refine (Hs.khash_any x4 _ _ _ _ _ HO1.out.rd).mono ?_); rintro e w2 ⟨rfl, rfl⟩))
  all_goals
    go_wp2_with fail
    go_ret
    exact ⟨rfl, HB1.out⟩
end Go.Proofs.YtfojilogcecphaaGreat.Km

namespace Go.Proofs.YtfojilogcecphaaGreat.FKey
open Go.ChangeShapes Go.WideShapes Go.ChangeAt Go.RowKit Go.Shelf Sl St Fnd SlKey

set_option maxHeartbeats 1000000 in
theorem spec_find_any (p : Option Addr) (n c : Nat) (xs : List I5) (id : Int) (w : World) (hr : RdS E w p n xs) : Calls Tryz.prog 128 #[.slice p n c, .int .i64 id] w fun e w' => e = .returned (.int .i64 (find xs id)) ∧ w = w' := by
  have HR := Lib.hid hr
  have HL := Lib.hid hr.len
  have hle := hr.le
  clear hr
  go_enter Tryz.func128, Tryz.ntmps128
  go_wp2_with fail
  go_loop [5] (fun i => ∃ k : Nat, k ≤ n ∧ i = .int .i64 k ∧ Hid (∀ j, j < k → (xs.getD j zero).1 ≠ id)) (fun i => n - (intOf i).toNat)
  case atStart => exact ⟨0, Nat.zero_le _, rfl, Lib.hid fun j h => by omega⟩
  case round =>
    obtain ⟨k, hk, rfl, HK⟩ := hrel
    by_cases hlt : k < n
    · obtain ⟨b, o, rfl, hb, hat⟩ := rd_at HR.out hlt
      generalize hx : xs.getD k zero = x at hat
      have HX := Lib.hid hx
      clear hx
      have h0 := hat.1
      clear hat
      generalize hy : x.1 = y at h0
      have HY := Lib.hid hy
      clear hy
      by_cases he : y = id
      · have HE := Lib.hid (find_at (z := zero) (l := xs) (n := id) (k := k) (by rw [HL.out]; exact hlt) (by rw [HX.out, HY.out]; exact he) HK.out)
        go_wp2_with fail
        go_ret
        exact ⟨by rw [HE.out]; rfl, rfl⟩
      · have HN : Hid (∀ j, j < k + 1 → (xs.getD j zero).1 ≠ id) := Lib.hid fun j hj => by
          rcases Nat.lt_succ_iff_lt_or_eq.1 hj with h | rfl
          · exact HK.out j h
          · rw [HX.out, HY.out]; exact he
        go_wp2_with fail
        go_round
        case rel => exact ⟨k + 1, by omega, by go_num, HN⟩
        case measure => simp [intOf]; omega
    · obtain rfl : k = n := by omega
      have HE := Lib.hid (find_none (z := zero) (l := xs) (n := id) (by rw [HL.out]; exact HK.out))
      go_wp2_with fail
      go_ret
      exact ⟨by rw [HE.out]; rfl, rfl⟩
theorem spec_find_val (p : Option Addr) (n c : Nat) (xs : List I5) (id : Int) (w : World) (hr : RdS E w p n xs) : Calls Tryz.prog 128 #[.slice p n c, .int .i64 id] w (Val (.int .i64 (find xs id)) w) :=
  (spec_find_any p n c xs id w hr).mono fun _ _ ⟨he, hw⟩ => ⟨he, by rw [hw]; exact Below.refl _ _⟩
theorem nth_at {xs : List I5} {j : Nat} (h : j < xs.length) : xs[j]? = some xs[j]! := by
  rw [List.getElem?_eq_getElem h]
  simp [h]
end Go.Proofs.YtfojilogcecphaaGreat.FKey

namespace Go.Proofs.YtfojilogcecphaaGreat.Ko
open Go.ChangeShapes Go.WideShapes Go.ChangeAt Go.RowKit Go.Shelf Sl St Fnd Kn SlKey Kr Ki Km

theorem inr_key {xs : List I5} (hR : ∀ x ∈ xs, InR x) {n : Int} {k : I5} (h : ring xs n = some k) : InR k := hR k (look_mem h).1
theorem inr_at {xs : List I5} (hR : ∀ x ∈ xs, InR x) {k : Nat} (h : k < xs.length) : InR (xs.getD k z5) := hR _ (getD_mem z5 h)
theorem zero_z5 : SlKey.zero = z5 := rfl

/-! ### the ring asked -/
set_option maxRecDepth 100000 in
set_option maxHeartbeats 2000000 in
theorem has_any (xs : List I5) (g : Nat) (n : Int) (hn : -9223372036854775808 ≤ n ∧ n ≤ 9223372036854775807) (w : World) (h : Holds xs g w) : Calls Tryz.prog 172 #[.map (some g), .int .i64 n] w (Val (.bool (ring xs n).isSome) w) := by
  obtain ⟨m, D, hown, hD⟩ := h
  have hkey := Maps.keyOf_int_mk (a := n) Tryz.underlying3 (WalkArith.wf_i64 hn)
  rcases hD n with ⟨k, h1, h2, h3⟩ | ⟨h1, h2, h3⟩
  · have HS : Hid ((ring xs n).isSome = true) := Lib.hid (by rw [h1]; rfl)
    have H2 := Lib.hid h2
    have H3 := Lib.hid h3
    clear h1 h2 h3 hD
    go_enter Tryz.func172, Tryz.ntmps172
    go_wp2_with (at_lookup; refine wpList_lookup_own_ok _ rfl _ _ 201 rfl 3 130 (Maps.int_keyed Tryz.underlying3) Tryz.underlying201 kR (zeroE _) (kd z5) [] (kR_kv z5) g m D rfl hown _ _ rfl hkey ?_; intro v ps hv; rw [H3.out] at hv; obtain rfl := kR_inv hv; rw [H2.out]; clear hv; simp only [kv])
    go_ret
    exact ⟨by rw [HS.out]; rfl, box1 _ _⟩
  · have HS : Hid ((ring xs n).isSome = false) := Lib.hid (by rw [h1]; rfl)
    have H2 := Lib.hid h2
    have H3 := Lib.hid h3
    clear h1 h2 h3 hD
    go_enter Tryz.func172, Tryz.ntmps172
    go_wp2_with (at_lookup; refine wpList_lookup_own_ok _ rfl _ _ 201 rfl 3 130 (Maps.int_keyed Tryz.underlying3) Tryz.underlying201 kR (zeroE _) (kd z5) [] (kR_kv z5) g m D rfl hown _ _ rfl hkey ?_; intro v ps hv; rw [H3.out] at hv; obtain rfl := kR_inv hv; rw [H2.out]; clear hv; simp only [kv])
    go_ret
    exact ⟨by rw [HS.out]; rfl, box1 _ _⟩
/-- the mark, and whether there is the key -/
def Marks (x : Int) (b : Bool) (w : World) (e : Ending) (w' : World) : Prop := e = .returned (.tuple #[.int .i64 x, .bool b]) ∧ Below w.heap.size w w'
set_option maxRecDepth 100000 in
set_option maxHeartbeats 2000000 in
theorem ringMark_any (xs : List I5) (hR : ∀ x ∈ xs, InR x) (g : Nat) (n : Int) (hn : -9223372036854775808 ≤ n ∧ n ≤ 9223372036854775807) (p : Option Addr) (m c : Nat) (zs : List Int) (w : World) (h : Holds xs g w) (hr : Rd .i64 w p m zs) (hm : m ≤ 10000000) :
    Calls Tryz.prog 163 #[.map (some g), .int .i64 n, .slice p m c] w (Marks (markR xs n zs) (ring xs n).isSome w) := by
  have HH := Lib.hid h
  have HR := Lib.hid hr
  have hkey := Maps.keyOf_int_mk (a := n) Tryz.underlying3 (WalkArith.wf_i64 hn)
  have HN := Lib.hid hn
  clear hr
  rcases hs : ring xs n with _ | k
  · have HM := Lib.hid (markR_none hs zs)
    have HS : Hid ((ring xs n).isSome = false) := Lib.hid (by rw [hs]; rfl)
    clear hs h hn
    go_enter Tryz.func163, Tryz.ntmps163
    go_wp2_with fail
    refine (has_any xs g n HN.out _ HH.out).mono ?_
    rintro e w1 ⟨rfl, hb⟩
    rw [HS.out]
    go_wp2_with fail
    go_ret2
    exact ⟨by rw [HM.out]; rfl, hb⟩
  · have HM := Lib.hid (markR_some hs zs)
    have HS : Hid ((ring xs n).isSome = true) := Lib.hid (by rw [hs]; rfl)
    have hk := inr_key hR hs
    obtain ⟨x0, x1, x2, x3, x4⟩ := k
    obtain ⟨_, _, k2, _, _⟩ := hk
    have K2 := Lib.hid k2
    have HL : Hid (∀ w', Below w.heap.size w w' → ∃ v, (Instr.lookup 201 (.map (some g)) (.int .i64 n) false).run Tryz.prog w' = .ok v w' ∧ v = kv (x0, x1, x2, x3, x4)) := Lib.hid (fun w' hb => by
      obtain ⟨m', D, hown, hD⟩ := HH.out.below hb
      obtain ⟨v, ps, h1, h2⟩ := hown.lookup (Maps.int_keyed Tryz.underlying3) Tryz.underlying201 (zeroE _) (kR_kv z5) hkey
      rcases hD n with ⟨k', g1, g2, g3⟩ | ⟨g1, _⟩
      · rw [hs, Option.some.injEq] at g1
        subst g1
        rw [g3] at h2
        exact ⟨v, h1, kR_inv h2⟩
      · rw [hs] at g1; cases g1)
    clear hs h hn k2 hkey
    go_enter Tryz.func163, Tryz.ntmps163
    go_wp2_with fail
    refine (has_any xs g n HN.out _ HH.out).mono ?_
    rintro e w1 ⟨rfl, hb⟩
    rw [HS.out]
    obtain ⟨v, hrun, rfl⟩ := HL.out _ hb
    simp only [kv] at hrun
    have HB := Lib.hid hb
    clear hb
    go_wp2_with fail
    refine (markWith_any x0 x1 x2 x3 x4 _ _ _ _ _ (HR.out.below HB.out) K2.out hm).mono ?_
    rintro e w2 ⟨rfl, hb⟩
    have HB2 := Lib.hid (below_on HB.out hb)
    clear hb hrun
    go_wp2_with fail
    go_ret2
    exact ⟨by rw [HM.out]; rfl, HB2.out⟩
/-! ### the reference -/
/-! ### somebody's keys -/
/-- on the way: those of the first k -/
def Way (xs : List I5) (ow : Int) (k : Nat) (p : Option Addr) (m c : Nat) (w wr : World) : Prop := Ow .i64 3 wr w.heap.size wr.heap.size p m c (keysOf (xs.take k) ow) ∧ Below w.heap.size w wr
theorem Way.len {xs : List I5} {ow : Int} {k : Nat} {p : Option Addr} {m c : Nat} {w wr : World} (h : Way xs ow k p m c w wr) : m ≤ xs.length := by
  have h1 := h.1.len
  have h2 := keysOf_len (xs.take k) ow
  rw [List.length_take] at h2
  omega
theorem way_out {xs : List I5} {ow : Int} {k : Nat} {y : I5} (hk : k < xs.length) (hy : xs.getD k z5 = y) (h : ¬ y.2.1 = ow) : keysOf (xs.take (k + 1)) ow = keysOf (xs.take k) ow := by
  rw [take_succ z5 hk, keysOf_append, hy, keysOf_out h, List.append_nil]
theorem way_in {xs : List I5} {ow : Int} {k : Nat} {y : I5} (hk : k < xs.length) (hy : xs.getD k z5 = y) (h : y.2.1 = ow) : keysOf (xs.take (k + 1)) ow = keysOf (xs.take k) ow ++ [y.1] := by
  rw [take_succ z5 hk, keysOf_append, hy, keysOf_in h]
theorem lit0_own (w : World) : Ow .i64 3 (w.alloc (.cells #[] 3)) w.heap.size (w.alloc (.cells #[] 3)).heap.size (some ⟨w.heap.size, 0, none⟩) 0 0 [] := litN_own 3 w w.heap.size [] (allK_nil _) (Nat.le_refl _) (by simp)
end Go.Proofs.YtfojilogcecphaaGreat.Ko
