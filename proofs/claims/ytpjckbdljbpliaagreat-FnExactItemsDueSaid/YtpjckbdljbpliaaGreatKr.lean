/- The ring of keys: slices.Backward over keys, the map of the first key with each number that is filled from the last to the first, and what asks it. -/
import Derived.RangeFuncNested
import Derived.RangeFuncBound
import Derived.RangeFuncCalls
import Derived.RangeFuncLeaves
import Derived.RangeFuncBox
import Derived.Shelf.Abstract
import Derived.WalkKit
import Derived.OwnWalkIn
import Derived.TacticsInMore
import Derived.LoopNIn
import Derived.LoopIn
import Derived.Maps.OwnIn
import Derived.Maps.OwnSet
import Derived.Test.YtpjckbdljbpliaaGreatEsA
import Derived.Test.YtpjckbdljbpliaaGreatKnA
import Derived.Outline
namespace Go.Proofs.YtpjckbdljbpliaaGreat.Kr
open Go.ChangeShapes Go.WideShapes Go.ChangeAt Go.RowKit Go.Shelf Sl St Fnd Kn SlKey
attribute [local go_sem] Oper.semAt_some

/-! ### what comes: a place and its method -/
/-- a place and a method, within their ranges -/
abbrev It := { x : Nat × I5 // x.1 ≤ 9223372036854775807 ∧ InR x.2 }
theorem z5_in : InR z5 := by unfold InR z5; simp
theorem inr_getD {xs : List I5} (hR : ∀ x ∈ xs, InR x) (k : Nat) : InR (xs.getD k z5) := by
  by_cases h : k < xs.length
  · exact hR _ (getD_mem z5 h)
  · rw [List.getD_eq_getElem?_getD, List.getElem?_eq_none (by omega)]; exact z5_in
open Classical in
noncomputable def it (xs : List I5) (hR : ∀ x ∈ xs, InR x) (r : Nat) : It := if h : r ≤ 9223372036854775807 then ⟨(r, xs.getD r z5), h, inr_getD hR r⟩ else ⟨(0, z5), by omega, z5_in⟩
theorem it_val {xs : List I5} (hR : ∀ x ∈ xs, InR x) {r : Nat} (h : r ≤ 9223372036854775807) : (it xs hR r).1 = (r, xs.getD r z5) := by unfold it; rw [dif_pos h]
def encs (x : It) : Array Value := #[.int .i64 (x.1.1 : Int), .agg #[.int .i64 x.1.2.1, .int .i64 x.1.2.2.1, .int .i64 x.1.2.2.2.1, .int .i64 x.1.2.2.2.2.1, .int .i64 x.1.2.2.2.2.2]]
/-- f 0, .., f (k - 1) -/
def upto {α : Type} (f : Nat → α) (k : Nat) : List α := (List.range k).map f
theorem upto_zero {α : Type} (f : Nat → α) : upto f 0 = [] := rfl
theorem upto_succ {α : Type} (f : Nat → α) (k : Nat) : upto f (k + 1) = upto f k ++ [f k] := by simp [upto, List.range_succ]
theorem upto_length {α : Type} (f : Nat → α) (k : Nat) : (upto f k).length = k := by simp [upto]
/-- what comes at the k-th round, from the last place on -/
noncomputable def back (xs : List I5) (hR : ∀ x ∈ xs, InR x) (k : Nat) : It := it xs hR (xs.length - 1 - k)

/-! ### slices.Backward -/
/-- what a round keeps: what lay below n₀, and the box of the slice -/
def Kp (n₀ Bs : Nat) (T : TypeId) (v : Value) (W W' : World) : Prop := Below n₀ W W' ∧ (Bx W Bs T #[v] → Bx W' Bs T #[v])
theorem Kp.trans {n₀ Bs : Nat} {T : TypeId} {v : Value} {A B C : World} (h : Kp n₀ Bs T v A B) (k : Kp n₀ Bs T v B C) : Kp n₀ Bs T v A C := ⟨h.1.trans k.1, fun x => k.2 (h.2 x)⟩
set_option maxRecDepth 100000 in
set_option maxHeartbeats 4000000 in
theorem back1_in (F : Fence) (m : Nat) (hF : F.fn 132) (hro : F.round = none) (hm : 1 ≤ m) (l Bs : Nat) (p : Option Addr) (n c : Nat) (xs : List I5) (hR : ∀ x ∈ xs, InR x) (w0 : World) (hr : RdS E w0 p n xs) (J Jx : List It → World → Prop)
    (hY : ∀ pre x W, J pre W → pre.length < n → YieldAt F (m - 1) Tryz.prog l (encs x) W fun e W' =>
      (e = .returned (.bool true) ∧ J (pre ++ [x]) W' ∧ Kp w0.heap.size Bs 34 (.slice p n c) W W') ∨ (e = .returned (.bool false) ∧ Jx (pre ++ [x]) W'))
    (W : World) (hW : Below w0.heap.size w0 W) (hBs : Bx W Bs 34 #[.slice p n c]) (h0 : J [] W) :
    CallsIn F m Tryz.prog 132 #[.func (.yield l) #[] #[], .pointer (some ⟨Bs, 0, none⟩)] W fun e W' => (∃ v, e = .returned v) ∧
      ((∃ ys, ys = upto (back xs hR) n ∧ J ys W') ∨ (∃ pre, (∃ k, k ≤ n ∧ pre = upto (back xs hR) k) ∧ Jx pre W')) := by
  have hle := hr.le
  have hl := hr.len
  have hcs := hBs.cell (j := 0) rfl
  refine callsIn_of_wp Tryz.func132 rfl hF ?_ hro
  simp only [Tryz.ntmps132, List.size_toArray, List.length_cons, List.length_nil, Nat.reduceAdd, Nat.reduceSub, Array.replicate_succ, Array.replicate_zero, List.push_toArray, List.append_toArray, List.nil_append, List.cons_append]
  gi_wp2
  gi_loopw [3] (fun i wr => (i = .int .i64 (-1) ∧ J (upto (back xs hR) n) wr) ∨ ∃ r : Nat, r < n ∧ i = .int .i64 r ∧ J (upto (back xs hR) (n - 1 - r)) wr ∧ Below w0.heap.size w0 wr ∧ Bx wr Bs 34 #[.slice p n c])
    (fun i _ => (intOf i + 1).toNat)
  case atStart =>
    rcases Nat.eq_zero_or_pos n with rfl | hpos
    · exact Or.inl ⟨by simp, h0⟩
    · exact Or.inr ⟨n - 1, by omega, by congr 1; omega, by rw [Nat.sub_self]; exact h0, hW, hBs⟩
  case round =>
    rcases hrel with ⟨rfl, hJ⟩ | ⟨r, hlt, rfl, hJ, hB, hX⟩
    · gi_wp2
      go_end0
      exact ⟨⟨_, rfl⟩, .inl ⟨_, rfl, hJ⟩⟩
    · obtain ⟨b, o, rfl, hb, hat⟩ := rd_at (hr.below hB) hlt
      have hyy := hY _ (it xs hR r) wr hJ (by rw [upto_length]; omega)
      obtain ⟨fn, tmps, assign, body, hy, hRR⟩ := hyy
      have hnext : upto (back xs hR) (n - 1 - r) ++ [it xs hR r] = upto (back xs hR) (n - 1 - r + 1) := by
        rw [upto_succ]; unfold back; rw [hl, show n - 1 - (n - 1 - r) = r by omega]
      rw [hnext] at hRR
      simp only [encs, it_val hR (show r ≤ 9223372036854775807 by omega)] at hy
      change At wr b (o + r * 5) (xs.getD r z5) at hat
      generalize xs.getD r z5 = x at hat hy
      obtain ⟨hc0, hc1, hc2, hc3, hc4⟩ := hat
      have hcx := hX.cell (j := 0) rfl
      gi_wp2
      refine hRR.mono ?_
      rintro e W3 (⟨rfl, hJ3, hk3⟩ | ⟨rfl, hJx3⟩)
      · gi_wp2
        go_roundw
        case rel =>
          rcases Nat.eq_zero_or_pos r with rfl | hpos
          · exact Or.inl ⟨by simp, by rw [show n - 1 - 0 + 1 = n by omega] at hJ3; exact hJ3⟩
          · exact Or.inr ⟨r - 1, by omega, by congr 1; omega, by rw [show n - 1 - (r - 1) = n - 1 - r + 1 by omega]; exact hJ3, hB.trans hk3.1, hk3.2 hX⟩
        case measure => simp [intOf]
      · gi_wp2
        refine bodyPost_ret (results_none rfl _ _ _) rfl ?_
        exact ⟨⟨_, rfl⟩, .inr ⟨_, ⟨n - 1 - r + 1, by omega, rfl⟩, hJx3⟩⟩
set_option maxHeartbeats 1000000 in
/-- the slice is boxed; the function value captures the box -/
theorem back_in (F : Fence) (m : Nat) (hF : F.fn 119) (hro : F.round = none) (p : Option Addr) (n c : Nat) (w : World) :
    CallsIn F m Tryz.prog 119 #[.slice p n c] w fun e w' => e = .returned (.func (.func 132) #[] #[.pointer (some ⟨w.heap.size, 0, none⟩)]) ∧ w' = w.alloc (.cells #[.slice p n c] 34) := by
  refine callsIn_of_wp Tryz.func119 rfl hF ?_ hro
  simp only [Tryz.ntmps119, List.size_toArray, List.length_cons, List.length_nil, Nat.reduceAdd, Nat.reduceSub, Array.replicate_succ, Array.replicate_zero, List.push_toArray, List.append_toArray, List.nil_append, List.cons_append]
  gi_wp2
  go_ret
  exact ⟨rfl, rfl⟩
theorem back_stops (F : Fence) (m : Nat) (hF : F.fn 132) (hro : F.round = none) (hm : 1 ≤ m) (Bs : Nat) (p : Option Addr) (n c : Nat) (xs : List I5) (hR : ∀ x ∈ xs, InR x) (w0 w : World) (hr : RdS E w0 p n xs) (hB : Below w0.heap.size w0 w) (hBs : Bx w Bs 34 #[.slice p n c]) :
    SeqStopsK F m Tryz.prog 132 #[.pointer (some ⟨Bs, 0, none⟩)] encs (Kp w0.heap.size Bs 34 (.slice p n c)) (fun ys => ys = upto (back xs hR) n) (fun pre => ∃ k, k ≤ n ∧ pre = upto (back xs hR) k) n w := fun l J Jx W hW _ _ hY h0 =>
  back1_in F m hF hro hm l Bs p n c xs hR w0 hr J Jx hY W (below_on hB hW) (hBs.below hW) h0
/-! ### the map of places -/
theorem bx_own {A B : World} {row : Option Nat} {g : Nat} {T : TypeId} {cs : Array Value} (h : Bx A g T cs) (hg : A.grownBy B row) (hr : ∀ r, row = some r → ∃ o : Obj, A.heap[r]? = some o ∧ o.isCells = false) : Bx B g T cs :=
  h.grown hg (fun e => by obtain ⟨o, ho, hc⟩ := hr g e.symm; rw [show A.heap[g]? = _ from h] at ho; cases ho; cases hc)
theorem zeroE (w : World) : (zeroValue 118).run Tryz.prog w = .ok (.agg #[.int .i64 0, .int .i64 0, .int .i64 0, .int .i64 0, .int .i64 0]) w := by kernel_rfl
/-- how a key in the map reads -/
def kd (k : I5) : DataW Unit := .agg [.lit (.int .i64 k.1), .lit (.int .i64 k.2.1), .lit (.int .i64 k.2.2.1), .lit (.int .i64 k.2.2.2.1), .lit (.int .i64 k.2.2.2.2)]
def kv (k : I5) : Value := .agg #[.int .i64 k.1, .int .i64 k.2.1, .int .i64 k.2.2.1, .int .i64 k.2.2.2.1, .int .i64 k.2.2.2.2]
theorem kv_inj {a b : I5} (h : kv a = kv b) : a = b := by
  obtain ⟨a0, a1, a2, a3, a4⟩ := a
  obtain ⟨b0, b1, b2, b3, b4⟩ := b
  simp only [kv, Value.agg.injEq, Array.mk.injEq, List.cons.injEq, Value.int.injEq, true_and, and_true] at h
  obtain ⟨rfl, rfl, rfl, rfl, rfl⟩ := h
  rfl
theorem kd_inj {a b : I5} (h : kd a = kd b) : a = b := by
  obtain ⟨a0, a1, a2, a3, a4⟩ := a
  obtain ⟨b0, b1, b2, b3, b4⟩ := b
  simp only [kd, DataW.agg.injEq, List.cons.injEq, DataW.lit.injEq, Lit.int.injEq, true_and, and_true] at h
  obtain ⟨rfl, rfl, rfl, rfl, rfl⟩ := h
  rfl
open Classical in
noncomputable def kR (v : Value) : Option (DataW Unit × List MemPlace) := if h : ∃ k, v = kv k then some (kd h.choose, []) else none
theorem kR_kv (k : I5) : kR (kv k) = some (kd k, []) := by
  have h : ∃ k', kv k = kv k' := ⟨k, rfl⟩
  unfold kR
  rw [dif_pos h, ← kv_inj h.choose_spec]
theorem kR_inv {v : Value} {k : I5} {ps : List MemPlace} (h : kR v = some (kd k, ps)) : v = kv k := by
  unfold kR at h
  split at h
  · rename_i hk
    simp only [Option.some.injEq, Prod.mk.injEq] at h
    rw [hk.choose_spec, kd_inj h.1]
  · cases h
def put1 (D : DataW Unit) (x : It) : DataW Unit := D.put (.int .i64 x.1.2.1) (kd x.1.2)
def datum (pre : List It) : DataW Unit := pre.foldl put1 (.map [])
theorem datum_snoc (pre : List It) (x : It) : datum (pre ++ [x]) = (datum pre).put (.int .i64 x.1.2.1) (kd x.1.2) := by simp [datum, put1]
theorem datum_map : ∀ (xs : List It) (D : DataW Unit), Maps.IsMap D → Maps.IsMap (xs.foldl put1 D)
  | [], _, h => h
  | _ :: xs, _, h => datum_map xs _ (h.put _ _)
theorem int_key (i : Int) : WideAt.IsKeyLit (.int .i64 i) := trivial
/-- what the map of the last j places says of a number -/
theorem datum_part (xs : List I5) (hR : ∀ x ∈ xs, InR x) (hn : xs.length ≤ 9223372036854775807) (id : Int) : ∀ j, j ≤ xs.length →
    (∃ k, xs.length - j ≤ k ∧ k < xs.length ∧ (xs.getD k z5).1 = id ∧ (∀ i, xs.length - j ≤ i → i < k → (xs.getD i z5).1 ≠ id) ∧ Maps.has (datum (upto (back xs hR) j)) (.int .i64 id) = true ∧ ∀ z, (datum (upto (back xs hR) j)).atKey (.int .i64 id) z = kd (xs.getD k z5)) ∨
    ((∀ i, xs.length - j ≤ i → i < xs.length → (xs.getD i z5).1 ≠ id) ∧ Maps.has (datum (upto (back xs hR) j)) (.int .i64 id) = false)
  | 0, _ => .inr ⟨fun i h1 h2 => by omega, rfl⟩
  | j + 1, hj => by
    have ih := datum_part xs hR hn id j (by omega)
    have hm : Maps.IsMap (datum (upto (back xs hR) j)) := datum_map _ _ Maps.isMap_empty
    rw [upto_succ, datum_snoc]
    have hv : (back xs hR j).1 = (xs.length - 1 - j, xs.getD (xs.length - 1 - j) z5) := it_val hR (by omega)
    rw [hv]
    dsimp only
    generalize hq : xs.length - 1 - j = q
    by_cases he : (xs.getD q z5).1 = id
    · rw [he]
      exact .inl ⟨q, by omega, by omega, he, fun i h1 h2 => by omega, Maps.has_put_same hm (int_key _) _, fun z => Maps.atKey_put_same hm (int_key _) _ z⟩
    · have hne : (Lit.int .i64 id) ≠ (Lit.int .i64 (xs.getD q z5).1) := fun e => he (by simp only [Lit.int.injEq, true_and] at e; exact e.symm)
      rcases ih with ⟨k, h1, h2, h3, h4, h5, h6⟩ | ⟨h1, h2⟩
      · refine .inl ⟨k, by omega, h2, h3, fun i g1 g2 => ?_, by rw [Maps.has_put_other hne]; exact h5, fun z => by rw [Maps.atKey_put_other hne]; exact h6 z⟩
        rcases Nat.eq_or_lt_of_le g1 with g | g
        · rw [show i = q by omega]; exact he
        · exact h4 i (by omega) g2
      · refine .inr ⟨fun i g1 g2 => ?_, by rw [Maps.has_put_other hne]; exact h2⟩
        rcases Nat.eq_or_lt_of_le g1 with g | g
        · rw [show i = q by omega]; exact he
        · exact h1 i (by omega) g2
/-- a map that holds the first key with each number -/
def Holds (xs : List I5) (g : Nat) (w : World) : Prop := ∃ n D, w.ownsMap Tryz.prog 3 kR g n D ∧ ∀ id, (∃ k, ring xs id = some k ∧ Maps.has D (.int .i64 id) = true ∧ ∀ z, D.atKey (.int .i64 id) z = kd k) ∨ (ring xs id = none ∧ Maps.has D (.int .i64 id) = false ∧ ∀ z, D.atKey (.int .i64 id) z = z)
theorem Holds.grown {xs : List I5} {g : Nat} {w w' : World} {row : Option Nat} (h : Holds xs g w) (hg : w.grownBy w' row) (hne : some g ≠ row) : Holds xs g w' := by
  obtain ⟨n, D, h1, h2⟩ := h
  exact ⟨n, D, h1.kept hg hne, h2⟩
theorem Holds.below {xs : List I5} {g : Nat} {w w' : World} (h : Holds xs g w) (hb : Below w.heap.size w w') : Holds xs g w' := h.grown (below_grown hb none) (by simp)
theorem Holds.drewN {xs : List I5} {g : Nat} {w : World} (h : Holds xs g w) (q : Nat) : Holds xs g (w.drewN q) := h
theorem Holds.alloc {xs : List I5} {g : Nat} {w : World} (h : Holds xs g w) (o : Obj) : Holds xs g (w.alloc o) := h.below ((Below.refl _ _).alloc (Nat.le_refl _) _)
theorem Holds.lt {xs : List I5} {g : Nat} {w : World} (h : Holds xs g w) : g < w.heap.size := by obtain ⟨n, D, h1, h2⟩ := h; exact h1.lt
theorem datum_all (xs : List I5) (hR : ∀ x ∈ xs, InR x) (n : Nat) (hl : xs.length = n) (hn : n ≤ 9223372036854775807) (id : Int) :
    (∃ k, ring xs id = some k ∧ Maps.has (datum (upto (back xs hR) n)) (.int .i64 id) = true ∧ ∀ z, (datum (upto (back xs hR) n)).atKey (.int .i64 id) z = kd k) ∨
    (ring xs id = none ∧ Maps.has (datum (upto (back xs hR) n)) (.int .i64 id) = false ∧ ∀ z, (datum (upto (back xs hR) n)).atKey (.int .i64 id) z = z) := by
  subst hl
  rcases ring_cases xs id with ⟨k', g1, _, g3, g4, g5⟩ | ⟨_, g2, g3⟩
  · rcases datum_part xs hR hn id xs.length (Nat.le_refl _) with ⟨k, h1, h2, h3, h4, h5, h6⟩ | ⟨h1, h2⟩
    · obtain rfl : k = k' := by
        rcases Nat.lt_trichotomy k k' with h | h | h
        · exact absurd h3 (g5 k h)
        · exact h
        · exact absurd g4 (h4 k' (by omega) h)
      exact .inl ⟨_, g3, h5, h6⟩
    · exact absurd g4 (h1 k' (by omega) g1)
  · rcases datum_part xs hR hn id xs.length (Nat.le_refl _) with ⟨k, h1, h2, h3, h4, h5, h6⟩ | ⟨h1, h2⟩
    · exact absurd h3 (g3 k h2)
    · exact .inr ⟨g2, h2, fun z => Maps.atKey_of_not_has h2 z⟩
set_option maxRecDepth 100000 in
set_option maxHeartbeats 4000000 in
theorem ringOf_any (p : Option Addr) (n c : Nat) (xs : List I5) (hR : ∀ x ∈ xs, InR x) (w : World) (hr : RdS E w p n xs) : Calls Tryz.prog 103 #[.slice p n c] w fun e W' =>
    e = .returned (.map (some w.heap.size)) ∧ Holds xs w.heap.size W' ∧ Below w.heap.size w W' := by
  have hmm := @run_makeMap Tryz.prog
  have hle := hr.le
  refine (callsIn_wide (n := 3)).1 ?_
  refine callsIn_of_wp_marks Tryz.func103 rfl trivial ?_ rfl
  simp only [Tryz.ntmps103, List.size_toArray, List.length_cons, List.length_nil, Nat.reduceAdd, Nat.reduceSub, Array.replicate_succ, Array.replicate_zero, List.push_toArray, List.append_toArray, List.nil_append, List.cons_append]
  gi_wp2_with (refine ⟨trivial, ?_⟩; gi_at_call 119; refine (back_in Fence.wide _ trivial rfl _ _ _ _).mono ?_; rintro e w' ⟨rfl, rfl⟩)
  have hm0 := ((World.ownsMap_made w Tryz.prog 3 kR).alloc (.cells #[.map (some w.heap.size)] 173)).alloc (.cells #[.slice p n c] 34)
  have bS := (Bx.new (w.alloc (.map #[] 0)) 173 #[.map (some w.heap.size)]).alloc (.cells #[.slice p n c] 34)
  have bN := Bx.new ((w.alloc (.map #[] 0)).alloc (.cells #[.map (some w.heap.size)] 173)) 34 #[.slice p n c]
  simp only [World.size_alloc] at bS bN
  have hB0 : Below w.heap.size w (((w.alloc (.map #[] 0)).alloc (.cells #[.map (some w.heap.size)] 173)).alloc (.cells #[.slice p n c] 34)) := (((Below.refl _ w).alloc (Nat.le_refl _) _).alloc (by simp) _).alloc (by simp; omega) _
  have hsz : (((w.alloc (.map #[] 0)).alloc (.cells #[.map (some w.heap.size)] 173)).alloc (.cells #[.slice p n c] 34)).heap.size = w.heap.size + 3 := by simp
  obtain ⟨W0, hW0⟩ : ∃ W0, (((w.alloc (.map #[] 0)).alloc (.cells #[.map (some w.heap.size)] 173)).alloc (.cells #[.slice p n c] 34)) = W0 := ⟨_, rfl⟩
  rw [hW0] at hm0 bS bN hB0 hsz ⊢
  clear hW0
  refine wpIn_rangeFunc_ownH (F := Fence.wide) rfl (by omega) (gf := 132) (lb := #[.pointer (some ⟨w.heap.size + 1 + 1, 0, none⟩)]) rfl trivial (enters_of Tryz.func132 (by kernel_rfl) rfl)
    (back_stops Fence.wide _ trivial rfl (by omega) (w.heap.size + 1 + 1) p n c xs hR w W0 hr hB0 bN) Kp.trans
    (fun W l o o' hl h hc hw => ⟨belowK_b (w := w) (Nat.le_refl _) W l o o' (by omega) h hc hw, fun hx => hx.grown (grownBy_putObj' W l o') (by intro e; simp only [Option.some.injEq] at e; omega)⟩)
    (Below.refl _ _) (fun _ => rfl)
    (fun pre W => (Bx W (w.heap.size + 1) 173 #[.map (some w.heap.size)] ∧ W.ownsMap Tryz.prog 3 kR w.heap.size pre.length (datum pre) ∧ W0.heap.size ≤ W.heap.size) ∧ Below w.heap.size w W)
    (fun _ _ _ => False)
    (OwnFrom.and (fun s A B row hs hg hr => ⟨bx_own hs.1 hg (fun r e => (hr r e).2), hs.2.1.kept hg (fun e => by have := (hr _ e.symm).1; omega), Nat.le_trans hs.2.2 hg.size⟩) (ownFrom_below (Nat.le_refl _) (by omega)))
    (fun _ _ _ _ _ hs _ _ => hs)
    ⟨⟨bS, hm0, Nat.le_refl _⟩, hB0⟩
    (fun x a' W => ∃ Bm, W0.heap.size ≤ Bm ∧ Bx W Bm 118 #[.int .i64 x.1.2.1, .int .i64 x.1.2.2.1, .int .i64 x.1.2.2.2.1, .int .i64 x.1.2.2.2.2.1, .int .i64 x.1.2.2.2.2.2] ∧ a' = { tmps := #[.slice p n c, undef, .map none, .pointer (some ⟨w.heap.size + 1, 0, none⟩), undef, .pointer (some ⟨Bm, 0, none⟩), .map (some w.heap.size), .slice p n c, .func (.func 132) #[] #[.pointer (some ⟨w.heap.size + 1 + 1, 0, none⟩)], .int .i64 (x.1.1 : Int), .agg #[.int .i64 x.1.2.1, .int .i64 x.1.2.2.1, .int .i64 x.1.2.2.2.1, .int .i64 x.1.2.2.2.2.1, .int .i64 x.1.2.2.2.2.2], undef, undef, undef, undef, undef], defers := [] })
    (fun x a' _ X Y row hs hg hr => by obtain ⟨Bm, h1, h2, h3⟩ := hs; exact ⟨Bm, h1, bx_own h2 hg (fun r e => (hr r e).2), h3⟩)
    ?assign ?body ?done ?stop
  case assign =>
    rintro l pre x W K ⟨⟨bS1, hown, hs1⟩, hB1⟩ hK
    dsimp only [encs]
    gi_wp2
    exact hK _ _ ((KeepsOthers.alloc _ _).from _) ⟨(Below.refl _ W).alloc hB1.size _, fun hx => hx.alloc _⟩ ⟨⟨bS1.alloc _, hown.alloc _, by simp; omega⟩, hB1.alloc hB1.size _⟩ ⟨W.heap.size, hs1, Bx.new W _ _, rfl⟩
  case body =>
    rintro l pre x a' W hl ⟨r, hr⟩ ⟨⟨bS1, hown, hs1⟩, hB1⟩ ⟨Bm, hBm, bX, rfl⟩ hlt
    have cS := bS1.cell (j := 0) rfl
    have cX := bX.cell (j := 0) rfl
    have cX1 := bX.cell (j := 1) rfl
    have cX2 := bX.cell (j := 2) rfl
    have cX3 := bX.cell (j := 3) rfl
    have cX4 := bX.cell (j := 4) rfl
    have hkey := Maps.keyOf_int_mk (a := x.1.2.1) Tryz.underlying3 (WalkArith.wf_i64 x.2.2.1)
    gi_wp2_with (gi_at_mapUpdate; refine wpListIn_mapUpdate_own _ rfl _ _ _ 173 rfl 3 118 (Maps.int_keyed Tryz.underlying3) Tryz.underlying173 _ w.heap.size pre.length _ rfl hown (by unfold maxLen; omega) _ _ _ rfl rfl hkey (kd x.1.2) [] (kR_kv x.1.2) ?_; intro w1 hown1 hgrow1)
    exact ⟨KeepsFrom.of_grownBy hgrow1 (fun j e => by cases e; omega), ⟨(Below.refl _ W).grown hgrow1 hB1.size (fun k e => by cases e; exact Nat.le_refl _), fun hx => hx.grown hgrow1 (by intro e; simp only [Option.some.injEq] at e; omega)⟩,
      ⟨bS1.grown hgrow1 (by intro e; simp only [Option.some.injEq] at e; omega), by rw [datum_snoc, List.length_append]; exact hown1, Nat.le_trans hs1 hgrow1.size⟩, hB1.grown hgrow1 hB1.size (fun k e => by cases e; exact Nat.le_refl _)⟩
  case done =>
    rintro D ys W hD rfl ⟨⟨bS1, hown, _⟩, hB1⟩ hK
    have cS := bS1.cell (j := 0) rfl
    gi_wp2
    refine ⟨by simp, .inl ⟨_, _, rfl, run_takeDeferred hK, ?_⟩⟩
    rw [upto_length] at hown
    exact ⟨_, results_tmp rfl _ _ _, rfl, ⟨_, _, hown.kept (grownBy_putObj' _ D _) (fun e => by cases e; omega), datum_all xs hR n hr.len hr.le⟩, hB1.trans (belowK_b (w := w) (Nat.le_refl _) W D _ _ (by omega) hK rfl rfl)⟩
  case stop =>
    rintro D c pre W _ _ h _
    exact h.elim
end Go.Proofs.YtpjckbdljbpliaaGreat.Kr
