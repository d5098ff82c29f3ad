/- The digests of a document's parts, one by one (an iterator that calls), folded into the document's digest. -/
import Derived.RangeFuncNested
import Derived.RangeFuncBound
import Derived.RangeFuncCalls
import Derived.RangeFuncLeaves
import Derived.RangeFuncBox
import Derived.Shelf.Abstract
import Derived.WalkKit
import Derived.OwnWalkIn
import Derived.TacticsInMore
import Derived.LoopNIn
import Derived.LoopIn
import Derived.Stop.RegionWithIn
import Derived.Deep.RegionHeld3
import Derived.Test.YtjaholcmaafenaaDp
namespace Go.Proofs.Ytjaholcmaafenaa.Dd
open Go.ChangeShapes Go.WideShapes Go.ChangeAt Go.RowKit Go.Shelf Sl St Dm Dk Dp Hs Dg
attribute [local go_sem] Oper.semAt_some

/-- an int of 64 bits -/
abbrev I64 := { x : Int // -9223372036854775808 ≤ x ∧ x ≤ 9223372036854775807 }
def encI (x : I64) : Array Value := #[.int .i64 x.1]
def upto {α : Type} (f : Nat → α) (k : Nat) : List α := (List.range k).map f
theorem upto_succ {α : Type} (f : Nat → α) (k : Nat) : upto f (k + 1) = upto f k ++ [f k] := by simp [upto, List.range_succ]
theorem upto_length {α : Type} (f : Nat → α) (k : Nat) : (upto f k).length = k := by simp [upto]
/-- the digest of the part i, as it comes -/
def pdI (mth : Int) (parts : List ByteArray) (salts : List Int) (i : Nat) : I64 := ⟨partD mth (parts.getD i ByteArray.empty) (salts.getD i 0), by have := partD_in mth (parts.getD i ByteArray.empty) (salts.getD i 0); omega⟩
theorem keepW {A B : World} {β : Type} {J : β → World → Prop} {B0 : Nat} (h : AbidesFrom B0 J) {s : β} (hs : J s A) (hb : Below A.heap.size A B) : J s B := h s A B none hs (below_grown hb none) (fun _ e => by cases e)
set_option maxRecDepth 100000 in
set_option maxHeartbeats 8000000 in
theorem pd1_in (k : Nat) (hk : 2 ≤ k) (l Bd Bm : Nat) (mth t : Int) (p : Option Addr) (n c : Nat) (q : Option Addr) (m d : Nat) (parts : List ByteArray) (salts : List Int) (w0 : World) (hr : RdS SlStr.E w0 p n parts) (hs : Rd .i64 w0 q m salts) (hnm : m = n) (h40 : ∀ j, j < n → (parts.getD j ByteArray.empty).size ≤ 10000000)
    (J Jx : List I64 → World → Prop) (W : World) (hJ : AbidesFrom W.heap.size J)
    (hY : ∀ pre x W, J pre W → pre.length < n → YieldAt Fence.wide (k - 1) Try.prog l (encI x) W fun e W' =>
      (e = .returned (.bool true) ∧ J (pre ++ [x]) W' ∧ Below w0.heap.size W W') ∨ (e = .returned (.bool false) ∧ Jx (pre ++ [x]) W'))
    (hW : Below w0.heap.size w0 W) (hBd : Bx w0 Bd 38 #[.int .i64 t, .slice p n c, .slice q m d]) (hBm : Bx w0 Bm 3 #[.int .i64 mth]) (h0 : J [] W) :
    CallsIn Fence.wide k Try.prog 179 #[.func (.yield l) #[] #[], .pointer (some ⟨Bd, 0, none⟩), .pointer (some ⟨Bm, 0, none⟩)] W fun e W' => (∃ v, e = .returned v) ∧
      ((∃ ys, ys = upto (pdI mth parts salts) n ∧ J ys W') ∨ (∃ pre, (∃ j, j ≤ n ∧ pre = upto (pdI mth parts salts) j) ∧ Jx pre W')) := by
  have hle := hr.le
  subst hnm
  obtain ⟨d0, d1, d2⟩ := bx3 (hBd.below hW)
  have e0 := (hBm.below hW).cell (j := 0) rfl
  refine callsIn_of_wp Try.func179 rfl trivial ?_ rfl
  simp only [Try.ntmps179, List.size_toArray, List.length_cons, List.length_nil, Nat.reduceAdd, Nat.reduceSub, Array.replicate_succ, Array.replicate_zero, List.push_toArray, List.append_toArray, List.nil_append, List.cons_append]
  gi_wp2
  clear d0 d1 d2 e0
  gi_loopw [9] (fun i wr => ∃ j : Nat, j ≤ m ∧ i = .int .i64 j ∧ J (upto (pdI mth parts salts) j) wr ∧ Below w0.heap.size w0 wr)
    (fun i _ => m - (intOf i).toNat)
  case atStart => exact ⟨0, Nat.zero_le _, rfl, h0, hW⟩
  case round =>
    obtain ⟨j, hj, rfl, hJs, hB⟩ := hrel
    by_cases hlt : j < m
    · obtain ⟨b, o, rfl, hb, hc⟩ := SlStr.rd_at (hr.below hB) hlt
      obtain ⟨b', o', rfl, hb', hc'⟩ := (hs.below hB).at_ hlt
      have hall := hs.all
      have hin : inK .i64 (salts.getD j 0) := by
        rw [List.getD_eq_getElem?_getD, List.getElem?_eq_getElem (by rw [hs.len]; exact hlt)]
        exact hall _ (List.getElem_mem _)
      have hsz := h40 j hlt
      have hnext : upto (pdI mth parts salts) j ++ [pdI mth parts salts j] = upto (pdI mth parts salts) (j + 1) := (upto_succ _ _).symm
      have hval : (pdI mth parts salts j).1 = partD mth (parts.getD j ByteArray.empty) (salts.getD j 0) := rfl
      generalize pdI mth parts salts j = z at hnext hval
      generalize parts.getD j ByteArray.empty = x at hc hsz hval
      generalize salts.getD j 0 = y at hc' hin hval
      obtain ⟨d0, d1, d2⟩ := bx3 (hBd.below hB)
      have e0 := (hBm.below hB).cell (j := 0) rfl
      have i1 : (0 : Int) ≤ (j : Int) := by omega
      have i2 : (j : Int) < (m : Int) := by omega
      gi_wp2
      gi_region_with (first
        | (refine ⟨trivial, fun _ => by omega, ?_⟩; refine (callsIn_wide.2 (part_any mth x y _ hsz hin)).mono ?_; rintro e W2 ⟨rfl, hb2⟩; have hJ2 := keepW hJ (keepW hJ hJs (below_drewN (Below.refl _ _) 1)) hb2; have hB2 := hB.trans ((below_drewN (Below.refl _ wr) 1).trans hb2 |>.mono hB.size); obtain ⟨fn, tmps, assign, body, hy, hR⟩ := hY _ z W2 hJ2 (by rw [upto_length]; exact hlt); rw [hnext] at hR; dsimp only [encI] at hy; rw [hval] at hy)
        | ((first | (refine hR.mono ?_) | (refine ⟨fun _ => by omega, ?_⟩; refine hR.mono ?_) | (refine ⟨trivial, fun _ => by omega, ?_⟩; refine hR.mono ?_)); rintro e W3 hor; obtain ⟨β, rfl, hβ⟩ : ∃ β, e = .returned (.bool β) ∧ ((β = true ∧ J (upto (pdI mth parts salts) (j + 1)) W3 ∧ Below w0.heap.size W2 W3) ∨ (β = false ∧ Jx (upto (pdI mth parts salts) (j + 1)) W3)) := (by rcases hor with ⟨h1, h2⟩ | ⟨h1, h2⟩ <;> exact ⟨_, h1, by simp [h2]⟩)))
      all_goals
        rcases hβ with ⟨rfl, hJ3, hk3⟩ | ⟨rfl, hJx3⟩
        · gi_wp2
          go_roundw
          case rel => exact ⟨j + 1, by omega, by simp, hJ3, hB2.trans hk3⟩
          case measure => simp [intOf]; omega
        · gi_wp2
          refine bodyPost_ret (results_none rfl _ _ _) rfl ?_
          exact ⟨⟨_, rfl⟩, .inr ⟨_, ⟨j + 1, by omega, rfl⟩, hJx3⟩⟩
    · obtain rfl : j = m := by omega
      gi_wp2
      go_end0
      exact ⟨⟨_, rfl⟩, .inl ⟨_, rfl, hJs⟩⟩
/-! ### the fold -/
def vals (xs : List I64) : List Int := xs.map fun x : I64 => x.1
theorem vals_len (xs : List I64) : (vals xs).length = xs.length := by simp only [vals, List.length_map]
theorem vals_snoc (xs : List I64) (x : I64) : vals (xs ++ [x]) = vals xs ++ [x.1] := by simp only [vals, List.map_append, List.map_cons, List.map_nil]
/-- the array of seven: the title, what has come, noughts -/
def cellsF (t : Int) (pre : List I64) : Array Value := (((t :: vals pre) ++ List.replicate (6 - pre.length) 0).map (Value.int .i64)).toArray
def listF (t : Int) (pre : List I64) : List Int := (t :: vals pre) ++ List.replicate (6 - pre.length) 0
theorem cellsF_eq (t : Int) (pre : List I64) : cellsF t pre = ((listF t pre).map (Value.int .i64)).toArray := rfl
theorem listF_len (t : Int) (pre : List I64) (h : pre.length ≤ 6) : (listF t pre).length = 7 := by
  unfold listF
  rw [List.length_append, List.length_cons, vals_len, List.length_replicate]
  omega
theorem cellsF_at (t : Int) (pre : List I64) {i : Nat} (h : i < 7) (hp : pre.length ≤ 6) : ∃ y : Int, (cellsF t pre)[i]? = some (.int .i64 y) := by
  have h2 : i < (listF t pre).length := by rw [listF_len t pre hp]; exact h
  exact ⟨(listF t pre)[i], by rw [cellsF_eq, List.getElem?_toArray, List.getElem?_map, List.getElem?_eq_getElem h2]; rfl⟩
theorem listF_next (t : Int) (pre : List I64) (x : I64) (h : pre.length < 6) : (listF t pre).set (pre.length + 1) x.1 = listF t (pre ++ [x]) := by
  unfold listF
  rw [List.length_append, List.length_singleton, vals_snoc, show 6 - pre.length = (6 - (pre.length + 1)) + 1 by omega, List.replicate_succ, List.set_append_right _ _ (by rw [List.length_cons, vals_len]; exact Nat.le_refl _), List.length_cons, vals_len, Nat.sub_self, List.set_cons_zero]
  rw [List.cons_append, List.cons_append, List.append_assoc]
  rfl
theorem cellsF_next (t : Int) (pre : List I64) (x : I64) (h : pre.length < 6) : (cellsF t pre).setIfInBounds (pre.length + 1) (.int .i64 x.1) = cellsF t (pre ++ [x]) := by
  rw [cellsF_eq, cellsF_eq, ← listF_next t pre x h, List.setIfInBounds_toArray, List.map_set]
theorem cellsF_rd (t : Int) (ht : inK .i64 t) (xs : List I64) (hx : xs.length ≤ 6) {w : World} {g : Nat} (h : Bx w g 221 (cellsF t xs)) : Rd .i64 w (some ⟨g, 0, none⟩) (xs.length + 1) (t :: vals xs) := by
  refine ⟨by rw [List.length_cons, vals_len], by unfold maxLen; omega, fun z hz => ?_, fun _ => ⟨g, 0, rfl, h.lt, fun i hi => ?_⟩⟩
  · rcases List.mem_cons.1 hz with rfl | hz
    · exact ht
    · unfold vals at hz
      rw [List.mem_map] at hz
      obtain ⟨x, _, rfl⟩ := hz
      exact x.2
  · rw [Nat.zero_add]
    refine h.cell ?_
    have h2 : i < (t :: vals xs).length := by rw [List.length_cons, vals_len]; exact hi
    rw [cellsF_eq, List.getElem?_toArray, List.getElem?_map]
    unfold listF
    rw [List.getElem?_append_left h2, List.getElem?_eq_getElem h2, List.getD_eq_getElem?_getD, List.getElem?_eq_getElem h2]
    rfl
theorem bx_own {A B : World} {row : Option Nat} {g : Nat} {T : TypeId} {cs : Array Value} (h : Bx A g T cs) (hg : A.grownBy B row) (hr : ∀ r, row = some r → ∃ o : Obj, A.heap[r]? = some o ∧ o.isCells = false) : Bx B g T cs :=
  h.grown hg (fun e => by obtain ⟨o, ho, hc⟩ := hr g e.symm; rw [show A.heap[g]? = _ from h] at ho; cases ho; cases hc)
set_option maxRecDepth 100000 in
set_option maxHeartbeats 8000000 in
theorem fold_any (mth t : Int) (ht : inK .i64 t) (gf : Nat) (lb : Array Value) (eg : ∀ args w, (callFunc gf args).run Try.prog w = .ok (.enter gf args) w) (xs : List I64) (hx : xs.length ≤ 6) (Sp : List I64 → Prop) (w : World)
    (hseq : SeqStopsK Fence.wide (3 - 1) Try.prog gf lb encI (Below w.heap.size) (fun ys => ys = xs) Sp xs.length w) :
    Calls Try.prog 175 #[.int .i64 mth, .int .i64 t, .func (.func gf) #[] lb] w (Num (dig mth (t :: vals xs)) w) := by
  refine (callsIn_wide (n := 3)).1 ?_
  refine callsIn_of_wp_marks Try.func175 rfl trivial ?_ rfl
  simp only [Try.ntmps175, List.size_toArray, List.length_cons, List.length_nil, Nat.reduceAdd, Nat.reduceSub, Array.replicate_succ, Array.replicate_zero, List.push_toArray, List.append_toArray, List.nil_append, List.cons_append]
  gi_wp2
  have bV := (Bx.new w 221 (cellsF t [])).alloc (.cells #[.int .i64 1] 3)
  have bN := Bx.new (w.alloc (.cells (cellsF t []) 221)) 3 #[.int .i64 1]
  rw [World.size_alloc] at bN
  have hB0 : Below w.heap.size w ((w.alloc (.cells (cellsF t []) 221)).alloc (.cells #[.int .i64 1] 3)) := ((Below.refl _ w).alloc (Nat.le_refl _) _).alloc (by simp) _
  have hsz : ((w.alloc (.cells (cellsF t []) 221)).alloc (.cells #[.int .i64 1] 3)).heap.size = w.heap.size + 2 := by simp
  have hc0 : cellsF t [] = #[.int .i64 t, .int .i64 0, .int .i64 0, .int .i64 0, .int .i64 0, .int .i64 0, .int .i64 0] := rfl
  obtain ⟨W0, hW0⟩ : ∃ W0, (w.alloc (.cells (cellsF t []) 221)).alloc (.cells #[.int .i64 1] 3) = W0 := ⟨_, rfl⟩
  rw [hW0] at bV bN hB0 hsz
  rw [hc0] at hW0
  rw [hW0]
  clear hW0
  refine wpIn_rangeFunc_ownF (F := Fence.wide) rfl (by omega) (gf := gf) (lb := lb) rfl trivial eg hseq belowK_t
    (belowK_b (w := W0) (by omega)) hB0 (fun _ => rfl)
    (fun pre W => (Bx W w.heap.size 221 (cellsF t pre) ∧ Bx W (w.heap.size + 1) 3 #[.int .i64 ((pre.length + 1 : Nat) : Int)]) ∧ Below w.heap.size w W)
    (fun _ _ _ => False)
    (OwnFrom.and (fun s A B row hs hg hr => ⟨bx_own hs.1 hg (fun r e => (hr r e).2), bx_own hs.2 hg (fun r e => (hr r e).2)⟩) (ownFrom_below (Nat.le_refl _) (by omega)))
    (fun _ _ _ _ _ hs _ _ => hs)
    ⟨⟨bV, bN⟩, hB0⟩
    (fun x => { tmps := #[.int .i64 mth, .int .i64 t, .func (.func gf) #[] lb, undef, undef, undef, .int .i64 0, .pointer (some ⟨w.heap.size, 0, none⟩), .pointer (some ⟨w.heap.size + 1, 0, none⟩), .int .i64 x.1, .int .i64 t, .agg #[.int .i64 t, .int .i64 0, .int .i64 0, .int .i64 0, .int .i64 0, .int .i64 0, .int .i64 0], .func (.func gf) #[] lb, .int .i64 x.1, undef, undef, undef, undef, undef, undef, undef, undef, undef], defers := [] })
    ?assign ?body ?done ?stop
  case assign =>
    intro l x W K hK
    dsimp only [encI]
    gi_wp2
    exact hK
  case body =>
    rintro l pre x W ⟨⟨bV1, bN1⟩, hB1⟩ hlt
    obtain ⟨K, hK⟩ : ∃ K, K = pre.length + 1 := ⟨_, rfl⟩
    obtain ⟨y, hy⟩ := cellsF_at t pre (i := K) (by omega) (by omega)
    have cN : W.cell? ⟨w.heap.size + 1, 0, none⟩ = some (.int .i64 (K : Int)) := by rw [hK]; exact bN1.cell (j := 0) rfl
    have fN := bN1.free 0
    have cV := bV1.cell hy
    have fV := bV1.free K
    have K1 : (0 : Int) ≤ (K : Int) := by omega
    have K2 : (K : Int) < 7 := by omega
    have hn1 := bN1.far (q := ⟨w.heap.size, K, none⟩) (by simp) (.int .i64 x.1)
    have cN2 : (W.setCell ⟨w.heap.size, K, none⟩ (.int .i64 x.1)).cell? ⟨w.heap.size + 1, 0, none⟩ = some (.int .i64 (K : Int)) := by have h := hn1.cell (j := 0) (v := .int .i64 ((pre.length + 1 : Nat) : Int)) rfl; rw [← hK] at h; exact h
    have fN2 := hn1.free 0
    have nV := bV1.set_ K (.int .i64 x.1)
    rw [hK, cellsF_next t pre x (by omega), ← hK] at nV
    have nN := (bN1.far (q := ⟨w.heap.size, K, none⟩) (by simp) (.int .i64 x.1)).set_ 0 (.int .i64 ((K : Int) + 1))
    have nV2 := nV.far (q := ⟨w.heap.size + 1, 0, none⟩) (by simp) (.int .i64 ((K : Int) + 1))
    have HK := Lib.hid hK
    have HV := Lib.hid nV2
    have HN : Hid (Bx ((W.setCell ⟨w.heap.size, K, none⟩ (.int .i64 x.1)).setCell ⟨w.heap.size + 1, 0, none⟩ (.int .i64 ((K : Int) + 1))) (w.heap.size + 1) 3 #[.int .i64 ((K : Int) + 1)]) := Lib.hid nN
    clear hy nV nV2 nN hn1 hK bN1 bV1
    gi_wp2
    have e1 : (((pre ++ [x]).length + 1 : Nat) : Int) = (K : Int) + 1 := by rw [List.length_append, List.length_singleton, HK.out]; omega
    refine ⟨(KeepsOthers.setCell _ _ _).trans (KeepsOthers.setCell _ _ _), ((Below.refl w.heap.size W).setCell (p := ⟨w.heap.size, K, none⟩) (Nat.le_refl _) _).setCell (p := ⟨w.heap.size + 1, 0, none⟩) (by simp) _, ⟨HV.out, ?_⟩, (hB1.setCell (p := ⟨w.heap.size, K, none⟩) (Nat.le_refl _) _).setCell (p := ⟨w.heap.size + 1, 0, none⟩) (by simp) _⟩
    rw [e1]
    exact HN.out
  case done =>
    rintro D ys W hD rfl ⟨⟨bV1, bN1⟩, hB1⟩ hK
    have HR := Lib.hid (cellsF_rd t ht ys hx bV1)
    obtain ⟨K, hK2⟩ : ∃ K, ys.length + 1 = K := ⟨_, rfl⟩
    have cN : W.cell? ⟨w.heap.size + 1, 0, none⟩ = some (.int .i64 (K : Int)) := by rw [← hK2]; exact bN1.cell (j := 0) rfl
    have L1 : (0 : Int) ≤ (K : Int) := by omega
    have L2 : (K : Int) ≤ 7 := by omega
    have L3 : K ≤ 7 := by omega
    rw [hK2] at HR
    clear hK2 bN1 bV1
    gi_wp2_with (refine ⟨trivial, ?_⟩; gi_at_call 178; refine (callsIn_wide.2 (dig_any mth _ _ _ _ _ HR.out)).mono ?_; rintro e w' ⟨rfl, rfl⟩)
    refine ⟨by simp, .inl ⟨_, _, rfl, run_takeDeferred hK, ?_⟩⟩
    exact ⟨_, results_tmp rfl _ _ _, rfl, hB1.trans (belowK_b (w := w) (Nat.le_refl _) W D _ _ (by omega) hK rfl rfl)⟩
  case stop =>
    rintro D c pre W _ _ h _
    exact h.elim
/-! ### the digest of a document -/
theorem pd_any (mth t : Int) (p : Option Addr) (n c : Nat) (q : Option Addr) (m d : Nat) (w : World) : Calls Try.prog 176 #[.int .i64 mth, .agg #[.int .i64 t, .slice p n c, .slice q m d]] w fun e w' =>
    e = .returned (.func (.func 179) #[] #[.pointer (some ⟨w.heap.size + 1, 0, none⟩), .pointer (some ⟨w.heap.size, 0, none⟩)]) ∧ w' = (w.alloc (.cells #[.int .i64 mth] 3)).alloc (.cells #[.int .i64 t, .slice p n c, .slice q m d] 38) := by
  go_enter Try.func176, Try.ntmps176
  go_wp2_with fail
  go_ret
  exact ⟨rfl, rfl⟩
theorem pd_stops (mth t : Int) (p : Option Addr) (n c : Nat) (q : Option Addr) (m d : Nat) (parts : List ByteArray) (salts : List Int) (Bd Bm : Nat) (w : World) (hr : RdS SlStr.E w p n parts) (hs : Rd .i64 w q m salts) (hnm : m = n) (h40 : ∀ j, j < n → (parts.getD j ByteArray.empty).size ≤ 10000000)
    (hBd : Bx w Bd 38 #[.int .i64 t, .slice p n c, .slice q m d]) (hBm : Bx w Bm 3 #[.int .i64 mth]) :
    SeqStopsK Fence.wide (3 - 1) Try.prog 179 #[.pointer (some ⟨Bd, 0, none⟩), .pointer (some ⟨Bm, 0, none⟩)] encI (Below w.heap.size) (fun ys => ys = upto (pdI mth parts salts) n) (fun pre => ∃ j, j ≤ n ∧ pre = upto (pdI mth parts salts) j) (upto (pdI mth parts salts) n).length w := fun l J Jx W hW hJ _ hY h0 => by
  rw [upto_length] at hY
  exact pd1_in (3 - 1) (by omega) l Bd Bm mth t p n c q m d parts salts w hr hs hnm h40 J Jx W hJ hY hW hBd hBm h0
theorem vals_upto (mth t : Int) (parts : List ByteArray) (salts : List Int) (n : Nat) (h : parts.length = n) : vals (upto (pdI mth parts salts) n) = partsD mth (t, parts, salts) := by
  subst h
  unfold vals upto partsD
  rw [List.map_map]
  rfl
set_option maxRecDepth 100000 in
set_option maxHeartbeats 8000000 in
theorem docD_any (mth t : Int) (p : Option Addr) (n c : Nat) (q : Option Addr) (m d : Nat) (parts : List ByteArray) (salts : List Int) (w : World) (hr : RdS SlStr.E w p n parts) (hs : Rd .i64 w q m salts) :
    Calls Try.prog 173 #[.int .i64 mth, .agg #[.int .i64 t, .slice p n c, .slice q m d]] w (Num (docD mth (t, parts, salts)) w) := by
  have HP := Lib.hid hr
  have HQ := Lib.hid hs
  have HL := Lib.hid hr.len
  have HL2 := Lib.hid hs.len
  have HB := Lib.hid (box1 w (.cells #[.int .i64 t, .slice p n c, .slice q m d] 38))
  have HX := Lib.hid (Bx.new w 38 #[.int .i64 t, .slice p n c, .slice q m d])
  clear hr hs
  rcases hok : docOk (t, parts, salts) with _ | _
  · have HO := Lib.hid hok
    have HD := Lib.hid (docD_no (m := mth) hok)
    clear hok
    go_enter Try.func173, Try.ntmps173
    go_wp2_with fail
    refine (isDoc_any _ _ _ _ _ _ _ _ _ _ (HP.out.below HB.out) (HQ.out.below HB.out)).mono ?_
    rintro e w1 ⟨rfl, hb⟩
    rw [HO.out]
    have HB1 := Lib.hid (below_on HB.out hb)
    clear hb
    go_wp2_with fail
    go_ret
    exact ⟨by rw [HD.out]; rfl, HB1.out⟩
  · have hsay := docOk_says hok
    have HO := Lib.hid hok
    have HD := Lib.hid (docD_yes (m := mth) hok)
    have hlen : parts.length ≤ 6 := hsay.2.1.2
    have hml : salts.length = parts.length := hsay.2.2.1
    have HS40 : Hid (∀ j, j < n → (parts.getD j ByteArray.empty).size ≤ 10000000) := Lib.hid fun j hj => by
      have := hsay.2.2.2.1 j (by show j < parts.length; rw [HL.out]; exact hj)
      have h2 : (parts.getD j ByteArray.empty).size ≤ 40 := this
      omega
    have ht : inK .i64 t := by have := hsay.1; exact ⟨by have := this.1; show -9223372036854775808 ≤ t; have h3 : 0 ≤ t := this; omega, by have := this.2; have h3 : t ≤ 999 := this; show t ≤ 9223372036854775807; omega⟩
    have HT := Lib.hid ht
    have hmn : m = n := by rw [← HL.out, ← HL2.out]; exact hml
    have hn6 : n ≤ 6 := by rw [← HL.out]; exact hlen
    clear hok hsay hlen hml ht
    subst hmn
    go_enter Try.func173, Try.ntmps173
    go_wp2_with fail
    refine (isDoc_any _ _ _ _ _ _ _ _ _ _ (HP.out.below HB.out) (HQ.out.below HB.out)).mono ?_
    rintro e w1 ⟨rfl, hb⟩
    rw [HO.out]
    have HB1 := Lib.hid (below_on HB.out hb)
    have HX1 := Lib.hid (HX.out.below hb)
    obtain ⟨x0, x1, x2⟩ := bx3 HX1.out
    clear hb
    go_wp2_with fail
    go_region_held3 (fun w' => w'.cell? ⟨w.heap.size, 0, none⟩ = some (.int .i64 t) ∧ w'.cell? ⟨w.heap.size, 1, none⟩ = some (.slice p m c) ∧ w'.cell? ⟨w.heap.size, 2, none⟩ = some (.slice q m d)) (first | exact bx3 HX3.out | exact bx3 HX2.out | exact bx3 HX1.out | go_keep) (first
      | (go_at_call 176; refine (pd_any mth t p m c q m d _).mono ?_; rintro e w2 ⟨rfl, hw2⟩; have hb2 : Below w1.drew.heap.size w1.drew w2 := (by rw [hw2]; exact ((Below.refl _ _).alloc (Nat.le_refl _) _).alloc (by simp) _); have HX2 := Lib.hid (HX1.out.drew1.below hb2); have HB2 := Lib.hid (below_on (below_drewN HB1.out 1) hb2); have HM : Hid (Bx w2 w1.drew.heap.size 3 #[.int .i64 mth]) := Lib.hid (by rw [hw2]; exact (Bx.new _ _ _).alloc _); have HE : Hid (Bx w2 (w1.drew.heap.size + 1) 38 #[.int .i64 t, .slice p m c, .slice q m d]) := Lib.hid (by rw [hw2]; have h := Bx.new (w1.drew.alloc (.cells #[.int .i64 mth] 3)) 38 #[.int .i64 t, .slice p m c, .slice q m d]; rw [World.size_alloc] at h; exact h); clear hw2 hb2)
      | (go_at_call 175; refine (fold_any mth t HT.out 179 _ (enters_of Try.func179 (by kernel_rfl) rfl) (upto (pdI mth parts salts) m) (by rw [upto_length]; exact hn6) _ _ (pd_stops mth t p m c q m d parts salts _ _ _ (HP.out.below HB2.out) (HQ.out.below HB2.out) rfl HS40.out HE.out HM.out)).mono ?_; rintro e w3 ⟨rfl, hb3⟩; have HX3 := Lib.hid (HX2.out.below hb3); have HB3 := Lib.hid (below_on HB2.out hb3); clear hb3))
    go_wp2_with fail
    go_ret
    exact ⟨by rw [HD.out, ← vals_upto mth t parts salts m HL.out]; rfl, HB3.out⟩
end Go.Proofs.Ytjaholcmaafenaa.Dd
