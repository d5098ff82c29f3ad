/- slices.Backward over renewals: what comes is a place and the renewal that lies there, whatever it points to. -/
import Derived.RangeFuncNested
import Derived.RangeFuncBound
import Derived.RangeFuncCalls
import Derived.RangeFuncLeaves
import Derived.RangeFuncBox
import Derived.WalkKit
import Derived.OwnWalkIn
import Derived.TacticsInMore
import Derived.LoopNIn
import Derived.LoopIn
import Derived.Test.YtfojilogcecphaaGreatDpRenewal
import Derived.Test.YtfojilogcecphaaGreatMmA
import Derived.Outline
namespace Go.Proofs.YtfojilogcecphaaGreat.Kb
open Go.ChangeShapes Go.WideShapes Go.ChangeAt Go.RowKit Go.Shelf Sl St Ed Dz Fnd
attribute [local go_sem] Oper.semAt_some
/-- a place and the value of the renewal there -/
def ItP (S : Nat → Prop) (w0 : World) (xs : List DpRenewal.A) (x : Nat × Value) : Prop := ∃ (x0 x1 x2 : Int) (l3 : List (Int × Bool)) (l4 : List I5) (p3 : Option Addr) (n3 c3 : Nat) (p4 : Option Addr) (n4 c4 : Nat), xs[x.1]? = some (x0, x1, x2, l3, l4) ∧ x.2 = .agg #[.int .i64 x0, .int .i64 x1, .int .i64 x2, .slice p3 n3 c3, .slice p4 n4 c4] ∧ InI x0 ∧ InI x1 ∧ InI x2 ∧ RdD (flat SlStep.E SlStep.InR) S w0 p3 n3 l3 ∧ RdD (flat SlStamp.E SlStamp.InR) S w0 p4 n4 l4
abbrev It (S : Nat → Prop) (w0 : World) (xs : List DpRenewal.A) := { x : Nat × Value // ItP S w0 xs x }
variable {S : Nat → Prop} {w0 : World} {xs : List DpRenewal.A} {p : Option Addr} {n : Nat}
def encs (x : It S w0 xs) : Array Value := #[.int .i64 (x.1.1 : Int), x.1.2]
/-- where an item lies -/
def Lies (w0 : World) (p : Option Addr) (r : Nat) (v : Value) : Prop := ∃ b o v0 v1 v2 v3 v4, p = some ⟨b, o, none⟩ ∧ b < w0.heap.size ∧ v = .agg #[v0, v1, v2, v3, v4] ∧ ∀ j v, [v0, v1, v2, v3, v4][j]? = some v → w0.cell? ⟨b, o + r * 5 + j, none⟩ = some v
/-- the items, from the last one on -/
def Items (p : Option Addr) (n : Nat) (L : List (It S w0 xs)) : Prop := L.length = n ∧ ∀ k (h : k < L.length), (L[k]).1.1 = n - 1 - k ∧ Lies w0 p (n - 1 - k) (L[k]).1.2
theorem item_at (hr : RdD DpRenewal.E S w0 p n xs) {r : Nat} (h : r < n) : ∃ x : It S w0 xs, x.1.1 = r ∧ Lies w0 p r x.1.2 := by
  obtain ⟨b, o, x_e, cs_e, rfl, _, hb, hx, hc, hrd⟩ := hr.at_ h
  obtain ⟨x0, x1, x2, l3, l4⟩ := x_e
  obtain ⟨p3, n3, c3, p4, n4, c4, rfl, b0, b1, b2, h3, h4⟩ := DpRenewal.ex hrd
  exact ⟨⟨(r, .agg #[.int .i64 x0, .int .i64 x1, .int .i64 x2, .slice p3 n3 c3, .slice p4 n4 c4]), x0, x1, x2, l3, l4, p3, n3, c3, p4, n4, c4, hx, rfl, b0, b1, b2, h3, h4⟩, rfl, b, o, _, _, _, _, _, rfl, hb, rfl, hc⟩
theorem items (hr : RdD DpRenewal.E S w0 p n xs) : ∃ L : List (It S w0 xs), Items p n L := by
  refine ⟨List.ofFn fun k : Fin n => Classical.choose (item_at hr (r := n - 1 - k.1) (by omega)), List.length_ofFn, fun k h => ?_⟩
  rw [List.length_ofFn] at h
  rw [List.getElem_ofFn]
  exact Classical.choose_spec (item_at hr (r := n - 1 - k) (by omega))
theorem Items.next {L : List (It S w0 xs)} (h : Items p n L) {j : Nat} (hj : j < n) : ∃ x, L.take j ++ [x] = L.take (j + 1) ∧ x.1.1 = n - 1 - j ∧ Lies w0 p (n - 1 - j) x.1.2 := by
  have hl : j < L.length := by rw [h.1]; exact hj
  refine ⟨L[j], ?_, h.2 j hl⟩
  rw [List.take_add_one, List.getElem?_eq_getElem hl]
  rfl
theorem Items.all {L : List (It S w0 xs)} (h : Items p n L) : L.take n = L := by rw [← h.1, List.take_length]
/-- the places of the first j items -/
theorem Items.mem {L : List (It S w0 xs)} (h : Items p n L) {j : Nat} (hj : j ≤ n) (i : Int) : (∃ x ∈ L.take j, (x.1.1 : Int) = i) ↔ ((n : Int) - j ≤ i ∧ i < n) := by
  constructor
  · rintro ⟨x, hx, rfl⟩
    obtain ⟨k, hk, rfl⟩ := List.mem_iff_getElem.1 hx
    have hk2 : k < j ∧ k < L.length := by rw [List.length_take] at hk; omega
    have h1 := (h.2 k hk2.2).1
    rw [List.getElem_take, h1]
    have := h.1
    omega
  · rintro ⟨h1, h2⟩
    have hk : n - 1 - i.toNat < L.length := by rw [h.1]; omega
    refine ⟨L[n - 1 - i.toNat], ?_, ?_⟩
    · refine List.mem_iff_getElem.2 ⟨n - 1 - i.toNat, by rw [List.length_take, h.1]; omega, ?_⟩
      rw [List.getElem_take]
    · rw [(h.2 _ hk).1]
      omega
set_option maxRecDepth 100000 in
set_option maxHeartbeats 4000000 in
theorem back1_in (F : Fence) (m : Nat) (hF : F.fn 103) (hro : F.round = none) (hm : 1 ≤ m) (l Bs : Nat) (c : Nat) (L : List (It S w0 xs)) (hL : Items p n L) (hle : n ≤ 9223372036854775807) (J Jx : List (It S w0 xs) → World → Prop)
    (hY : ∀ pre x W, J pre W → pre.length < n → YieldAt F (m - 1) Tryz.prog l (encs x) W fun e W' =>
      (e = .returned (.bool true) ∧ J (pre ++ [x]) W' ∧ Mb.Kp w0.heap.size Bs 42 (.slice p n c) W W') ∨ (e = .returned (.bool false) ∧ Jx (pre ++ [x]) W'))
    (W : World) (hW : Below w0.heap.size w0 W) (hBs : Bx W Bs 42 #[.slice p n c]) (h0 : J [] W) :
    CallsIn F m Tryz.prog 103 #[.func (.yield l) #[] #[], .pointer (some ⟨Bs, 0, none⟩)] W fun e W' => (∃ v, e = .returned v) ∧
      ((∃ ys, ys = L ∧ J ys W') ∨ (∃ pre, (∃ k, k ≤ n ∧ pre = L.take k) ∧ Jx pre W')) := by
  have hcs := hBs.cell (j := 0) rfl
  refine callsIn_of_wp Tryz.func103 rfl hF ?_ hro
  simp only [Tryz.ntmps103, List.size_toArray, List.length_cons, List.length_nil, Nat.reduceAdd, Nat.reduceSub, Array.replicate_succ, Array.replicate_zero, List.push_toArray, List.append_toArray, List.nil_append, List.cons_append]
  gi_wp2
  gi_loopw [3] (fun i wr => (i = .int .i64 (-1) ∧ J (L.take n) wr) ∨ ∃ r : Nat, r < n ∧ i = .int .i64 r ∧ J (L.take (n - 1 - r)) wr ∧ Below w0.heap.size w0 wr ∧ Bx wr Bs 42 #[.slice p n c])
    (fun i _ => (intOf i + 1).toNat)
  case atStart =>
    rcases Nat.eq_zero_or_pos n with rfl | hpos
    · exact Or.inl ⟨by simp, h0⟩
    · exact Or.inr ⟨n - 1, by omega, by congr 1; omega, by rw [Nat.sub_self]; exact h0, hW, hBs⟩
  case round =>
    rcases hrel with ⟨rfl, hJ⟩ | ⟨r, hlt, rfl, hJ, hB, hX⟩
    · rw [hL.all] at hJ
      gi_wp2
      go_end0
      exact ⟨⟨_, rfl⟩, .inl ⟨_, rfl, hJ⟩⟩
    · obtain ⟨x, hnext, hx1, b, o, v0, v1, v2, v3, v4, rfl, hb, hx2, hcl⟩ := hL.next (j := n - 1 - r) (by omega)
      have hyy := hY _ x wr hJ (by rw [List.length_take, hL.1]; omega)
      obtain ⟨fn, tmps, assign, body, hy, hRR⟩ := hyy
      rw [hnext] at hRR
      have hrr : n - 1 - (n - 1 - r) = r := by omega
      rw [hrr] at hx1 hcl
      simp only [encs, hx1, hx2] at hy
      have hc0 := (hB.cell (p := ⟨b, o + r * 5, none⟩) hb).trans (hcl 0 _ rfl)
      have hc1 := (hB.cell (p := ⟨b, o + r * 5 + 1, none⟩) hb).trans (hcl 1 _ rfl)
      have hc2 := (hB.cell (p := ⟨b, o + r * 5 + 2, none⟩) hb).trans (hcl 2 _ rfl)
      have hc3 := (hB.cell (p := ⟨b, o + r * 5 + 3, none⟩) hb).trans (hcl 3 _ rfl)
      have hc4 := (hB.cell (p := ⟨b, o + r * 5 + 4, none⟩) hb).trans (hcl 4 _ rfl)
      have hcx := hX.cell (j := 0) rfl
      clear hcl
      gi_wp2
      refine hRR.mono ?_
      rintro e W3 (⟨rfl, hJ3, hk3⟩ | ⟨rfl, hJx3⟩)
      · gi_wp2
        go_roundw
        case rel =>
          rcases Nat.eq_zero_or_pos r with rfl | hpos
          · exact Or.inl ⟨by simp, by rw [show n - 1 - 0 + 1 = n by omega] at hJ3; exact hJ3⟩
          · exact Or.inr ⟨r - 1, by omega, by congr 1; omega, by rw [show n - 1 - (r - 1) = n - 1 - r + 1 by omega]; exact hJ3, hB.trans hk3.1, hk3.2 hX⟩
        case measure => simp [intOf]
      · gi_wp2
        refine bodyPost_ret (results_none rfl _ _ _) rfl ?_
        exact ⟨⟨_, rfl⟩, .inr ⟨_, ⟨n - 1 - r + 1, by omega, rfl⟩, hJx3⟩⟩
set_option maxHeartbeats 1000000 in
/-- the slice is boxed; the function value captures the box -/
theorem back_in (F : Fence) (m : Nat) (hF : F.fn 75) (hro : F.round = none) (p : Option Addr) (n c : Nat) (w : World) :
    CallsIn F m Tryz.prog 75 #[.slice p n c] w fun e w' => e = .returned (.func (.func 103) #[] #[.pointer (some ⟨w.heap.size, 0, none⟩)]) ∧ w' = w.alloc (.cells #[.slice p n c] 42) := by
  refine callsIn_of_wp Tryz.func75 rfl hF ?_ hro
  simp only [Tryz.ntmps75, List.size_toArray, List.length_cons, List.length_nil, Nat.reduceAdd, Nat.reduceSub, Array.replicate_succ, Array.replicate_zero, List.push_toArray, List.append_toArray, List.nil_append, List.cons_append]
  gi_wp2
  go_ret
  exact ⟨rfl, rfl⟩
theorem back_stops (F : Fence) (m : Nat) (hF : F.fn 103) (hro : F.round = none) (hm : 1 ≤ m) (Bs : Nat) (c : Nat) (L : List (It S w0 xs)) (hL : Items p n L) (hle : n ≤ 9223372036854775807) (w : World) (hB : Below w0.heap.size w0 w) (hBs : Bx w Bs 42 #[.slice p n c]) :
    SeqStopsK F m Tryz.prog 103 #[.pointer (some ⟨Bs, 0, none⟩)] (encs (S := S) (w0 := w0) (xs := xs)) (Mb.Kp w0.heap.size Bs 42 (.slice p n c)) (fun ys => ys = L) (fun pre => ∃ k, k ≤ n ∧ pre = L.take k) n w := fun l J Jx W hW _ _ hY h0 =>
  back1_in F m hF hro hm l Bs c L hL hle J Jx hY W (below_on hB hW) (hBs.below hW) h0
end Go.Proofs.YtfojilogcecphaaGreat.Kb
