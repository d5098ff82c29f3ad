/- Contracts of DecodeInts, in the program and in the reference. -/
import Derived.Test.YtdncodfgllfjiaaVarB
import Derived.Test.YtdncodfgllfjiaaSlI
import Derived.OneCell
namespace Go.Proofs.Ytdncodfgllfjiaa.Var
open Go.ChangeShapes Go.WideShapes Go.ChangeAt Go.RowKit Sl Uv

def decL (xs : List Int) (a n : Int) : List Int := match decI xs a n with | none => [] | some p => p.1
def decE (xs : List Int) (a n : Int) : Int := match decI xs a n with | none => 0 | some p => p.2
def decOk (xs : List Int) (a n : Int) : Bool := match decI xs a n with | none => false | some _ => true
theorem dec_len : ∀ (n : Nat) (xs : List Int) (a : Int) (l : List Int) (e : Int), dec n xs a = some (l, e) → l.length = n := by
  intro n
  induction n with
  | zero => intro xs a l e h; simp [dec] at h; rw [h.1]; rfl
  | succ n ih =>
    intro xs a l e h
    rcases hr : rd xs a with _ | ⟨v, e'⟩
    · rw [dec_fail hr] at h; cases h
    · rw [dec_next hr] at h
      rcases hd : dec n xs e' with _ | ⟨l', e2⟩
      · rw [hd] at h; cases h
      · rw [hd] at h
        simp only [Option.map_some, Option.some.injEq, Prod.mk.injEq] at h
        rw [← h.1, List.length_cons, ih _ _ _ _ hd]
theorem decL_len (xs : List Int) (a n : Int) : (decL xs a n).length ≤ 100 := by
  unfold decL
  by_cases h : (0 ≤ n ∧ n ≤ 100) ∧ (0 ≤ a ∧ a ≤ xs.length)
  · rw [decI_in h]
    rcases hd : dec n.toNat xs a with _ | ⟨l, e⟩
    · simp
    · have := dec_len _ _ _ _ _ hd
      simp only
      omega
  · rw [decI_out h]; simp
/-- The call answers the numbers, the offset behind them, and whether there are any; the list is new; what lay before is as it was. -/
def DecEnd (xs : List Int) (a n : Int) (w : World) (e : Ending) (w' : World) : Prop :=
  ∃ p m c, e = .returned (.tuple #[.slice p m c, .int .i64 (decE xs a n), .bool (decOk xs a n)]) ∧ Ow .i64 3 w' w.heap.size w'.heap.size p m c (decL xs a n) ∧ Below w.heap.size w w'
theorem decEnd_none {xs : List Int} {a n : Int} {w w' : World} {p : Option Addr} {c : Nat} (h : decI xs a n = none) (ho : Ow .i64 3 w' w.heap.size w'.heap.size p 0 c []) (hb : Below w.heap.size w w') : DecEnd xs a n w (.returned (.tuple #[.slice p 0 c, .int .i64 0, .bool false])) w' := by
  refine ⟨p, 0, c, ?_, ?_, hb⟩
  · unfold decE decOk; rw [h]
  · unfold decL; rw [h]; exact ho
theorem decEnd_some {xs zs : List Int} {a n v : Int} {w w' : World} {p : Option Addr} {m c : Nat} (h : decI xs a n = some (zs, v)) (ho : Ow .i64 3 w' w.heap.size w'.heap.size p m c zs) (hb : Below w.heap.size w w') : DecEnd xs a n w (.returned (.tuple #[.slice p m c, .int .i64 v, .bool true])) w' := by
  refine ⟨p, m, c, ?_, ?_, hb⟩
  · unfold decE decOk; rw [h]
  · unfold decL; rw [h]; exact ho
/-- the empty list of ints that is made anew -/
theorem emptyI_own (w : World) (lo : Nat) (h : lo ≤ w.heap.size) : Ow .i64 3 (w.alloc (.cells #[] 3)) lo (w.alloc (.cells #[] 3)).heap.size (some ⟨w.heap.size, 0, none⟩) 0 0 [] :=
  ⟨World.ownsRow_lit w #[] 0 h (Nat.zero_le _) rfl, allK_nil _, by simp, fun g hg => by simp [Value.ownBlock] at hg; simp; omega⟩

/-- on the way: the numbers that are read, the offset, and what is left says what is answered -/
def DecMid (xs : List Int) (a n : Int) (k : Nat) (vs : List Int) (x : Nat) : Prop :=
  vs.length = k ∧ k ≤ n.toNat ∧ x ≤ xs.length ∧ decI xs a n = (dec (n.toNat - k) xs x).map fun p => (vs ++ p.1, p.2)
theorem DecMid.start {xs : List Int} {a n : Int} {x : Nat} (hn : 0 ≤ n ∧ n ≤ 100) (ha : a = x) (hx : x ≤ xs.length) : DecMid xs a n 0 [] x := by
  refine ⟨rfl, Nat.zero_le _, hx, ?_⟩
  rw [decI_in ⟨hn, by omega⟩, ha]
  rcases dec (n.toNat - 0) xs x with _ | p <;> simp_all
theorem DecMid.fail {xs : List Int} {a n : Int} {k x : Nat} {vs : List Int} (h : DecMid xs a n k vs x) (hk : k < n.toNat) (hr : rd xs x = none) : decI xs a n = none := by
  rw [h.2.2.2, show n.toNat - k = (n.toNat - (k + 1)) + 1 by omega, dec_fail hr]
  rfl
theorem DecMid.next {xs : List Int} {a n : Int} {k x m s : Nat} {vs : List Int} (h : DecMid xs a n k vs x) (hk : k < n.toNat) (hr : rd xs x = some ((m : Int), (s : Int))) (hs : s ≤ xs.length) : DecMid xs a n (k + 1) (vs ++ [(m : Int)]) s := by
  refine ⟨by rw [List.length_append, h.1]; rfl, by omega, hs, ?_⟩
  rw [h.2.2.2, show n.toNat - k = (n.toNat - (k + 1)) + 1 by omega, dec_next hr, Option.map_map]
  congr 1
  funext p
  simp
theorem DecMid.done {xs : List Int} {a n : Int} {k x : Nat} {vs : List Int} (h : DecMid xs a n k vs x) (hk : n.toNat ≤ k) : decI xs a n = some (vs, (x : Int)) := by
  rw [h.2.2.2, show n.toNat - k = 0 by omega]
  simp [dec]

set_option maxHeartbeats 1000000 in
theorem spec_dec_any (p : Option Addr) (n c : Nat) (zs : List Int) (a cnt : Int) (w : World) (hr : Rd .u8 w p n zs) (hn : n ≤ 1000000000) (ha1 : -9223372036854775808 ≤ a) (ha2 : a ≤ 9223372036854775807) : Calls Try.prog 38 #[.slice p n c, .int .i64 a, .int .i64 cnt] w (DecEnd zs a cnt w) := by
  obtain ⟨i0, hi, hz0, hz1, hz2⟩ := info_parts SlI.info
  have HR := Lib.hid hr
  have HL := Lib.hid hr.len
  have hle := hr.le
  clear hr
  by_cases hc1 : 0 ≤ cnt ∧ cnt ≤ 100
  · by_cases hc2 : 0 ≤ a ∧ a ≤ n
    · obtain ⟨hc3, hc4⟩ := hc1
      obtain ⟨hc5, hc6⟩ := hc2
      obtain ⟨q, rfl⟩ := Int.eq_ofNat_of_zero_le hc3
      obtain ⟨x, rfl⟩ := Int.eq_ofNat_of_zero_le hc5
      have HM := Lib.hid (DecMid.start (xs := zs) (n := (q : Int)) (a := (x : Int)) ⟨hc3, hc4⟩ rfl (by rw [HL.out]; omega))
      go_enter Try.func38, Try.ntmps38
      go_wp2_with fail
      refine (Ints.l1In_any _ _ _ true (by rw [decide_eq_true_iff]; omega) _).mono ?_
      rintro e0 w1 ⟨rfl, rfl⟩
      go_wp2_with fail
      refine (Ints.l1In_any _ _ _ true (by rw [decide_eq_true_iff]; omega) _).mono ?_
      rintro e0 w1 ⟨rfl, rfl⟩
      go_wp2_with fail
      have HO := Lib.hid (emptyI_own w w.heap.size (Nat.le_refl _))
      have HB := Lib.hid ((Below.refl w.heap.size w).alloc (Nat.le_refl _) (.cells #[] 3))
      go_loopw [1, 9, 10] (fun v b i wr => ∃ (k x' m' c' : Nat) (p' : Option Addr) (vs : List Int), k ≤ q ∧ x' ≤ n ∧ m' ≤ 100 ∧ i = .int .i64 k ∧ v = .int .i64 x' ∧ b = .slice p' m' c' ∧ Hid (DecMid zs x q k vs x') ∧ Hid (Ow .i64 3 wr w.heap.size wr.heap.size p' m' c' vs) ∧ Hid (Below w.heap.size w wr)) (fun _ _ i _ => q - (intOf i).toNat)
      case atStart => exact ⟨0, x, 0, _, _, [], Nat.zero_le _, by omega, by omega, rfl, rfl, rfl, HM, HO, HB⟩
      case round =>
        obtain ⟨k, x', m', c', p', vs, hk, hx', hm', rfl, rfl, rfl, HK, HO', HB'⟩ := hrel
        by_cases hlt : k < q
        · have HW := Lib.hid (HB'.out.size)
          rcases hrd : rd zs x' with _ | ⟨v, e⟩
          · have HN := Lib.hid (HK.out.fail (by simpa using hlt) hrd)
            have HD := Lib.hid hrd
            clear hrd
            go_wp2_with fail
            refine (spec_read_none _ _ _ _ _ _ (HR.out.below HB'.out) (by omega) (by omega) (by omega) HD.out).mono ?_
            rintro e0 w2 ⟨rfl, hb2⟩
            have HB2 := Lib.hid (below_on HB'.out hb2)
            clear hb2
            go_wp2_with fail
            go_ret3
            exact decEnd_none HN.out (emptyI_own _ _ HB2.out.size) (HB2.out.alloc HB2.out.size _)
          · obtain ⟨m, s, rfl, rfl, hm, hs⟩ := rd_nat HR.out.all hrd
            have HX := Lib.hid (HK.out.next (by simpa using hlt) hrd hs)
            have HD := Lib.hid hrd
            rw [HL.out] at hs
            clear hrd
            go_wp2_with fail
            refine (spec_read_some _ _ _ _ _ _ (HR.out.below HB'.out) (by omega) (by omega) (by omega) HD.out).mono ?_
            rintro e0 w2 ⟨rfl, hb2⟩
            have HO2 := Lib.hid (HO'.out.below hb2)
            have HB2 := Lib.hid (below_on HB'.out hb2)
            clear hb2
            go_wp2_with (at_builtin; refine wpList_app1 rfl (.tmp 41) (.tmp 43) 35 rfl i0 _ 8 Try.underlying35 hi hz0 hz1 hz2 rfl rfl (HO2.out.alloc _) w2.heap.size 1 (m : Int) rfl (by go_simp) ⟨by omega, by omega⟩ (Nat.le_trans HB2.out.size (by simp)) (by omega) (by omega) ?_; intro p3 c3 w3 how3 hg3)
            have hm3 : m' + 1 ≤ 100 := by
              have h1 := how3.len
              have h2 := HX.out.1
              omega
            refine ⟨⟨k + 1, s, _, _, _, _, by omega, by omega, hm3, by go_num, rfl, rfl, HX.out, how3, (HB2.out.alloc HB2.out.size _).trans ((HO2.out.alloc _).below_row hg3 (Nat.le_trans HB2.out.size (by simp)))⟩, by simp [intOf]; omega⟩
        · obtain rfl : k = q := by omega
          go_wp2_with fail
          go_ret3
          exact decEnd_some (HK.out.done (by simp)) HO'.out HB'.out
    · have HN := Lib.hid (decI_out (xs := zs) (at_ := a) (n := cnt) (fun h => hc2 (by rw [← HL.out]; exact h.2)))
      obtain ⟨hc3, hc4⟩ := hc1
      go_enter Try.func38, Try.ntmps38
      go_wp2_with fail
      refine (Ints.l1In_any _ _ _ true (by rw [decide_eq_true_iff]; omega) _).mono ?_
      rintro e0 w1 ⟨rfl, rfl⟩
      go_wp2_with fail
      refine (Ints.l1In_any _ _ _ false (by rw [decide_eq_false_iff_not]; exact hc2) _).mono ?_
      rintro e0 w1 ⟨rfl, rfl⟩
      go_wp2_with fail
      go_ret3
      exact decEnd_none HN.out (emptyI_own _ _ (Nat.le_refl _)) ((Below.refl _ _).alloc (Nat.le_refl _) _)
  · have HN := Lib.hid (decI_out (xs := zs) (at_ := a) (n := cnt) (fun h => hc1 h.1))
    go_enter Try.func38, Try.ntmps38
    go_wp2_with fail
    refine (Ints.l1In_any _ _ _ false (by rw [decide_eq_false_iff_not]; exact hc1) _).mono ?_
    rintro e0 w1 ⟨rfl, rfl⟩
    go_wp2_with fail
    go_ret3
    exact decEnd_none HN.out (emptyI_own _ _ (Nat.le_refl _)) ((Below.refl _ _).alloc (Nat.le_refl _) _)

/-! ### the program's: a closure reads the next one -/
/-- the block of a captured variable -/
def One (w : World) (g : Nat) (T : TypeId) (v : Value) : Prop := w.heap[g]? = some (.cells #[v] T (0, 0))
theorem One.lt {w : World} {g : Nat} {T : TypeId} {v : Value} (h : One w g T v) : g < w.heap.size := by
  rcases Nat.lt_or_ge g w.heap.size with hlt | hge
  · exact hlt
  · unfold One at h; rw [Array.getElem?_eq_none hge] at h; cases h
theorem One.cell {w : World} {g : Nat} {T : TypeId} {v : Value} (h : One w g T v) : w.cell? ⟨g, 0, none⟩ = some v := by
  unfold One at h
  simp [World.cell?, h]
theorem One.free {w : World} {g : Nat} {T : TypeId} {v : Value} (h : One w g T v) : w.frozen? ⟨g, 0, none⟩ = false := by
  unfold One at h
  simp [World.frozen?, h]
theorem One.below {w w' : World} {g : Nat} {T : TypeId} {v : Value} (h : One w g T v) (hb : Below w.heap.size w w') : One w' g T v := (hb.block g h.lt).trans h
theorem One.set_ {w : World} {g : Nat} {T : TypeId} {v : Value} (h : One w g T v) (u : Value) : One (w.setCell ⟨g, 0, none⟩ u) g T u := by
  unfold One at h ⊢
  simp [World.setCell, Array.getElem?_modify, h]
theorem One.far {w : World} {g : Nat} {T : TypeId} {v : Value} (h : One w g T v) {q : Addr} (hq : g ≠ q.block) (u : Value) : One (w.setCell q u) g T v := (Below.heap_setCell w q u g hq).trans h
theorem One.new (w : World) (T : TypeId) (v : Value) : One (w.alloc (.cells #[v] T)) w.heap.size T v := heap_alloc_new w _
theorem One.alloc {w : World} {g : Nat} {T : TypeId} {v : Value} (h : One w g T v) (o : Obj) : One (w.alloc o) g T v := (Below.heap_alloc w o g h.lt).trans h
theorem One.grown {w w' : World} {g : Nat} {T : TypeId} {v : Value} {row : Option Nat} (h : One w g T v) (hg : w.grownBy w' row) (hne : some g ≠ row) : One w' g T v := (hg.block g h.lt hne).trans h
theorem grown_set {w w1 : World} (hb : Below w.heap.size w w1) (g : Nat) (v : Value) : w.grownBy (w1.setCell ⟨g, 0, none⟩ v) (some g) :=
  ⟨hb.os, hb.tape, hb.output, by simpa [World.setCell] using hb.size, fun i hi hne => (Below.heap_setCell w1 ⟨g, 0, none⟩ v i (by rintro rfl; exact hne rfl)).trans (hb.block i hi)⟩
/-- What the closure leaves: the next offset in its variable; no other block has turned. -/
def ReadNext (g : Nat) (v x : Int) (ok : Bool) (w : World) (e : Ending) (w' : World) : Prop :=
  e = .returned (.tuple #[.int .i64 v, .bool ok]) ∧ One w' g 3 (.int .i64 x) ∧ w.grownBy w' (some g)
theorem readNext {g : Nat} {v x y : Int} {ok : Bool} {w w1 : World} (h : One w g 3 (.int .i64 y)) (hb : Below w.heap.size w w1) : ReadNext g v x ok w (.returned (.tuple #[.int .i64 v, .bool ok])) (w1.setCell ⟨g, 0, none⟩ (.int .i64 x)) :=
  ⟨rfl, (h.below hb).set_ _, grown_set hb g _⟩
set_option maxHeartbeats 400000 in
theorem closure_some (g0 g1 : Nat) (p : Option Addr) (n c : Nat) (zs : List Int) (x : Int) (w : World) (h0 : One w g0 22 (.slice p n c)) (h1 : One w g1 3 (.int .i64 x)) (hr : Rd .u8 w p n zs) (hn : n ≤ 1000000000000) (hc : n ≤ c) (hc' : c ≤ 9223372036854775807) {v e : Int} (h : rd zs x = some (v, e)) :
    Calls Try.prog 55 #[.pointer (some ⟨g0, 0, none⟩), .pointer (some ⟨g1, 0, none⟩)] w (ReadNext g1 v e true w) := by
  have c0 := h0.cell
  have c1 := h1.cell
  have H1 := Lib.hid h1
  have HR := Lib.hid hr
  have HD := Lib.hid h
  clear h0 h1 hr h
  go_enter Try.func55, Try.ntmps55
  go_wp2_with fail
  refine (read_some _ _ _ _ _ _ HR.out hn hc hc' HD.out).mono ?_
  rintro e0 w1 ⟨rfl, hb1⟩
  have HB := Lib.hid hb1
  have c2 := (H1.out.below hb1).cell
  have c3 := (H1.out.below hb1).free
  clear hb1
  go_wp2_with fail
  go_ret2
  exact readNext H1.out HB.out
set_option maxHeartbeats 400000 in
theorem closure_none (g0 g1 : Nat) (p : Option Addr) (n c : Nat) (zs : List Int) (x : Int) (w : World) (h0 : One w g0 22 (.slice p n c)) (h1 : One w g1 3 (.int .i64 x)) (hr : Rd .u8 w p n zs) (hn : n ≤ 1000000000000) (hc : n ≤ c) (hc' : c ≤ 9223372036854775807) (h : rd zs x = none) :
    Calls Try.prog 55 #[.pointer (some ⟨g0, 0, none⟩), .pointer (some ⟨g1, 0, none⟩)] w (ReadNext g1 0 0 false w) := by
  have c0 := h0.cell
  have c1 := h1.cell
  have H1 := Lib.hid h1
  have HR := Lib.hid hr
  have HD := Lib.hid h
  clear h0 h1 hr h
  go_enter Try.func55, Try.ntmps55
  go_wp2_with fail
  refine (read_none _ _ _ _ _ _ HR.out hn hc hc' HD.out).mono ?_
  rintro e0 w1 ⟨rfl, hb1⟩
  have HB := Lib.hid hb1
  have c2 := (H1.out.below hb1).cell
  have c3 := (H1.out.below hb1).free
  clear hb1
  go_wp2_with fail
  go_ret2
  exact readNext H1.out HB.out
/-- on the way, in the program: the list of the call's own, the two captured variables -/
def DecWay (p : Option Addr) (n c : Nat) (x' : Nat) (p' : Option Addr) (m' c' : Nat) (vs : List Int) (w wr : World) : Prop :=
  Ow .i64 3 wr (w.heap.size + 2) wr.heap.size p' m' c' vs ∧ w.heap.size + 2 ≤ wr.heap.size ∧ Below w.heap.size w wr ∧ One wr w.heap.size 22 (.slice p n c) ∧ One wr (w.heap.size + 1) 3 (.int .i64 x')
theorem DecWay.start {p : Option Addr} {n c x C : Nat} {w w3 : World}
    (hown : w3.ownsRow (w.heap.size + 2) 3 1 (.slice (some ⟨w.heap.size + 1 + 1, 0, none⟩) 0 C) 0 []) (hg : ((w.alloc (.cells #[.slice p n c] 22)).alloc (.cells #[.int .i64 x] 3)).grownBy w3 none) :
    DecWay p n c x (some ⟨w.heap.size + 1 + 1, 0, none⟩) 0 C [] w w3 := by
  have hb : Below w.heap.size w w3 := (((Below.refl _ _).alloc (Nat.le_refl _) _).alloc (by simp) _).grown hg (by simp; omega) (fun _ h => by cases h)
  have hs := hg.size
  simp at hs
  refine ⟨Ow.of_row hown (allK_nil _), by omega, hb, ?_, ?_⟩
  · exact (((One.new w _ _).alloc _).grown hg (by simp))
  · have h := One.new (w.alloc (.cells #[.slice p n c] 22)) 3 (.int .i64 x)
    have h2 := h.grown hg (by simp)
    simpa using h2
theorem DecWay.read {vs : List Int} {p p' : Option Addr} {n c x' m' c' y : Nat} {w wr w2 : World} (h : DecWay p n c x' p' m' c' vs w wr) (h1 : One w2 (w.heap.size + 1) 3 (.int .i64 y)) (hg : wr.grownBy w2 (some (w.heap.size + 1))) : DecWay p n c y p' m' c' vs w w2 := by
  obtain ⟨ho, hs, hb, h0, _⟩ := h
  have hs2 := hg.size
  have hb2 : Below w.heap.size w w2 := hb.grown hg hb.size (fun k e => by simp at e; omega)
  exact ⟨(ho.kept hg (fun g e => by simp at e; omega)).wide (Nat.le_refl _) hs2 (Nat.le_refl _), by omega, hb2, h0.grown hg (by simp), h1⟩
theorem DecWay.app {vs : List Int} {p p' p3 : Option Addr} {n c x' m' c' c3 : Nat} {v : Int} {w wr w3 : World} {T : TypeId} (h : DecWay p n c x' p' m' c' vs w wr) (hw : Ow .i64 3 w3 (w.heap.size + 2) w3.heap.size p3 (m' + 1) c3 (vs ++ [v])) (hg : (wr.alloc (.cells #[.int .i64 v] T)).grownBy w3 (Value.slice p' m' c').ownBlock) : DecWay p n c x' p3 (m' + 1) c3 (vs ++ [v]) w w3 := by
  obtain ⟨ho, hs, hb, h0, h1⟩ := h
  have hs2 := hg.size
  simp at hs2
  have hfar := ho.far
  refine ⟨hw, by omega, (hb.alloc hb.size _).grown hg (by simp; omega) (fun k e => by have := hfar k e; omega), ?_, ?_⟩
  · exact (h0.alloc _).grown hg (fun e => by have := hfar _ e.symm; omega)
  · exact (h1.alloc _).grown hg (fun e => by have := hfar _ e.symm; omega)
set_option maxHeartbeats 1000000 in
theorem dec_any (p : Option Addr) (n c : Nat) (zs : List Int) (a cnt : Int) (w : World) (hr : Rd .u8 w p n zs) (hn : n ≤ 1000000000) (hc : n ≤ c) (hc' : c ≤ 9223372036854775807) : Calls Try.prog 25 #[.slice p n c, .int .i64 a, .int .i64 cnt] w (DecEnd zs a cnt w) := by
  obtain ⟨i0, hi, hz0, hz1, hz2⟩ := info_parts SlI.info
  have HR := Lib.hid hr
  have HL := Lib.hid hr.len
  have hle := hr.le
  clear hr
  by_cases hc1 : 0 ≤ cnt ∧ cnt ≤ 100
  · by_cases hc2 : 0 ≤ a ∧ a ≤ n
    · obtain ⟨hc3, hc4⟩ := hc1
      obtain ⟨hc5, hc6⟩ := hc2
      obtain ⟨q, rfl⟩ := Int.eq_ofNat_of_zero_le hc3
      obtain ⟨x, rfl⟩ := Int.eq_ofNat_of_zero_le hc5
      have HM := Lib.hid (DecMid.start (xs := zs) (n := (q : Int)) (a := (x : Int)) ⟨hc3, hc4⟩ rfl (by rw [HL.out]; omega))
      go_enter Try.func25, Try.ntmps25
      go_wp2_with fail
      refine (Ints.inRange_any _ _ _ true (by rw [decide_eq_true_iff]; omega) _).mono ?_
      rintro e0 w1 ⟨rfl, rfl⟩
      go_wp2_with fail
      refine (Ints.inRange_any _ _ _ true (by rw [decide_eq_true_iff]; omega) _).mono ?_
      rintro e0 w1 ⟨rfl, rfl⟩
      go_wp2_with (refine wpList_make_own _ rfl _ _ 35 rfl (w.heap.size + 2) 3 i0 (.int .i64 0) 1 Try.underlying35 hi hz0 hz1 .i64 .i64 _ q rfl rfl rfl (by rw [hz2]; omega) (by unfold maxLen; omega) (by simp) ?_; intro w1 hown1 hg1)
      simp only [World.size_alloc] at hown1
      have HW := Lib.hid (DecWay.start hown1 hg1)
      clear hown1 hg1
      go_loopw [11, 30] (fun b i wr => ∃ (k x' m' c' : Nat) (p' : Option Addr) (vs : List Int), k ≤ q ∧ x' ≤ n ∧ m' ≤ 100 ∧ i = .int .i64 k ∧ b = .slice p' m' c' ∧ Hid (DecMid zs x q k vs x') ∧ Hid (DecWay p n c x' p' m' c' vs w wr)) (fun _ i _ => q - (intOf i).toNat)
      case atStart => exact ⟨0, x, 0, _, _, [], Nat.zero_le _, by omega, by omega, rfl, rfl, HM, HW⟩
      case round =>
        obtain ⟨k, x', m', c', p', vs, hk, hx', hm', rfl, rfl, HK, HY⟩ := hrel
        by_cases hlt : k < q
        · have hsz := HY.out.2.1
          rcases hrd : rd zs x' with _ | ⟨v, e⟩
          · have HN := Lib.hid (HK.out.fail (by simpa using hlt) hrd)
            have HD := Lib.hid hrd
            clear hrd
            go_wp2_with fail
            refine (closure_none _ _ _ _ _ _ _ _ HY.out.2.2.2.1 HY.out.2.2.2.2 (HR.out.below HY.out.2.2.1) (by omega) hc hc' HD.out).mono ?_
            rintro e0 w2 ⟨rfl, h1, hg⟩
            have HY2 := Lib.hid (HY.out.read (y := 0) h1 hg)
            clear h1 hg
            go_wp2_with fail
            go_ret3
            exact decEnd_none HN.out (emptyI_own _ _ HY2.out.2.2.1.size) (HY2.out.2.2.1.alloc HY2.out.2.2.1.size _)
          · obtain ⟨m, s, rfl, rfl, hm, hs⟩ := rd_nat HR.out.all hrd
            have HX := Lib.hid (HK.out.next (by simpa using hlt) hrd hs)
            have HD := Lib.hid hrd
            rw [HL.out] at hs
            clear hrd
            go_wp2_with fail
            refine (closure_some _ _ _ _ _ _ _ _ HY.out.2.2.2.1 HY.out.2.2.2.2 (HR.out.below HY.out.2.2.1) (by omega) hc hc' HD.out).mono ?_
            rintro e0 w2 ⟨rfl, h1, hg⟩
            have HY2 := Lib.hid (HY.out.read (y := s) h1 hg)
            have hsz2 := HY2.out.2.1
            clear h1 hg
            go_wp2_with (at_builtin; refine wpList_app1 rfl (.tmp 40) (.tmp 42) 35 rfl i0 _ 8 Try.underlying35 hi hz0 hz1 hz2 rfl rfl (HY2.out.1.alloc _) w2.heap.size 1 (m : Int) rfl (by go_simp) ⟨by omega, by omega⟩ (by simp; omega) (by omega) (by omega) ?_; intro p3 c3 w3 how3 hg3)
            have hm3 : m' + 1 ≤ 100 := by
              have h1 := how3.len
              have h2 := HX.out.1
              omega
            refine ⟨⟨k + 1, s, _, _, _, _, by omega, by omega, hm3, by go_num, rfl, HX.out, HY2.out.app how3 hg3⟩, by simp [intOf]; omega⟩
        · obtain rfl : k = q := by omega
          have hcl := HY.out.2.2.2.2.cell
          go_wp2_with fail
          go_quiet (fail)
          go_wp2_with fail
          go_ret3
          exact decEnd_some (HK.out.done (by simp)) ((HY.out.1.drewN _).wide (by omega) (Nat.le_refl _) (Nat.le_refl _)) (below_drewN HY.out.2.2.1 _)
    · have HN := Lib.hid (decI_out (xs := zs) (at_ := a) (n := cnt) (fun h => hc2 (by rw [← HL.out]; exact h.2)))
      obtain ⟨hc3, hc4⟩ := hc1
      go_enter Try.func25, Try.ntmps25
      go_wp2_with fail
      refine (Ints.inRange_any _ _ _ true (by rw [decide_eq_true_iff]; omega) _).mono ?_
      rintro e0 w1 ⟨rfl, rfl⟩
      go_wp2_with fail
      refine (Ints.inRange_any _ _ _ false (by rw [decide_eq_false_iff_not]; exact hc2) _).mono ?_
      rintro e0 w1 ⟨rfl, rfl⟩
      go_wp2_with fail
      go_ret3
      exact decEnd_none HN.out (by simpa using emptyI_own (w.alloc (.cells #[.slice p n c] 22)) w.heap.size (by simp)) (((Below.refl _ _).alloc (Nat.le_refl _) _).alloc (by simp) _)
  · have HN := Lib.hid (decI_out (xs := zs) (at_ := a) (n := cnt) (fun h => hc1 h.1))
    go_enter Try.func25, Try.ntmps25
    go_wp2_with fail
    refine (Ints.inRange_any _ _ _ false (by rw [decide_eq_false_iff_not]; exact hc1) _).mono ?_
    rintro e0 w1 ⟨rfl, rfl⟩
    go_wp2_with fail
    go_ret3
    exact decEnd_none HN.out (by simpa using emptyI_own (w.alloc (.cells #[.slice p n c] 22)) w.heap.size (by simp)) (((Below.refl _ _).alloc (Nat.le_refl _) _).alloc (by simp) _)
end Go.Proofs.Ytdncodfgllfjiaa.Var
