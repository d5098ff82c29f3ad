/- Contracts of the reference's lists of spans: one put in, the join. Contracts of the reference's join and meet of lists of spans, of what they cover and touch. What is of no program: a slice of the call's own that the library sorts. cmp.Compare of two numbers, as the library's own words have it. Contracts of the program's own sort of spans: the comparison, the closure, the sort. -/
import Derived.Test.YtfojilogcecphaaGreatSlSpan
import Derived.Test.YtfojilogcecphaaGreatSp
import Derived.Deep.QuietTactic
import Derived.BigQuiet
import Derived.Test.YtfojilogcecphaaGreatSt
import Derived.Shelf.SlSortCmp.NoneTotal
import Derived.LoopTactic
import Derived.Test.YtfojilogcecphaaGreatShelfG
namespace Go.Proofs.YtfojilogcecphaaGreat.Jo
open Go.ChangeShapes Go.WideShapes Go.ChangeAt Go.RowKit Sl St Jn Sps SlSpan

/-- on the way: the list that is made, the span as it has grown -/
def PutWay (L : List Sp) (s0 : Sp) (k : Nat) (out : List Sp) (s : Sp) (p : Option Addr) (m c : Nat) (w wr : World) : Prop :=
  Put L s0 k out s ∧ OwS E 105 wr (w.heap.size + 1) wr.heap.size p m c out ∧ Bx wr w.heap.size 105 #[.int .i64 s.1, .int .i64 s.2] ∧ Below w.heap.size w wr ∧ w.heap.size + 1 ≤ wr.heap.size
theorem empty_own (T : TypeId) (w : World) (lo : Nat) (h : lo ≤ w.heap.size) : OwS E T (w.alloc (.cells #[] T)) lo (w.alloc (.cells #[] T)).heap.size (some ⟨w.heap.size, 0, none⟩) 0 0 [] :=
  lit_own E T w lo [] #[] 0 rfl rfl (Nat.zero_le _) h
theorem one_own (T : TypeId) (w : World) (lo : Nat) (x : Sp) (h : lo ≤ w.heap.size) : OwS E T (w.alloc (.cells #[.int .i64 x.1, .int .i64 x.2] T)) lo (w.alloc (.cells #[.int .i64 x.1, .int .i64 x.2] T)).heap.size (some ⟨w.heap.size, 0, none⟩) 1 1 [x] :=
  lit_own E T w lo [x] _ 1 rfl rfl (by unfold maxLen; omega) h
theorem PutWay.start {L : List Sp} {s : Sp} {w : World} (h : okB s = true) : PutWay L s 0 [] s (some ⟨w.heap.size + 1, 0, none⟩) 0 0 w ((w.alloc (.cells #[.int .i64 s.1, .int .i64 s.2] 105)).alloc (.cells #[] 105)) := by
  refine ⟨Put.start L s h, ?_, (Bx.new w _ _).alloc _, ((Below.refl w.heap.size w).alloc (Nat.le_refl _) _).alloc (by simp) _, by simp⟩
  have h2 := empty_own 105 (w.alloc (.cells #[.int .i64 s.1, .int .i64 s.2] 105)) (w.heap.size + 1) (by simp)
  rw [World.size_alloc w] at h2
  exact h2
theorem one_rd (T : TypeId) (w : World) (O : Obj) (x : Sp) : RdS E ((w.alloc O).alloc (.cells #[.int .i64 x.1, .int .i64 x.2] T)) (some ⟨w.heap.size + 1, 0, none⟩) 1 [x] := by
  have h := (one_own T (w.alloc O) 0 x (Nat.zero_le _)).rd
  rw [World.size_alloc] at h
  exact h
/-- the element apart goes behind the list -/
theorem PutWay.skip {L out : List Sp} {s0 s x : Sp} {k m c c' : Nat} {p p' : Option Addr} {w wr w3 : World} {O : Obj} (h : PutWay L s0 k out s p m c w wr) (hL : Jn.Can L) (hk : k < L.length) (hx : L.getD k zero = x) (ha : x.2 + 1 < s.1 ∨ s.2 + 1 < x.1)
    (ho : OwS E 105 w3 (w.heap.size + 1) w3.heap.size p' (m + 1) c' (out ++ [x])) (hg : ((wr.alloc O).alloc (.cells #[.int .i64 x.1, .int .i64 x.2] 105)).grownBy w3 (Value.slice p m c).ownBlock) : PutWay L s0 (k + 1) (out ++ [x]) s p' (m + 1) c' w w3 := by
  obtain ⟨h1, h2, h3, h4, h5⟩ := h
  have hxe : L[k] = x := by rw [← hx, List.getD_eq_getElem?_getD, List.getElem?_eq_getElem hk]; rfl
  have hp := h1.skip hL hk (by rw [hxe]; exact ha)
  rw [hxe] at hp
  have hf := h2.far
  have hs := hg.size
  simp at hs
  refine ⟨hp, ho, ((h3.alloc _).alloc _).grown hg (fun e => by have := hf _ e.symm; omega), ((h4.alloc h4.size _).alloc (by simp; omega) _).grown hg (by simp; omega) (fun k e => by have := hf k e; omega), by omega⟩
theorem PutWay.merge {L out : List Sp} {s0 s x : Sp} {u v : Int} {k m c : Nat} {p : Option Addr} {w wr w3 : World} (h : PutWay L s0 k out s p m c w wr) (hL : Jn.Can L) (hk : k < L.length) (hx : L.getD k zero = x) (ha : ¬ (x.2 + 1 < s.1 ∨ s.2 + 1 < x.1))
    (hu : min s.1 x.1 = u) (hv : max s.2 x.2 = v) (hb : Bx w3 w.heap.size 105 #[.int .i64 u, .int .i64 v]) (hg : wr.grownBy w3 (some w.heap.size)) : PutWay L s0 (k + 1) out (u, v) p m c w w3 := by
  subst hu hv
  obtain ⟨h1, h2, h3, h4, h5⟩ := h
  have hxe : L[k] = x := by rw [← hx, List.getD_eq_getElem?_getD, List.getElem?_eq_getElem hk]; rfl
  have hp := h1.merge hL hk (by rw [hxe]; exact ha)
  rw [hxe] at hp
  have hs := hg.size
  exact ⟨hp, (h2.kept hg (fun g e => by simp at e; omega)).wide (Nat.le_refl _) hs (Nat.le_refl _), hb, h4.grown hg h4.size (fun k e => by simp at e; omega), by omega⟩

theorem below_lit {wo W w4 : World} {O : Obj} {n c : Nat} (hW : Below wo.heap.size wo W) (hg : (W.alloc O).grownBy w4 (Value.slice (some ⟨W.heap.size, 0, none⟩) n c).ownBlock) : Below wo.heap.size wo w4 :=
  (hW.alloc hW.size _).grown hg (Nat.le_trans hW.size (by simp)) (fun k e => by simp [Value.ownBlock] at e; have := hW.size; omega)
theorem below_own {wo W w4 : World} {g n c : Nat} (hW : Below wo.heap.size wo W) (h0 : wo.heap.size ≤ g) (hg : W.grownBy w4 (Value.slice (some ⟨g, 0, none⟩) n c).ownBlock) : Below wo.heap.size wo w4 :=
  hW.grown hg hW.size (fun k e => by simp [Value.ownBlock] at e; omega)
theorem empty_ownG (T : TypeId) (w : World) (g lo : Nat) (hg : g = w.heap.size) (h : lo ≤ w.heap.size) : OwS E T (w.alloc (.cells #[] T)) lo (w.alloc (.cells #[] T)).heap.size (some ⟨g, 0, none⟩) 0 0 [] := by
  subst hg
  exact empty_own T w lo h
theorem one_rdG (T : TypeId) (w : World) (g : Nat) (x : Sp) (hg : g = w.heap.size) : RdS E (w.alloc (.cells #[.int .i64 x.1, .int .i64 x.2] T)) (some ⟨g, 0, none⟩) 1 [x] := by
  subst hg
  exact (one_own T w 0 x (Nat.zero_le _)).rd
theorem rd_off {w w4 : World} {g g' n c m : Nat} {xs : List Sp} (h : RdS E w (some ⟨g, 0, none⟩) m xs) (hg : w.grownBy w4 (Value.slice (some ⟨g', 0, none⟩) n c).ownBlock) (hne : g ≠ g') : RdS E w4 (some ⟨g, 0, none⟩) m xs :=
  h.grown hg fun b o e => by
    simp only [Option.some.injEq, Addr.mk.injEq, and_true] at e
    simp only [Value.ownBlock, ne_eq, Option.some.injEq]
    omega
end Go.Proofs.YtfojilogcecphaaGreat.Jo

namespace Go.Proofs.YtfojilogcecphaaGreat.Jo
open Go.ChangeShapes Go.WideShapes Go.ChangeAt Go.RowKit Sl St Jn Sps SlSpan

theorem getD_at {xs : List Sp} {k : Nat} {x : Sp} (hk : k < xs.length) (hx : xs.getD k zero = x) : xs[k] = x := by
  rw [← hx, List.getD_eq_getElem?_getD, List.getElem?_eq_getElem hk]
  rfl
theorem at_alloc {w : World} {b q : Nat} {x : Sp} (h : At w b q x) (hlt : b < w.heap.size) (o : Obj) : At (w.alloc o) b q x := h.below ((Below.refl _ _).alloc (Nat.le_refl _) _) hlt
theorem at_two {w : World} {b q r : Nat} {x : Sp} (h : At w b q x) (hne : b ≠ r) (u v : Value) : At ((w.setCell ⟨r, 0, none⟩ u).setCell ⟨r, 1, none⟩ v) b q x := by
  have k : ∀ (w : World) (j : Nat) (o : Nat) (u : Value), (w.setCell ⟨r, j, none⟩ u).cell? ⟨b, o, none⟩ = w.cell? ⟨b, o, none⟩ := fun w j o u => World.cell?_of_block (a := ⟨b, o, none⟩) (Below.heap_setCell w ⟨r, j, none⟩ u b hne)
  exact ⟨by rw [k, k]; exact h.1, by rw [k, k]; exact h.2⟩
/-- on the way: the meets so far -/
def MeetWay (L : List Sp) (p : Option Addr) (m c : Nat) (w wr : World) : Prop := OwS E 105 wr w.heap.size wr.heap.size p m c L ∧ Below w.heap.size w wr
theorem MeetWay.app {L : List Sp} {x : Sp} {p p' : Option Addr} {m c c' : Nat} {w wr w3 : World} {O : Obj} (h : MeetWay L p m c w wr) (ho : OwS E 105 w3 w.heap.size w3.heap.size p' (m + 1) c' (L ++ [x])) (hg : (wr.alloc O).grownBy w3 (Value.slice p m c).ownBlock) : MeetWay (L ++ [x]) p' (m + 1) c' w w3 :=
  ⟨ho, (h.2.alloc h.2.size _).grown hg (Nat.le_trans h.2.size (by simp)) (fun k e => (h.1.far k e).1)⟩
theorem MeetWay.on {L : List Sp} {p : Option Addr} {m c : Nat} {w wr w2 : World} (h : MeetWay L p m c w wr) (hb : Below wr.heap.size wr w2) : MeetWay L p m c w w2 :=
  ⟨(h.1.below hb).wide (Nat.le_refl _) hb.size (Nat.le_refl _), below_on h.2 hb⟩
end Go.Proofs.YtfojilogcecphaaGreat.Jo

namespace Go.Proofs.YtfojilogcecphaaGreat.St
open Go.RowKit Go.WideShapes Go.Sort Sl

section
variable {α : Type} [Inhabited α] {E : En α} {T : TypeId} {w : World} {lo hi g n c : Nat} {xs : List α}
theorem flat_at (ys : List α) {q : Nat} (hq : q < ys.length * E.C) : ∃ v, (fl E ys)[q]? = some v ∧ (Go.Sort.flatK E.of E.C ys.toArray)[q]! = v := by
  have hp := E.pos
  have hi : q / E.C < ys.length := Nat.div_lt_of_lt_mul (by rw [Nat.mul_comm]; exact hq)
  have hj : q % E.C < E.C := Nat.mod_lt _ hp
  have hx : ys[q / E.C]? = some ys[q / E.C] := List.getElem?_eq_getElem hi
  have hv : (E.of ys[q / E.C])[q % E.C]? = some ((E.of ys[q / E.C])[q % E.C]'(by rw [E.len]; exact hj)) := List.getElem?_eq_getElem _
  have h := fl_at E hx hv
  rw [show q / E.C * E.C + q % E.C = q by rw [Nat.mul_comm]; exact Nat.div_add_mod q E.C] at h
  refine ⟨_, h, ?_⟩
  rw [Go.Sort.get_flatK _ _ _ _ (by simpa using hq)]
  have hd : (ys.toArray)[q / E.C]! = ys[q / E.C] := by
    rw [getElem!_pos _ _ (by simpa using hi)]
    simp
  rw [hd, getElem!_def, hv]
theorem OwS.holds (h : OwS E T w lo hi (some ⟨g, 0, none⟩) n c xs) : Go.Sort.HoldsK E.of E.C w g 0 xs.toArray := by
  intro j hj
  have hj2 : j < xs.length * E.C := by simpa using hj
  obtain ⟨v, h1, h2⟩ := flat_at (E := E) xs hj2
  rw [Nat.zero_add, h.own.cellAt j (by rw [← h.len]; exact hj2), h1, h2]
  exact ⟨rfl, h.free⟩
theorem own_sorted (h : OwS E T w lo hi (some ⟨g, 0, none⟩) n c xs) (q : Nat) (os : Array Obj) {ys : List α} (hl : ys.length = n) :
    OwS E T (Go.Proofs.sortWorldK E.of E.C w g 0 q ys.toArray os) lo hi (some ⟨g, 0, none⟩) n c ys ∧ w.grownBy (Go.Proofs.sortWorldK E.of E.C w g 0 q ys.toArray os) (some g) := by
  have hheap : (Go.Proofs.sortWorldK E.of E.C w g 0 q ys.toArray os).heap = w.heap.modify g (onCells (putCells id 0 (Go.Sort.flatK E.of E.C ys.toArray))) ++ os := rfl
  have hg : w.grownBy (Go.Proofs.sortWorldK E.of E.C w g 0 q ys.toArray os) (some g) := by
    refine ⟨rfl, rfl, rfl, by rw [hheap]; simp, fun k hk hne => ?_⟩
    rw [hheap, Array.getElem?_append_left (by simpa using hk), Array.getElem?_modify, if_neg (fun e => hne (by rw [e]))]
  refine ⟨⟨⟨by rw [fl_len, hl], ?_⟩, hl, Nat.le_trans h.2.2.1 hg.size, h.2.2.2⟩, hg⟩
  rcases h.own.2 with ⟨h', _⟩ | ⟨g', cap', cur, h', hb, hgg, hnc, hcm, hcs, htake⟩
  · simp at h'
  · simp only [Value.slice.injEq, Option.some.injEq, Addr.mk.injEq, and_true, true_and] at h'
    obtain ⟨rfl, rfl⟩ := h'
    refine .inr ⟨g, c, putCells id 0 (Go.Sort.flatK E.of E.C ys.toArray) cur, rfl, hb, ?_, hnc, hcm, by simp [putCells, hcs], ?_⟩
    · have hlt := (Array.getElem?_eq_some_iff.1 hgg).1
      rw [hheap, Array.getElem?_append_left (by simpa using hlt), Array.getElem?_modify, if_pos rfl, hgg]
      rfl
    · have hle : n * E.C ≤ cur.size := by rw [hcs]; exact Nat.mul_le_mul_right _ hnc
      apply List.ext_getElem?
      intro j
      by_cases hj : j < n * E.C
      · obtain ⟨v, h1, h2⟩ := flat_at (E := E) ys (q := j) (by rw [hl]; exact hj)
        rw [List.getElem?_take_of_lt hj, h1, Array.getElem?_toList]
        unfold putCells
        rw [Array.getElem?_mapIdx, Array.getElem?_eq_getElem (by omega), Option.map_some, if_pos ⟨Nat.zero_le _, by simp [hl]; exact hj⟩, Nat.sub_zero, h2]
        rfl
      · rw [List.getElem?_eq_none (by rw [List.length_take]; omega), List.getElem?_eq_none (by rw [fl_len, hl]; omega)]
end
end Go.Proofs.YtfojilogcecphaaGreat.St

namespace Go.Proofs.YtfojilogcecphaaGreat.Cm
open Go.ChangeShapes Go.WideShapes Go.ChangeAt Go.RowKit Sl
theorem ci_lt {a b : Int} (h : a < b) : Go.Lib.compareInt a b = -1 := by simp [Go.Lib.compareInt, h]
theorem ci_gt {a b : Int} (h : b < a) : Go.Lib.compareInt a b = 1 := by unfold Go.Lib.compareInt; rw [if_neg (by omega), if_pos h]
theorem ci_eq (a : Int) : Go.Lib.compareInt a a = 0 := by simp [Go.Lib.compareInt]
theorem nan_any (x : Int) (w : World) : Calls Tryz.prog 188 #[.int .i64 x] w fun e w' => e = .returned (.bool false) ∧ w = w' := by
  go_enter Tryz.func188, Tryz.ntmps188
  go_wp2_with fail
  go_ret
  exact ⟨by simp, rfl⟩
theorem cmp_any (a b : Int) (w : World) : Calls Tryz.prog 176 #[.int .i64 a, .int .i64 b] w fun e w' => e = .returned (.int .i64 (Go.Lib.compareInt a b)) ∧ w = w' := by
  rcases (by omega : a < b ∨ b < a ∨ a = b) with h | h | h
  · have HE := Lib.hid (ci_lt h)
    go_enter Tryz.func176, Tryz.ntmps176
    go_wp2_with fail
    refine (nan_any _ _).mono ?_
    rintro e w1 ⟨rfl, rfl⟩
    go_wp2_with fail
    refine (nan_any _ _).mono ?_
    rintro e w1 ⟨rfl, rfl⟩
    go_wp2_with fail
    go_ret
    exact ⟨by rw [HE.out]; rfl, rfl⟩
  · have HE := Lib.hid (ci_gt h)
    have h' : ¬ a < b := by omega
    go_enter Tryz.func176, Tryz.ntmps176
    go_wp2_with fail
    refine (nan_any _ _).mono ?_
    rintro e w1 ⟨rfl, rfl⟩
    go_wp2_with fail
    refine (nan_any _ _).mono ?_
    rintro e w1 ⟨rfl, rfl⟩
    go_wp2_with fail
    go_ret
    exact ⟨by rw [HE.out]; rfl, rfl⟩
  · subst h
    have HE := Lib.hid (ci_eq a)
    go_enter Tryz.func176, Tryz.ntmps176
    go_wp2_with fail
    refine (nan_any _ _).mono ?_
    rintro e w1 ⟨rfl, rfl⟩
    go_wp2_with fail
    refine (nan_any _ _).mono ?_
    rintro e w1 ⟨rfl, rfl⟩
    go_wp2_with fail
    go_ret
    exact ⟨by rw [HE.out]; rfl, rfl⟩
end Go.Proofs.YtfojilogcecphaaGreat.Cm

namespace Go.Proofs.YtfojilogcecphaaGreat.Ji
open Go.ChangeShapes Go.WideShapes Go.ChangeAt Go.RowKit Go.Shelf Go.Sort Sl St Jn Sps SlSpan Jo

/-- the order of two spans: by the first time, then by the last one -/
def cf (x y : Sp) : Int := if Go.Lib.compareInt x.1 y.1 = 0 then Go.Lib.compareInt x.2 y.2 else Go.Lib.compareInt x.1 y.1
theorem cmp_parts (a b : Int) : (Go.Lib.compareInt a b = 0 ↔ a = b) ∧ (Go.Lib.compareInt a b < 0 ↔ a < b) := by
  unfold Go.Lib.compareInt
  rcases Int.lt_trichotomy a b with h | h | h
  · rw [if_pos h]; omega
  · rw [if_neg (by omega), if_neg (by omega)]; omega
  · rw [if_neg (by omega), if_pos h]; omega
theorem lt_eq (x y : Sp) : ltOf cf x y = decide (x.1 < y.1 ∨ (x.1 = y.1 ∧ x.2 < y.2)) := by
  have h : cf x y < 0 ↔ (x.1 < y.1 ∨ (x.1 = y.1 ∧ x.2 < y.2)) := by
    have k1 := cmp_parts x.1 y.1
    have k2 := cmp_parts x.2 y.2
    unfold cf
    by_cases e : Go.Lib.compareInt x.1 y.1 = 0
    · rw [if_pos e, k2.2]
      have := k1.1.1 e
      omega
    · rw [if_neg e, k1.2]
      have := fun h => e (k1.1.2 h)
      omega
  unfold ltOf
  exact decide_eq_decide.2 h
theorem cf_swo : SWO (ltOf cf) where
  irrefl x := by rw [lt_eq]; exact decide_eq_false (by omega)
  trans x y z h1 h2 := by
    rw [lt_eq] at h1 h2 ⊢
    have h1 := of_decide_eq_true h1
    have h2 := of_decide_eq_true h2
    exact decide_eq_true (by omega)
  ntrans x y z h1 h2 := by
    rw [lt_eq] at h1 h2 ⊢
    have h1 := of_decide_eq_false h1
    have h2 := of_decide_eq_false h2
    exact decide_eq_false (by omega)
theorem asc_of {d : Array Sp} (h : SortedIn (ltOf cf) 0 d.size d) : Asc d.toList := by
  unfold Asc
  rw [List.pairwise_iff_getElem]
  intro i j hi hj hij
  have hj2 : j < d.size := by simpa using hj
  have h1 := h i j (Nat.zero_le _) hij hj2
  rw [lt_eq, getElem!_pos d j hj2, getElem!_pos d i (Nat.lt_trans hij hj2)] at h1
  have h2 := of_decide_eq_false h1
  simp only [Array.getElem_toList]
  omega
theorem perm_of {d d' : Array Sp} (h : PermIn 0 d.size d d') : d'.toList.Perm d.toList := by
  obtain ⟨hsz, _, hp⟩ := h
  have e1 : d'.extract 0 d.size = d' := by rw [← hsz]; exact Array.extract_size
  rw [e1, Array.extract_size] at hp
  exact hp

/-- two lists of two numbers -/
theorem cmp2_any (g h : Nat) (x0 x1 y0 y1 : Int) (w : World) (hx0 : w.cell? ⟨g, 0, none⟩ = some (.int .i64 x0)) (hx1 : w.cell? ⟨g, 1, none⟩ = some (.int .i64 x1)) (hy0 : w.cell? ⟨h, 0, none⟩ = some (.int .i64 y0)) (hy1 : w.cell? ⟨h, 1, none⟩ = some (.int .i64 y1)) :
    Calls Tryz.prog 175 #[.slice (some ⟨g, 0, none⟩) 2 2, .slice (some ⟨h, 0, none⟩) 2 2] w fun e w' => e = .returned (.int .i64 (cf (x0, x1) (y0, y1))) ∧ w' = w := by
  obtain ⟨c0, hc0⟩ : ∃ c, Go.Lib.compareInt x0 y0 = c := ⟨_, rfl⟩
  obtain ⟨c1, hc1⟩ : ∃ c, Go.Lib.compareInt x1 y1 = c := ⟨_, rfl⟩
  have H0 := Lib.hid hc0
  have H1 := Lib.hid hc1
  obtain ⟨r, hr⟩ : ∃ r, cf (x0, x1) (y0, y1) = r := ⟨_, rfl⟩
  have HC : Hid (r = if c0 = 0 then c1 else c0) := Lib.hid (by rw [← hr]; unfold cf; rw [hc0, hc1])
  rw [hr]
  clear hc0 hc1 hr
  go_enter Tryz.func175, Tryz.ntmps175
  go_wp2_with fail
  go_loop [11] (fun i => ∃ k : Nat, k ≤ 2 ∧ i = .int .i64 k ∧ Hid ((1 ≤ k → c0 = 0) ∧ (2 ≤ k → c1 = 0))) (fun i => 2 - (intOf i).toNat)
  case atStart => exact ⟨0, Nat.zero_le _, rfl, Lib.hid ⟨fun h => by omega, fun h => by omega⟩⟩
  case round =>
    obtain ⟨k, hk, rfl, HK⟩ := hrel
    obtain rfl | rfl | rfl : k = 0 ∨ k = 1 ∨ k = 2 := by omega
    · by_cases hz : c0 = 0
      all_goals
        go_wp2_with fail
        refine (Cm.cmp_any _ _ _).mono ?_
        rintro e w1 ⟨rfl, rfl⟩
        rw [H0.out]
        go_wp2_with fail
        first
          | (go_ret; (have hh := HC.out); rw [if_neg hz] at hh; subst hh; exact ⟨rfl, rfl⟩)
          | (go_round; (case rel => exact ⟨1, by omega, rfl, Lib.hid ⟨fun _ => hz, fun h => by omega⟩⟩); (case measure => simp [intOf]))
    · have hz0 := HK.out.1 (by omega)
      by_cases hz : c1 = 0
      all_goals
        go_wp2_with fail
        refine (Cm.cmp_any _ _ _).mono ?_
        rintro e w1 ⟨rfl, rfl⟩
        rw [H1.out]
        go_wp2_with fail
        first
          | (go_ret; (have hh := HC.out); rw [if_pos hz0] at hh; subst hh; exact ⟨rfl, rfl⟩)
          | (go_round; (case rel => exact ⟨2, by omega, rfl, Lib.hid ⟨fun _ => hz0, fun _ => hz⟩⟩); (case measure => simp [intOf]))
    · have hz0 := HK.out.1 (by omega)
      have hz1 := HK.out.2 (by omega)
      go_wp2_with fail
      go_ret
      have hh := HC.out
      rw [if_pos hz0, hz1] at hh
      subst hh
      exact ⟨rfl, rfl⟩
theorem cells2 (W : World) (T : TypeId) (x y : Sp) : let w := (((W.alloc (.cells #[.int .i64 x.1, .int .i64 x.2] T)).alloc (.cells #[.int .i64 y.1, .int .i64 y.2] T)).drew); w.cell? ⟨W.heap.size, 0, none⟩ = some (.int .i64 x.1) ∧ w.cell? ⟨W.heap.size, 1, none⟩ = some (.int .i64 x.2) ∧ w.cell? ⟨W.heap.size + 1, 0, none⟩ = some (.int .i64 y.1) ∧ w.cell? ⟨W.heap.size + 1, 1, none⟩ = some (.int .i64 y.2) := by
  have h1 := (Bx.new W T #[.int .i64 x.1, .int .i64 x.2]).alloc (.cells #[.int .i64 y.1, .int .i64 y.2] T)
  have h2 := Bx.new (W.alloc (.cells #[.int .i64 x.1, .int .i64 x.2] T)) T #[.int .i64 y.1, .int .i64 y.2]
  rw [World.size_alloc] at h2
  exact ⟨h1.cell rfl, h1.cell rfl, h2.cell rfl, h2.cell rfl⟩
theorem filter_no {xs : List Sp} {k : Nat} {x : Sp} (hk : k < xs.length) (hx : xs[k] = x) (h : okB x = false) : (xs.take (k + 1)).filter okB = (xs.take k).filter okB := by
  subst hx
  rw [take_at hk, List.filter_append]
  simp [h]
theorem filter_yes {xs : List Sp} {k : Nat} {x : Sp} (hk : k < xs.length) (hx : xs[k] = x) (h : okB x = true) : (xs.take (k + 1)).filter okB = (xs.take k).filter okB ++ [x] := by
  subst hx
  rw [take_at hk, List.filter_append]
  simp [h]
theorem set_last {M : List Sp} {s : Nat} (h : M.length = s + 1) (y : Sp) : M.set s y = M.take s ++ [y] := by
  rw [List.set_eq_take_append_cons_drop, if_pos (by omega), List.drop_of_length_le (by omega)]
/-- append of one element, and where the new row lies -/
theorem wpList_appL {α : Type} {E : En α} {T : TypeId} {P : Program} {w : World} {ops : Array Oper} {rest : List Oper} {o : Oper} {a : Act} {Q : Exit → Act → World → Prop} {lo hi : Nat} {p : Option Addr} {n c : Nat} {xs : List α}
    (hgd : o.guard = none) (s x : Operand) (t : TypeId) (ho : o.op = .call { callee := .builtin .append, args := #[s, x], argTypes := #[t, t] })
    (i : TypeInfo) (z : Value) (bytes : Nat) (ht : P.underlying t = some (.slice T)) (hi' : P.info? T = some i) (hz : i.zero = some z) (hsize : i.size = E.C) (hby : i.bytes = bytes) (hzs : z.cells.size = E.C)
    (hs : a.eval s = .slice p n c) (how : OwS E T w lo hi p n c xs) (b' cc : Nat) (y : α) (hx : a.eval x = .slice (some ⟨b', 0, none⟩) 1 cc) (hr : RdS E w (some ⟨b', 0, none⟩) 1 [y])
    (hlo : lo ≤ w.heap.size) (hb : (n + 1) * bytes ≤ 140737488355328) (hb' : n + 1 ≤ 140737488355328)
    (h : ∀ g c' w', OwS E T w' lo w'.heap.size (some ⟨g, 0, none⟩) (n + 1) c' (xs ++ [y]) → w.grownBy w' (Value.slice p n c).ownBlock → ((Value.slice p n c).ownBlock = some g ∨ g = w.heap.size) → wpList P ops Q rest (a.put o.dst (.slice (some ⟨g, 0, none⟩) (n + 1) c')) w') : wpList P ops Q (o :: rest) a w := by
  refine wpList_append_lies w hgd s x t ho lo T i z E.C bytes ht hi' hz hsize hby hzs E.pos _ n _ hs how.own ⟨b', 0, none⟩ 1 cc (fl E [y]) hx (by rw [fl_len]; rfl) (fun q u hu => ?_) (fl_one' E [y]) (by decide) (by unfold maxLen; omega) hb hlo w.heap.size rfl ?_
  · obtain ⟨i2, x2, j2, rfl, hj, hx2, hv⟩ := fl_of E hu
    obtain ⟨b, o', e, _, hc⟩ := hr.2.2 (by decide)
    simp only [Option.some.injEq, Addr.mk.injEq, and_true] at e
    obtain ⟨rfl, rfl⟩ := e
    rw [Addr.add_lit, ← Nat.add_assoc]
    exact hc i2 x2 hx2 j2 u hv
  · intro g cap w' hown hg hat _
    rw [← fl_append] at hown
    exact h g cap w' (OwS.of_row hown) hg hat
end Go.Proofs.YtfojilogcecphaaGreat.Ji
