/- What is of no program: append of ints onto a slice of the call's own, as one operation, and in a region that draws its order. What is of no program: which blocks turn from one world to another; and what keeps them. The encoder: a box that holds a slice of the call's own; what is written into it. -/
import Derived.Test.YtfojilogcecphaaGreatSl
import Derived.Deep.RegionHeld3
import Derived.Test.YtfojilogcecphaaGreatStM
import Derived.Test.YtfojilogcecphaaGreatBx
import Derived.Test.YtfojilogcecphaaGreatEd
import Derived.Test.YtfojilogcecphaaGreatDz
import Derived.Test.YtfojilogcecphaaGreatSlI
import Derived.Outline
namespace Go.Proofs.YtfojilogcecphaaGreat.Sl
open Go.RowKit Go.WideShapes
section
variable {P : Program} {w : World} {ops : Array Oper} {o : Oper} {a : Act} {Q : Exit → Act → World → Prop} {K : Act → World → Prop} {k : IntKind} {E : TypeId} {lo hi : Nat} {p : Option Addr} {n c : Nat} {zs : List Int}
/-- append of a slice that reads as ys, nil too, onto a slice of the call's own: one operation -/
theorem wp_appR (s x : Operand) (t : TypeId) (ho : o.op = .call { callee := .builtin .append, args := #[s, x], argTypes := #[t, t] })
    (i : TypeInfo) (z : Value) (bytes : Nat) (ht : P.underlying t = some (.slice E)) (hi' : P.info? E = some i) (hz : i.zero = some z) (hsize : i.size = 1) (hby : i.bytes = bytes) (hzs : z.cells.size = 1)
    (hs : a.eval s = .slice p n c) (how : Ow k E w lo hi p n c zs) (p' : Option Addr) (m cc : Nat) (ys : List Int) (hx : a.eval x = .slice p' m cc) (hr : Rd k w p' m ys)
    (hlo : lo ≤ w.heap.size) (hb : (n + m) * bytes ≤ 140737488355328) (hb' : n + m ≤ 140737488355328)
    (h : ∀ p' c' w', Ow k E w' lo w'.heap.size p' (n + m) c' (zs ++ ys) → w.grownBy w' (Value.slice p n c).ownBlock → K (a.put o.dst (.slice p' (n + m) c')) w') : Oper.wp P o a w K Q := by
  rcases p' with _ | ⟨b, off, spot⟩
  · have hm : m = 0 := by
      rcases Nat.eq_zero_or_pos m with h0 | h0
      · exact h0
      · obtain ⟨_, _, e, _⟩ := hr.2.2.2 h0
        cases e
    subst hm
    have hy : ys = [] := List.eq_nil_of_length_eq_zero hr.1
    subst hy
    have hrun : (Builtin.append_ #[t, t] o.type #[.slice p n c, .slice none 0 cc]).run P w = .ok (.slice p n c) w := by
      rcases how.own.2 with ⟨he, _⟩ | ⟨g, cap, cur, he, _, _, hnc, _⟩
      · simp only [Value.slice.injEq] at he
        obtain ⟨rfl, rfl, rfl⟩ := he
        simp [Builtin.append_, run_underlying ht, sizeOf, typeInfo, hi', Builtin.lenOf, Builtin.firstCells]
      · simp only [Value.slice.injEq, true_and] at he
        obtain ⟨rfl, rfl⟩ := he
        simp [Builtin.append_, run_underlying ht, sizeOf, typeInfo, hi', Builtin.lenOf, Builtin.firstCells, hnc, storeCells]
    unfold Oper.wp execOp
    simp only [ho, resolve, invoke, builtin, Sem.run_bind, Sem.run_pure, Result.andThen_ok, List.map_toArray, List.map_cons, List.map_nil, hs, hx, hrun]
    refine h p c w ?_ ⟨rfl, rfl, rfl, Nat.le_refl _, fun _ _ _ => rfl⟩
    rw [List.append_nil]
    exact how.wide (Nat.le_refl _) how.2.2.1 (Nat.le_refl _)
  · refine wp_append_own w s x t ho lo E i z 1 bytes ht hi' hz hsize hby hzs (by decide) _ n _ hs how.own ⟨b, off, spot⟩ m cc (ys.map (Value.int k)) hx (by rw [List.length_map, hr.len, Nat.mul_one]) (fun q u hu => ?_) (fun u hu => ?_) (by unfold maxLen; omega) hb hlo ?_
    · rw [List.getElem?_map, Option.map_eq_some_iff] at hu
      obtain ⟨y, hy, rfl⟩ := hu
      have hq := (List.getElem?_eq_some_iff.1 hy).1
      rw [hr.len] at hq
      obtain ⟨b', o', e, _, hc⟩ := hr.at_ hq
      simp only [Option.some.injEq, Addr.mk.injEq] at e
      obtain ⟨rfl, rfl, rfl⟩ := e
      rw [Addr.add_lit, hc, List.getD_eq_getElem?_getD, hy]
      rfl
    · rw [List.mem_map] at hu
      obtain ⟨y, _, rfl⟩ := hu
      rfl
    · intro v' w' hown hg _
      obtain ⟨p3, c3, rfl⟩ : ∃ p3 c3, v' = .slice p3 (n + m) c3 := row_form hown
      rw [← List.map_append] at hown
      exact h p3 c3 w' (Ow.of_row hown (allK_append how.all hr.all)) hg
/-- .. in a drawn region -/
theorem step_appR {F : Prop} (hgd : o.guard = none) (s x : Operand) (t : TypeId) (ho : o.op = .call { callee := .builtin .append, args := #[s, x], argTypes := #[t, t] })
    (i : TypeInfo) (z : Value) (bytes : Nat) (ht : P.underlying t = some (.slice E)) (hi' : P.info? E = some i) (hz : i.zero = some z) (hsize : i.size = 1) (hby : i.bytes = bytes) (hzs : z.cells.size = 1)
    (hs : a.eval s = .slice p n c) (how : Ow k E w lo hi p n c zs) (p' : Option Addr) (m cc : Nat) (ys : List Int) (hx : a.eval x = .slice p' m cc) (hr : Rd k w p' m ys)
    (hlo : lo ≤ w.heap.size) (hb : (n + m) * bytes ≤ 140737488355328) (hb' : n + m ≤ 140737488355328)
    (h : ∀ p' c' w', Ow k E w' lo w'.heap.size p' (n + m) c' (zs ++ ys) → w.grownBy w' (Value.slice p n c).ownBlock → K (a.put o.dst (.slice p' (n + m) c')) w') :
    if Region.wanted o (yielded ops a.tmps) = true then Oper.wp P o a w K Q else F := by
  have hw : Region.wanted o (yielded ops a.tmps) = true := by simp [Region.wanted, hgd]
  rw [if_pos hw]
  exact wp_appR s x t ho i z bytes ht hi' hz hsize hby hzs hs how p' m cc ys hx hr hlo hb hb' h
end
/-- ints that are laid in a block anew -/
theorem litN_own (T : TypeId) (w : World) (lo : Nat) (zs : List Int) (hk : allK .i64 zs) (h : lo ≤ w.heap.size) (hn : zs.length ≤ 1000000) : Ow .i64 T (w.alloc (.cells (zs.map (Value.int .i64)).toArray T)) lo (w.alloc (.cells (zs.map (Value.int .i64)).toArray T)).heap.size (some ⟨w.heap.size, 0, none⟩) zs.length zs.length zs := by
  have h1 := World.ownsRow_lit (base := lo) (e := T) (size := 1) w (zs.map (Value.int .i64)).toArray zs.length h (by unfold maxLen; omega) (by simp)
  exact Ow.of_row (by simpa using h1) hk
theorem litN_at (T : TypeId) (V : World) (lo g : Nat) (zs : List Int) (hk : allK .i64 zs) (h : lo ≤ V.heap.size) (hg : g = V.heap.size) (hn : zs.length ≤ 1000000) : Ow .i64 T (V.alloc (.cells (zs.map (Value.int .i64)).toArray T)) lo (V.alloc (.cells (zs.map (Value.int .i64)).toArray T)).heap.size (some ⟨g, 0, none⟩) zs.length zs.length zs := by
  subst hg
  exact litN_own T V lo zs hk h hn
theorem Rd.drew1 {k : IntKind} {w : World} {p : Option Addr} {n : Nat} {zs : List Int} (h : Rd k w p n zs) : Rd k w.drew p n zs := h
theorem Ow.drew1 {k : IntKind} {E : TypeId} {w : World} {lo hi n c : Nat} {p : Option Addr} {zs : List Int} (h : Ow k E w lo hi p n c zs) : Ow k E w.drew lo hi p n c zs := ⟨h.1.drew, h.2⟩
theorem allK_cons {k : IntKind} {x : Int} {xs : List Int} (h : inK k x) (h' : allK k xs) : allK k (x :: xs) := fun y hy => by
  rcases List.mem_cons.1 hy with rfl | hy
  · exact h
  · exact h' y hy
end Go.Proofs.YtfojilogcecphaaGreat.Sl

namespace Go.Proofs.YtfojilogcecphaaGreat.Tn
open Go.RowKit Go.WideShapes Sl St

/-- From w to w' new blocks may be made, and of the blocks of w those of S may turn. -/
structure Turn (S : Nat → Prop) (w w' : World) : Prop where
  os : w'.os = w.os
  tape : w'.tape = w.tape
  output : w'.output = w.output
  size : w.heap.size ≤ w'.heap.size
  block : ∀ i, i < w.heap.size → ¬ S i → w'.heap[i]? = w.heap[i]?
theorem Turn.refl (S : Nat → Prop) (w : World) : Turn S w w := ⟨rfl, rfl, rfl, Nat.le_refl _, fun _ _ _ => rfl⟩
theorem Turn.trans {S : Nat → Prop} {w w1 w2 : World} (h : Turn S w w1) (h' : Turn S w1 w2) : Turn S w w2 :=
  ⟨h'.os.trans h.os, h'.tape.trans h.tape, h'.output.trans h.output, Nat.le_trans h.size h'.size, fun i hi hs => (h'.block i (Nat.lt_of_lt_of_le hi h.size) hs).trans (h.block i hi hs)⟩
theorem Turn.mono {S T : Nat → Prop} {w w' : World} (h : Turn S w w') (hs : ∀ i, S i → T i) : Turn T w w' := ⟨h.os, h.tape, h.output, h.size, fun i hi ht => h.block i hi (fun x => ht (hs i x))⟩
theorem Turn.of_below {w w' : World} (h : Below w.heap.size w w') (S : Nat → Prop) : Turn S w w' := ⟨h.os, h.tape, h.output, h.size, fun i hi _ => h.block i hi⟩
theorem Turn.of_from {B : Nat} {w w' : World} (h : Below B w w') : Turn (fun i => B ≤ i) w w' := ⟨h.os, h.tape, h.output, h.size, fun i _ hs => h.block i (Nat.lt_of_not_le hs)⟩
theorem Turn.of_grown {w w' : World} {r : Option Nat} (h : w.grownBy w' r) : Turn (fun i => r = some i) w w' := ⟨h.os, h.tape, h.output, h.size, fun i hi hs => h.block i hi (fun e => hs e.symm)⟩
theorem Turn.below {S : Nat → Prop} {w w' : World} {B : Nat} (h : Turn S w w') (hS : ∀ i, S i → B ≤ i) (hB : B ≤ w.heap.size) : Below B w w' :=
  ⟨h.os, h.tape, h.output, h.size, fun i hi => h.block i (Nat.lt_of_lt_of_le hi hB) (fun x => by have := hS i x; omega)⟩
theorem Turn.on {S : Nat → Prop} {w w1 w2 : World} {B : Nat} (h : Below B w w1) (hB : B ≤ w.heap.size) (h' : Turn S w1 w2) (hS : ∀ i, S i → B ≤ i) : Below B w w2 :=
  h.trans (h'.below hS (Nat.le_trans hB h.size))
theorem Turn.then {S : Nat → Prop} {w w1 w2 : World} (h : Turn S w w1) (hb : Below w1.heap.size w1 w2) : Turn S w w2 := h.trans (Turn.of_below hb S)
theorem Turn.pre {S : Nat → Prop} {w w1 w2 : World} (hb : Below w.heap.size w w1) (h : Turn S w1 w2) : Turn S w w2 := (Turn.of_below hb S).trans h
theorem Turn.alloc {S : Nat → Prop} {w w1 : World} (h : Turn S w w1) (o : Obj) : Turn S w (w1.alloc o) := h.then ((Below.refl _ _).alloc (Nat.le_refl _) _)
theorem Turn.drewN {S : Nat → Prop} {w w1 : World} (h : Turn S w w1) (n : Nat) : Turn S w (w1.drewN n) := h.then (below_drewN (Below.refl _ _) n)
theorem Turn.set {S : Nat → Prop} {w w1 : World} (h : Turn S w w1) {g j : Nat} (hg : S g) (v : Value) : Turn S w (w1.setCell ⟨g, j, none⟩ v) :=
  ⟨h.os, h.tape, h.output, by simpa [World.setCell] using h.size, fun i hi hs => (Below.heap_setCell w1 ⟨g, j, none⟩ v i (by rintro rfl; exact hs hg)).trans (h.block i hi hs)⟩
section
variable {S : Nat → Prop} {w w' : World}
theorem own_turn {l s n : Nat} {T : TypeId} {v : Value} {xs : List Value} (h : w.ownsRow l T s v n xs) (ht : Turn S w w') (hn : ∀ g, v.ownBlock = some g → ¬ S g) : w'.ownsRow l T s v n xs := by
  refine ⟨h.1, ?_⟩
  rcases h.2 with hx | ⟨g, cap, cur, rfl, hb, hgg, rest⟩
  · exact .inl hx
  · exact .inr ⟨g, cap, cur, rfl, hb, (ht.block g (Array.getElem?_eq_some_iff.1 hgg).1 (hn g rfl)).trans hgg, rest⟩
theorem owI_turn {k : IntKind} {E : TypeId} {lo hi n c : Nat} {p : Option Addr} {zs : List Int} (h : Ow k E w lo hi p n c zs) (ht : Turn S w w') (hn : ∀ g, (Value.slice p n c).ownBlock = some g → ¬ S g) : Ow k E w' lo hi p n c zs :=
  ⟨own_turn h.1 ht hn, h.2.1, Nat.le_trans h.2.2.1 ht.size, h.2.2.2⟩
theorem owS_turn {α : Type} {E : En α} {T : TypeId} {lo hi n c : Nat} {p : Option Addr} {xs : List α} (h : OwS E T w lo hi p n c xs) (ht : Turn S w w') (hn : ∀ g, (Value.slice p n c).ownBlock = some g → ¬ S g) : OwS E T w' lo hi p n c xs :=
  ⟨own_turn h.1 ht hn, h.2.1, Nat.le_trans h.2.2.1 ht.size, h.2.2.2⟩
theorem owI_far {k : IntKind} {E : TypeId} {lo hi n c : Nat} {p : Option Addr} {zs : List Int} (h : Ow k E w lo hi p n c zs) (ht : Turn S w w') (hn : ∀ g, S g → g < lo ∨ hi ≤ g) : Ow k E w' lo hi p n c zs :=
  owI_turn h ht fun g e x => by have := h.far g e; have := hn g x; omega
theorem owS_far {α : Type} {E : En α} {T : TypeId} {lo hi n c : Nat} {p : Option Addr} {xs : List α} (h : OwS E T w lo hi p n c xs) (ht : Turn S w w') (hn : ∀ g, S g → g < lo ∨ hi ≤ g) : OwS E T w' lo hi p n c xs :=
  owS_turn h ht fun g e x => by have := h.far g e; have := hn g x; omega
theorem bx_turn {g : Nat} {T : TypeId} {cs : Array Value} (h : Bx w g T cs) (ht : Turn S w w') (hn : ¬ S g) : Bx w' g T cs := h.keep (ht.block g h.lt hn)
/-- an own slice's block is of its element type -/
theorem own_type {l s n g : Nat} {T : TypeId} {v : Value} {xs : List Value} (h : w.ownsRow l T s v n xs) (hg : v.ownBlock = some g) : ∃ cur, w.heap[g]? = some (.cells cur T (0, 0)) := by
  rcases h.2 with ⟨rfl, _⟩ | ⟨g1, cap, cur, rfl, _, hg1, _⟩
  · simp [Value.ownBlock] at hg
  · simp only [Value.ownBlock, Option.some.injEq] at hg
    subst hg
    exact ⟨cur, hg1⟩
theorem type_ne {g : Nat} {T T' : TypeId} (h : ∃ cur, w.heap[g]? = some (.cells cur T (0, 0))) (h' : ∃ cur, w.heap[g]? = some (.cells cur T' (0, 0))) (hT : T ≠ T') : False := by
  obtain ⟨c1, e1⟩ := h
  obtain ⟨c2, e2⟩ := h'
  rw [e1] at e2
  simp only [Option.some.injEq, Obj.cells.injEq] at e2
  exact hT e2.2.1
end
end Go.Proofs.YtfojilogcecphaaGreat.Tn

namespace Go.Proofs.YtfojilogcecphaaGreat.Wr
open Go.ChangeShapes Go.WideShapes Go.ChangeAt Go.RowKit Sl St Ed Dz

/-- the encoder in the block B has written zs; its row lies from lo on, before hi -/
def Enc (w : World) (B lo hi : Nat) (zs : List Int) : Prop := ∃ p n c, Bx w B 206 #[.slice p n c] ∧ Ow .i64 3 w lo hi p n c zs ∧ B < lo ∧ lo ≤ hi
/-- the blocks that a writing turns: the encoder's, and rows of numbers from lo on -/
def In (w : World) (B lo : Nat) (i : Nat) : Prop := i = B ∨ (lo ≤ i ∧ ∃ cur, w.heap[i]? = some (.cells cur 3 (0, 0)))
def Turned (B lo : Nat) (w w' : World) : Prop := Tn.Turn (In w B lo) w w'
theorem Turned.refl (B lo : Nat) (w : World) : Turned B lo w w := Tn.Turn.refl _ _
theorem Turned.trans {B lo : Nat} {w w1 w2 : World} (h : Turned B lo w w1) (h' : Turned B lo w1 w2) : Turned B lo w w2 :=
  ⟨h'.os.trans h.os, h'.tape.trans h.tape, h'.output.trans h.output, Nat.le_trans h.size h'.size, fun i hi hs => by
    have e := h.block i hi hs
    refine (h'.block i (Nat.lt_of_lt_of_le hi h.size) fun hs' => hs ?_).trans e
    rcases hs' with h1 | ⟨h1, cur, h2⟩
    · exact Or.inl h1
    · exact Or.inr ⟨h1, cur, by rw [← e]; exact h2⟩⟩
theorem Turned.of_below {B lo : Nat} {w w1 : World} (h : Below w.heap.size w w1) : Turned B lo w w1 := Tn.Turn.of_below h _
theorem Turned.pre {B lo : Nat} {w w1 w2 : World} (hb : Below w.heap.size w w1) (h : Turned B lo w1 w2) : Turned B lo w w2 := (Turned.of_below hb).trans h
theorem Turned.then {B lo : Nat} {w w1 w2 : World} (h : Turned B lo w w1) (hb : Below w1.heap.size w1 w2) : Turned B lo w w2 := h.trans (Turned.of_below hb)
/-- what lies below all of it stays -/
theorem Turned.below {B lo g : Nat} {w w' : World} (h : Turned B lo w w') (hg : g ≤ B) (hl : g ≤ lo) (hw : g ≤ w.heap.size) : Below g w w' :=
  Tn.Turn.below h (fun i hi => by rcases hi with rfl | ⟨h1, _⟩ <;> omega) hw
theorem Turned.on {B lo g : Nat} {W w w' : World} (hb : Below g W w) (h : Turned B lo w w') (hg : g ≤ B) (hl : g ≤ lo) (hw : g ≤ w.heap.size) : Below g W w' := hb.trans (h.below hg hl hw)
theorem bx_turned {B lo g : Nat} {w w' : World} {T : TypeId} {cs : Array Value} (h : Bx w g T cs) (ht : Turned B lo w w') (hg : g ≠ B) (hT : g < lo ∨ T ≠ 3) : Bx w' g T cs :=
  Tn.bx_turn h ht fun hs => by
    rcases hs with h1 | ⟨h1, h2⟩
    · exact hg h1
    · rcases hT with h3 | h3
      · omega
      · exact Tn.type_ne ⟨_, h⟩ h2 h3
theorem rdD_turned {α : Type} {E : Ent α} {S0 : Nat → Prop} {B lo : Nat} {w w' : World} {p : Option Addr} {n : Nat} {xs : List α} (h : RdD E S0 w p n xs) (ht : Turned B lo w w') (hd : ∀ b, S0 b → b < w.heap.size → b ≠ B ∧ b < lo) : RdD E S0 w' p n xs :=
  Ed.RdD.keep h ht.size fun b hS hlt => ⟨hS, ht.block b hlt fun hs => by
    have := hd b hS hlt
    rcases hs with h1 | ⟨h1, _⟩ <;> omega⟩
theorem ne_own {w : World} {B lo hi n c : Nat} {p : Option Addr} {zs : List Int} {cs : Array Value} (hB : Bx w B 206 cs) (ho : Ow .i64 3 w lo hi p n c zs) : some B ≠ (Value.slice p n c).ownBlock := fun e => by
  exact Tn.type_ne ⟨_, hB⟩ (Tn.own_type ho.1 e.symm) (by decide)
theorem Enc.new (w : World) : Enc (w.alloc (.cells #[.slice none 0 0] 206)) w.heap.size (w.heap.size + 1) (w.heap.size + 1) [] :=
  ⟨none, 0, 0, Bx.new w _ _, Ow.nil_ _ _ _ _ (by simp), by omega, Nat.le_refl _⟩
theorem Enc.below {w w' : World} {B lo hi : Nat} {zs : List Int} (h : Enc w B lo hi zs) (hb : Below w.heap.size w w') : Enc w' B lo hi zs := by
  obtain ⟨p, n, c, hB, ho, h1, h2⟩ := h
  exact ⟨p, n, c, hB.below hb, ho.below hb, h1, h2⟩
theorem Enc.alloc {w : World} {B lo hi : Nat} {zs : List Int} (h : Enc w B lo hi zs) (o : Obj) : Enc (w.alloc o) B lo hi zs := h.below ((Below.refl _ _).alloc (Nat.le_refl _) _)
theorem Enc.drew1 {w : World} {B lo hi : Nat} {zs : List Int} (h : Enc w B lo hi zs) : Enc w.drew B lo hi zs := h.below (below_drewN (Below.refl _ _) 1)
theorem Enc.lt {w : World} {B lo hi : Nat} {zs : List Int} (h : Enc w B lo hi zs) : B < lo ∧ lo ≤ hi ∧ hi ≤ w.heap.size := by
  obtain ⟨p, n, c, hB, ho, h1, h2⟩ := h
  exact ⟨h1, h2, ho.2.2.1⟩
/-- another encoder, younger than all that this one has, writes -/
theorem Enc.young {w w' : World} {B lo hi B' lo' : Nat} {zs : List Int} (h : Enc w B lo hi zs) (ht : Turned B' lo' w w') (h1 : hi ≤ B') (h2 : hi ≤ lo') : Enc w' B lo hi zs := by
  obtain ⟨p, n, c, hB, ho, h3, h4⟩ := h
  refine ⟨p, n, c, Tn.bx_turn hB ht (fun hs => ?_), Tn.owI_turn ho ht (fun k e hs => ?_), h3, h4⟩
  · rcases hs with h5 | ⟨h5, _⟩ <;> omega
  · have h6 := ho.far k e
    rcases hs with h5 | ⟨h5, _⟩ <;> omega
theorem Enc.read {w : World} {B lo hi : Nat} {zs : List Int} (h : Enc w B lo hi zs) : ∃ p n c, w.cell? ⟨B, 0, none⟩ = some (.slice p n c) ∧ Rd .i64 w p n zs ∧ n = zs.length := by
  obtain ⟨p, n, c, hB, ho, _⟩ := h
  exact ⟨p, n, c, hB.cell rfl, ho.rd, ho.len.symm⟩
theorem fresh {α : Type} {E : Ent α} {S0 : Nat → Prop} {w : World} {p : Option Addr} {n : Nat} {xs : List α} (h : RdD E S0 w p n xs) : RdD E (fun b => b < w.heap.size) w p n xs :=
  Ed.RdD.keep h (Nat.le_refl _) fun _ _ hlt => ⟨hlt, rfl⟩
/-- The call writes ys: the encoder has them, and its own blocks turn, no others. -/
def Wrote (B lo : Nat) (zs : List Int) (w : World) (e : Ending) (w' : World) : Prop := e = .returned (.tuple #[]) ∧ Enc w' B lo w'.heap.size zs ∧ Turned B lo w w'
set_option maxRecDepth 100000 in
set_option maxHeartbeats 2000000 in
theorem write_any (B lo hi : Nat) (zs : List Int) (q : Option Addr) (m d : Nat) (ys : List Int) (w : World) (hE : Enc w B lo hi zs) (hy : Rd .i64 w q m ys) (hn : zs.length + m ≤ 100000000) :
    Calls Tryz.prog 165 #[.pointer (some ⟨B, 0, none⟩), .slice q m d] w (Wrote B lo (zs ++ ys) w) := by
  obtain ⟨i0, hi', hz0, hz1, hz2⟩ := info_parts SlI.info
  obtain ⟨p, n, c, hB, ho, hb1, hb2⟩ := hE
  have hl := ho.len
  have hn' : n + m ≤ 100000000 := by omega
  have hlo : lo ≤ w.heap.size := Nat.le_trans hb2 ho.2.2.1
  have HN := Lib.hid (ne_own hB ho)
  have HB := Lib.hid hB
  have HO := Lib.hid ho
  have HY := Lib.hid hy
  have c0 := hB.cell (j := 0) rfl
  clear hB ho hy hl hn
  go_enter Tryz.func165, Tryz.ntmps165
  go_wp2_with (at_builtin; refine wpList_appR rfl (.tmp 8) (.tmp 9) 31 rfl i0 _ 8 Tryz.underlying31 hi' hz0 hz1 hz2 rfl rfl HO.out q m d ys rfl HY.out hlo (by omega) (by omega) ?_; intro p1 c1 w1 how1 hg1; have HO1 := Lib.hid how1; have HB1 := Lib.hid (HB.out.grown hg1 HN.out); have HT1 := Lib.hid (Tn.Turn.of_grown hg1); have k0 := HB1.out.cell (j := 0) rfl; have f0 := HB1.out.free 0; clear how1 hg1)
  go_end0
  have HN1 := ne_own HB1.out HO1.out
  have hs : w.heap.size ≤ w1.heap.size := HT1.out.size
  refine ⟨rfl, ⟨p1, _, c1, HB1.out.set_ 0 _, (Tn.owI_turn (S := fun i => i = B) HO1.out (Tn.Turn.set (S := fun i => i = B) (g := B) (Tn.Turn.refl _ _) rfl _) (fun g e h => by subst h; exact HN1 e.symm)).wide (Nat.le_refl _) (by simp [World.setCell]) (Nat.le_refl _), hb1, by simp [World.setCell]; omega⟩, ?_⟩
  exact (Tn.Turn.set (S := In w B lo) (g := B) (HT1.out.mono (fun i h => Or.inr ⟨(HO.out.far i h).1, Tn.own_type HO.out.1 h⟩)) (Or.inl rfl) _)
end Go.Proofs.YtfojilogcecphaaGreat.Wr
