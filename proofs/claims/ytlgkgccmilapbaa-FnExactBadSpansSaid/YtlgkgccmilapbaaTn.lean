/- What is of no program: which blocks turn from one world to another; and what keeps them. -/
import Derived.Test.YtlgkgccmilapbaaStM
import Derived.Test.YtlgkgccmilapbaaBx
namespace Go.Proofs.Ytlgkgccmilapbaa.Tn
open Go.RowKit Go.WideShapes Sl St

/-- From w to w' new blocks may be made, and of the blocks of w those of S may turn. -/
structure Turn (S : Nat → Prop) (w w' : World) : Prop where
  os : w'.os = w.os
  tape : w'.tape = w.tape
  output : w'.output = w.output
  size : w.heap.size ≤ w'.heap.size
  block : ∀ i, i < w.heap.size → ¬ S i → w'.heap[i]? = w.heap[i]?
theorem Turn.refl (S : Nat → Prop) (w : World) : Turn S w w := ⟨rfl, rfl, rfl, Nat.le_refl _, fun _ _ _ => rfl⟩
theorem Turn.trans {S : Nat → Prop} {w w1 w2 : World} (h : Turn S w w1) (h' : Turn S w1 w2) : Turn S w w2 :=
  ⟨h'.os.trans h.os, h'.tape.trans h.tape, h'.output.trans h.output, Nat.le_trans h.size h'.size, fun i hi hs => (h'.block i (Nat.lt_of_lt_of_le hi h.size) hs).trans (h.block i hi hs)⟩
theorem Turn.mono {S T : Nat → Prop} {w w' : World} (h : Turn S w w') (hs : ∀ i, S i → T i) : Turn T w w' := ⟨h.os, h.tape, h.output, h.size, fun i hi ht => h.block i hi (fun x => ht (hs i x))⟩
theorem Turn.of_below {w w' : World} (h : Below w.heap.size w w') (S : Nat → Prop) : Turn S w w' := ⟨h.os, h.tape, h.output, h.size, fun i hi _ => h.block i hi⟩
theorem Turn.of_from {B : Nat} {w w' : World} (h : Below B w w') : Turn (fun i => B ≤ i) w w' := ⟨h.os, h.tape, h.output, h.size, fun i _ hs => h.block i (Nat.lt_of_not_le hs)⟩
theorem Turn.of_grown {w w' : World} {r : Option Nat} (h : w.grownBy w' r) : Turn (fun i => r = some i) w w' := ⟨h.os, h.tape, h.output, h.size, fun i hi hs => h.block i hi (fun e => hs e.symm)⟩
theorem Turn.below {S : Nat → Prop} {w w' : World} {B : Nat} (h : Turn S w w') (hS : ∀ i, S i → B ≤ i) (hB : B ≤ w.heap.size) : Below B w w' :=
  ⟨h.os, h.tape, h.output, h.size, fun i hi => h.block i (Nat.lt_of_lt_of_le hi hB) (fun x => by have := hS i x; omega)⟩
theorem Turn.on {S : Nat → Prop} {w w1 w2 : World} {B : Nat} (h : Below B w w1) (hB : B ≤ w.heap.size) (h' : Turn S w1 w2) (hS : ∀ i, S i → B ≤ i) : Below B w w2 :=
  h.trans (h'.below hS (Nat.le_trans hB h.size))
theorem Turn.then {S : Nat → Prop} {w w1 w2 : World} (h : Turn S w w1) (hb : Below w1.heap.size w1 w2) : Turn S w w2 := h.trans (Turn.of_below hb S)
theorem Turn.pre {S : Nat → Prop} {w w1 w2 : World} (hb : Below w.heap.size w w1) (h : Turn S w1 w2) : Turn S w w2 := (Turn.of_below hb S).trans h
theorem Turn.alloc {S : Nat → Prop} {w w1 : World} (h : Turn S w w1) (o : Obj) : Turn S w (w1.alloc o) := h.then ((Below.refl _ _).alloc (Nat.le_refl _) _)
theorem Turn.drewN {S : Nat → Prop} {w w1 : World} (h : Turn S w w1) (n : Nat) : Turn S w (w1.drewN n) := h.then (below_drewN (Below.refl _ _) n)
theorem Turn.set {S : Nat → Prop} {w w1 : World} (h : Turn S w w1) {g j : Nat} (hg : S g) (v : Value) : Turn S w (w1.setCell ⟨g, j, none⟩ v) :=
  ⟨h.os, h.tape, h.output, by simpa [World.setCell] using h.size, fun i hi hs => (Below.heap_setCell w1 ⟨g, j, none⟩ v i (by rintro rfl; exact hs hg)).trans (h.block i hi hs)⟩
section
variable {S : Nat → Prop} {w w' : World}
theorem own_turn {l s n : Nat} {T : TypeId} {v : Value} {xs : List Value} (h : w.ownsRow l T s v n xs) (ht : Turn S w w') (hn : ∀ g, v.ownBlock = some g → ¬ S g) : w'.ownsRow l T s v n xs := by
  refine ⟨h.1, ?_⟩
  rcases h.2 with hx | ⟨g, cap, cur, rfl, hb, hgg, rest⟩
  · exact .inl hx
  · exact .inr ⟨g, cap, cur, rfl, hb, (ht.block g (Array.getElem?_eq_some_iff.1 hgg).1 (hn g rfl)).trans hgg, rest⟩
theorem owI_turn {k : IntKind} {E : TypeId} {lo hi n c : Nat} {p : Option Addr} {zs : List Int} (h : Ow k E w lo hi p n c zs) (ht : Turn S w w') (hn : ∀ g, (Value.slice p n c).ownBlock = some g → ¬ S g) : Ow k E w' lo hi p n c zs :=
  ⟨own_turn h.1 ht hn, h.2.1, Nat.le_trans h.2.2.1 ht.size, h.2.2.2⟩
theorem owS_turn {α : Type} {E : En α} {T : TypeId} {lo hi n c : Nat} {p : Option Addr} {xs : List α} (h : OwS E T w lo hi p n c xs) (ht : Turn S w w') (hn : ∀ g, (Value.slice p n c).ownBlock = some g → ¬ S g) : OwS E T w' lo hi p n c xs :=
  ⟨own_turn h.1 ht hn, h.2.1, Nat.le_trans h.2.2.1 ht.size, h.2.2.2⟩
theorem owI_far {k : IntKind} {E : TypeId} {lo hi n c : Nat} {p : Option Addr} {zs : List Int} (h : Ow k E w lo hi p n c zs) (ht : Turn S w w') (hn : ∀ g, S g → g < lo ∨ hi ≤ g) : Ow k E w' lo hi p n c zs :=
  owI_turn h ht fun g e x => by have := h.far g e; have := hn g x; omega
theorem owS_far {α : Type} {E : En α} {T : TypeId} {lo hi n c : Nat} {p : Option Addr} {xs : List α} (h : OwS E T w lo hi p n c xs) (ht : Turn S w w') (hn : ∀ g, S g → g < lo ∨ hi ≤ g) : OwS E T w' lo hi p n c xs :=
  owS_turn h ht fun g e x => by have := h.far g e; have := hn g x; omega
theorem bx_turn {g : Nat} {T : TypeId} {cs : Array Value} (h : Bx w g T cs) (ht : Turn S w w') (hn : ¬ S g) : Bx w' g T cs := h.keep (ht.block g h.lt hn)
/-- an own slice's block is of its element type -/
theorem own_type {l s n g : Nat} {T : TypeId} {v : Value} {xs : List Value} (h : w.ownsRow l T s v n xs) (hg : v.ownBlock = some g) : ∃ cur, w.heap[g]? = some (.cells cur T (0, 0)) := by
  rcases h.2 with ⟨rfl, _⟩ | ⟨g1, cap, cur, rfl, _, hg1, _⟩
  · simp [Value.ownBlock] at hg
  · simp only [Value.ownBlock, Option.some.injEq] at hg
    subst hg
    exact ⟨cur, hg1⟩
theorem type_ne {g : Nat} {T T' : TypeId} (h : ∃ cur, w.heap[g]? = some (.cells cur T (0, 0))) (h' : ∃ cur, w.heap[g]? = some (.cells cur T' (0, 0))) (hT : T ≠ T') : False := by
  obtain ⟨c1, e1⟩ := h
  obtain ⟨c2, e2⟩ := h'
  rw [e1] at e2
  simp only [Option.some.injEq, Obj.cells.injEq] at e2
  exact hT e2.2.1
end
end Go.Proofs.Ytlgkgccmilapbaa.Tn
