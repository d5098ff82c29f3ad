/- The encoder: a box that holds a slice of the call's own; what is written into it. -/
import Derived.Test.YtjickcnjnebpcaaEd
import Derived.Test.YtjickcnjnebpcaaDz
import Derived.Test.YtjickcnjnebpcaaSr
import Derived.Test.YtjickcnjnebpcaaTn
import Derived.Test.YtjickcnjnebpcaaSlI
import Derived.Test.YtjickcnjnebpcaaBx
import Derived.Outline
namespace Go.Proofs.Ytjickcnjnebpcaa.Wr
open Go.ChangeShapes Go.WideShapes Go.ChangeAt Go.RowKit Sl St Ed Dz

/-- the encoder in the block B has written zs; its row lies from lo on, before hi -/
def Enc (w : World) (B lo hi : Nat) (zs : List Int) : Prop := ∃ p n c, Bx w B 103 #[.slice p n c] ∧ Ow .i64 3 w lo hi p n c zs ∧ B < lo ∧ lo ≤ hi
/-- the blocks that a writing turns: the encoder's, and rows of numbers from lo on -/
def In (w : World) (B lo : Nat) (i : Nat) : Prop := i = B ∨ (lo ≤ i ∧ ∃ cur, w.heap[i]? = some (.cells cur 3 (0, 0)))
def Turned (B lo : Nat) (w w' : World) : Prop := Tn.Turn (In w B lo) w w'
theorem Turned.refl (B lo : Nat) (w : World) : Turned B lo w w := Tn.Turn.refl _ _
theorem Turned.trans {B lo : Nat} {w w1 w2 : World} (h : Turned B lo w w1) (h' : Turned B lo w1 w2) : Turned B lo w w2 :=
  ⟨h'.os.trans h.os, h'.tape.trans h.tape, h'.output.trans h.output, Nat.le_trans h.size h'.size, fun i hi hs => by
    have e := h.block i hi hs
    refine (h'.block i (Nat.lt_of_lt_of_le hi h.size) fun hs' => hs ?_).trans e
    rcases hs' with h1 | ⟨h1, cur, h2⟩
    · exact Or.inl h1
    · exact Or.inr ⟨h1, cur, by rw [← e]; exact h2⟩⟩
theorem Turned.of_below {B lo : Nat} {w w1 : World} (h : Below w.heap.size w w1) : Turned B lo w w1 := Tn.Turn.of_below h _
theorem Turned.pre {B lo : Nat} {w w1 w2 : World} (hb : Below w.heap.size w w1) (h : Turned B lo w1 w2) : Turned B lo w w2 := (Turned.of_below hb).trans h
theorem Turned.then {B lo : Nat} {w w1 w2 : World} (h : Turned B lo w w1) (hb : Below w1.heap.size w1 w2) : Turned B lo w w2 := h.trans (Turned.of_below hb)
/-- what lies below all of it stays -/
theorem Turned.below {B lo g : Nat} {w w' : World} (h : Turned B lo w w') (hg : g ≤ B) (hl : g ≤ lo) (hw : g ≤ w.heap.size) : Below g w w' :=
  Tn.Turn.below h (fun i hi => by rcases hi with rfl | ⟨h1, _⟩ <;> omega) hw
theorem Turned.on {B lo g : Nat} {W w w' : World} (hb : Below g W w) (h : Turned B lo w w') (hg : g ≤ B) (hl : g ≤ lo) (hw : g ≤ w.heap.size) : Below g W w' := hb.trans (h.below hg hl hw)
theorem bx_turned {B lo g : Nat} {w w' : World} {T : TypeId} {cs : Array Value} (h : Bx w g T cs) (ht : Turned B lo w w') (hg : g ≠ B) (hT : g < lo ∨ T ≠ 3) : Bx w' g T cs :=
  Tn.bx_turn h ht fun hs => by
    rcases hs with h1 | ⟨h1, h2⟩
    · exact hg h1
    · rcases hT with h3 | h3
      · omega
      · exact Tn.type_ne ⟨_, h⟩ h2 h3
theorem rdD_turned {α : Type} {E : Ent α} {S0 : Nat → Prop} {B lo : Nat} {w w' : World} {p : Option Addr} {n : Nat} {xs : List α} (h : RdD E S0 w p n xs) (ht : Turned B lo w w') (hd : ∀ b, S0 b → b < w.heap.size → b ≠ B ∧ b < lo) : RdD E S0 w' p n xs :=
  Ed.RdD.keep h ht.size fun b hS hlt => ⟨hS, ht.block b hlt fun hs => by
    have := hd b hS hlt
    rcases hs with h1 | ⟨h1, _⟩ <;> omega⟩
theorem ne_own {w : World} {B lo hi n c : Nat} {p : Option Addr} {zs : List Int} {cs : Array Value} (hB : Bx w B 103 cs) (ho : Ow .i64 3 w lo hi p n c zs) : some B ≠ (Value.slice p n c).ownBlock := fun e => by
  exact Tn.type_ne ⟨_, hB⟩ (Tn.own_type ho.1 e.symm) (by decide)
theorem Enc.new (w : World) : Enc (w.alloc (.cells #[.slice none 0 0] 103)) w.heap.size (w.heap.size + 1) (w.heap.size + 1) [] :=
  ⟨none, 0, 0, Bx.new w _ _, Ow.nil_ _ _ _ _ (by simp), by omega, Nat.le_refl _⟩
theorem Enc.below {w w' : World} {B lo hi : Nat} {zs : List Int} (h : Enc w B lo hi zs) (hb : Below w.heap.size w w') : Enc w' B lo hi zs := by
  obtain ⟨p, n, c, hB, ho, h1, h2⟩ := h
  exact ⟨p, n, c, hB.below hb, ho.below hb, h1, h2⟩
theorem Enc.alloc {w : World} {B lo hi : Nat} {zs : List Int} (h : Enc w B lo hi zs) (o : Obj) : Enc (w.alloc o) B lo hi zs := h.below ((Below.refl _ _).alloc (Nat.le_refl _) _)
theorem Enc.drew1 {w : World} {B lo hi : Nat} {zs : List Int} (h : Enc w B lo hi zs) : Enc w.drew B lo hi zs := h.below (below_drewN (Below.refl _ _) 1)
theorem Enc.lt {w : World} {B lo hi : Nat} {zs : List Int} (h : Enc w B lo hi zs) : B < lo ∧ lo ≤ hi ∧ hi ≤ w.heap.size := by
  obtain ⟨p, n, c, hB, ho, h1, h2⟩ := h
  exact ⟨h1, h2, ho.2.2.1⟩
/-- another encoder, younger than all that this one has, writes -/
theorem Enc.young {w w' : World} {B lo hi B' lo' : Nat} {zs : List Int} (h : Enc w B lo hi zs) (ht : Turned B' lo' w w') (h1 : hi ≤ B') (h2 : hi ≤ lo') : Enc w' B lo hi zs := by
  obtain ⟨p, n, c, hB, ho, h3, h4⟩ := h
  refine ⟨p, n, c, Tn.bx_turn hB ht (fun hs => ?_), Tn.owI_turn ho ht (fun k e hs => ?_), h3, h4⟩
  · rcases hs with h5 | ⟨h5, _⟩ <;> omega
  · have h6 := ho.far k e
    rcases hs with h5 | ⟨h5, _⟩ <;> omega
theorem Enc.read {w : World} {B lo hi : Nat} {zs : List Int} (h : Enc w B lo hi zs) : ∃ p n c, w.cell? ⟨B, 0, none⟩ = some (.slice p n c) ∧ Rd .i64 w p n zs ∧ n = zs.length := by
  obtain ⟨p, n, c, hB, ho, _⟩ := h
  exact ⟨p, n, c, hB.cell rfl, ho.rd, ho.len.symm⟩
theorem fresh {α : Type} {E : Ent α} {S0 : Nat → Prop} {w : World} {p : Option Addr} {n : Nat} {xs : List α} (h : RdD E S0 w p n xs) : RdD E (fun b => b < w.heap.size) w p n xs :=
  Ed.RdD.keep h (Nat.le_refl _) fun _ _ hlt => ⟨hlt, rfl⟩
/-- The call writes ys: the encoder has them, and its own blocks turn, no others. -/
def Wrote (B lo : Nat) (zs : List Int) (w : World) (e : Ending) (w' : World) : Prop := e = .returned (.tuple #[]) ∧ Enc w' B lo w'.heap.size zs ∧ Turned B lo w w'
set_option maxRecDepth 100000 in
set_option maxHeartbeats 2000000 in
theorem write_any (B lo hi : Nat) (zs : List Int) (q : Option Addr) (m d : Nat) (ys : List Int) (w : World) (hE : Enc w B lo hi zs) (hy : Rd .i64 w q m ys) (hn : zs.length + m ≤ 100000000) :
    Calls Try.prog 61 #[.pointer (some ⟨B, 0, none⟩), .slice q m d] w (Wrote B lo (zs ++ ys) w) := by
  obtain ⟨i0, hi', hz0, hz1, hz2⟩ := info_parts SlI.info
  obtain ⟨p, n, c, hB, ho, hb1, hb2⟩ := hE
  have hl := ho.len
  have hn' : n + m ≤ 100000000 := by omega
  have hlo : lo ≤ w.heap.size := Nat.le_trans hb2 ho.2.2.1
  have HN := Lib.hid (ne_own hB ho)
  have HB := Lib.hid hB
  have HO := Lib.hid ho
  have HY := Lib.hid hy
  have c0 := hB.cell (j := 0) rfl
  clear hB ho hy hl hn
  go_enter Try.func61, Try.ntmps61
  go_wp2_with (at_builtin; refine wpList_appR rfl (.tmp 8) (.tmp 9) 23 rfl i0 _ 8 Try.underlying23 hi' hz0 hz1 hz2 rfl rfl HO.out q m d ys rfl HY.out hlo (by omega) (by omega) ?_; intro p1 c1 w1 how1 hg1; have HO1 := Lib.hid how1; have HB1 := Lib.hid (HB.out.grown hg1 HN.out); have HT1 := Lib.hid (Tn.Turn.of_grown hg1); have k0 := HB1.out.cell (j := 0) rfl; have f0 := HB1.out.free 0; clear how1 hg1)
  go_end0
  have HN1 := ne_own HB1.out HO1.out
  have hs : w.heap.size ≤ w1.heap.size := HT1.out.size
  refine ⟨rfl, ⟨p1, _, c1, HB1.out.set_ 0 _, (Tn.owI_turn (S := fun i => i = B) HO1.out (Tn.Turn.set (S := fun i => i = B) (g := B) (Tn.Turn.refl _ _) rfl _) (fun g e h => by subst h; exact HN1 e.symm)).wide (Nat.le_refl _) (by simp [World.setCell]) (Nat.le_refl _), hb1, by simp [World.setCell]; omega⟩, ?_⟩
  exact (Tn.Turn.set (S := In w B lo) (g := B) (HT1.out.mono (fun i h => Or.inr ⟨(HO.out.far i h).1, Tn.own_type HO.out.1 h⟩)) (Or.inl rfl) _)
end Go.Proofs.Ytjickcnjnebpcaa.Wr
