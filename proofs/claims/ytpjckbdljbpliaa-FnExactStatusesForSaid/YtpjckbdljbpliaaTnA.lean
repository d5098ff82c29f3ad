/- What is of no program: which blocks turn from one world to another; and what keeps them. Contracts of the digest of a list by a method; in the program and in the reference. Contracts of the encoder: what is written, how a signature is written; numbers that are carried. -/
import Derived.Test.YtpjckbdljbpliaaStM
import Derived.Test.YtpjckbdljbpliaaBx
import Derived.Test.YtpjckbdljbpliaaHs
import Derived.Test.YtpjckbdljbpliaaGi
import Derived.Test.YtpjckbdljbpliaaSlStamp
import Derived.Deep.RegionHeld3
import Derived.LoopTactic
import Derived.Outline
namespace Go.Proofs.Ytpjckbdljbpliaa.Tn
open Go.RowKit Go.WideShapes Sl St

/-- From w to w' new blocks may be made, and of the blocks of w those of S may turn. -/
structure Turn (S : Nat → Prop) (w w' : World) : Prop where
  os : w'.os = w.os
  tape : w'.tape = w.tape
  output : w'.output = w.output
  size : w.heap.size ≤ w'.heap.size
  block : ∀ i, i < w.heap.size → ¬ S i → w'.heap[i]? = w.heap[i]?
theorem Turn.refl (S : Nat → Prop) (w : World) : Turn S w w := ⟨rfl, rfl, rfl, Nat.le_refl _, fun _ _ _ => rfl⟩
theorem Turn.trans {S : Nat → Prop} {w w1 w2 : World} (h : Turn S w w1) (h' : Turn S w1 w2) : Turn S w w2 :=
  ⟨h'.os.trans h.os, h'.tape.trans h.tape, h'.output.trans h.output, Nat.le_trans h.size h'.size, fun i hi hs => (h'.block i (Nat.lt_of_lt_of_le hi h.size) hs).trans (h.block i hi hs)⟩
theorem Turn.mono {S T : Nat → Prop} {w w' : World} (h : Turn S w w') (hs : ∀ i, S i → T i) : Turn T w w' := ⟨h.os, h.tape, h.output, h.size, fun i hi ht => h.block i hi (fun x => ht (hs i x))⟩
theorem Turn.of_below {w w' : World} (h : Below w.heap.size w w') (S : Nat → Prop) : Turn S w w' := ⟨h.os, h.tape, h.output, h.size, fun i hi _ => h.block i hi⟩
theorem Turn.of_from {B : Nat} {w w' : World} (h : Below B w w') : Turn (fun i => B ≤ i) w w' := ⟨h.os, h.tape, h.output, h.size, fun i _ hs => h.block i (Nat.lt_of_not_le hs)⟩
theorem Turn.of_grown {w w' : World} {r : Option Nat} (h : w.grownBy w' r) : Turn (fun i => r = some i) w w' := ⟨h.os, h.tape, h.output, h.size, fun i hi hs => h.block i hi (fun e => hs e.symm)⟩
theorem Turn.below {S : Nat → Prop} {w w' : World} {B : Nat} (h : Turn S w w') (hS : ∀ i, S i → B ≤ i) (hB : B ≤ w.heap.size) : Below B w w' :=
  ⟨h.os, h.tape, h.output, h.size, fun i hi => h.block i (Nat.lt_of_lt_of_le hi hB) (fun x => by have := hS i x; omega)⟩
theorem Turn.on {S : Nat → Prop} {w w1 w2 : World} {B : Nat} (h : Below B w w1) (hB : B ≤ w.heap.size) (h' : Turn S w1 w2) (hS : ∀ i, S i → B ≤ i) : Below B w w2 :=
  h.trans (h'.below hS (Nat.le_trans hB h.size))
theorem Turn.then {S : Nat → Prop} {w w1 w2 : World} (h : Turn S w w1) (hb : Below w1.heap.size w1 w2) : Turn S w w2 := h.trans (Turn.of_below hb S)
theorem Turn.pre {S : Nat → Prop} {w w1 w2 : World} (hb : Below w.heap.size w w1) (h : Turn S w1 w2) : Turn S w w2 := (Turn.of_below hb S).trans h
theorem Turn.alloc {S : Nat → Prop} {w w1 : World} (h : Turn S w w1) (o : Obj) : Turn S w (w1.alloc o) := h.then ((Below.refl _ _).alloc (Nat.le_refl _) _)
theorem Turn.drewN {S : Nat → Prop} {w w1 : World} (h : Turn S w w1) (n : Nat) : Turn S w (w1.drewN n) := h.then (below_drewN (Below.refl _ _) n)
theorem Turn.set {S : Nat → Prop} {w w1 : World} (h : Turn S w w1) {g j : Nat} (hg : S g) (v : Value) : Turn S w (w1.setCell ⟨g, j, none⟩ v) :=
  ⟨h.os, h.tape, h.output, by simpa [World.setCell] using h.size, fun i hi hs => (Below.heap_setCell w1 ⟨g, j, none⟩ v i (by rintro rfl; exact hs hg)).trans (h.block i hi hs)⟩
section
variable {S : Nat → Prop} {w w' : World}
theorem own_turn {l s n : Nat} {T : TypeId} {v : Value} {xs : List Value} (h : w.ownsRow l T s v n xs) (ht : Turn S w w') (hn : ∀ g, v.ownBlock = some g → ¬ S g) : w'.ownsRow l T s v n xs := by
  refine ⟨h.1, ?_⟩
  rcases h.2 with hx | ⟨g, cap, cur, rfl, hb, hgg, rest⟩
  · exact .inl hx
  · exact .inr ⟨g, cap, cur, rfl, hb, (ht.block g (Array.getElem?_eq_some_iff.1 hgg).1 (hn g rfl)).trans hgg, rest⟩
theorem owI_turn {k : IntKind} {E : TypeId} {lo hi n c : Nat} {p : Option Addr} {zs : List Int} (h : Ow k E w lo hi p n c zs) (ht : Turn S w w') (hn : ∀ g, (Value.slice p n c).ownBlock = some g → ¬ S g) : Ow k E w' lo hi p n c zs :=
  ⟨own_turn h.1 ht hn, h.2.1, Nat.le_trans h.2.2.1 ht.size, h.2.2.2⟩
theorem owS_turn {α : Type} {E : En α} {T : TypeId} {lo hi n c : Nat} {p : Option Addr} {xs : List α} (h : OwS E T w lo hi p n c xs) (ht : Turn S w w') (hn : ∀ g, (Value.slice p n c).ownBlock = some g → ¬ S g) : OwS E T w' lo hi p n c xs :=
  ⟨own_turn h.1 ht hn, h.2.1, Nat.le_trans h.2.2.1 ht.size, h.2.2.2⟩
theorem owI_far {k : IntKind} {E : TypeId} {lo hi n c : Nat} {p : Option Addr} {zs : List Int} (h : Ow k E w lo hi p n c zs) (ht : Turn S w w') (hn : ∀ g, S g → g < lo ∨ hi ≤ g) : Ow k E w' lo hi p n c zs :=
  owI_turn h ht fun g e x => by have := h.far g e; have := hn g x; omega
theorem owS_far {α : Type} {E : En α} {T : TypeId} {lo hi n c : Nat} {p : Option Addr} {xs : List α} (h : OwS E T w lo hi p n c xs) (ht : Turn S w w') (hn : ∀ g, S g → g < lo ∨ hi ≤ g) : OwS E T w' lo hi p n c xs :=
  owS_turn h ht fun g e x => by have := h.far g e; have := hn g x; omega
theorem bx_turn {g : Nat} {T : TypeId} {cs : Array Value} (h : Bx w g T cs) (ht : Turn S w w') (hn : ¬ S g) : Bx w' g T cs := h.keep (ht.block g h.lt hn)
/-- an own slice's block is of its element type -/
theorem own_type {l s n g : Nat} {T : TypeId} {v : Value} {xs : List Value} (h : w.ownsRow l T s v n xs) (hg : v.ownBlock = some g) : ∃ cur, w.heap[g]? = some (.cells cur T (0, 0)) := by
  rcases h.2 with ⟨rfl, _⟩ | ⟨g1, cap, cur, rfl, _, hg1, _⟩
  · simp [Value.ownBlock] at hg
  · simp only [Value.ownBlock, Option.some.injEq] at hg
    subst hg
    exact ⟨cur, hg1⟩
theorem type_ne {g : Nat} {T T' : TypeId} (h : ∃ cur, w.heap[g]? = some (.cells cur T (0, 0))) (h' : ∃ cur, w.heap[g]? = some (.cells cur T' (0, 0))) (hT : T ≠ T') : False := by
  obtain ⟨c1, e1⟩ := h
  obtain ⟨c2, e2⟩ := h'
  rw [e1] at e2
  simp only [Option.some.injEq, Obj.cells.injEq] at e2
  exact hT e2.2.1
end
end Go.Proofs.Ytpjckbdljbpliaa.Tn

namespace Go.Proofs.Ytpjckbdljbpliaa.Dg
open Go.ChangeShapes Go.WideShapes Go.ChangeAt Go.RowKit Sl Hs

def dig (id : Int) (l : List Int) : Int := hashF (hstep (hstep 11 7) id) l
theorem dig_hash (id : Int) (l : List Int) : Hs.hash ([7, id] ++ l) = dig id l := rfl
theorem dig_in (id : Int) (l : List Int) : 0 ≤ dig id l ∧ dig id l ≤ 2147483646 := hashF_in (hstep_in _ _) _
/-- two ints that are laid in a block anew -/
theorem lit2_own (w : World) (lo : Nat) (a b : Int) (ha : inK .i64 a) (hb : inK .i64 b) (h : lo ≤ w.heap.size) : Ow .i64 3 (w.alloc (.cells #[.int .i64 a, .int .i64 b] 3)) lo (w.alloc (.cells #[.int .i64 a, .int .i64 b] 3)).heap.size (some ⟨w.heap.size, 0, none⟩) 2 2 [a, b] :=
  Ow.of_row (World.ownsRow_lit w #[.int .i64 a, .int .i64 b] 2 h (by unfold maxLen; omega) rfl) (fun x hx => by
    simp only [List.mem_cons, List.not_mem_nil, or_false] at hx
    rcases hx with rfl | rfl
    · exact ha
    · exact hb)
end Go.Proofs.Ytpjckbdljbpliaa.Dg

namespace Go.Proofs.Ytpjckbdljbpliaa.Ge
open Go.ChangeShapes Go.WideShapes Go.ChangeAt Go.RowKit Sl St Fnd SlSignature Ki Gi

/-- what is written: a block that holds a slice of the call's own gets more; that block and the slice's own turn, no others -/
def Wrote (B : Nat) (T : TypeId) (lo : Nat) (v : Value) (m : Nat) (zs : List Int) (w : World) (e : Ending) (w' : World) : Prop := e = .returned (.tuple #[]) ∧ ∃ p' c', Bx w' B T #[.slice p' m c'] ∧ Ow .i64 3 w' lo w'.heap.size p' m c' zs ∧ Tn.Turn (fun i => i = B ∨ v.ownBlock = some i) w w'
theorem rd_bx {w : World} {g : Nat} {T : TypeId} {zs : List Int} (h : Bx w g T (zs.map (Value.int .i64)).toArray) (hk : allK .i64 zs) (hn : zs.length ≤ 1000000) : Rd .i64 w (some ⟨g, 0, none⟩) zs.length zs := by
  refine ⟨rfl, by unfold maxLen; omega, hk, fun _ => ⟨g, 0, rfl, h.lt, fun i hi => ?_⟩⟩
  rw [Nat.zero_add]
  refine h.cell ?_
  rw [List.getElem?_toArray, List.getElem?_map, List.getElem?_eq_getElem hi, List.getD_eq_getElem?_getD, List.getElem?_eq_getElem hi]
  rfl
theorem turn_new {S : Nat → Prop} {w w' : World} (h : Tn.Turn (fun i => S i ∨ w.heap.size ≤ i) w w') : Tn.Turn S w w' := ⟨h.os, h.tape, h.output, h.size, fun i hi hs => h.block i hi (fun x => x.elim hs (fun y => by omega))⟩
theorem ne_own {w : World} {B lo hi n c : Nat} {T : TypeId} {p : Option Addr} {zs : List Int} {cs : Array Value} (hB : Bx w B T cs) (hT : T ≠ 3) (ho : Ow .i64 3 w lo hi p n c zs) : some B ≠ (Value.slice p n c).ownBlock := fun e => by
  exact Tn.type_ne ⟨_, hB⟩ (Tn.own_type ho.1 e.symm) hT
set_option maxRecDepth 100000 in
set_option maxHeartbeats 2000000 in
theorem write_any (B : Nat) (T : TypeId) (hT : T ≠ 3) (p : Option Addr) (n c : Nat) (zs : List Int) (q : Option Addr) (m d : Nat) (ys : List Int) (lo hi : Nat) (w : World) (hB : Bx w B T #[.slice p n c]) (ho : Ow .i64 3 w lo hi p n c zs) (hy : Rd .i64 w q m ys) (hlo : lo ≤ w.heap.size) (hn : n + m ≤ 10000000) :
    Calls Try.prog 129 #[.pointer (some ⟨B, 0, none⟩), .slice q m d] w (Wrote B T lo (.slice p n c) (n + m) (zs ++ ys) w) := by
  obtain ⟨i0, hi', hz0, hz1, hz2⟩ := info_parts SlI.info
  have HN := Lib.hid (ne_own hB hT ho)
  have HB := Lib.hid hB
  have HO := Lib.hid ho
  have HY := Lib.hid hy
  have c0 := hB.cell (j := 0) rfl
  clear hB ho hy
  go_enter Try.func129, Try.ntmps129
  go_wp2_with (at_builtin; refine wpList_appR rfl (.tmp 8) (.tmp 9) 43 rfl i0 _ 8 Try.underlying43 hi' hz0 hz1 hz2 rfl rfl HO.out q m d ys rfl HY.out hlo (by omega) (by omega) ?_; intro p1 c1 w1 how1 hg1; have HO1 := Lib.hid how1; have HB1 := Lib.hid (HB.out.grown hg1 HN.out); have HT1 := Lib.hid (Tn.Turn.of_grown hg1); have k0 := HB1.out.cell (j := 0) rfl; have f0 := HB1.out.free 0; clear how1 hg1)
  go_end0
  have HN1 := ne_own HB1.out hT HO1.out
  refine ⟨rfl, p1, c1, HB1.out.set_ 0 _, ?_, ?_⟩
  · exact (Tn.owI_turn (S := fun i => i = B) HO1.out (Tn.Turn.set (S := fun i => i = B) (g := B) (Tn.Turn.refl _ _) rfl _) (fun g e h => by subst h; exact HN1 e.symm)).wide (Nat.le_refl _) (by simp [World.setCell]) (Nat.le_refl _)
  · exact (Tn.Turn.set (S := fun i => i = B ∨ (Value.slice p n c).ownBlock = some i) (g := B) (HT1.out.mono (fun i h => Or.inr h)) (Or.inl rfl) _)
set_option maxRecDepth 100000 in
set_option maxHeartbeats 8000000 in
theorem writeSig_any (B : Nat) (x0 x1 x2 x3 x4 x5 x6 x7 x8 : Int) (h0 : -9223372036854775808 ≤ x0 ∧ x0 ≤ 9223372036854775807) (h1 : -9223372036854775808 ≤ x1 ∧ x1 ≤ 9223372036854775807) (h2 : -9223372036854775808 ≤ x2 ∧ x2 ≤ 9223372036854775807) (h3 : -9223372036854775808 ≤ x3 ∧ x3 ≤ 9223372036854775807) (h4 : -9223372036854775808 ≤ x4 ∧ x4 ≤ 9223372036854775807) (h5 : -9223372036854775808 ≤ x5 ∧ x5 ≤ 9223372036854775807) (h6 : -9223372036854775808 ≤ x6 ∧ x6 ≤ 9223372036854775807) (h7 : -9223372036854775808 ≤ x7 ∧ x7 ≤ 9223372036854775807) (_h8 : -9223372036854775808 ≤ x8 ∧ x8 ≤ 9223372036854775807) (lo : Nat) (w : World) (hB : Bx w B 194 #[.slice none 0 0]) (_hlo : lo ≤ w.heap.size) :
    Calls Try.prog 128 #[.pointer (some ⟨B, 0, none⟩), .agg #[.int .i64 x0, .int .i64 x1, .int .i64 x2, .int .i64 x3, .int .i64 x4, .int .i64 x5, .int .i64 x6, .int .i64 x7, .int .i64 x8]] w fun e w' => e = .returned (.tuple #[]) ∧ ∃ p' c', Bx w' B 194 #[.slice p' 9 c'] ∧ Ow .i64 3 w' w.heap.size w'.heap.size p' 9 c' [104, x0, x1, x2, x3, x4, x5, x6, x7] ∧ Tn.Turn (fun i => i = B) w w' := by
  have HB := Lib.hid hB
  have HK := Lib.hid (show allK .i64 [104, x0, x1, x2, x3, x4, x5, x6, x7] from (allK_cons ⟨by omega, by omega⟩ (allK_cons h0 (allK_cons h1 (allK_cons h2 (allK_cons h3 (allK_cons h4 (allK_cons h5 (allK_cons h6 (allK_cons h7 (allK_nil _)))))))))))
  have HK8 := Lib.hid (show allK .i64 [x0, x1, x2, x3, x4, x5, x6, x7] from (allK_cons h0 (allK_cons h1 (allK_cons h2 (allK_cons h3 (allK_cons h4 (allK_cons h5 (allK_cons h6 (allK_cons h7 (allK_nil _))))))))))
  clear h0 h1 h2 h3 h4 h5 h6 h7 hB
  go_enter Try.func128, Try.ntmps128
  go_wp2_with fail
  have hV : Below w.heap.size w (((w.alloc (.cells #[.int .i64 x0, .int .i64 x1, .int .i64 x2, .int .i64 x3, .int .i64 x4, .int .i64 x5, .int .i64 x6, .int .i64 x7, .int .i64 x8] 56)).alloc (.cells #[.int .i64 x0, .int .i64 x1, .int .i64 x2, .int .i64 x3, .int .i64 x4, .int .i64 x5, .int .i64 x6, .int .i64 x7] 197)).alloc (.cells #[.int .i64 104] 3)) := (((Below.refl _ w).alloc (Nat.le_refl _) _).alloc (by simp) _).alloc (by simp; omega) _
  have hA : Bx (((w.alloc (.cells #[.int .i64 x0, .int .i64 x1, .int .i64 x2, .int .i64 x3, .int .i64 x4, .int .i64 x5, .int .i64 x6, .int .i64 x7, .int .i64 x8] 56)).alloc (.cells #[.int .i64 x0, .int .i64 x1, .int .i64 x2, .int .i64 x3, .int .i64 x4, .int .i64 x5, .int .i64 x6, .int .i64 x7] 197)).alloc (.cells #[.int .i64 104] 3)) (w.heap.size + 1) 197 #[.int .i64 x0, .int .i64 x1, .int .i64 x2, .int .i64 x3, .int .i64 x4, .int .i64 x5, .int .i64 x6, .int .i64 x7] := by
    have h := (Bx.new (w.alloc (.cells #[.int .i64 x0, .int .i64 x1, .int .i64 x2, .int .i64 x3, .int .i64 x4, .int .i64 x5, .int .i64 x6, .int .i64 x7, .int .i64 x8] 56)) 197 #[.int .i64 x0, .int .i64 x1, .int .i64 x2, .int .i64 x3, .int .i64 x4, .int .i64 x5, .int .i64 x6, .int .i64 x7]).alloc (.cells #[.int .i64 104] 3)
    rw [World.size_alloc] at h
    exact h
  have h1 : Rd .i64 (((w.alloc (.cells #[.int .i64 x0, .int .i64 x1, .int .i64 x2, .int .i64 x3, .int .i64 x4, .int .i64 x5, .int .i64 x6, .int .i64 x7, .int .i64 x8] 56)).alloc (.cells #[.int .i64 x0, .int .i64 x1, .int .i64 x2, .int .i64 x3, .int .i64 x4, .int .i64 x5, .int .i64 x6, .int .i64 x7] 197)).alloc (.cells #[.int .i64 104] 3)) (some ⟨w.heap.size + 2, 0, none⟩) 1 [104] := (litN_at 3 ((w.alloc (.cells #[.int .i64 x0, .int .i64 x1, .int .i64 x2, .int .i64 x3, .int .i64 x4, .int .i64 x5, .int .i64 x6, .int .i64 x7, .int .i64 x8] 56)).alloc (.cells #[.int .i64 x0, .int .i64 x1, .int .i64 x2, .int .i64 x3, .int .i64 x4, .int .i64 x5, .int .i64 x6, .int .i64 x7] 197)) w.heap.size (w.heap.size + 2) [104] (allK_cons ⟨by omega, by omega⟩ (allK_nil _)) (by simp; omega) (by simp) (by simp)).rd
  have HV := Lib.hid hV
  have HA := Lib.hid hA
  have H1 := Lib.hid h1
  have hsv : (((w.alloc (.cells #[.int .i64 x0, .int .i64 x1, .int .i64 x2, .int .i64 x3, .int .i64 x4, .int .i64 x5, .int .i64 x6, .int .i64 x7, .int .i64 x8] 56)).alloc (.cells #[.int .i64 x0, .int .i64 x1, .int .i64 x2, .int .i64 x3, .int .i64 x4, .int .i64 x5, .int .i64 x6, .int .i64 x7] 197)).alloc (.cells #[.int .i64 104] 3)).heap.size = w.heap.size + 3 := by simp
  have HSV := Lib.hid hsv
  clear hV hA h1 hsv
  generalize (((w.alloc (.cells #[.int .i64 x0, .int .i64 x1, .int .i64 x2, .int .i64 x3, .int .i64 x4, .int .i64 x5, .int .i64 x6, .int .i64 x7, .int .i64 x8] 56)).alloc (.cells #[.int .i64 x0, .int .i64 x1, .int .i64 x2, .int .i64 x3, .int .i64 x4, .int .i64 x5, .int .i64 x6, .int .i64 x7] 197)).alloc (.cells #[.int .i64 104] 3)) = V at HV HA H1 HSV ⊢
  refine (write_any B 194 (by decide) none 0 0 [] _ _ _ [104] w.heap.size w.heap.size V (HB.out.below HV.out) (Ow.nil_ _ _ _ _ HV.out.size |>.wide (Nat.le_refl _) (Nat.le_refl _) HV.out.size) H1.out HV.out.size (by omega)).mono ?_
  rintro e w1 ⟨rfl, p1, c1, hb1, ho1, ht1⟩
  have hBl := HB.out.lt
  have HB1 : Hid (Bx w1 B 194 #[.slice p1 1 c1]) := Lib.hid hb1
  have HO1 : Hid (Ow .i64 3 w1 w.heap.size w1.heap.size p1 1 c1 [104]) := Lib.hid ho1
  have HT1 := Lib.hid (show Tn.Turn (fun i => i = B) V w1 from ht1.mono (fun i h => h.elim id (fun e => by simp [Value.ownBlock] at e)))
  have HA1 := Lib.hid (Tn.bx_turn HA.out HT1.out (by omega))
  have HR8 : Hid (Rd .i64 w1 (some ⟨w.heap.size + 1, 0, none⟩) 8 [x0, x1, x2, x3, x4, x5, x6, x7]) := Lib.hid (rd_bx (zs := [x0, x1, x2, x3, x4, x5, x6, x7]) HA1.out HK8.out (by simp))
  have hs1 : w.heap.size ≤ w1.drew.heap.size := Nat.le_trans HV.out.size HT1.out.size
  clear hb1 ho1 ht1
  go_wp2_with fail
  go_region_held3 (fun _ => True) (first | exact trivial) (first
    | (go_at_call 129; (with_reducible refine (write_any B 194 (by decide) p1 1 c1 [104] _ _ _ [x0, x1, x2, x3, x4, x5, x6, x7] w.heap.size w1.heap.size w1.drew HB1.out.drew1 HO1.out.drew1 HR8.out.drew1 hs1 (by omega)).mono ?_); rintro e w2 ⟨rfl, p2, c2, hb2, ho2, ht2⟩; have HB2 := Lib.hid hb2; have HO2 := Lib.hid ho2; have HT2 := Lib.hid ht2; clear hb2 ho2 ht2))
  all_goals
    go_wp2_with fail
    go_end0
    refine ⟨rfl, p2, c2, HB2.out, HO2.out, turn_new ?_⟩
    refine (Tn.Turn.of_below HV.out _).trans ((HT1.out.mono (fun i h => Or.inl h)).trans (Tn.Turn.trans ((Tn.Turn.refl _ w1).drewN 1) (HT2.out.mono (fun i h => ?_))))
    rcases h with h | h
    · exact Or.inl h
    · exact Or.inr (HO1.out.far i h).1
set_option maxRecDepth 100000 in
set_option maxHeartbeats 4000000 in
theorem signatureInts_any (x0 x1 x2 x3 x4 x5 x6 x7 x8 : Int) (w : World) (h0 : -9223372036854775808 ≤ x0 ∧ x0 ≤ 9223372036854775807) (h1 : -9223372036854775808 ≤ x1 ∧ x1 ≤ 9223372036854775807) (h2 : -9223372036854775808 ≤ x2 ∧ x2 ≤ 9223372036854775807) (h3 : -9223372036854775808 ≤ x3 ∧ x3 ≤ 9223372036854775807) (h4 : -9223372036854775808 ≤ x4 ∧ x4 ≤ 9223372036854775807) (h5 : -9223372036854775808 ≤ x5 ∧ x5 ≤ 9223372036854775807) (h6 : -9223372036854775808 ≤ x6 ∧ x6 ≤ 9223372036854775807) (h7 : -9223372036854775808 ≤ x7 ∧ x7 ≤ 9223372036854775807) (h8 : -9223372036854775808 ≤ x8 ∧ x8 ≤ 9223372036854775807) : Calls Try.prog 127 #[.agg #[.int .i64 x0, .int .i64 x1, .int .i64 x2, .int .i64 x3, .int .i64 x4, .int .i64 x5, .int .i64 x6, .int .i64 x7, .int .i64 x8]] w (SlI.Makes [104, x0, x1, x2, x3, x4, x5, x6, x7] w) := by
  have hE : Bx ((w.alloc (.cells #[.int .i64 x0, .int .i64 x1, .int .i64 x2, .int .i64 x3, .int .i64 x4, .int .i64 x5, .int .i64 x6, .int .i64 x7, .int .i64 x8] 56)).alloc (.cells #[.slice none 0 0] 194)) (w.heap.size + 1) 194 #[.slice none 0 0] := by
    have h := Bx.new (w.alloc (.cells #[.int .i64 x0, .int .i64 x1, .int .i64 x2, .int .i64 x3, .int .i64 x4, .int .i64 x5, .int .i64 x6, .int .i64 x7, .int .i64 x8] 56)) 194 #[.slice none 0 0]
    rw [World.size_alloc] at h
    exact h
  have HE := Lib.hid hE
  have HV : Hid (Below w.heap.size w ((w.alloc (.cells #[.int .i64 x0, .int .i64 x1, .int .i64 x2, .int .i64 x3, .int .i64 x4, .int .i64 x5, .int .i64 x6, .int .i64 x7, .int .i64 x8] 56)).alloc (.cells #[.slice none 0 0] 194))) := Lib.hid (((Below.refl _ w).alloc (Nat.le_refl _) _).alloc (by simp) _)
  have HX := Lib.hid ((Bx.new w 56 #[.int .i64 x0, .int .i64 x1, .int .i64 x2, .int .i64 x3, .int .i64 x4, .int .i64 x5, .int .i64 x6, .int .i64 x7, .int .i64 x8]).alloc (.cells #[.slice none 0 0] 194))
  clear hE
  have G0 := Lib.hid h0; have G1 := Lib.hid h1; have G2 := Lib.hid h2; have G3 := Lib.hid h3; have G4 := Lib.hid h4; have G5 := Lib.hid h5; have G6 := Lib.hid h6; have G7 := Lib.hid h7; have G8 := Lib.hid h8
  clear h0 h1 h2 h3 h4 h5 h6 h7 h8
  obtain ⟨cc0, cc1, cc2, cc3, cc4, cc5, cc6, cc7, cc8⟩ := bxc HX.out
  go_enter Try.func127, Try.ntmps127
  go_wp2_with fail
  refine (writeSig_any (w.heap.size + 1) x0 x1 x2 x3 x4 x5 x6 x7 x8 G0.out G1.out G2.out G3.out G4.out G5.out G6.out G7.out G8.out w.heap.size _ HE.out HV.out.size).mono ?_
  rintro e w1 ⟨rfl, p1, c1, hb1, ho1, ht1⟩
  have k0 := hb1.cell (j := 0) rfl
  have HO := Lib.hid (ho1.wide HV.out.size (Nat.le_refl _) (Nat.le_refl _) : Ow .i64 3 w1 w.heap.size w1.heap.size p1 9 c1 [104, x0, x1, x2, x3, x4, x5, x6, x7])
  have HB := Lib.hid (HV.out.trans (ht1.below (B := w.heap.size) (fun i h => by subst h; omega) HV.out.size))
  clear hb1 ho1 ht1 cc0 cc1 cc2 cc3 cc4 cc5 cc6 cc7 cc8
  go_wp2_with fail
  go_ret
  exact ⟨_, _, _, rfl, HO.out, HB.out⟩
end Go.Proofs.Ytpjckbdljbpliaa.Ge
