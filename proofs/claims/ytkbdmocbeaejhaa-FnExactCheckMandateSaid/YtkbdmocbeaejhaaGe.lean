/- Contracts of the encoder: what is written, how a signature is written; numbers that are carried. -/
import Derived.Test.YtkbdmocbeaejhaaGi
import Derived.Test.YtkbdmocbeaejhaaTn
import Derived.Test.YtkbdmocbeaejhaaDg
import Derived.Test.YtkbdmocbeaejhaaSlStamp
import Derived.Deep.RegionHeld3
import Derived.LoopTactic
import Derived.Outline
namespace Go.Proofs.Ytkbdmocbeaejhaa.Ge
open Go.ChangeShapes Go.WideShapes Go.ChangeAt Go.RowKit Sl St Fnd SlSignature Ki Gi

/-- what is written: a block that holds a slice of the call's own gets more; that block and the slice's own turn, no others -/
def Wrote (B : Nat) (T : TypeId) (lo : Nat) (v : Value) (m : Nat) (zs : List Int) (w : World) (e : Ending) (w' : World) : Prop := e = .returned (.tuple #[]) ∧ ∃ p' c', Bx w' B T #[.slice p' m c'] ∧ Ow .i64 3 w' lo w'.heap.size p' m c' zs ∧ Tn.Turn (fun i => i = B ∨ v.ownBlock = some i) w w'
theorem rd_bx {w : World} {g : Nat} {T : TypeId} {zs : List Int} (h : Bx w g T (zs.map (Value.int .i64)).toArray) (hk : allK .i64 zs) (hn : zs.length ≤ 1000000) : Rd .i64 w (some ⟨g, 0, none⟩) zs.length zs := by
  refine ⟨rfl, by unfold maxLen; omega, hk, fun _ => ⟨g, 0, rfl, h.lt, fun i hi => ?_⟩⟩
  rw [Nat.zero_add]
  refine h.cell ?_
  rw [List.getElem?_toArray, List.getElem?_map, List.getElem?_eq_getElem hi, List.getD_eq_getElem?_getD, List.getElem?_eq_getElem hi]
  rfl
theorem turn_new {S : Nat → Prop} {w w' : World} (h : Tn.Turn (fun i => S i ∨ w.heap.size ≤ i) w w') : Tn.Turn S w w' := ⟨h.os, h.tape, h.output, h.size, fun i hi hs => h.block i hi (fun x => x.elim hs (fun y => by omega))⟩
theorem ne_own {w : World} {B lo hi n c : Nat} {T : TypeId} {p : Option Addr} {zs : List Int} {cs : Array Value} (hB : Bx w B T cs) (hT : T ≠ 3) (ho : Ow .i64 3 w lo hi p n c zs) : some B ≠ (Value.slice p n c).ownBlock := fun e => by
  exact Tn.type_ne ⟨_, hB⟩ (Tn.own_type ho.1 e.symm) hT
set_option maxRecDepth 100000 in
set_option maxHeartbeats 2000000 in
theorem write_any (B : Nat) (T : TypeId) (hT : T ≠ 3) (p : Option Addr) (n c : Nat) (zs : List Int) (q : Option Addr) (m d : Nat) (ys : List Int) (lo hi : Nat) (w : World) (hB : Bx w B T #[.slice p n c]) (ho : Ow .i64 3 w lo hi p n c zs) (hy : Rd .i64 w q m ys) (hlo : lo ≤ w.heap.size) (hn : n + m ≤ 10000000) :
    Calls Try.prog 78 #[.pointer (some ⟨B, 0, none⟩), .slice q m d] w (Wrote B T lo (.slice p n c) (n + m) (zs ++ ys) w) := by
  obtain ⟨i0, hi', hz0, hz1, hz2⟩ := info_parts SlI.info
  have HN := Lib.hid (ne_own hB hT ho)
  have HB := Lib.hid hB
  have HO := Lib.hid ho
  have HY := Lib.hid hy
  have c0 := hB.cell (j := 0) rfl
  clear hB ho hy
  go_enter Try.func78, Try.ntmps78
  go_wp2_with (at_builtin; refine wpList_appR rfl (.tmp 8) (.tmp 9) 47 rfl i0 _ 8 Try.underlying47 hi' hz0 hz1 hz2 rfl rfl HO.out q m d ys rfl HY.out hlo (by omega) (by omega) ?_; intro p1 c1 w1 how1 hg1; have HO1 := Lib.hid how1; have HB1 := Lib.hid (HB.out.grown hg1 HN.out); have HT1 := Lib.hid (Tn.Turn.of_grown hg1); have k0 := HB1.out.cell (j := 0) rfl; have f0 := HB1.out.free 0; clear how1 hg1)
  go_end0
  have HN1 := ne_own HB1.out hT HO1.out
  refine ⟨rfl, p1, c1, HB1.out.set_ 0 _, ?_, ?_⟩
  · exact (Tn.owI_turn (S := fun i => i = B) HO1.out (Tn.Turn.set (S := fun i => i = B) (g := B) (Tn.Turn.refl _ _) rfl _) (fun g e h => by subst h; exact HN1 e.symm)).wide (Nat.le_refl _) (by simp [World.setCell]) (Nat.le_refl _)
  · exact (Tn.Turn.set (S := fun i => i = B ∨ (Value.slice p n c).ownBlock = some i) (g := B) (HT1.out.mono (fun i h => Or.inr h)) (Or.inl rfl) _)
end Go.Proofs.Ytkbdmocbeaejhaa.Ge
