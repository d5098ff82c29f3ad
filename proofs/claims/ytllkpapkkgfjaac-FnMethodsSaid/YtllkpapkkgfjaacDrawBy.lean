/- The reference's draws of bytes. -/
import Derived.Test.YtllkpapkkgfjaacDrawOne
import Derived.Test.YtllkpapkkgfjaacSlB
namespace Go.Proofs.Ytllkpapkkgfjaac.Cur
open Go.ChangeShapes Go.WideShapes Go.ChangeAt Go.RowKit Sl

theorem rd_drew {k : IntKind} {w : World} {p : Option Addr} {n : Nat} {zs : List Int} (h : Rd k w p n zs) : Rd k w.drew p n zs := h
theorem below_drew {B : Nat} {a w : World} (h : Below B a w) : Below B a w.drew := ⟨h.os, h.tape, h.output, h.size, h.block⟩
theorem empty_b (w : World) (lo : Nat) (h : lo ≤ w.heap.size) : Ow .u8 5 (w.alloc (.cells #[] 5)) lo (w.heap.size + 1) (some ⟨w.heap.size, 0, none⟩) 0 0 [] :=
  ⟨World.ownsRow_lit w #[] 0 h (Nat.zero_le _) rfl, allK_nil _, by simp, fun g hg => by simp [Value.ownBlock] at hg; omega⟩
theorem below_g {w w1 w2 : World} (hb : Below w.heap.size w w1) (hg : w1.grownBy w2 (some w.heap.size)) : Below w.heap.size w w2 :=
  hb.grown hg hb.size (fun _ h => by cases h; exact Nat.le_refl _)
theorem big_any (v : Value) (n : Nat) (b : Bool) (w : World) (hc : Code v n w) (hb : decide (1048576 < n) = b) : Calls Try.prog 19 #[v] w fun e w' => e = .returned (.bool b) ∧ w = w' := by
  subst hb
  obtain ⟨hm, hc⟩ := hc
  unfold maxLen at hm
  obtain ⟨a, cap, rfl⟩ : ∃ a cap, v = .slice a n cap := by
    rcases hc with ⟨rfl, a0, cap0, rfl⟩ | ⟨b, off, cap, rfl, _⟩
    · exact ⟨_, _, rfl⟩
    · exact ⟨_, _, rfl⟩
  go_enter Try.func19, Try.ntmps19
  go_wp2_with fail
  go_ret
  refine ⟨Ints.ret_bool ?_, rfl⟩
  rw [Bool.eq_iff_iff]
  simp only [decide_eq_true_eq]
  omega
/-- The call answers n bytes of its own; the cursor stands on; its block alone has turned. -/
def GivesL (g : Nat) (n : Nat) (w : World) (e : Ending) (w' : World) : Prop :=
  ∃ p c zs, e = .returned (.slice p n c) ∧ Ow .u8 5 w' w.heap.size w'.heap.size p n c zs ∧ Cur g w' ∧ w.grownBy w' (some g)
/-- on the way -/
def BytesMid (g m : Nat) (p : Option Addr) (c : Nat) (w wr : World) : Prop :=
  ∃ zs, Ow .u8 5 wr w.heap.size wr.heap.size p m c zs ∧ Cur g wr ∧ w.grownBy wr (some g)
theorem BytesMid.byte {g m c : Nat} {p : Option Addr} {w wr w1 : World} (h : BytesMid g m p c w wr) (hlt : g < w.heap.size) (hc : Cur g w1) (hg : wr.grownBy w1 (some g)) : BytesMid g m p c w w1 := by
  obtain ⟨zs, ho, _, h1⟩ := h
  exact ⟨zs, (ho.kept hg (fun k e => by cases e; exact Or.inl hlt)).wide (Nat.le_refl _) hg.size (Nat.le_refl _), hc, only_trans h1 hg⟩
theorem only_far {a w w' : World} {g : Nat} {row : Option Nat} (h : a.grownBy w (some g)) (hg : w.grownBy w' row) (hr : ∀ k, row = some k → a.heap.size ≤ k) : a.grownBy w' (some g) :=
  ⟨hg.os.trans h.os, hg.tape.trans h.tape, hg.output.trans h.output, Nat.le_trans h.size hg.size, fun i hi hne => (hg.block i (Nat.lt_of_lt_of_le hi h.size) (fun e => by have := hr _ e.symm; omega)).trans (h.block i hi hne)⟩
theorem BytesMid.app {g m c c2 : Nat} {p p2 : Option Addr} {zs ys : List Int} {w wr w2 : World} {o : Obj} (ho : Ow .u8 5 wr w.heap.size wr.heap.size p m c zs) (h : Cur g wr) (hg : w.grownBy wr (some g)) (hlt : g < w.heap.size)
    (how : Ow .u8 5 w2 w.heap.size w2.heap.size p2 (m + 1) c2 ys) (hg2 : (wr.alloc o).grownBy w2 (Value.slice p m c).ownBlock) : BytesMid g (m + 1) p2 c2 w w2 := by
  have hfar := ho.far
  refine ⟨ys, how, (h.keep (only_alloc (only_refl _ none) o) (fun _ e => by cases e)).keep hg2 (fun k e => by have := hfar k e; omega), only_far (only_alloc hg o) hg2 (fun k e => (hfar k e).1)⟩
end Go.Proofs.Ytllkpapkkgfjaac.Cur
