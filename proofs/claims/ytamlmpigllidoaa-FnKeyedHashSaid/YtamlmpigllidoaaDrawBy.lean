/- The reference's draws of bytes. -/
import Derived.Test.YtamlmpigllidoaaDrawOne
import Derived.Test.YtamlmpigllidoaaSlB
namespace Go.Proofs.Ytamlmpigllidoaa.Cur
open Go.ChangeShapes Go.WideShapes Go.ChangeAt Go.RowKit Sl

theorem rd_drew {k : IntKind} {w : World} {p : Option Addr} {n : Nat} {zs : List Int} (h : Rd k w p n zs) : Rd k w.drew p n zs := h
theorem below_drew {B : Nat} {a w : World} (h : Below B a w) : Below B a w.drew := ⟨h.os, h.tape, h.output, h.size, h.block⟩
theorem empty_b (w : World) (lo : Nat) (h : lo ≤ w.heap.size) : Ow .u8 5 (w.alloc (.cells #[] 5)) lo (w.heap.size + 1) (some ⟨w.heap.size, 0, none⟩) 0 0 [] :=
  ⟨World.ownsRow_lit w #[] 0 h (Nat.zero_le _) rfl, allK_nil _, by simp, fun g hg => by simp [Value.ownBlock] at hg; omega⟩
theorem below_g {w w1 w2 : World} (hb : Below w.heap.size w w1) (hg : w1.grownBy w2 (some w.heap.size)) : Below w.heap.size w w2 :=
  hb.grown hg hb.size (fun _ h => by cases h; exact Nat.le_refl _)
theorem big_any (v : Value) (n : Nat) (b : Bool) (w : World) (hc : Code v n w) (hb : decide (1048576 < n) = b) : Calls Try.prog 12 #[v] w fun e w' => e = .returned (.bool b) ∧ w = w' := by
  subst hb
  obtain ⟨hm, hc⟩ := hc
  unfold maxLen at hm
  obtain ⟨a, cap, rfl⟩ : ∃ a cap, v = .slice a n cap := by
    rcases hc with ⟨rfl, a0, cap0, rfl⟩ | ⟨b, off, cap, rfl, _⟩
    · exact ⟨_, _, rfl⟩
    · exact ⟨_, _, rfl⟩
  go_enter Try.func12, Try.ntmps12
  go_wp2_with fail
  go_ret
  refine ⟨Ints.ret_bool ?_, rfl⟩
  rw [Bool.eq_iff_iff]
  simp only [decide_eq_true_eq]
  omega
/-- The call answers n bytes of its own; the cursor stands on; its block alone has turned. -/
def GivesL (g : Nat) (n : Nat) (w : World) (e : Ending) (w' : World) : Prop :=
  ∃ p c zs, e = .returned (.slice p n c) ∧ Ow .u8 5 w' w.heap.size w'.heap.size p n c zs ∧ Cur g w' ∧ w.grownBy w' (some g)
/-- on the way -/
def BytesMid (g m : Nat) (p : Option Addr) (c : Nat) (w wr : World) : Prop :=
  ∃ zs, Ow .u8 5 wr w.heap.size wr.heap.size p m c zs ∧ Cur g wr ∧ w.grownBy wr (some g)
theorem BytesMid.byte {g m c : Nat} {p : Option Addr} {w wr w1 : World} (h : BytesMid g m p c w wr) (hlt : g < w.heap.size) (hc : Cur g w1) (hg : wr.grownBy w1 (some g)) : BytesMid g m p c w w1 := by
  obtain ⟨zs, ho, _, h1⟩ := h
  exact ⟨zs, (ho.kept hg (fun k e => by cases e; exact Or.inl hlt)).wide (Nat.le_refl _) hg.size (Nat.le_refl _), hc, only_trans h1 hg⟩
theorem only_far {a w w' : World} {g : Nat} {row : Option Nat} (h : a.grownBy w (some g)) (hg : w.grownBy w' row) (hr : ∀ k, row = some k → a.heap.size ≤ k) : a.grownBy w' (some g) :=
  ⟨hg.os.trans h.os, hg.tape.trans h.tape, hg.output.trans h.output, Nat.le_trans h.size hg.size, fun i hi hne => (hg.block i (Nat.lt_of_lt_of_le hi h.size) (fun e => by have := hr _ e.symm; omega)).trans (h.block i hi hne)⟩
theorem BytesMid.app {g m c c2 : Nat} {p p2 : Option Addr} {zs ys : List Int} {w wr w2 : World} {o : Obj} (ho : Ow .u8 5 wr w.heap.size wr.heap.size p m c zs) (h : Cur g wr) (hg : w.grownBy wr (some g)) (hlt : g < w.heap.size)
    (how : Ow .u8 5 w2 w.heap.size w2.heap.size p2 (m + 1) c2 ys) (hg2 : (wr.alloc o).grownBy w2 (Value.slice p m c).ownBlock) : BytesMid g (m + 1) p2 c2 w w2 := by
  have hfar := ho.far
  refine ⟨ys, how, (h.keep (only_alloc (only_refl _ none) o) (fun _ e => by cases e)).keep hg2 (fun k e => by have := hfar k e; omega), only_far (only_alloc hg o) hg2 (fun k e => (hfar k e).1)⟩
set_option maxHeartbeats 400000 in
theorem bytes_any (g : Nat) (n : Nat) (w : World) (hc : Cur g w) (hn : n ≤ 1000000) : Calls Try.prog 56 #[.pointer (some ⟨g, 0, none⟩), .int .i64 n] w (GivesL g n w) := by
  obtain ⟨i0, hi, hz0, hz1, hz2⟩ := info_parts SlB.info
  have hlt := hc.lt
  have HM : Hid (BytesMid g 0 (some ⟨w.heap.size, 0, none⟩) 0 w (w.alloc (.cells #[] 5))) :=
    ⟨[], by simpa using empty_b w w.heap.size (Nat.le_refl _), hc.keep (only_alloc (only_refl _ none) _) (fun _ e => by cases e), only_alloc (only_refl _ _) _⟩
  clear hc
  go_enter Try.func56, Try.ntmps56
  go_wp2_with fail
  go_loopw [5, 6] (fun b i wr => ∃ (k c' : Nat) (p' : Option Addr), k ≤ n ∧ i = .int .i64 k ∧ b = .slice p' k c' ∧ Hid (BytesMid g k p' c' w wr)) (fun _ i _ => n - (intOf i).toNat)
  case atStart => exact ⟨0, _, _, Nat.zero_le _, rfl, rfl, HM⟩
  case round =>
    obtain ⟨k, c', p', hk, rfl, rfl, HK⟩ := hrel
    by_cases hkn : k < n
    · obtain ⟨_, _, hcur, _⟩ := HK.out
      have HC := Lib.hid hcur
      clear hcur
      go_wp2_with fail
      refine (byte_any g _ HC.out).mono ?_
      rintro e w1 ⟨x, rfl, ⟨x0, x1⟩, hc1, hg1⟩
      have HK1 := Lib.hid (HK.out.byte hlt hc1 hg1)
      clear hc1 hg1
      obtain ⟨zs, ho, hc2, hg2⟩ := HK1.out
      have HO := Lib.hid ho
      have HC2 := Lib.hid hc2
      have HG2 := Lib.hid hg2
      have hs2 := hg2.size
      clear ho hc2 hg2
      go_wp2_with (at_builtin; refine wpList_app1 rfl (.tmp 13) (.tmp 17) 22 rfl i0 _ 1 Try.underlying22 hi hz0 hz1 hz2 rfl rfl (HO.out.alloc _) w1.heap.size 1 x rfl (by go_simp) ⟨by omega, by omega⟩ (by simp; omega) (by omega) (by omega) ?_; intro p3 c3 w3 how3 hg3)
      refine ⟨⟨k + 1, _, _, by omega, by go_num, rfl, BytesMid.app HO.out HC2.out HG2.out hlt how3 hg3⟩, by simp [intOf]; omega⟩
    · obtain rfl : k = n := by omega
      go_wp2_with fail
      go_ret
      obtain ⟨zs, ho, hc, hg⟩ := HK.out
      exact ⟨_, _, _, rfl, ho, hc, hg⟩

end Go.Proofs.Ytamlmpigllidoaa.Cur
