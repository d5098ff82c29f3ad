/- Contracts of what is asked of a list of keys: a mark checked, whose a key is, which keys are somebody's; in the program (the ring of keys) and in the reference. -/
import Derived.Test.YtpjckbdljbpliaaGreatKr
import Derived.Test.YtpjckbdljbpliaaGreatSrA
import Derived.Test.YtpjckbdljbpliaaGreatFKey
import Derived.Deep.RegionHeld3
namespace Go.Proofs.YtpjckbdljbpliaaGreat.Ko
open Go.ChangeShapes Go.WideShapes Go.ChangeAt Go.RowKit Go.Shelf Sl St Fnd Kn SlKey Kr Ki Km

theorem inr_key {xs : List I5} (hR : ∀ x ∈ xs, InR x) {n : Int} {k : I5} (h : ring xs n = some k) : InR k := hR k (look_mem h).1
theorem inr_at {xs : List I5} (hR : ∀ x ∈ xs, InR x) {k : Nat} (h : k < xs.length) : InR (xs.getD k z5) := hR _ (getD_mem z5 h)
theorem zero_z5 : SlKey.zero = z5 := rfl

/-! ### the ring asked -/
set_option maxRecDepth 100000 in
set_option maxHeartbeats 2000000 in
theorem has_any (xs : List I5) (g : Nat) (n : Int) (hn : -9223372036854775808 ≤ n ∧ n ≤ 9223372036854775807) (w : World) (h : Holds xs g w) : Calls Tryz.prog 105 #[.map (some g), .int .i64 n] w (Val (.bool (ring xs n).isSome) w) := by
  obtain ⟨m, D, hown, hD⟩ := h
  have hkey := Maps.keyOf_int_mk (a := n) Tryz.underlying3 (WalkArith.wf_i64 hn)
  rcases hD n with ⟨k, h1, h2, h3⟩ | ⟨h1, h2, h3⟩
  · have HS : Hid ((ring xs n).isSome = true) := Lib.hid (by rw [h1]; rfl)
    have H2 := Lib.hid h2
    have H3 := Lib.hid h3
    clear h1 h2 h3 hD
    go_enter Tryz.func105, Tryz.ntmps105
    go_wp2_with (at_lookup; refine wpList_lookup_own_ok _ rfl _ _ 173 rfl 3 118 (Maps.int_keyed Tryz.underlying3) Tryz.underlying173 kR (zeroE _) (kd z5) [] (kR_kv z5) g m D rfl hown _ _ rfl hkey ?_; intro v ps hv; rw [H3.out] at hv; obtain rfl := kR_inv hv; rw [H2.out]; clear hv; simp only [kv])
    go_ret
    exact ⟨by rw [HS.out]; rfl, box1 _ _⟩
  · have HS : Hid ((ring xs n).isSome = false) := Lib.hid (by rw [h1]; rfl)
    have H2 := Lib.hid h2
    have H3 := Lib.hid h3
    clear h1 h2 h3 hD
    go_enter Tryz.func105, Tryz.ntmps105
    go_wp2_with (at_lookup; refine wpList_lookup_own_ok _ rfl _ _ 173 rfl 3 118 (Maps.int_keyed Tryz.underlying3) Tryz.underlying173 kR (zeroE _) (kd z5) [] (kR_kv z5) g m D rfl hown _ _ rfl hkey ?_; intro v ps hv; rw [H3.out] at hv; obtain rfl := kR_inv hv; rw [H2.out]; clear hv; simp only [kv])
    go_ret
    exact ⟨by rw [HS.out]; rfl, box1 _ _⟩
/-- the mark, and whether there is the key -/
def Marks (x : Int) (b : Bool) (w : World) (e : Ending) (w' : World) : Prop := e = .returned (.tuple #[.int .i64 x, .bool b]) ∧ Below w.heap.size w w'
/-! ### the reference -/
/-! ### somebody's keys -/
/-- on the way: those of the first k -/
def Way (xs : List I5) (ow : Int) (k : Nat) (p : Option Addr) (m c : Nat) (w wr : World) : Prop := Ow .i64 3 wr w.heap.size wr.heap.size p m c (keysOf (xs.take k) ow) ∧ Below w.heap.size w wr
theorem Way.len {xs : List I5} {ow : Int} {k : Nat} {p : Option Addr} {m c : Nat} {w wr : World} (h : Way xs ow k p m c w wr) : m ≤ xs.length := by
  have h1 := h.1.len
  have h2 := keysOf_len (xs.take k) ow
  rw [List.length_take] at h2
  omega
theorem way_out {xs : List I5} {ow : Int} {k : Nat} {y : I5} (hk : k < xs.length) (hy : xs.getD k z5 = y) (h : ¬ y.2.1 = ow) : keysOf (xs.take (k + 1)) ow = keysOf (xs.take k) ow := by
  rw [take_succ z5 hk, keysOf_append, hy, keysOf_out h, List.append_nil]
theorem way_in {xs : List I5} {ow : Int} {k : Nat} {y : I5} (hk : k < xs.length) (hy : xs.getD k z5 = y) (h : y.2.1 = ow) : keysOf (xs.take (k + 1)) ow = keysOf (xs.take k) ow ++ [y.1] := by
  rw [take_succ z5 hk, keysOf_append, hy, keysOf_in h]
theorem lit0_own (w : World) : Ow .i64 3 (w.alloc (.cells #[] 3)) w.heap.size (w.alloc (.cells #[] 3)).heap.size (some ⟨w.heap.size, 0, none⟩) 0 0 [] := litN_own 3 w w.heap.size [] (allK_nil _) (Nat.le_refl _) (by simp)
end Go.Proofs.YtpjckbdljbpliaaGreat.Ko
