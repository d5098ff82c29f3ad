/- Contracts of what is asked of a list of keys: a mark checked, whose a key is, which keys are somebody's; in the program (the ring of keys) and in the reference. -/
import Derived.Test.YtlfmpjmodhlciaaGreatKr
import Derived.Test.YtlfmpjmodhlciaaGreatKm
import Derived.Test.YtlfmpjmodhlciaaGreatFKey
import Derived.Deep.RegionHeld3
namespace Go.Proofs.YtlfmpjmodhlciaaGreat.Ko
open Go.ChangeShapes Go.WideShapes Go.ChangeAt Go.RowKit Go.Shelf Sl St Fnd Kn SlKey Kr Ki Km

theorem inr_key {xs : List I5} (hR : ∀ x ∈ xs, InR x) {n : Int} {k : I5} (h : ring xs n = some k) : InR k := hR k (look_mem h).1
theorem inr_at {xs : List I5} (hR : ∀ x ∈ xs, InR x) {k : Nat} (h : k < xs.length) : InR (xs.getD k z5) := hR _ (getD_mem z5 h)
theorem zero_z5 : SlKey.zero = z5 := rfl

/-! ### the ring asked -/
set_option maxRecDepth 100000 in
set_option maxHeartbeats 2000000 in
theorem has_any (xs : List I5) (g : Nat) (n : Int) (hn : -9223372036854775808 ≤ n ∧ n ≤ 9223372036854775807) (w : World) (h : Holds xs g w) : Calls Tryz.prog 100 #[.map (some g), .int .i64 n] w (Val (.bool (ring xs n).isSome) w) := by
  obtain ⟨m, D, hown, hD⟩ := h
  have hkey := Maps.keyOf_int_mk (a := n) Tryz.underlying3 (WalkArith.wf_i64 hn)
  rcases hD n with ⟨k, h1, h2, h3⟩ | ⟨h1, h2, h3⟩
  · have HS : Hid ((ring xs n).isSome = true) := Lib.hid (by rw [h1]; rfl)
    have H2 := Lib.hid h2
    have H3 := Lib.hid h3
    clear h1 h2 h3 hD
    go_enter Tryz.func100, Tryz.ntmps100
    go_wp2_with (at_lookup; refine wpList_lookup_own_ok _ rfl _ _ 150 rfl 3 110 (Maps.int_keyed Tryz.underlying3) Tryz.underlying150 kR (zeroE _) (kd z5) [] (kR_kv z5) g m D rfl hown _ _ rfl hkey ?_; intro v ps hv; rw [H3.out] at hv; obtain rfl := kR_inv hv; rw [H2.out]; clear hv; simp only [kv])
    go_ret
    exact ⟨by rw [HS.out]; rfl, box1 _ _⟩
  · have HS : Hid ((ring xs n).isSome = false) := Lib.hid (by rw [h1]; rfl)
    have H2 := Lib.hid h2
    have H3 := Lib.hid h3
    clear h1 h2 h3 hD
    go_enter Tryz.func100, Tryz.ntmps100
    go_wp2_with (at_lookup; refine wpList_lookup_own_ok _ rfl _ _ 150 rfl 3 110 (Maps.int_keyed Tryz.underlying3) Tryz.underlying150 kR (zeroE _) (kd z5) [] (kR_kv z5) g m D rfl hown _ _ rfl hkey ?_; intro v ps hv; rw [H3.out] at hv; obtain rfl := kR_inv hv; rw [H2.out]; clear hv; simp only [kv])
    go_ret
    exact ⟨by rw [HS.out]; rfl, box1 _ _⟩
/-- the mark, and whether there is the key -/
def Marks (x : Int) (b : Bool) (w : World) (e : Ending) (w' : World) : Prop := e = .returned (.tuple #[.int .i64 x, .bool b]) ∧ Below w.heap.size w w'
set_option maxRecDepth 100000 in
set_option maxHeartbeats 2000000 in
theorem ringMark_any (xs : List I5) (hR : ∀ x ∈ xs, InR x) (g : Nat) (n : Int) (hn : -9223372036854775808 ≤ n ∧ n ≤ 9223372036854775807) (p : Option Addr) (m c : Nat) (zs : List Int) (w : World) (h : Holds xs g w) (hr : Rd .i64 w p m zs) (hm : m ≤ 10000000) :
    Calls Tryz.prog 158 #[.map (some g), .int .i64 n, .slice p m c] w (Marks (markR xs n zs) (ring xs n).isSome w) := by
  have HH := Lib.hid h
  have HR := Lib.hid hr
  have hkey := Maps.keyOf_int_mk (a := n) Tryz.underlying3 (WalkArith.wf_i64 hn)
  have HN := Lib.hid hn
  clear hr
  rcases hs : ring xs n with _ | k
  · have HM := Lib.hid (markR_none hs zs)
    have HS : Hid ((ring xs n).isSome = false) := Lib.hid (by rw [hs]; rfl)
    clear hs h hn
    go_enter Tryz.func158, Tryz.ntmps158
    go_wp2_with fail
    refine (has_any xs g n HN.out _ HH.out).mono ?_
    rintro e w1 ⟨rfl, hb⟩
    rw [HS.out]
    go_wp2_with fail
    go_ret2
    exact ⟨by rw [HM.out]; rfl, hb⟩
  · have HM := Lib.hid (markR_some hs zs)
    have HS : Hid ((ring xs n).isSome = true) := Lib.hid (by rw [hs]; rfl)
    have hk := inr_key hR hs
    obtain ⟨x0, x1, x2, x3, x4⟩ := k
    obtain ⟨_, _, k2, _, _⟩ := hk
    have K2 := Lib.hid k2
    have HL : Hid (∀ w', Below w.heap.size w w' → ∃ v, (Instr.lookup 150 (.map (some g)) (.int .i64 n) false).run Tryz.prog w' = .ok v w' ∧ v = kv (x0, x1, x2, x3, x4)) := Lib.hid (fun w' hb => by
      obtain ⟨m', D, hown, hD⟩ := HH.out.below hb
      obtain ⟨v, ps, h1, h2⟩ := hown.lookup (Maps.int_keyed Tryz.underlying3) Tryz.underlying150 (zeroE _) (kR_kv z5) hkey
      rcases hD n with ⟨k', g1, g2, g3⟩ | ⟨g1, _⟩
      · rw [hs, Option.some.injEq] at g1
        subst g1
        rw [g3] at h2
        exact ⟨v, h1, kR_inv h2⟩
      · rw [hs] at g1; cases g1)
    clear hs h hn k2 hkey
    go_enter Tryz.func158, Tryz.ntmps158
    go_wp2_with fail
    refine (has_any xs g n HN.out _ HH.out).mono ?_
    rintro e w1 ⟨rfl, hb⟩
    rw [HS.out]
    obtain ⟨v, hrun, rfl⟩ := HL.out _ hb
    simp only [kv] at hrun
    have HB := Lib.hid hb
    clear hb
    go_wp2_with fail
    refine (markWith_any x0 x1 x2 x3 x4 _ _ _ _ _ (HR.out.below HB.out) K2.out hm).mono ?_
    rintro e w2 ⟨rfl, hb⟩
    have HB2 := Lib.hid (below_on HB.out hb)
    clear hb hrun
    go_wp2_with fail
    go_ret2
    exact ⟨by rw [HM.out]; rfl, HB2.out⟩
/-! ### the reference -/
/-! ### somebody's keys -/
/-- on the way: those of the first k -/
def Way (xs : List I5) (ow : Int) (k : Nat) (p : Option Addr) (m c : Nat) (w wr : World) : Prop := Ow .i64 3 wr w.heap.size wr.heap.size p m c (keysOf (xs.take k) ow) ∧ Below w.heap.size w wr
theorem Way.len {xs : List I5} {ow : Int} {k : Nat} {p : Option Addr} {m c : Nat} {w wr : World} (h : Way xs ow k p m c w wr) : m ≤ xs.length := by
  have h1 := h.1.len
  have h2 := keysOf_len (xs.take k) ow
  rw [List.length_take] at h2
  omega
theorem way_out {xs : List I5} {ow : Int} {k : Nat} {y : I5} (hk : k < xs.length) (hy : xs.getD k z5 = y) (h : ¬ y.2.1 = ow) : keysOf (xs.take (k + 1)) ow = keysOf (xs.take k) ow := by
  rw [take_succ z5 hk, keysOf_append, hy, keysOf_out h, List.append_nil]
theorem way_in {xs : List I5} {ow : Int} {k : Nat} {y : I5} (hk : k < xs.length) (hy : xs.getD k z5 = y) (h : y.2.1 = ow) : keysOf (xs.take (k + 1)) ow = keysOf (xs.take k) ow ++ [y.1] := by
  rw [take_succ z5 hk, keysOf_append, hy, keysOf_in h]
theorem lit0_own (w : World) : Ow .i64 3 (w.alloc (.cells #[] 3)) w.heap.size (w.alloc (.cells #[] 3)).heap.size (some ⟨w.heap.size, 0, none⟩) 0 0 [] := litN_own 3 w w.heap.size [] (allK_nil _) (Nat.le_refl _) (by simp)
end Go.Proofs.YtlfmpjmodhlciaaGreat.Ko
