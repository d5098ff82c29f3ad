/- Contracts of the digest of a list by a method; in the program and in the reference. -/
import Derived.Test.YtfojilogcecphaaGreatHsA
namespace Go.Proofs.YtfojilogcecphaaGreat.Dg
open Go.ChangeShapes Go.WideShapes Go.ChangeAt Go.RowKit Sl Hs

def dig (id : Int) (l : List Int) : Int := hashF (hstep (hstep 11 7) id) l
theorem dig_hash (id : Int) (l : List Int) : Hs.hash ([7, id] ++ l) = dig id l := rfl
theorem dig_in (id : Int) (l : List Int) : 0 ≤ dig id l ∧ dig id l ≤ 2147483646 := hashF_in (hstep_in _ _) _
theorem dig_any (id : Int) (p : Option Addr) (n c : Nat) (zs : List Int) (w : World) (hr : Rd .i64 w p n zs) : Calls Tryz.prog 144 #[.int .i64 id, .slice p n c] w fun e w' => e = .returned (.int .i64 (dig id zs)) ∧ w = w' := by
  have HR := Lib.hid hr
  obtain ⟨i1, i2⟩ := hstep_in 11 7
  obtain ⟨i3, i4⟩ := hstep_in (hstep 11 7) id
  clear hr
  go_enter Tryz.func144, Tryz.ntmps144
  go_wp2_with fail
  refine (with_any _ _ _ (by omega) (by omega)).mono ?_
  rintro e w1 ⟨rfl, rfl⟩
  go_wp2_with fail
  refine (with_any _ _ _ i1 i2).mono ?_
  rintro e w1 ⟨rfl, rfl⟩
  go_wp2_with fail
  refine (withAll_any _ _ _ _ _ _ HR.out i3 i4).mono ?_
  rintro e w1 ⟨rfl, rfl⟩
  go_wp2_with fail
  go_ret
  exact ⟨rfl, rfl⟩
/-- two ints that are laid in a block anew -/
theorem lit2_own (w : World) (lo : Nat) (a b : Int) (ha : inK .i64 a) (hb : inK .i64 b) (h : lo ≤ w.heap.size) : Ow .i64 3 (w.alloc (.cells #[.int .i64 a, .int .i64 b] 3)) lo (w.alloc (.cells #[.int .i64 a, .int .i64 b] 3)).heap.size (some ⟨w.heap.size, 0, none⟩) 2 2 [a, b] :=
  Ow.of_row (World.ownsRow_lit w #[.int .i64 a, .int .i64 b] 2 h (by unfold maxLen; omega) rfl) (fun x hx => by
    simp only [List.mem_cons, List.not_mem_nil, or_false] at hx
    rcases hx with rfl | rfl
    · exact ha
    · exact hb)
set_option maxRecDepth 100000 in
set_option maxHeartbeats 1000000 in
theorem spec_dig_any (id : Int) (p : Option Addr) (n c : Nat) (zs : List Int) (w : World) (hr : Rd .i64 w p n zs) (hk : inK .i64 id) (hn : n ≤ 100000000) : Calls Tryz.prog 133 #[.int .i64 id, .slice p n c] w (Num (dig id zs) w) := by
  obtain ⟨i0, hi, hz0, hz1, hz2⟩ := info_parts SlI.info
  have HR := Lib.hid hr
  have HO := Lib.hid (lit2_own w w.heap.size 7 id ⟨by omega, by omega⟩ hk (Nat.le_refl _))
  have HB := Lib.hid ((Below.refl w.heap.size w).alloc (Nat.le_refl _) (.cells #[.int .i64 7, .int .i64 id] 3))
  clear hr
  go_enter Tryz.func133, Tryz.ntmps133
  go_wp2_with (at_builtin; refine wpList_appR rfl (.tmp 6) (.tmp 7) 31 rfl i0 _ 8 Tryz.underlying31 hi hz0 hz1 hz2 rfl rfl HO.out p n c zs rfl (HR.out.alloc _) (by simp) (by omega) (by omega) ?_; intro p1 c1 w1 how1 hg1; have HO1 := Lib.hid how1; have HB1 := Lib.hid (below_row HB.out HO.out hg1 (Nat.le_refl _)); clear how1 hg1)
  refine (spec_hash_any _ _ _ _ _ HO1.out.rd).mono ?_
  rintro e w3 ⟨rfl, rfl⟩
  go_wp2_with fail
  go_ret
  exact ⟨Ints.ret_int (dig_hash id zs), HB1.out⟩
end Go.Proofs.YtfojilogcecphaaGreat.Dg
