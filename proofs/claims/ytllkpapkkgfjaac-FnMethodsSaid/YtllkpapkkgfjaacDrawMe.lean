/- The reference's draws of chapter 5: lists of methods, an Id, a time, a list of numbers. -/
import Derived.Test.YtllkpapkkgfjaacDrawBy
import Derived.Test.YtllkpapkkgfjaacSlMethod
namespace Go.Proofs.Ytllkpapkkgfjaac.Cur
open Go.ChangeShapes Go.WideShapes Go.ChangeAt Go.RowKit Sl St Mn SlMethod

set_option maxHeartbeats 1000000 in
theorem raw4_any (g : Nat) (w : World) (hc : Cur g w) : Calls Try.prog 144 #[.pointer (some ⟨g, 0, none⟩)] w (Gives g w isInt) := by
  have HC := Lib.hid hc
  clear hc
  go_enter Try.func144, Try.ntmps144
  go_wp2_with fail
  refine (once_any g 6 _ HC.out (by decide)).mono ?_
  rintro e w1 ⟨b, rfl, hc1, hg1⟩
  have HC1 := Lib.hid hc1
  have HG1 := Lib.hid hg1
  clear hc1 hg1
  cases b
  · go_wp2_with fail
    refine (below_any g 40 _ HC1.out (by decide)).mono ?_
    rintro e w3 ⟨y, rfl, ⟨y0, y1, _⟩, hc3, hg3⟩
    have HC3 := Lib.hid hc3
    have HG3 := Lib.hid hg3
    have y2 : y ≤ 39 := by omega
    clear hc3 hg3 y1
    go_wp2_with fail
    go_ret
    exact ⟨_, rfl, ⟨by omega, by omega⟩, HC3.out, only_trans HG1.out HG3.out⟩
  · go_wp2_with fail
    refine (int_lit g [-1, 0, 10000, 10001, 9223372036854775807, -9223372036854775808] _ HC1.out (by decide) (by decide)).mono ?_
    rintro e w3 ⟨x, rfl, hx, hc3, hg3⟩
    have HX := Lib.hid hx
    have HC3 := Lib.hid hc3
    have HG3 := Lib.hid hg3
    clear hx hc3 hg3
    go_wp2_with fail
    go_ret
    refine ⟨_, rfl, ?_, HC3.out, only_trans HG1.out HG3.out⟩
    have h := HX.out
    simp only [List.mem_cons, List.not_mem_nil, or_false] at h
    unfold isInt
    omega
def tbl : List Me := [(1, 0, 40, 50), (2, 20, 80, 70), (3, 40, 120, 200), (4, 60, 10001, 10001)]
theorem tbl_in : ∀ x ∈ tbl, InR x := by
  intro x hx
  simp only [tbl, List.mem_cons, List.not_mem_nil, or_false] at hx
  rcases hx with rfl | rfl | rfl | rfl <;> (unfold InR; simp)
theorem set_in {xs : List Me} {k : Nat} {y : Me} (h : ∀ x ∈ xs, InR x) (hy : InR y) : ∀ x ∈ xs.set k y, InR x := fun x hx => by
  rcases List.mem_or_eq_of_mem_set hx with hx | rfl
  · exact h x hx
  · exact hy
theorem tbl_own (w : World) : OwS E 103 (w.alloc (.cells #[.int .i64 1, .int .i64 0, .int .i64 40, .int .i64 50, .int .i64 2, .int .i64 20, .int .i64 80, .int .i64 70, .int .i64 3, .int .i64 40, .int .i64 120, .int .i64 200, .int .i64 4, .int .i64 60, .int .i64 10001, .int .i64 10001] 103)) w.heap.size (w.alloc (.cells #[.int .i64 1, .int .i64 0, .int .i64 40, .int .i64 50, .int .i64 2, .int .i64 20, .int .i64 80, .int .i64 70, .int .i64 3, .int .i64 40, .int .i64 120, .int .i64 200, .int .i64 4, .int .i64 60, .int .i64 10001, .int .i64 10001] 103)).heap.size (some ⟨w.heap.size, 0, none⟩) 4 4 tbl :=
  lit_own E 103 w w.heap.size tbl _ 4 rfl rfl (by unfold maxLen; omega) (Nat.le_refl _)
set_option maxRecDepth 100000 in
theorem table_any (w : World) : Calls Try.prog 177 #[] w fun e w' => e = .returned (.slice (some ⟨w.heap.size, 0, none⟩) 4 4) ∧ OwS E 103 w' w.heap.size w'.heap.size (some ⟨w.heap.size, 0, none⟩) 4 4 tbl ∧ Below w.heap.size w w' := by
  have HO := Lib.hid (tbl_own w)
  go_enter Try.func177, Try.ntmps177
  go_wp2_with fail
  go_ret
  exact ⟨rfl, HO.out, below_alloc _ _⟩
/-- The call answers a list of at most four methods, its memory new; the cursor's block alone has turned. -/
def GivesMs (g : Nat) (w : World) (e : Ending) (w' : World) : Prop := ∃ p m c zs, e = .returned (.slice p m c) ∧ RdS E w' p m zs ∧ (∀ b o, p = some ⟨b, o, none⟩ → w.heap.size ≤ b) ∧ (∀ x ∈ zs, InR x) ∧ m ≤ 4 ∧ Cur g w' ∧ w.grownBy w' (some g)
set_option maxRecDepth 100000 in
set_option maxHeartbeats 8000000 in
theorem any5_any (g : Nat) (w : World) (hc : Cur g w) : Calls Try.prog 163 #[.pointer (some ⟨g, 0, none⟩)] w (GivesMs g w) := by
  have hgl := hc.lt
  have HC := Lib.hid hc
  clear hc
  go_enter Try.func163, Try.ntmps163
  go_wp2_with fail
  refine (table_any _).mono ?_
  rintro e w1 ⟨rfl, ho1, hb1⟩
  have HC1 := Lib.hid (HC.out.on hb1)
  have HG1 := Lib.hid (only_of_below hb1 (some g))
  have HO1 := Lib.hid ho1
  clear ho1 hb1
  go_wp2_with fail
  refine (below_any g 4 _ HC1.out (by decide)).mono ?_
  rintro e w2 ⟨x, rfl, ⟨x0, x1, _⟩, hc2, hg2⟩
  obtain ⟨k, rfl⟩ : ∃ k : Nat, x = k := ⟨x.toNat, by omega⟩
  have hk4 : k < 4 := by have := x1 (by omega); omega
  have hk : k < tbl.length := hk4
  have HCa := Lib.hid hc2
  have HGa := Lib.hid (only_trans HG1.out hg2)
  have HOa := Lib.hid (HO1.out.kept hg2 (fun q e => by cases e; left; exact hgl))
  clear hc2 hg2 x0 x1
  go_wp2_with fail
  refine (below_any g 9 _ HCa.out (by decide)).mono ?_
  rintro e w3 ⟨z, rfl, ⟨z0, z1, _⟩, hc2, hg2⟩
  have z9 : z < 9 := z1 (by omega)
  have HC2 := Lib.hid hc2
  have HG2 := Lib.hid (only_trans HGa.out hg2)
  have HO2 := Lib.hid (HOa.out.kept hg2 (fun q e => by cases e; left; exact hgl))
  clear hc2 hg2 z1
  have i1 : (0 : Int) ≤ (k : Int) := by omega
  have i2 : (k : Int) < 4 := by omega
  have i3 : (k : Int) ≤ 4 := by omega
  rcases (show z = 0 ∨ z = 1 ∨ z = 2 ∨ z = 3 ∨ z = 4 ∨ 4 < z by omega) with rfl | rfl | rfl | rfl | rfl | hz
  · go_wp2_with fail
    refine (int_lit g [-1, 0, 1, 99, 100] _ HC2.out (by decide) (by decide)).mono ?_
    rintro e w4 ⟨v, rfl, hv, hc4, hg4⟩
    have hvi : isInt v := by simp only [List.mem_cons, List.not_mem_nil, or_false] at hv; unfold isInt; omega
    have HC4 := Lib.hid hc4
    have HG4 := Lib.hid (only_trans HG2.out hg4)
    have HO4 := Lib.hid (HO2.out.kept hg4 (fun q e => by cases e; left; exact hgl))
    have hy : tbl[k]? = some (tbl.getD k z4) := idx z4 hk
    have hyr := tbl_in (tbl.getD k z4) (getD_mem z4 hk)
    generalize tbl.getD k z4 = y at hy hyr
    have hst := HO4.out.stored (y := (v, y.2.1, y.2.2.1, y.2.2.2)) (j := 0) (v := .int .i64 v) hy rfl (by decide)
    have hcell : w4.cell? ⟨w.heap.size, k * 4, none⟩ = some (.int .i64 y.1) := HO4.out.cell (j := 0) hy rfl
    have hfree : w4.frozen? ⟨w.heap.size, k * 4, none⟩ = false := HO4.out.free
    have HS := Lib.hid hst.1.rd
    have HT := Lib.hid (only_far HG4.out hst.2 (fun q e => by cases e; exact Nat.le_refl _))
    have HU := Lib.hid (HC4.out.keep hst.2 (fun q e => by cases e; exact hgl))
    have HI : Hid (∀ x ∈ tbl.set k (v, y.2.1, y.2.2.1, y.2.2.2), InR x) := Lib.hid (set_in tbl_in (by unfold InR isInt at *; exact ⟨hvi, hyr.2⟩))
    clear hc4 hg4 hst hv
    go_wp2_with fail
    go_ret
    exact ⟨_, _, _, _, rfl, HS.out, fun b o e => by cases e; exact Nat.le_refl _, HI.out, by omega, HU.out, HT.out⟩
  · go_wp2_with fail
    refine (raw4_any g _ HC2.out).mono ?_
    rintro e w4 ⟨v, rfl, hv, hc4, hg4⟩
    have hvi : isInt v := hv
    have HC4 := Lib.hid hc4
    have HG4 := Lib.hid (only_trans HG2.out hg4)
    have HO4 := Lib.hid (HO2.out.kept hg4 (fun q e => by cases e; left; exact hgl))
    have hy : tbl[k]? = some (tbl.getD k z4) := idx z4 hk
    have hyr := tbl_in (tbl.getD k z4) (getD_mem z4 hk)
    generalize tbl.getD k z4 = y at hy hyr
    have hst := HO4.out.stored (y := (y.1, v, y.2.2.1, y.2.2.2)) (j := 1) (v := .int .i64 v) hy rfl (by decide)
    have hcell : w4.cell? ⟨w.heap.size, k * 4 + 1, none⟩ = some (.int .i64 y.2.1) := HO4.out.cell (j := 1) hy rfl
    have hfree : w4.frozen? ⟨w.heap.size, k * 4 + 1, none⟩ = false := HO4.out.free
    have HS := Lib.hid hst.1.rd
    have HT := Lib.hid (only_far HG4.out hst.2 (fun q e => by cases e; exact Nat.le_refl _))
    have HU := Lib.hid (HC4.out.keep hst.2 (fun q e => by cases e; exact hgl))
    have HI : Hid (∀ x ∈ tbl.set k (y.1, v, y.2.2.1, y.2.2.2), InR x) := Lib.hid (set_in tbl_in (by unfold InR isInt at *; exact ⟨hyr.1, hvi, hyr.2.2⟩))
    clear hc4 hg4 hst hv
    go_wp2_with fail
    go_ret
    exact ⟨_, _, _, _, rfl, HS.out, fun b o e => by cases e; exact Nat.le_refl _, HI.out, by omega, HU.out, HT.out⟩
  · go_wp2_with fail
    refine (int_lit g [0, 1, 45, 10001, 10002] _ HC2.out (by decide) (by decide)).mono ?_
    rintro e w4 ⟨v, rfl, hv, hc4, hg4⟩
    have hvi : isInt v := by simp only [List.mem_cons, List.not_mem_nil, or_false] at hv; unfold isInt; omega
    have HC4 := Lib.hid hc4
    have HG4 := Lib.hid (only_trans HG2.out hg4)
    have HO4 := Lib.hid (HO2.out.kept hg4 (fun q e => by cases e; left; exact hgl))
    have hy : tbl[k]? = some (tbl.getD k z4) := idx z4 hk
    have hyr := tbl_in (tbl.getD k z4) (getD_mem z4 hk)
    generalize tbl.getD k z4 = y at hy hyr
    have hst := HO4.out.stored (y := (y.1, y.2.1, v, y.2.2.2)) (j := 2) (v := .int .i64 v) hy rfl (by decide)
    have hcell : w4.cell? ⟨w.heap.size, k * 4 + 2, none⟩ = some (.int .i64 y.2.2.1) := HO4.out.cell (j := 2) hy rfl
    have hfree : w4.frozen? ⟨w.heap.size, k * 4 + 2, none⟩ = false := HO4.out.free
    have HS := Lib.hid hst.1.rd
    have HT := Lib.hid (only_far HG4.out hst.2 (fun q e => by cases e; exact Nat.le_refl _))
    have HU := Lib.hid (HC4.out.keep hst.2 (fun q e => by cases e; exact hgl))
    have HI : Hid (∀ x ∈ tbl.set k (y.1, y.2.1, v, y.2.2.2), InR x) := Lib.hid (set_in tbl_in (by unfold InR isInt at *; exact ⟨hyr.1, hyr.2.1, hvi, hyr.2.2.2⟩))
    clear hc4 hg4 hst hv
    go_wp2_with fail
    go_ret
    exact ⟨_, _, _, _, rfl, HS.out, fun b o e => by cases e; exact Nat.le_refl _, HI.out, by omega, HU.out, HT.out⟩
  · go_wp2_with fail
    refine (int_lit g [0, 1, 45, 10001, 10002] _ HC2.out (by decide) (by decide)).mono ?_
    rintro e w4 ⟨v, rfl, hv, hc4, hg4⟩
    have hvi : isInt v := by simp only [List.mem_cons, List.not_mem_nil, or_false] at hv; unfold isInt; omega
    have HC4 := Lib.hid hc4
    have HG4 := Lib.hid (only_trans HG2.out hg4)
    have HO4 := Lib.hid (HO2.out.kept hg4 (fun q e => by cases e; left; exact hgl))
    have hy : tbl[k]? = some (tbl.getD k z4) := idx z4 hk
    have hyr := tbl_in (tbl.getD k z4) (getD_mem z4 hk)
    generalize tbl.getD k z4 = y at hy hyr
    have hst := HO4.out.stored (y := (y.1, y.2.1, y.2.2.1, v)) (j := 3) (v := .int .i64 v) hy rfl (by decide)
    have hcell : w4.cell? ⟨w.heap.size, k * 4 + 3, none⟩ = some (.int .i64 y.2.2.2) := HO4.out.cell (j := 3) hy rfl
    have hfree : w4.frozen? ⟨w.heap.size, k * 4 + 3, none⟩ = false := HO4.out.free
    have HS := Lib.hid hst.1.rd
    have HT := Lib.hid (only_far HG4.out hst.2 (fun q e => by cases e; exact Nat.le_refl _))
    have HU := Lib.hid (HC4.out.keep hst.2 (fun q e => by cases e; exact hgl))
    have HI : Hid (∀ x ∈ tbl.set k (y.1, y.2.1, y.2.2.1, v), InR x) := Lib.hid (set_in tbl_in (by unfold InR isInt at *; exact ⟨hyr.1, hyr.2.1, hyr.2.2.1, hvi⟩))
    clear hc4 hg4 hst hv
    go_wp2_with fail
    go_ret
    exact ⟨_, _, _, _, rfl, HS.out, fun b o e => by cases e; exact Nat.le_refl _, HI.out, by omega, HU.out, HT.out⟩
  · have HR := Lib.hid (HO2.out.rd.cut (lo := 0) (m := k) (p' := some ⟨w.heap.size, 0, none⟩) (by omega) (fun _ b o e => by cases e; rfl))
    have HI : Hid (∀ x ∈ (tbl.drop 0).take k, InR x) := Lib.hid (fun x hx => tbl_in x (List.mem_of_mem_take hx))
    go_wp2_with fail
    go_ret
    exact ⟨_, _, _, _, rfl, HR.out, fun b o e => by cases e; exact Nat.le_refl _, HI.out, by omega, HC2.out, HG2.out⟩
  · have hz0 : ¬ z = 0 := by omega
    have hz1 : ¬ z = 1 := by omega
    have hz2 : ¬ z = 2 := by omega
    have hz3 : ¬ z = 3 := by omega
    have hz4 : ¬ z = 4 := by omega
    go_wp2_with fail
    go_ret
    exact ⟨_, _, _, _, rfl, HO2.out.rd, fun b o e => by cases e; exact Nat.le_refl _, tbl_in, by omega, HC2.out, HG2.out⟩
end Go.Proofs.Ytllkpapkkgfjaac.Cur
