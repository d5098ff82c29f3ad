/- Contracts: slices.Sort and slices.Compact over ints of the call's own: in order, each once. -/
import Derived.Test.YtpjckbdljbpliaaShelf
import Derived.Test.YtpjckbdljbpliaaSlI
import Derived.Test.YtpjckbdljbpliaaSt
import Derived.Test.YtpjckbdljbpliaaSr
import Derived.Sort.OwnSortedInts
import Derived.Lib.SlicesCompact
import Derived.LoopTactic
namespace Go.Proofs.Ytpjckbdljbpliaa.Sci
open Go.ChangeShapes Go.WideShapes Go.ChangeAt Go.RowKit Go.Shelf Sl St
/-! ### slices of ints of the call's own, sorted and compacted -/
theorem ow_at {T : TypeId} {lo hi n c : Nat} {p : Option Addr} {zs : List Int} {w : World} (h : Ow .i64 T w lo hi p n c zs) (h0 : 0 < n) : ∃ g cur, p = some ⟨g, 0, none⟩ ∧ lo ≤ g ∧ w.heap[g]? = some (.cells cur T (0, 0)) ∧ n ≤ c ∧ c ≤ maxLen ∧ cur.size = c * 1 ∧ cur.toList.take n = zs.map (Value.int .i64) := by
  rcases h.1.2 with ⟨_, h1⟩ | ⟨g, cap, cur, hv, hb, hg, h1, h2, h3, h4⟩
  · omega
  · simp only [Value.slice.injEq, true_and] at hv
    obtain ⟨rfl, rfl⟩ := hv
    exact ⟨g, cur, rfl, hb, hg, h1, h2, h3, by rw [← h4, Nat.mul_one]⟩
theorem sortI_any {lo hi n c : Nat} {p : Option Addr} {zs : List Int} {w : World} (ho : Ow .i64 3 w lo hi p n c zs) (h0 : 0 < n) (hn : n ≤ 1099511627776) :
    Calls Try.prog 47 #[.slice p n c] w fun e w' => e = .returned (.tuple #[]) ∧ ∃ ys : List Int, (∀ x, x ∈ ys ↔ x ∈ zs) ∧ ys.Pairwise (· ≤ ·) ∧ Ow .i64 3 w' lo hi p n c ys ∧ w.grownBy w' (Value.slice p n c).ownBlock := by
  obtain ⟨g, cur, rfl, hlo, hg, h1, h2, h3, h4⟩ := ow_at ho h0
  have hl := ho.len
  have hH : Go.Sort.Holds (Value.int .i64) w g 0 zs.toArray := Go.holds_of_blockI hg (by rw [hl]; exact h4)
  have hgs := (Array.getElem?_eq_some_iff.1 hg).1
  have h := Try.slices_Sort_int g 0 c zs w hH hgs (by omega)
  rw [hl] at h
  refine h.mono ?_
  rintro e w' ⟨rfl, q, os, rfl⟩
  have hp : (zs.mergeSort fun x y => decide (x ≤ y)).Perm zs := List.mergeSort_perm _ _
  have hs : (zs.mergeSort fun x y => decide (x ≤ y)).Pairwise fun x y => decide (x ≤ y) = true := List.pairwise_mergeSort (fun a b c hab hbc => by simp only [decide_eq_true_eq] at *; omega) (fun a b => by simp only [Bool.or_eq_true, decide_eq_true_eq]; omega) zs
  have hlen : (zs.mergeSort fun x y => decide (x ≤ y)).length = zs.length := hp.length_eq
  have hgr := Go.grownBy_sortedI (w := w) (g := g) (n := q) (os := os) (zs.mergeSort fun x y => decide (x ≤ y)).toArray
  have hown := Go.ownsRow_sortedI (n := q) (os := os) (e := 3) (cap := c) hlen hlo hg (by omega) h2 h3
  rw [hl] at hown
  exact ⟨rfl, _, fun x => hp.mem_iff, hs.imp fun h => of_decide_eq_true h, ⟨hown, fun x hx => ho.all x (hp.mem_iff.1 hx), Nat.le_trans ho.2.2.1 hgr.size, ho.2.2.2⟩, hgr⟩
theorem own_prefix {w : World} {lo g n c m : Nat} {T : TypeId} {xs : List Value} (h : w.ownsRow lo T 1 (.slice (some ⟨g, 0, none⟩) n c) n xs) (hm : m ≤ n) : w.ownsRow lo T 1 (.slice (some ⟨g, 0, none⟩) m c) m (xs.take m) := by
  have hl := h.1
  rcases h.2 with ⟨h', _⟩ | ⟨g', cap, cur, hv, hb, hg, h1, h2, h3, h4⟩
  · cases h'
  · simp only [Value.slice.injEq, Option.some.injEq, Addr.mk.injEq, and_true, true_and] at hv
    obtain ⟨rfl, rfl⟩ := hv
    exact ⟨by rw [List.length_take]; omega, .inr ⟨g, c, cur, rfl, hb, hg, by omega, h2, h3, by rw [← h4, List.take_take]; congr 1; omega⟩⟩
theorem comp_sub (d : Array Int) : (Go.Lib.compactUpTo d d.size).Sublist d.toList := by
  have h := (List.filter_sublist (l := List.range d.size) (p := Go.Lib.keeps d)).map (d[·]!)
  rw [Go.Lib.range_map_get] at h
  exact h
theorem comp_mem (d : Array Int) (x : Int) : x ∈ Go.Lib.compactUpTo d d.size ↔ x ∈ d.toList := by
  refine ⟨fun h => (comp_sub d).subset h, fun h => ?_⟩
  have key : ∀ j, j < d.size → d[j]! ∈ Go.Lib.compactUpTo d d.size := by
    intro j
    induction j with
    | zero =>
      intro hj
      exact List.mem_map.2 ⟨0, List.mem_filter.2 ⟨List.mem_range.2 hj, by simp [Go.Lib.keeps]⟩, rfl⟩
    | succ j ih =>
      intro hj
      by_cases hk : Go.Lib.keeps d (j + 1) = true
      · exact List.mem_map.2 ⟨j + 1, List.mem_filter.2 ⟨List.mem_range.2 hj, hk⟩, rfl⟩
      · have he : d[j + 1]! = d[j]! := by
          simp only [Go.Lib.keeps, decide_eq_true_eq, not_or, ne_eq, Decidable.not_not, Nat.add_sub_cancel] at hk
          exact hk.2
        rw [he]
        exact ih (by omega)
  obtain ⟨j, hj, rfl⟩ := List.mem_iff_getElem.1 h
  have hj2 : j < d.size := by simpa using hj
  have := key j hj2
  rw [getElem!_pos d j hj2] at this
  simpa using this
theorem get_le {d : Array Int} (hs : d.toList.Pairwise (· ≤ ·)) {i j : Nat} (hij : i ≤ j) (hj : j < d.size) : d[i]! ≤ d[j]! := by
  rcases Nat.eq_or_lt_of_le hij with rfl | h
  · exact Int.le_refl _
  · rw [getElem!_pos d i (by omega), getElem!_pos d j hj]
    have := List.pairwise_iff_getElem.1 hs i j (by simpa using (show i < d.size by omega)) (by simpa using hj) h
    simpa using this
theorem comp_strict (d : Array Int) (hs : d.toList.Pairwise (· ≤ ·)) : (Go.Lib.compactUpTo d d.size).Pairwise (· < ·) := by
  unfold Go.Lib.compactUpTo
  rw [List.pairwise_map, List.pairwise_filter]
  refine List.Pairwise.imp_of_mem (R := (· < ·)) ?_ List.pairwise_lt_range
  intro i j hi hj hij _ hk
  rw [List.mem_range] at hi hj
  simp only [Go.Lib.keeps, decide_eq_true_eq] at hk
  have h1 := get_le hs (show i ≤ j - 1 by omega) (by omega)
  have h2 := get_le hs (show j - 1 ≤ j by omega) hj
  rcases hk with hk | hk
  · omega
  · have : d[j]! ≠ d[j - 1]! := hk
    omega
theorem compI_any {lo hi n c : Nat} {p : Option Addr} {zs : List Int} {w : World} (ho : Ow .i64 3 w lo hi p n c zs) (h0 : 0 < n) :
    Calls Try.prog 48 #[.slice p n c] w fun e w' => ∃ (m : Nat) (ys : List Int), e = .returned (.slice p m c) ∧ m ≤ n ∧ (∀ x, x ∈ ys ↔ x ∈ zs) ∧ (zs.Pairwise (· ≤ ·) → ys.Pairwise (· < ·)) ∧ Ow .i64 3 w' lo hi p m c ys ∧ w.grownBy w' (Value.slice p n c).ownBlock := by
  obtain ⟨g, cur, rfl, hlo, hg, h1, h2, h3, h4⟩ := ow_at ho h0
  have hl := ho.len
  have hH : Go.Sort.Holds (Value.int .i64) w g 0 zs.toArray := Go.holds_of_blockI hg (by rw [hl]; exact h4)
  have hsz : zs.toArray.size = n := by rw [List.size_toArray]; exact hl
  have h := Try.slices_Compact_int_arr g 0 c zs.toArray w hH (by rw [hsz]; unfold maxLen at h2; omega) (by rw [hsz]; omega)
  rw [hsz] at h
  have hsub := comp_sub zs.toArray
  have hmem := comp_mem zs.toArray
  have hstr := comp_strict zs.toArray
  rw [hsz] at hsub hmem hstr
  obtain ⟨ys, hys⟩ : ∃ ys, Go.Lib.compactUpTo zs.toArray n = ys := ⟨_, rfl⟩
  rw [hys] at h hsub hmem hstr
  have hle : ys.length ≤ n := by have := hsub.length_le; simp at this; omega
  refine h.mono ?_
  rintro e w' ⟨rfl, q, rfl⟩
  have hfl : (ys ++ List.replicate (n - ys.length) (0 : Int)).length = zs.length := by rw [List.length_append, List.length_replicate]; omega
  have hgr := Go.grownBy_sortedI (w := w) (g := g) (n := q) (os := #[]) (ys ++ List.replicate (n - ys.length) (0 : Int)).toArray
  have hown := Go.ownsRow_sortedI (n := q) (os := #[]) (e := 3) (cap := c) hfl hlo hg (by omega) h2 h3
  rw [hl] at hown
  rw [Go.Sort.grow_empty] at hgr hown
  have hpre := own_prefix hown hle
  rw [← List.map_take, List.take_left'  rfl] at hpre
  exact ⟨ys.length, ys, rfl, hle, fun x => (hmem x).trans (by simp), fun hs => hstr (by simpa using hs), ⟨hpre, fun x hx => ho.all x (by simpa using hsub.subset hx), Nat.le_trans ho.2.2.1 hgr.size, ho.2.2.2⟩, hgr⟩
end Go.Proofs.Ytpjckbdljbpliaa.Sci
