/- Contracts: the times at which the standing of a certificate can change, in order (slices.Sort, slices.Compact over ints of the call's own). -/
import Derived.Test.YtlgkgccmilapbaaShelf
import Derived.Test.YtlgkgccmilapbaaEgm
import Derived.Test.YtlgkgccmilapbaaKi
import Derived.Test.YtlgkgccmilapbaaSlI
import Derived.Test.YtlgkgccmilapbaaSr
import Derived.Test.YtlgkgccmilapbaaTn
import Derived.Sort.OwnSortedInts
import Derived.Lib.SlicesCompact
import Derived.LoopTactic
namespace Go.Proofs.Ytlgkgccmilapbaa.Eg
open Go.ChangeShapes Go.WideShapes Go.ChangeAt Go.RowKit Go.Shelf Sl St Fnd Ki
/-! ### slices of ints of the call's own, sorted and compacted -/
theorem ow_at {T : TypeId} {lo hi n c : Nat} {p : Option Addr} {zs : List Int} {w : World} (h : Ow .i64 T w lo hi p n c zs) (h0 : 0 < n) : ∃ g cur, p = some ⟨g, 0, none⟩ ∧ lo ≤ g ∧ w.heap[g]? = some (.cells cur T (0, 0)) ∧ n ≤ c ∧ c ≤ maxLen ∧ cur.size = c * 1 ∧ cur.toList.take n = zs.map (Value.int .i64) := by
  rcases h.1.2 with ⟨_, h1⟩ | ⟨g, cap, cur, hv, hb, hg, h1, h2, h3, h4⟩
  · omega
  · simp only [Value.slice.injEq, true_and] at hv
    obtain ⟨rfl, rfl⟩ := hv
    exact ⟨g, cur, rfl, hb, hg, h1, h2, h3, by rw [← h4, Nat.mul_one]⟩
theorem sortI_any {lo hi n c : Nat} {p : Option Addr} {zs : List Int} {w : World} (ho : Ow .i64 3 w lo hi p n c zs) (h0 : 0 < n) (hn : n ≤ 1099511627776) :
    Calls Try.prog 96 #[.slice p n c] w fun e w' => e = .returned (.tuple #[]) ∧ ∃ ys : List Int, (∀ x, x ∈ ys ↔ x ∈ zs) ∧ ys.Pairwise (· ≤ ·) ∧ Ow .i64 3 w' lo hi p n c ys ∧ w.grownBy w' (Value.slice p n c).ownBlock := by
  obtain ⟨g, cur, rfl, hlo, hg, h1, h2, h3, h4⟩ := ow_at ho h0
  have hl := ho.len
  have hH : Go.Sort.Holds (Value.int .i64) w g 0 zs.toArray := Go.holds_of_blockI hg (by rw [hl]; exact h4)
  have hgs := (Array.getElem?_eq_some_iff.1 hg).1
  have h := Try.slices_Sort_int g 0 c zs w hH hgs (by omega)
  rw [hl] at h
  refine h.mono ?_
  rintro e w' ⟨rfl, q, os, rfl⟩
  have hp : (zs.mergeSort fun x y => decide (x ≤ y)).Perm zs := List.mergeSort_perm _ _
  have hs : (zs.mergeSort fun x y => decide (x ≤ y)).Pairwise fun x y => decide (x ≤ y) = true := List.pairwise_mergeSort (fun a b c hab hbc => by simp only [decide_eq_true_eq] at *; omega) (fun a b => by simp only [Bool.or_eq_true, decide_eq_true_eq]; omega) zs
  have hlen : (zs.mergeSort fun x y => decide (x ≤ y)).length = zs.length := hp.length_eq
  have hgr := Go.grownBy_sortedI (w := w) (g := g) (n := q) (os := os) (zs.mergeSort fun x y => decide (x ≤ y)).toArray
  have hown := Go.ownsRow_sortedI (n := q) (os := os) (e := 3) (cap := c) hlen hlo hg (by omega) h2 h3
  rw [hl] at hown
  exact ⟨rfl, _, fun x => hp.mem_iff, hs.imp fun h => of_decide_eq_true h, ⟨hown, fun x hx => ho.all x (hp.mem_iff.1 hx), Nat.le_trans ho.2.2.1 hgr.size, ho.2.2.2⟩, hgr⟩
theorem own_prefix {w : World} {lo g n c m : Nat} {T : TypeId} {xs : List Value} (h : w.ownsRow lo T 1 (.slice (some ⟨g, 0, none⟩) n c) n xs) (hm : m ≤ n) : w.ownsRow lo T 1 (.slice (some ⟨g, 0, none⟩) m c) m (xs.take m) := by
  have hl := h.1
  rcases h.2 with ⟨h', _⟩ | ⟨g', cap, cur, hv, hb, hg, h1, h2, h3, h4⟩
  · cases h'
  · simp only [Value.slice.injEq, Option.some.injEq, Addr.mk.injEq, and_true, true_and] at hv
    obtain ⟨rfl, rfl⟩ := hv
    exact ⟨by rw [List.length_take]; omega, .inr ⟨g, c, cur, rfl, hb, hg, by omega, h2, h3, by rw [← h4, List.take_take]; congr 1; omega⟩⟩
theorem comp_sub (d : Array Int) : (Go.Lib.compactUpTo d d.size).Sublist d.toList := by
  have h := (List.filter_sublist (l := List.range d.size) (p := Go.Lib.keeps d)).map (d[·]!)
  rw [Go.Lib.range_map_get] at h
  exact h
theorem comp_mem (d : Array Int) (x : Int) : x ∈ Go.Lib.compactUpTo d d.size ↔ x ∈ d.toList := by
  refine ⟨fun h => (comp_sub d).subset h, fun h => ?_⟩
  have key : ∀ j, j < d.size → d[j]! ∈ Go.Lib.compactUpTo d d.size := by
    intro j
    induction j with
    | zero =>
      intro hj
      exact List.mem_map.2 ⟨0, List.mem_filter.2 ⟨List.mem_range.2 hj, by simp [Go.Lib.keeps]⟩, rfl⟩
    | succ j ih =>
      intro hj
      by_cases hk : Go.Lib.keeps d (j + 1) = true
      · exact List.mem_map.2 ⟨j + 1, List.mem_filter.2 ⟨List.mem_range.2 hj, hk⟩, rfl⟩
      · have he : d[j + 1]! = d[j]! := by
          simp only [Go.Lib.keeps, decide_eq_true_eq, not_or, ne_eq, Decidable.not_not, Nat.add_sub_cancel] at hk
          exact hk.2
        rw [he]
        exact ih (by omega)
  obtain ⟨j, hj, rfl⟩ := List.mem_iff_getElem.1 h
  have hj2 : j < d.size := by simpa using hj
  have := key j hj2
  rw [getElem!_pos d j hj2] at this
  simpa using this
theorem compI_any {lo hi n c : Nat} {p : Option Addr} {zs : List Int} {w : World} (ho : Ow .i64 3 w lo hi p n c zs) (h0 : 0 < n) :
    Calls Try.prog 97 #[.slice p n c] w fun e w' => ∃ (m : Nat) (ys : List Int), e = .returned (.slice p m c) ∧ m ≤ n ∧ (∀ x, x ∈ ys ↔ x ∈ zs) ∧ (zs.Pairwise (· ≤ ·) → ys.Pairwise (· ≤ ·)) ∧ Ow .i64 3 w' lo hi p m c ys ∧ w.grownBy w' (Value.slice p n c).ownBlock := by
  obtain ⟨g, cur, rfl, hlo, hg, h1, h2, h3, h4⟩ := ow_at ho h0
  have hl := ho.len
  have hH : Go.Sort.Holds (Value.int .i64) w g 0 zs.toArray := Go.holds_of_blockI hg (by rw [hl]; exact h4)
  have hsz : zs.toArray.size = n := by rw [List.size_toArray]; exact hl
  have h := Try.slices_Compact_int_arr g 0 c zs.toArray w hH (by rw [hsz]; unfold maxLen at h2; omega) (by rw [hsz]; omega)
  rw [hsz] at h
  have hsub := comp_sub zs.toArray
  have hmem := comp_mem zs.toArray
  rw [hsz] at hsub hmem
  obtain ⟨ys, hys⟩ : ∃ ys, Go.Lib.compactUpTo zs.toArray n = ys := ⟨_, rfl⟩
  rw [hys] at h hsub hmem
  have hle : ys.length ≤ n := by have := hsub.length_le; simp at this; omega
  refine h.mono ?_
  rintro e w' ⟨rfl, q, rfl⟩
  have hfl : (ys ++ List.replicate (n - ys.length) (0 : Int)).length = zs.length := by rw [List.length_append, List.length_replicate]; omega
  have hgr := Go.grownBy_sortedI (w := w) (g := g) (n := q) (os := #[]) (ys ++ List.replicate (n - ys.length) (0 : Int)).toArray
  have hown := Go.ownsRow_sortedI (n := q) (os := #[]) (e := 3) (cap := c) hfl hlo hg (by omega) h2 h3
  rw [hl] at hown
  rw [Go.Sort.grow_empty] at hgr hown
  have hpre := own_prefix hown hle
  rw [← List.map_take, List.take_left'  rfl] at hpre
  exact ⟨ys.length, ys, rfl, hle, fun x => (hmem x).trans (by simp), fun hs => hs.sublist hsub, ⟨hpre, fun x hx => ho.all x (by simpa using hsub.subset hx), Nat.le_trans ho.2.2.1 hgr.size, ho.2.2.2⟩, hgr⟩
theorem ow_far_type {T T' : TypeId} {lo hi n c g : Nat} {p : Option Addr} {zs : List Int} {w : World} {cs : Array Value} (h : Ow .i64 T w lo hi p n c zs) (hx : Bx w g T' cs) (hne : T ≠ T') (j : Nat) (v : Value) : Ow .i64 T (w.setCell ⟨g, j, none⟩ v) lo hi p n c zs :=
  Tn.owI_turn h ((Tn.Turn.refl (fun i => i = g) w).set rfl v) fun g' e hs => by
    subst hs
    exact Tn.type_ne (Tn.own_type h.1 e) ⟨cs, hx⟩ hne
/-! ### elementsThat, over times -/
theorem time_pred (t : Int) (w : World) : Calls Try.prog 94 #[.int .i64 t] w fun e w' => e = .returned (.bool (inB t 0 10000)) ∧ Below w.heap.size w w' := by
  go_enter Try.func94, Try.ntmps94
  go_wp2_with fail
  refine (time1_any _ t _ (by go_simp)).mono ?_
  rintro e w1 ⟨rfl, rfl⟩
  go_wp2_with fail
  go_ret
  exact ⟨rfl, box1 _ _⟩
def MoWay (pr : Int → Bool) (zs : List Int) (k : Nat) (p : Option Addr) (m c : Nat) (w wr : World) : Prop := Ow .i64 3 wr w.heap.size wr.heap.size p m c ((zs.take k).filter pr) ∧ Below w.heap.size w wr
theorem MoWay.len {pr : Int → Bool} {zs : List Int} {k : Nat} {p : Option Addr} {m c : Nat} {w wr : World} (h : MoWay pr zs k p m c w wr) : m ≤ k := by
  have h1 := h.1.len
  have h2 := List.length_filter_le pr (zs.take k)
  rw [List.length_take] at h2
  omega
theorem MoWay.next {pr : Int → Bool} {zs : List Int} {k : Nat} {p : Option Addr} {m c : Nat} {w wr w1 : World} (h : MoWay pr zs k p m c w wr) (hb : Below wr.heap.size wr w1) (hi : (zs.take (k + 1)).filter pr = (zs.take k).filter pr) : MoWay pr zs (k + 1) p m c w w1 := ⟨by rw [hi]; exact (h.1.below hb).wide (Nat.le_refl _) hb.size (Nat.le_refl _), below_on h.2 hb⟩
theorem filt_no {pr : Int → Bool} {zs : List Int} {k : Nat} {x : Int} (hk : k < zs.length) (hx : zs.getD k 0 = x) (h : pr x = false) : (zs.take (k + 1)).filter pr = (zs.take k).filter pr := by
  rw [take_succ 0 hk, List.filter_append, hx]
  simp [h]
theorem filt_yes {pr : Int → Bool} {zs : List Int} {k : Nat} {x : Int} (hk : k < zs.length) (hx : zs.getD k 0 = x) (h : pr x = true) : (zs.take (k + 1)).filter pr = (zs.take k).filter pr ++ [x] := by
  rw [take_succ 0 hk, List.filter_append, hx]
  simp [h]
theorem lit1_in (V : World) (T : TypeId) (x : Int) (hx : inK .i64 x) : Rd .i64 (V.alloc (.cells #[.int .i64 x] T)) (some ⟨V.heap.size, 0, none⟩) 1 [x] := (litN_own T V V.heap.size [x] (fun y hy => by rw [List.mem_singleton] at hy; rw [hy]; exact hx) (Nat.le_refl _) (by simp)).rd
theorem lit0_own (w : World) : Ow .i64 3 (w.alloc (.cells #[] 3)) w.heap.size (w.alloc (.cells #[] 3)).heap.size (some ⟨w.heap.size, 0, none⟩) 0 0 [] := litN_own 3 w w.heap.size [] (allK_nil _) (Nat.le_refl _) (by simp)
set_option maxRecDepth 100000 in
set_option maxHeartbeats 4000000 in
theorem elems_any (p : Option Addr) (n c : Nat) (zs : List Int) (w : World) (hr : Rd .i64 w p n zs) (hn : n ≤ 10000000) :
    Calls Try.prog 93 #[.slice p n c, .func (.func 94) #[] #[]] w (SlI.Makes (zs.filter fun t => inB t 0 10000) w) := by
  obtain ⟨i0, hi, hz0, hz1, hz2⟩ := info_parts SlI.info
  have HR := Lib.hid hr
  have HL := Lib.hid hr.len
  have HA := Lib.hid hr.all
  have HM : Hid (MoWay (fun t => inB t 0 10000) zs 0 (some ⟨w.heap.size, 0, none⟩) 0 0 w (w.alloc (.cells #[] 3))) := Lib.hid ⟨lit0_own w, box1 _ _⟩
  clear hr
  go_enter Try.func93, Try.ntmps93
  go_wp2_with fail
  go_loopw [5, 11] (fun v i wr => ∃ (k m c' : Nat) (p' : Option Addr), k ≤ n ∧ i = .int .i64 k ∧ v = .slice p' m c' ∧ Hid (MoWay (fun t => inB t 0 10000) zs k p' m c' w wr)) (fun _ i _ => n - (intOf i).toNat)
  case atStart => exact ⟨0, _, _, _, Nat.zero_le _, rfl, rfl, HM⟩
  case round =>
    obtain ⟨k, m, c', p', hk, rfl, rfl, HK⟩ := hrel
    have hml := HK.out.len
    by_cases hlt : k < n
    · obtain ⟨b, o, rfl, hbb, hat⟩ := HR.out.at_below HK.out.2 hlt
      have hkx : k < zs.length := by rw [HL.out]; exact hlt
      have HX' : Hid (inK .i64 (zs.getD k 0)) := Lib.hid (allK_getD HA.out k)
      generalize hx : zs.getD k 0 = x at hat HX'
      rcases hβ : inB x 0 10000 with _ | _
      · have HBt := Lib.hid hβ
        have HI := Lib.hid (filt_no (pr := fun t => inB t 0 10000) hkx hx hβ)
        clear hx hβ hkx
        go_wp2_with fail
        refine (time_pred x wr).mono ?_
        rintro e w1 ⟨rfl, hb1⟩
        rw [HBt.out]
        have HK1 := Lib.hid (HK.out.next hb1 HI.out)
        clear hb1 hat
        go_wp2_with fail
        go_roundw
        case rel => exact ⟨k + 1, _, _, _, by omega, by go_num, rfl, HK1⟩
        case measure => simp [intOf]; omega
      · have HBt := Lib.hid hβ
        have HI := Lib.hid (filt_yes (pr := fun t => inB t 0 10000) hkx hx hβ)
        clear hx hβ hkx
        go_wp2_with fail
        refine (time_pred x wr).mono ?_
        rintro e w1 ⟨rfl, hb1⟩
        rw [HBt.out]
        have HO1 := Lib.hid ((HK.out.1.below hb1).wide (Nat.le_refl _) hb1.size (Nat.le_refl _))
        have HB1 := Lib.hid (below_on HK.out.2 hb1)
        have hsz := HB1.out.size
        have HLit := Lib.hid (lit1_in w1 3 x HX'.out)
        clear hb1 hat
        go_wp2_with (at_builtin; refine wpList_appR rfl (.tmp 18) (.tmp 20) 117 rfl i0 _ 8 Try.underlying117 hi hz0 hz1 hz2 rfl rfl (HO1.out.alloc _) _ _ _ _ rfl HLit.out (Nat.le_trans hsz (by simp)) (by omega) (by omega) ?_; intro p2 c2 w2 how2 hg2; rw [← HI.out] at how2; have HK2 : Hid (MoWay (fun t => inB t 0 10000) zs (k + 1) p2 (m + 1) c2 w w2) := Lib.hid ⟨how2, (HB1.out.alloc hsz _).trans ((HO1.out.alloc _).below_row hg2 (Nat.le_trans hsz (by simp)))⟩; clear how2 hg2)
        go_roundw
        case rel => exact ⟨k + 1, _, _, _, by omega, by go_num, rfl, HK2⟩
        case measure => simp [intOf]; omega
    · obtain rfl : k = n := by omega
      have HT : Hid (zs.take k = zs) := Lib.hid (List.take_of_length_le (by rw [HL.out]; exact Nat.le_refl _))
      go_wp2_with fail
      go_ret
      exact ⟨_, _, _, rfl, by have h := HK.out.1; rw [HT.out] at h; exact h, HK.out.2⟩
/-! ### stretches -/
def chg (f to u b : Int) : List Int := [0, f, wrap64 (to + 1), wrap64 (u + 1), b]
theorem wrap_in (z : Int) : inK .i64 (wrap64 z) := by
  show -9223372036854775808 ≤ wrap64 z ∧ wrap64 z ≤ 9223372036854775807
  unfold wrap64
  omega
theorem chg_all {f to u b : Int} (hf : -9223372036854775808 ≤ f ∧ f ≤ 9223372036854775807) (hb : -9223372036854775808 ≤ b ∧ b ≤ 9223372036854775807) : allK .i64 (chg f to u b) := fun x hx => by
  simp only [chg, List.mem_cons, List.not_mem_nil, or_false] at hx
  rcases hx with rfl | rfl | rfl | rfl | rfl
  · exact ⟨by omega, by omega⟩
  · exact hf
  · exact wrap_in _
  · exact wrap_in _
  · exact hb
theorem chg_rd (V : World) {f to u b : Int} (h : allK .i64 (chg f to u b)) : Rd .i64 (V.alloc (.cells #[.int .i64 0, .int .i64 f, .int .i64 (wrap64 (to + 1)), .int .i64 (wrap64 (u + 1)), .int .i64 b] 3)) (some ⟨V.heap.size, 0, none⟩) 5 (chg f to u b) := (litN_own 3 V V.heap.size (chg f to u b) h (Nat.le_refl _) (by simp [chg])).rd
theorem nx_wrap {t : Int} (h : -9223372036854775808 ≤ t ∧ t ≤ 9223372036854775807) : Egm.Nx t (wrap64 (t + 1)) := by
  unfold Egm.Nx wrap64
  omega
/-- The changes, in order, and the end of all times, in a variable of their own. -/
def Str (f to u b : Int) (w : World) (e : Ending) (w' : World) : Prop := ∃ (g lo hi : Nat) (p : Option Addr) (n c : Nat) (cs : List Int), e = .returned (.func (.func 98) #[] #[.pointer (some ⟨g, 0, none⟩)]) ∧ Bx w' g 117 #[.slice p n c] ∧ Ow .i64 3 w' lo hi p n c (cs ++ [10001]) ∧ n ≤ c ∧ n ≤ 6 ∧ cs.Pairwise (· ≤ ·) ∧ (∀ x, x ∈ cs ↔ x ∈ chg f to u b ∧ 0 ≤ x ∧ x ≤ 10000) ∧ Below w.heap.size w w'
set_option maxRecDepth 100000 in
set_option maxHeartbeats 4000000 in
theorem stretches_any (x0 x1 x2 f to x5 x6 u b : Int) (hf : -9223372036854775808 ≤ f ∧ f ≤ 9223372036854775807) (hb : -9223372036854775808 ≤ b ∧ b ≤ 9223372036854775807) (w : World) : Calls Try.prog 69 #[.agg #[.int .i64 x0, .int .i64 x1, .int .i64 x2, .int .i64 f, .int .i64 to, .int .i64 x5, .int .i64 x6, .int .i64 u, .int .i64 b]] w (Str f to u b w) := by
  obtain ⟨i0, hi, hz0, hz1, hz2⟩ := info_parts SlI.info
  have HB0 : Hid (Below w.heap.size w ((w.alloc (.cells #[.int .i64 x0, .int .i64 x1, .int .i64 x2, .int .i64 f, .int .i64 to, .int .i64 x5, .int .i64 x6, .int .i64 u, .int .i64 b] 71)).alloc (.cells #[.int .i64 0, .int .i64 f, .int .i64 (wrap64 (to + 1)), .int .i64 (wrap64 (u + 1)), .int .i64 b] 3))) := Lib.hid (((Below.refl w.heap.size w).alloc (Nat.le_refl _) _).alloc (by simp) _)
  have HR0 : Hid (Rd .i64 ((w.alloc (.cells #[.int .i64 x0, .int .i64 x1, .int .i64 x2, .int .i64 f, .int .i64 to, .int .i64 x5, .int .i64 x6, .int .i64 u, .int .i64 b] 71)).alloc (.cells #[.int .i64 0, .int .i64 f, .int .i64 (wrap64 (to + 1)), .int .i64 (wrap64 (u + 1)), .int .i64 b] 3)) (some ⟨w.heap.size + 1, 0, none⟩) 5 (chg f to u b)) := Lib.hid (by have h := chg_rd (to := to) (u := u) (w.alloc (.cells #[.int .i64 x0, .int .i64 x1, .int .i64 x2, .int .i64 f, .int .i64 to, .int .i64 x5, .int .i64 x6, .int .i64 u, .int .i64 b] 71)) (chg_all hf hb); rw [World.size_alloc] at h; exact h)
  have HZ : Hid (w.heap.size ≤ ((w.alloc (.cells #[.int .i64 x0, .int .i64 x1, .int .i64 x2, .int .i64 f, .int .i64 to, .int .i64 x5, .int .i64 x6, .int .i64 u, .int .i64 b] 71)).alloc (.cells #[.int .i64 0, .int .i64 f, .int .i64 (wrap64 (to + 1)), .int .i64 (wrap64 (u + 1)), .int .i64 b] 3)).heap.size) := Lib.hid (by simp; omega)
  clear hf hb
  go_enter Try.func69, Try.ntmps69
  go_wp2_with fail
  generalize ((w.alloc (.cells #[.int .i64 x0, .int .i64 x1, .int .i64 x2, .int .i64 f, .int .i64 to, .int .i64 x5, .int .i64 x6, .int .i64 u, .int .i64 b] 71)).alloc (.cells #[.int .i64 0, .int .i64 f, .int .i64 (wrap64 (to + 1)), .int .i64 (wrap64 (u + 1)), .int .i64 b] 3)) = V at HB0 HR0 HZ ⊢
  refine (elems_any _ _ _ _ _ HR0.out (by omega)).mono ?_
  rintro e w1 ⟨p1, n1, c1, rfl, ho, hb1⟩
  have hn1 : n1 ≤ 5 := by
    have h1 := ho.len
    have h2 := List.length_filter_le (fun t => inB t 0 10000) (chg f to u b)
    have h3 : (chg f to u b).length = 5 := rfl
    omega
  have h01 : 0 < n1 := by
    have h1 := ho.len
    have h2 : (0 : Int) ∈ (chg f to u b).filter fun t => inB t 0 10000 := List.mem_filter.2 ⟨List.mem_cons_self .., by decide⟩
    have h3 := List.length_pos_of_mem h2
    omega
  have HO := Lib.hid (ho.alloc (.cells #[.slice p1 n1 c1] 117))
  have HX := Lib.hid (Bx.new w1 117 #[.slice p1 n1 c1])
  have HB := Lib.hid ((below_on HB0.out hb1).alloc (below_on HB0.out hb1).size (.cells #[.slice p1 n1 c1] 117))
  have HZ1 : Hid (w.heap.size ≤ V.heap.size ∧ V.heap.size ≤ w1.heap.size) := Lib.hid ⟨HZ.out, hb1.size⟩
  clear ho hb1 HB0 HR0 HZ
  go_wp2_with fail
  refine (sortI_any HO.out h01 (by omega)).mono ?_
  rintro e w2 ⟨rfl, ys, hmem, hsort, ho2, hg2⟩
  have HX2 := Lib.hid (HX.out.grown hg2 (fun e => by have := HO.out.far _ e.symm; omega))
  have HB2 := Lib.hid (below_row HB.out HO.out hg2 HZ1.out.1)
  have HO2 := Lib.hid ho2
  have HM2 := Lib.hid hmem
  have HS2 := Lib.hid hsort
  have c0 := HX2.out.cell (j := 0) rfl
  clear ho2 hg2 hmem hsort HX HB HO
  go_wp2_with fail
  refine (compI_any HO2.out h01).mono ?_
  rintro e w3 ⟨m, cs, rfl, hm, hmem, hsort, ho3, hg3⟩
  have HX3 := Lib.hid (HX2.out.grown hg3 (fun e => by have := HO2.out.far _ e.symm; omega))
  have HB3 := Lib.hid (below_row HB2.out HO2.out hg3 HZ1.out.1)
  have HO3 := Lib.hid ho3
  have HM3 : Hid (∀ x, x ∈ cs ↔ x ∈ chg f to u b ∧ 0 ≤ x ∧ x ≤ 10000) := Lib.hid fun x => by
    rw [hmem, HM2.out, List.mem_filter, inB_iff]
  have HS3 := Lib.hid (hsort HS2.out)
  have hsz := HB3.out.size
  have hz3 : V.heap.size ≤ w3.heap.size := by have := HZ1.out.2; have := HX3.out.lt; omega
  have HLit := Lib.hid (lit1_in w3 3 10001 ⟨by omega, by omega⟩)
  clear ho3 hg3 hmem hsort HX2 HB2 HO2 HM2 HS2 c0
  have c0 := HX3.out.cell (j := 0) rfl
  go_wp2_with (at_builtin; refine wpList_appR rfl (.tmp 21) (.tmp 22) 117 rfl i0 _ 8 Try.underlying117 hi hz0 hz1 hz2 rfl rfl (HO3.out.alloc _) _ _ _ _ rfl HLit.out (Nat.le_trans hz3 (by simp)) (by omega) (by omega) ?_; intro p4 c4 w4 how4 hg4; have HX4 := Lib.hid ((HX3.out.alloc (.cells #[.int .i64 10001] 3)).grown hg4 (fun e => by have := (HO3.out.alloc (.cells #[.int .i64 10001] 3)).far _ e.symm; omega)); have HB4 := Lib.hid (below_row (HB3.out.alloc hsz (.cells #[.int .i64 10001] 3)) (HO3.out.alloc (.cells #[.int .i64 10001] 3)) hg4 HZ1.out.1); have HO4 := Lib.hid how4; clear how4 hg4 c0; have c4_ := HX4.out.cell (j := 0) rfl; have f4_ := HX4.out.free 0)
  go_ret
  refine ⟨w1.heap.size, _, _, p4, m + 1, c4, cs, rfl, HX4.out.set_ 0 _, ow_far_type HO4.out HX4.out (by decide) 0 _, HO4.out.le.1, by omega, HS3.out, HM3.out, HB4.out.setCell (by have := HZ1.out; show w.heap.size ≤ w1.heap.size; omega) _⟩
end Go.Proofs.Ytlgkgccmilapbaa.Eg
