/- Contracts of the program's own sort of spans: the comparison, the closure, the sort. -/
import Derived.Test.YtlgkgccmilapbaaJs
import Derived.Test.YtlgkgccmilapbaaShelfG
import Derived.Test.YtlgkgccmilapbaaSo
import Derived.Test.YtlgkgccmilapbaaCm
import Derived.Shelf.SlSortCmp.NoneTotal
namespace Go.Proofs.Ytlgkgccmilapbaa.Ji
open Go.ChangeShapes Go.WideShapes Go.ChangeAt Go.RowKit Go.Shelf Go.Sort Sl St Jn Sps SlSpan Jo

/-- the order of two spans: by the first time, then by the last one -/
def cf (x y : Sp) : Int := if Go.Lib.compareInt x.1 y.1 = 0 then Go.Lib.compareInt x.2 y.2 else Go.Lib.compareInt x.1 y.1
theorem cmp_parts (a b : Int) : (Go.Lib.compareInt a b = 0 ↔ a = b) ∧ (Go.Lib.compareInt a b < 0 ↔ a < b) := by
  unfold Go.Lib.compareInt
  rcases Int.lt_trichotomy a b with h | h | h
  · rw [if_pos h]; omega
  · rw [if_neg (by omega), if_neg (by omega)]; omega
  · rw [if_neg (by omega), if_pos h]; omega
theorem lt_eq (x y : Sp) : ltOf cf x y = decide (x.1 < y.1 ∨ (x.1 = y.1 ∧ x.2 < y.2)) := by
  have h : cf x y < 0 ↔ (x.1 < y.1 ∨ (x.1 = y.1 ∧ x.2 < y.2)) := by
    have k1 := cmp_parts x.1 y.1
    have k2 := cmp_parts x.2 y.2
    unfold cf
    by_cases e : Go.Lib.compareInt x.1 y.1 = 0
    · rw [if_pos e, k2.2]
      have := k1.1.1 e
      omega
    · rw [if_neg e, k1.2]
      have := fun h => e (k1.1.2 h)
      omega
  unfold ltOf
  exact decide_eq_decide.2 h
theorem cf_swo : SWO (ltOf cf) where
  irrefl x := by rw [lt_eq]; exact decide_eq_false (by omega)
  trans x y z h1 h2 := by
    rw [lt_eq] at h1 h2 ⊢
    have h1 := of_decide_eq_true h1
    have h2 := of_decide_eq_true h2
    exact decide_eq_true (by omega)
  ntrans x y z h1 h2 := by
    rw [lt_eq] at h1 h2 ⊢
    have h1 := of_decide_eq_false h1
    have h2 := of_decide_eq_false h2
    exact decide_eq_false (by omega)
theorem asc_of {d : Array Sp} (h : SortedIn (ltOf cf) 0 d.size d) : Asc d.toList := by
  unfold Asc
  rw [List.pairwise_iff_getElem]
  intro i j hi hj hij
  have hj2 : j < d.size := by simpa using hj
  have h1 := h i j (Nat.zero_le _) hij hj2
  rw [lt_eq, getElem!_pos d j hj2, getElem!_pos d i (Nat.lt_trans hij hj2)] at h1
  have h2 := of_decide_eq_false h1
  simp only [Array.getElem_toList]
  omega
theorem perm_of {d d' : Array Sp} (h : PermIn 0 d.size d d') : d'.toList.Perm d.toList := by
  obtain ⟨hsz, _, hp⟩ := h
  have e1 : d'.extract 0 d.size = d' := by rw [← hsz]; exact Array.extract_size
  rw [e1, Array.extract_size] at hp
  exact hp

/-- two lists of two numbers -/
theorem cmp2_any (g h : Nat) (x0 x1 y0 y1 : Int) (w : World) (hx0 : w.cell? ⟨g, 0, none⟩ = some (.int .i64 x0)) (hx1 : w.cell? ⟨g, 1, none⟩ = some (.int .i64 x1)) (hy0 : w.cell? ⟨h, 0, none⟩ = some (.int .i64 y0)) (hy1 : w.cell? ⟨h, 1, none⟩ = some (.int .i64 y1)) :
    Calls Try.prog 117 #[.slice (some ⟨g, 0, none⟩) 2 2, .slice (some ⟨h, 0, none⟩) 2 2] w fun e w' => e = .returned (.int .i64 (cf (x0, x1) (y0, y1))) ∧ w' = w := by
  obtain ⟨c0, hc0⟩ : ∃ c, Go.Lib.compareInt x0 y0 = c := ⟨_, rfl⟩
  obtain ⟨c1, hc1⟩ : ∃ c, Go.Lib.compareInt x1 y1 = c := ⟨_, rfl⟩
  have H0 := Lib.hid hc0
  have H1 := Lib.hid hc1
  obtain ⟨r, hr⟩ : ∃ r, cf (x0, x1) (y0, y1) = r := ⟨_, rfl⟩
  have HC : Hid (r = if c0 = 0 then c1 else c0) := Lib.hid (by rw [← hr]; unfold cf; rw [hc0, hc1])
  rw [hr]
  clear hc0 hc1 hr
  go_enter Try.func117, Try.ntmps117
  go_wp2_with fail
  go_loop [11] (fun i => ∃ k : Nat, k ≤ 2 ∧ i = .int .i64 k ∧ Hid ((1 ≤ k → c0 = 0) ∧ (2 ≤ k → c1 = 0))) (fun i => 2 - (intOf i).toNat)
  case atStart => exact ⟨0, Nat.zero_le _, rfl, Lib.hid ⟨fun h => by omega, fun h => by omega⟩⟩
  case round =>
    obtain ⟨k, hk, rfl, HK⟩ := hrel
    obtain rfl | rfl | rfl : k = 0 ∨ k = 1 ∨ k = 2 := by omega
    · by_cases hz : c0 = 0
      all_goals
        go_wp2_with fail
        refine (Cm.cmp_any _ _ _).mono ?_
        rintro e w1 ⟨rfl, rfl⟩
        rw [H0.out]
        go_wp2_with fail
        first
          | (go_ret; (have hh := HC.out); rw [if_neg hz] at hh; subst hh; exact ⟨rfl, rfl⟩)
          | (go_round; (case rel => exact ⟨1, by omega, rfl, Lib.hid ⟨fun _ => hz, fun h => by omega⟩⟩); (case measure => simp [intOf]))
    · have hz0 := HK.out.1 (by omega)
      by_cases hz : c1 = 0
      all_goals
        go_wp2_with fail
        refine (Cm.cmp_any _ _ _).mono ?_
        rintro e w1 ⟨rfl, rfl⟩
        rw [H1.out]
        go_wp2_with fail
        first
          | (go_ret; (have hh := HC.out); rw [if_pos hz0] at hh; subst hh; exact ⟨rfl, rfl⟩)
          | (go_round; (case rel => exact ⟨2, by omega, rfl, Lib.hid ⟨fun _ => hz0, fun _ => hz⟩⟩); (case measure => simp [intOf]))
    · have hz0 := HK.out.1 (by omega)
      have hz1 := HK.out.2 (by omega)
      go_wp2_with fail
      go_ret
      have hh := HC.out
      rw [if_pos hz0, hz1] at hh
      subst hh
      exact ⟨rfl, rfl⟩
theorem cells2 (W : World) (T : TypeId) (x y : Sp) : let w := (((W.alloc (.cells #[.int .i64 x.1, .int .i64 x.2] T)).alloc (.cells #[.int .i64 y.1, .int .i64 y.2] T)).drew); w.cell? ⟨W.heap.size, 0, none⟩ = some (.int .i64 x.1) ∧ w.cell? ⟨W.heap.size, 1, none⟩ = some (.int .i64 x.2) ∧ w.cell? ⟨W.heap.size + 1, 0, none⟩ = some (.int .i64 y.1) ∧ w.cell? ⟨W.heap.size + 1, 1, none⟩ = some (.int .i64 y.2) := by
  have h1 := (Bx.new W T #[.int .i64 x.1, .int .i64 x.2]).alloc (.cells #[.int .i64 y.1, .int .i64 y.2] T)
  have h2 := Bx.new (W.alloc (.cells #[.int .i64 x.1, .int .i64 x.2] T)) T #[.int .i64 y.1, .int .i64 y.2]
  rw [World.size_alloc] at h2
  exact ⟨h1.cell rfl, h1.cell rfl, h2.cell rfl, h2.cell rfl⟩
theorem ends_cmp (x y : Sp) (W : World) : Calls Try.prog 116 #[.agg #[.int .i64 x.1, .int .i64 x.2], .agg #[.int .i64 y.1, .int .i64 y.2]] W fun e w' => e = .returned (.int .i64 (cf x y)) ∧ ∃ q os', w' = grow (W.drewN q) os' := by
  go_enter Try.func116, Try.ntmps116
  go_wp2_with fail
  have k0 := cells2 W 125 x y
  go_region_held3 (fun _ => True) (first | exact trivial) (first
    | (go_at_call 117; refine (cmp2_any _ _ x.1 x.2 y.1 y.2 _ k0.1 k0.2.1 k0.2.2.1 k0.2.2.2).mono ?_; rintro e w1 ⟨rfl, rfl⟩))
  go_wp2_with fail
  go_ret
  exact ⟨rfl, 1, #[.cells #[.int .i64 x.1, .int .i64 x.2] 125, .cells #[.int .i64 y.1, .int .i64 y.2] 125], by
    show (W.drew.alloc _).alloc _ = _
    rw [alloc_eq_grow, alloc_eq_grow, grow_grow]
    rfl⟩
/-- the sort of a slice of the call's own -/
theorem sort_any {lo hi n c : Nat} {p : Option Addr} {xs : List Sp} {w : World} (ho : OwS E 125 w lo hi p n c xs) (hn : n ≤ 1099511627776) :
    Calls Try.prog 115 #[.slice p n c, .func (.func 116) #[] #[]] w fun e w' => e = .returned (.tuple #[]) ∧ ∃ ys : List Sp, ys.Perm xs ∧ Asc ys ∧ OwS E 125 w' lo hi p n c ys ∧ w.grownBy w' (Value.slice p n c).ownBlock := by
  rcases Nat.eq_zero_or_pos n with h0 | h0
  · subst h0
    refine (AnyF.slices_SortFunc_none Try.laysSortspanEnds p c _ w).mono ?_
    rintro e w' ⟨rfl, rfl⟩
    obtain rfl : xs = [] := List.eq_nil_of_length_eq_zero ho.len
    exact ⟨rfl, [], List.Perm.refl _, List.Pairwise.nil, ho, ⟨rfl, rfl, rfl, Nat.le_refl _, fun _ _ _ => rfl⟩⟩
  · obtain ⟨g, rfl, hg⟩ : ∃ g, p = some ⟨g, 0, none⟩ ∧ g < w.heap.size := by
      rcases ho.form with ⟨_, h1, _⟩ | ⟨g, h1, h2, h3, _⟩
      · omega
      · exact ⟨g, h1, Nat.lt_of_lt_of_le h3 ho.2.2.1⟩
    have hs : xs.toArray.size = n := by rw [List.size_toArray]; exact ho.len
    have h := AnyQ.slices_SortFunc Try.laysSortspanEnds 2 Try.isAgg125 Try.sizeOf125 E.of E.len E.one cf cf_swo 116 #[] g 0 c xs.toArray w (enters_of Try.func116 (by kernel_rfl) rfl) (fun _ _ _ _ x y => ends_cmp x y _) ho.holds hg (by rw [hs]; omega)
    rw [hs] at h
    refine Calls.mono h ?_
    rintro e w' ⟨rfl, d', q, os, h1, h2, rfl⟩
    have h1' : PermIn 0 xs.toArray.size xs.toArray d' := by rw [hs]; exact h1
    have h3 := perm_of h1'
    have hd : d'.size = n := h1.1.trans hs
    have h4 := own_sorted ho q os (ys := d'.toList) (by rw [Array.length_toList]; exact hd)
    rw [Array.toArray_toList] at h4
    exact ⟨rfl, d'.toList, h3, asc_of (by rw [hd]; exact h2), h4.1, h4.2⟩
theorem ends_info : (Try.prog.info? 125).map (fun i => (i.zero, i.size, i.bytes)) = some (some (.agg #[.int .i64 0, .int .i64 0]), 2, 16) := by kernel_rfl
theorem filter_no {xs : List Sp} {k : Nat} {x : Sp} (hk : k < xs.length) (hx : xs[k] = x) (h : okB x = false) : (xs.take (k + 1)).filter okB = (xs.take k).filter okB := by
  subst hx
  rw [take_at hk, List.filter_append]
  simp [h]
theorem filter_yes {xs : List Sp} {k : Nat} {x : Sp} (hk : k < xs.length) (hx : xs[k] = x) (h : okB x = true) : (xs.take (k + 1)).filter okB = (xs.take k).filter okB ++ [x] := by
  subst hx
  rw [take_at hk, List.filter_append]
  simp [h]
/-- The call answers a new slice of the ends of the valid spans, in order. -/
def Sorts (xs : List Sp) (w : World) (e : Ending) (w' : World) : Prop := ∃ p n c ys, e = .returned (.slice p n c) ∧ OwS E 125 w' w.heap.size w'.heap.size p n c ys ∧ Below w.heap.size w w' ∧ Asc ys ∧ ys.Perm (xs.filter okB)
set_option maxRecDepth 100000 in
set_option maxHeartbeats 4000000 in
theorem ends_any (p : Option Addr) (n c : Nat) (xs : List Sp) (w : World) (hr : RdS E w p n xs) (hn : n ≤ 1099511627776) : Calls Try.prog 99 #[.slice p n c] w (Sorts xs w) := by
  obtain ⟨i0, hi, hz0, hz1, hz2⟩ := info_parts ends_info
  have HR := Lib.hid hr
  have HL := Lib.hid hr.len
  have HM : Hid (OwS E 125 (w.alloc (.cells #[] 125)) w.heap.size (w.alloc (.cells #[] 125)).heap.size (some ⟨w.heap.size, 0, none⟩) 0 0 ((xs.take 0).filter okB)) := Lib.hid (empty_own _ w _ (Nat.le_refl _))
  have HB : Hid (Below w.heap.size w (w.alloc (.cells #[] 125))) := Lib.hid ((Below.refl w.heap.size w).alloc (Nat.le_refl _) _)
  have hle := hr.le
  clear hr
  go_enter Try.func99, Try.ntmps99
  go_wp2_with fail
  go_loopw [3, 9] (fun v i wr => ∃ (k m c' : Nat) (p' : Option Addr), k ≤ n ∧ i = .int .i64 k ∧ v = .slice p' m c' ∧ Hid (OwS E 125 wr w.heap.size wr.heap.size p' m c' ((xs.take k).filter okB)) ∧ Hid (RowKit.Below w.heap.size w wr)) (fun _ i _ => n - (intOf i).toNat)
  case atStart => exact ⟨0, _, _, _, Nat.zero_le _, rfl, rfl, HM, HB⟩
  case round =>
    obtain ⟨k, m, c', p', hk, rfl, rfl, HK, HBr⟩ := hrel
    by_cases hlt : k < n
    · obtain ⟨b, o, rfl, hb, hat⟩ := rd_at (HR.out.below HBr.out) hlt
      have hkL : Hid (k < xs.length) := Lib.hid (by rw [HL.out]; exact hlt)
      have hm : m ≤ n := by
        have h1 := HK.out.len
        have h2 : ((xs.take k).filter okB).length ≤ (xs.take k).length := List.length_filter_le _ _
        have h3 : (xs.take k).length ≤ k := by rw [List.length_take]; omega
        omega
      generalize hx : xs.getD k zero = x at hat
      have HX := Lib.hid (getD_at hkL.out hx)
      obtain ⟨xa, xb⟩ := x
      obtain ⟨hc0, hc1⟩ := hat
      simp only at hc0 hc1
      clear hx
      have hsz := HBr.out.size
      rcases hok : okB (xa, xb) with _ | _
      all_goals
        have HOk := Lib.hid hok
        clear hok
        go_wp2_with fail
        refine (isSpan_any _ _ _).mono ?_
        rintro e w1 ⟨rfl, hb1⟩
        rw [HOk.out]
        have HK1 := Lib.hid (((HK.out.alloc _).below hb1).wide (Nat.le_refl _) (Nat.le_trans (by simp) hb1.size) (Nat.le_refl _))
        have HB1 := Lib.hid (below_on (HBr.out.alloc HBr.out.size _) hb1)
        have hsz1 := HB1.out.size
        have HBX := Lib.hid ((Bx.new wr 40 #[.int .i64 xa, .int .i64 xb]).below hb1)
        obtain ⟨q0, q1, q2, q3⟩ := HBX.out.two
        have hwl : w.heap.size < w1.heap.size := Nat.lt_of_le_of_lt hsz HBX.out.lt
        clear hb1
      · have HN : Hid ((xs.take (k + 1)).filter okB = (xs.take k).filter okB) := Lib.hid (filter_no hkL.out HX.out HOk.out)
        go_wp2_with fail
        go_roundw
        case rel => exact ⟨k + 1, _, _, _, by omega, by go_num, rfl, Lib.hid (by rw [HN.out]; exact HK1.out), HB1⟩
        case measure => simp [intOf]; omega
      · have HN : Hid ((xs.take (k + 1)).filter okB = (xs.take k).filter okB ++ [(xa, xb)]) := Lib.hid (filter_yes hkL.out HX.out HOk.out)
        go_wp2_with (at_builtin; refine wpList_appS rfl (.tmp 15) (.tmp 21) 122 rfl i0 _ 16 Try.underlying122 hi hz0 hz1 hz2 rfl rfl (HK1.out.alloc _) (some ⟨w1.heap.size, 0, none⟩) 1 1 [(xa, xb)] rfl (one_own _ w1 0 (xa, xb) (Nat.zero_le _)).rd (Nat.le_trans hsz1 (by simp)) (by omega) (by omega) ?_; intro p3 c3 w3 how3 hg3; have HK3 := Lib.hid (how3.wide (Nat.le_refl _) (Nat.le_refl _) (Nat.le_refl _)); have HB3 := Lib.hid (below_rowS (HB1.out.alloc hsz1 _) (HK1.out.alloc _) hg3 (Nat.le_refl _)); clear how3 hg3)
        go_roundw
        case rel => exact ⟨k + 1, _, _, _, by omega, by go_num, rfl, Lib.hid (by rw [HN.out]; exact HK3.out), HB3⟩
        case measure => simp [intOf]; omega
    · obtain rfl : k = n := by omega
      have hm : m ≤ 1099511627776 := by
        have h1 := HK.out.len
        have h2 : ((xs.take k).filter okB).length ≤ (xs.take k).length := List.length_filter_le _ _
        have h3 : (xs.take k).length ≤ k := by rw [List.length_take]; omega
        omega
      go_wp2_with fail
      refine (sort_any HK.out hm).mono ?_
      rintro e w1 ⟨rfl, ys, hp, ha, ho, hg⟩
      have HO := Lib.hid ho
      have HB1 := Lib.hid (HK.out.below_row hg (by have := HBr.out.size; omega))
      have HW := Lib.hid (below_rowS HBr.out HK.out hg (Nat.le_refl _))
      have HP := Lib.hid hp
      have HA := Lib.hid ha
      have HS := Lib.hid hg.size
      clear ho hg hp ha
      go_wp2_with fail
      go_ret
      have hp := HP.out
      rw [List.take_of_length_le (by rw [HL.out]; exact Nat.le_refl _)] at hp
      exact ⟨_, _, _, ys, rfl, HO.out.wide (Nat.le_refl _) HS.out (Nat.le_refl _), HW.out, HA.out, hp⟩
set_option maxRecDepth 100000 in
set_option maxHeartbeats 4000000 in
theorem spans_any (p : Option Addr) (n c : Nat) (xs : List Sp) (w : World) (hr : RdS E w p n xs) (hn : n ≤ 1099511627776) : Calls Try.prog 100 #[.slice p n c] w (Makes xs w) := by
  obtain ⟨i0, hi, hz0, hz1, hz2⟩ := info_parts info
  have HR := Lib.hid hr
  have HL := Lib.hid hr.len
  have hle := hr.le
  clear hr
  go_enter Try.func100, Try.ntmps100
  go_wp2_with (refine wpList_make_own _ rfl _ _ 26 rfl w.heap.size 40 i0 _ 2 Try.underlying26 hi hz0 hz1 .i64 .i64 _ n rfl rfl rfl (by rw [hz2]; omega) (by unfold maxLen; omega) (Nat.le_refl _) ?_; intro w1 hown1 hg1)
  have HM : Hid (OwS E 40 w1 w.heap.size w1.heap.size (some ⟨w.heap.size, 0, none⟩) 0 n (xs.take 0)) := Lib.hid (OwS.of_row hown1)
  have HB : Hid (RowKit.Below w.heap.size w w1) := Lib.hid ((Below.refl _ _).grown hg1 (Nat.le_refl _) (fun _ h => by cases h))
  clear hown1 hg1
  go_loopw [3, 11] (fun v i wr => ∃ (k c' : Nat) (p' : Option Addr), k ≤ n ∧ i = .int .i64 k ∧ v = .slice p' k c' ∧ Hid (OwS E 40 wr w.heap.size wr.heap.size p' k c' (xs.take k)) ∧ Hid (RowKit.Below w.heap.size w wr)) (fun _ i _ => n - (intOf i).toNat)
  case atStart => exact ⟨0, _, _, Nat.zero_le _, rfl, rfl, HM, HB⟩
  case round =>
    obtain ⟨k, c', p', hk, rfl, rfl, HK, HBr⟩ := hrel
    by_cases hlt : k < n
    · obtain ⟨b, o, rfl, hb, hat⟩ := rd_at (HR.out.below HBr.out) hlt
      have hkL : Hid (k < xs.length) := Lib.hid (by rw [HL.out]; exact hlt)
      generalize hx : xs.getD k zero = x at hat
      have HX := Lib.hid (getD_at hkL.out hx)
      obtain ⟨xa, xb⟩ := x
      obtain ⟨hc0, hc1⟩ := hat
      simp only at hc0 hc1
      clear hx
      have hsz := HBr.out.size
      have HN : Hid (xs.take (k + 1) = xs.take k ++ [(xa, xb)]) := Lib.hid (by rw [take_at hkL.out, HX.out])
      go_wp2_with (at_builtin; refine wpList_appS rfl (.tmp 15) (.tmp 21) 26 rfl i0 _ 16 Try.underlying26 hi hz0 hz1 hz2 rfl rfl ((HK.out.alloc _).alloc _) (some ⟨wr.heap.size + 1, 0, none⟩) 1 1 [(xa, xb)] rfl (one_rd _ wr _ (xa, xb)) (Nat.le_trans hsz (by simp; omega)) (by omega) (by omega) ?_; intro p3 c3 w3 how3 hg3; have HK3 := Lib.hid (how3.wide (Nat.le_refl _) (Nat.le_refl _) (Nat.le_refl _)); have HB3 := Lib.hid (below_rowS ((HBr.out.alloc hsz _).alloc (Nat.le_trans hsz (by simp)) _) ((HK.out.alloc _).alloc _) hg3 (Nat.le_refl _)); clear how3 hg3)
      go_roundw
      case rel => exact ⟨k + 1, _, _, by omega, by go_num, rfl, Lib.hid (by rw [HN.out]; exact HK3.out), HB3⟩
      case measure => simp [intOf]; omega
    · obtain rfl : k = n := by omega
      go_wp2_with fail
      go_ret
      have h := HK.out
      rw [List.take_of_length_le (by rw [HL.out]; exact Nat.le_refl _)] at h
      exact ⟨_, _, _, rfl, h, HBr.out⟩
/-- on the way: joined from the first i, in the own row; the sorted ones lie apart -/
def JWay (es M : List Sp) (i : Nat) (q : Option Addr) (m g r c' : Nat) (w wr : World) : Prop :=
  OwS E 125 wr w.heap.size wr.heap.size (some ⟨g, 0, none⟩) r c' M ∧ RdS E wr q m es ∧ (∀ b o, q = some ⟨b, o, none⟩ → b ≠ g ∧ b < wr.heap.size) ∧ RowKit.Below w.heap.size w wr ∧ Srt es i M
theorem JWay.new {es M : List Sp} {k m g r c' g3 c3 : Nat} {q : Option Addr} {w wr wa w3 : World} {x : Sp} (h : JWay es M k q m g r c' w wr) (hs : Asc es) (hk : k < es.length) (hx : es[k] = x) (ho : okB x = true) (hl : ∀ (hM : 0 < M.length), (M[M.length - 1]'(by omega)).2 + 1 < x.1)
    (hb : RowKit.Below wr.heap.size wr wa) (how : OwS E 125 w3 w.heap.size w3.heap.size (some ⟨g3, 0, none⟩) (r + 1) c3 (M ++ [x])) (hg : wa.grownBy w3 (Value.slice (some ⟨g, 0, none⟩) r c').ownBlock) (hat : (Value.slice (some ⟨g, 0, none⟩) r c').ownBlock = some g3 ∨ g3 = wa.heap.size) : JWay es (M ++ [x]) (k + 1) q m g3 (r + 1) c3 w w3 := by
  have e0 : (Value.slice (some ⟨g, 0, none⟩) r c').ownBlock = some g := rfl
  rw [e0] at hg hat
  refine ⟨how, (h.2.1.below hb).grown hg (fun b o e hh => (h.2.2.1 b o e).1 (by simpa using hh)), fun b o e => ⟨?_, ?_⟩, (below_on h.2.2.2.1 hb).grown hg (Nat.le_trans h.2.2.2.1.size hb.size) (fun k e => by cases e; exact (h.1.far g rfl).1), ?_⟩
  · obtain ⟨h1, h2⟩ := h.2.2.1 b o e
    have h3 := hb.size
    rcases hat with hat | hat
    · simp only [Option.some.injEq] at hat
      omega
    · omega
  · have h2 := (h.2.2.1 b o e).2
    have h3 := hb.size
    have h4 := hg.size
    omega
  · subst hx
    exact h.2.2.2.2.new hs hk ho (last_apart h.2.2.2.2.can hl)
theorem set_last {M : List Sp} {s : Nat} (h : M.length = s + 1) (y : Sp) : M.set s y = M.take s ++ [y] := by
  rw [List.set_eq_take_append_cons_drop, if_pos (by omega), List.drop_of_length_le (by omega)]
theorem JWay.wide {es M : List Sp} {k m g s c' : Nat} {q : Option Addr} {w wr wa : World} {xa xb ja jb : Int} (h : JWay es M k q m g (s + 1) c' w wr) (hk : k < es.length) (hx : es[k] = (xa, xb)) (ho : okB (xa, xb) = true) (hl : s < M.length) (hj : M[s] = (ja, jb)) (ha : xa ≤ jb + 1)
    (hb : RowKit.Below wr.heap.size wr wa) {v : Int} (hv : max jb xb = v) : JWay es (M.set s (ja, v)) (k + 1) q m g (s + 1) c' w (wa.setCell ⟨g, s * 2 + 1, none⟩ (.int .i64 v)) := by
  subst hv
  have hMx : M[s]? = some (ja, jb) := by rw [List.getElem?_eq_getElem hl, hj]
  obtain ⟨h1, h2⟩ := (h.1.below hb).stored (j := 1) (y := (ja, max jb xb)) (v := .int .i64 (max jb xb)) hMx rfl (by decide)
  have hlen := h.1.len
  refine ⟨h1.wide (Nat.le_refl _) (Nat.le_trans hb.size h2.size) (Nat.le_refl _), (h.2.1.below hb).grown h2 (fun b o e hh => (h.2.2.1 b o e).1 (by simpa using hh)), fun b o e => ⟨(h.2.2.1 b o e).1, Nat.lt_of_lt_of_le (h.2.2.1 b o e).2 (Nat.le_trans hb.size h2.size)⟩, (below_on h.2.2.2.1 hb).grown h2 (Nat.le_trans h.2.2.2.1.size hb.size) (fun k e => by cases e; exact (h.1.far g rfl).1), ?_⟩
  rw [set_last hlen]
  have e1 : M = M.take s ++ [(ja, jb)] := by
    have h3 := take_at hl
    rw [List.take_of_length_le (by omega), hj] at h3
    exact h3
  have h4 := h.2.2.2.2
  rw [e1] at h4
  have h5 := h4.wide hk (by rw [hx]; exact ho) (by rw [hx]; exact Int.not_lt.2 ha)
  rw [hx] at h5
  exact h5
/-- append of one element, and where the new row lies -/
theorem wpList_appL {α : Type} {E : En α} {T : TypeId} {P : Program} {w : World} {ops : Array Oper} {rest : List Oper} {o : Oper} {a : Act} {Q : Exit → Act → World → Prop} {lo hi : Nat} {p : Option Addr} {n c : Nat} {xs : List α}
    (hgd : o.guard = none) (s x : Operand) (t : TypeId) (ho : o.op = .call { callee := .builtin .append, args := #[s, x], argTypes := #[t, t] })
    (i : TypeInfo) (z : Value) (bytes : Nat) (ht : P.underlying t = some (.slice T)) (hi' : P.info? T = some i) (hz : i.zero = some z) (hsize : i.size = E.C) (hby : i.bytes = bytes) (hzs : z.cells.size = E.C)
    (hs : a.eval s = .slice p n c) (how : OwS E T w lo hi p n c xs) (b' cc : Nat) (y : α) (hx : a.eval x = .slice (some ⟨b', 0, none⟩) 1 cc) (hr : RdS E w (some ⟨b', 0, none⟩) 1 [y])
    (hlo : lo ≤ w.heap.size) (hb : (n + 1) * bytes ≤ 140737488355328) (hb' : n + 1 ≤ 140737488355328)
    (h : ∀ g c' w', OwS E T w' lo w'.heap.size (some ⟨g, 0, none⟩) (n + 1) c' (xs ++ [y]) → w.grownBy w' (Value.slice p n c).ownBlock → ((Value.slice p n c).ownBlock = some g ∨ g = w.heap.size) → wpList P ops Q rest (a.put o.dst (.slice (some ⟨g, 0, none⟩) (n + 1) c')) w') : wpList P ops Q (o :: rest) a w := by
  refine wpList_append_lies w hgd s x t ho lo T i z E.C bytes ht hi' hz hsize hby hzs E.pos _ n _ hs how.own ⟨b', 0, none⟩ 1 cc (fl E [y]) hx (by rw [fl_len]; rfl) (fun q u hu => ?_) (fl_one' E [y]) (by decide) (by unfold maxLen; omega) hb hlo w.heap.size rfl ?_
  · obtain ⟨i2, x2, j2, rfl, hj, hx2, hv⟩ := fl_of E hu
    obtain ⟨b, o', e, _, hc⟩ := hr.2.2 (by decide)
    simp only [Option.some.injEq, Addr.mk.injEq, and_true] at e
    obtain ⟨rfl, rfl⟩ := e
    rw [Addr.add_lit, ← Nat.add_assoc]
    exact hc i2 x2 hx2 j2 u hv
  · intro g cap w' hown hg hat _
    rw [← fl_append] at hown
    exact h g cap w' (OwS.of_row hown) hg hat
set_option maxRecDepth 100000 in
set_option maxHeartbeats 4000000 in
theorem join_any (p : Option Addr) (n c : Nat) (xs : List Sp) (w : World) (hr : RdS E w p n xs) (hn : n ≤ 1099511627776) : Calls Try.prog 70 #[.slice p n c] w (Makes (join xs) w) := by
  obtain ⟨i0, hi, hz0, hz1, hz2⟩ := info_parts ends_info
  have HR := Lib.hid hr
  have HL := Lib.hid hr.len
  have hle := hr.le
  clear hr
  go_enter Try.func70, Try.ntmps70
  go_wp2_with fail
  refine (ends_any _ _ _ _ _ (HR.out.alloc _) hn).mono ?_
  rintro e w1 ⟨q, m, cq, es, rfl, ho, hb1, ha, hp⟩
  have HE := Lib.hid ho
  have HEr := Lib.hid ho.rd
  have hme := ho.rd.le
  have HEL := Lib.hid ho.len
  have HA := Lib.hid ha
  have HP := Lib.hid hp
  have hm : m ≤ n := by
    have h1 := ho.len
    have h2 := hp.length_eq
    have h3 : (xs.filter okB).length ≤ xs.length := List.length_filter_le _ _
    have h4 := HL.out
    omega
  have HB1 : Hid (RowKit.Below w.heap.size w w1) := Lib.hid (((Below.refl w.heap.size w).alloc (Nat.le_refl _) _).trans (hb1.mono (by simp)))
  have HJ1 : Hid (JWay es [] 0 q m w.heap.size 0 0 w w1) := Lib.hid (by
    have h := (empty_own 125 w w.heap.size (Nat.le_refl _)).below hb1
    refine ⟨h.wide (Nat.le_refl _) hb1.size (Nat.le_refl _), ho.rd, fun b o e => ?_, HB1.out, Srt.start es⟩
    rcases ho.form with ⟨h1, _⟩ | ⟨g, h1, h2, h3, _⟩
    · rw [h1] at e; cases e
    · rw [h1] at e
      simp only [Option.some.injEq, Addr.mk.injEq, and_true] at e
      rw [World.size_alloc] at h2
      omega)
  have HOK : Hid (∀ x ∈ es, okB x = true) := Lib.hid fun x hx => by
    have h := hp.mem_iff.1 hx
    rw [List.mem_filter] at h
    exact h.2
  clear ho hb1 ha hp
  go_wp2_with fail
  go_loopw [3, 11] (fun v i wr => ∃ (k g r c' : Nat) (M : List Sp), k ≤ m ∧ i = .int .i64 k ∧ v = .slice (some ⟨g, 0, none⟩) r c' ∧ Hid (JWay es M k q m g r c' w wr)) (fun _ i _ => m - (intOf i).toNat)
  case atStart => exact ⟨0, _, _, _, [], Nat.zero_le _, rfl, rfl, HJ1⟩
  case round =>
    obtain ⟨k, g, r, c', M, hk, rfl, rfl, HK⟩ := hrel
    by_cases hlt : k < m
    · obtain ⟨b, o, rfl, hb, hat⟩ := rd_at HK.out.2.1 hlt
      have hkL : Hid (k < es.length) := Lib.hid (by rw [HEL.out]; exact hlt)
      obtain ⟨⟨xa, xb⟩, hx, HX⟩ : ∃ x, es.getD k zero = x ∧ Hid (es[k]'hkL.out = x) := ⟨_, rfl, Lib.hid (by rw [List.getD_eq_getElem?_getD, List.getElem?_eq_getElem hkL.out]; rfl)⟩
      rw [hx] at hat
      obtain ⟨hc0, hc1⟩ := hat
      have HOx : Hid (okB (xa, xb) = true) := Lib.hid (HOK.out (xa, xb) (by rw [← HX.out]; exact List.getElem_mem _))
      have hox := okB_yes HOx.out
      obtain ⟨vx1, vx2, vx3, vx4, vx5⟩ := hox
      simp only at hc0 hc1 vx1 vx2 vx3 vx4 vx5
      clear hx
      have hrk : r ≤ k := by have h1 := HK.out.1.len; have h2 := HK.out.2.2.2.2.len; omega
      have hrl : Hid (M.length = r) := Lib.hid HK.out.1.len
      have hgw : g < wr.heap.size := (HK.out.1.far g rfl).2
      have hbg := (HK.out.2.2.1 b o rfl).1
      have hrc := HK.out.1.le
      rcases Nat.eq_zero_or_pos r with hr0 | hr0
      · subst hr0
        have hd1 : decide ((-1 : Int) < 0) = true := by decide
        go_wp2_with fail
        go_quiet (fail)
        go_wp2_with (at_builtin; refine wpList_appL rfl (.tmp 31) (.tmp 33) 122 rfl i0 _ 16 Try.underlying122 hi hz0 hz1 hz2 rfl rfl (((HK.out.1.alloc _).drewN _).alloc _) (wr.heap.size + 1) 1 (xa, xb) rfl (one_rdG _ _ (wr.heap.size + 1) (xa, xb) (by simp)) (Nat.le_trans HK.out.2.2.2.1.size (by simp; omega)) (by omega) (by omega) ?_; intro g3 c3 w3 how3 hg3 hat3; have HK3 := Lib.hid (HK.out.new HA.out hkL.out HX.out HOx.out (fun h => absurd h (by rw [hrl.out]; exact Nat.lt_irrefl 0)) ((below_drewN ((Below.refl wr.heap.size wr).alloc (Nat.le_refl _) _) _).alloc (by simp) _) how3 hg3 hat3); clear how3 hg3 hat3)
        go_roundw
        case rel => exact ⟨k + 1, _, _, _, _, by omega, by go_num, rfl, HK3⟩
        case measure => simp [intOf]; omega
      · obtain ⟨s, rfl⟩ : ∃ s, r = s + 1 := ⟨r - 1, by omega⟩
        have hl : s < M.length := by rw [hrl.out]; omega
        obtain ⟨⟨ja, jb⟩, HJ⟩ : ∃ x, Hid (M[s]'hl = x) := ⟨_, Lib.hid rfl⟩
        have hMx : M[s]? = some (ja, jb) := by rw [List.getElem?_eq_getElem hl, HJ.out]
        have hj0 := HK.out.1.cell (j := 0) hMx rfl
        have hj1 := HK.out.1.cell (j := 1) hMx rfl
        have hf := HK.out.1.free (i := s * 2 + 1)
        obtain ⟨vj1, vj2, vj3, vj4, vj5⟩ := okB_yes (HK.out.2.2.2.2.can.ok (List.mem_of_getElem? hMx))
        simp only [C_eq] at hj0 hj1
        simp only at vj1 vj2 vj3 vj4 vj5
        have i1 : (0 : Int) ≤ (s : Int) := by omega
        have i2 : (s : Int) < (s : Int) + 1 := by omega
        have hd1 : decide ((s : Int) < 0) = false := decide_eq_false (by omega)
        by_cases hap : jb + 1 < xa
        · have hd2 : decide (jb + 1 < xa) = true := decide_eq_true hap
          go_wp2_with fail
          go_quiet (fail)
          go_wp2_with (at_builtin; refine wpList_appL rfl (.tmp 31) (.tmp 33) 122 rfl i0 _ 16 Try.underlying122 hi hz0 hz1 hz2 rfl rfl (((HK.out.1.alloc _).drewN _).alloc _) (wr.heap.size + 1) 1 (xa, xb) rfl (one_rdG _ _ (wr.heap.size + 1) (xa, xb) (by simp)) (Nat.le_trans HK.out.2.2.2.1.size (by simp; omega)) (by omega) (by omega) ?_; intro g3 c3 w3 how3 hg3 hat3; have HK3 := Lib.hid (HK.out.new HA.out hkL.out HX.out HOx.out (fun _ => by rw [show M[M.length - 1] = M[s]'hl from by congr 1; rw [hrl.out]; rfl, HJ.out]; exact hap) ((below_drewN ((Below.refl wr.heap.size wr).alloc (Nat.le_refl _) _) _).alloc (by simp) _) how3 hg3 hat3); clear how3 hg3 hat3)
          go_roundw
          case rel => exact ⟨k + 1, _, _, _, _, by omega, by go_num, rfl, HK3⟩
          case measure => simp [intOf]; omega
        · have hd2 : decide (jb + 1 < xa) = false := decide_eq_false hap
          have HAP : Hid (xa ≤ jb + 1) := Lib.hid (Int.not_lt.1 hap)
          go_wp2_with fail
          go_quiet (fail)
          go_wp2_with fail
          obtain ⟨v, hv⟩ : ∃ v, max jb xb = v := ⟨_, rfl⟩
          have HV := Lib.hid hv
          have HMX : Hid (∀ W, Calls Try.prog 92 #[.int .i64 jb, .int .i64 xb] W fun e w' => e = .returned (.int .i64 v) ∧ RowKit.Below W.heap.size W w') := Lib.hid fun W => by
            rw [← hv]
            exact max_b _ _ _
          clear hv
          have hgn : g ≠ wr.heap.size := by omega
          go_region_with (go_at_call 92; refine (HMX.out _).mono ?_; rintro e w2 ⟨rfl, hb2⟩; have HB2 := Lib.hid ((below_drewN ((Below.refl wr.heap.size wr).alloc (Nat.le_refl _) (.cells #[.int .i64 xa, .int .i64 xb] 125)) _).trans (hb2.mono (by simp))); have hs1 := (HK.out.1.below HB2.out).cell (j := 1) hMx rfl; have hs2 := (HK.out.1.below HB2.out).free (i := s * 2 + 1); simp only [C_eq] at hs1; have HK3 := Lib.hid (HK.out.wide hkL.out HX.out HOx.out hl HJ.out HAP.out HB2.out HV.out); clear hb2)
          all_goals
            go_wp2_with fail
            refine ⟨⟨k + 1, _, _, _, _, by omega, by go_num, rfl, HK3⟩, by simp [intOf]; omega⟩
    · obtain rfl : k = m := by omega
      have HM := Lib.hid HK.out.1.rd
      have HBr := Lib.hid HK.out.2.2.2.1
      have HS := Lib.hid HK.out.2.2.2.2
      have hrk : r ≤ k := by have h1 := HK.out.1.len; have h2 := HK.out.2.2.2.2.len; omega
      go_wp2_with fail
      refine (spans_any _ _ _ M _ HM.out (by omega)).mono ?_
      rintro e w2 ⟨p2, n2, c2, rfl, ho, hb2⟩
      have HO := Lib.hid ho
      have HB2 := Lib.hid (below_on HBr.out hb2)
      clear ho hb2
      go_wp2_with fail
      go_ret
      have h1 := HS.out
      rw [← HEL.out] at h1
      have h2 := h1.done (L := xs) fun t => by rw [Has_perm (fun x => HP.out.mem_iff) t, Has_filter]
      have h3 := HO.out
      rw [h2] at h3
      exact ⟨_, _, _, rfl, h3.wide HBr.out.size (Nat.le_refl _) (Nat.le_refl _), HB2.out⟩
end Go.Proofs.Ytlgkgccmilapbaa.Ji
