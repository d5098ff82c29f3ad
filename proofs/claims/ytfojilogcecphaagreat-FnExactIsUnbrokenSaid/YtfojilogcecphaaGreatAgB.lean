/- The edges of spans, sorted, in the program. Contracts: how many spans have a time, what is supported, who disagrees; in the program and in the reference. Contracts of AgreedSpan, in the program (a sweep over sorted edges) and in the reference. -/
import Derived.Test.YtfojilogcecphaaGreatJoA
import Derived.Test.YtfojilogcecphaaGreatAgA
import Derived.Test.YtfojilogcecphaaGreatSlSpan
import Derived.Test.YtfojilogcecphaaGreatSp
import Derived.Test.YtfojilogcecphaaGreatFnd
import Derived.Test.YtfojilogcecphaaGreatSlI
import Derived.Test.YtfojilogcecphaaGreatSrA
import Derived.Deep.RegionHeld3
import Derived.LoopTactic
import Derived.Outline
import Derived.Test.YtfojilogcecphaaGreatMin
namespace Go.Proofs.YtfojilogcecphaaGreat.Age
open Go.ChangeShapes Go.WideShapes Go.ChangeAt Go.RowKit Go.Shelf Go.Sort Sl St Jn Sps SlSpan Jo Ji
def or2 (a b : Int) : Int := if a = 0 then b else a
set_option maxRecDepth 100000 in
set_option maxHeartbeats 4000000 in
theorem or2_any (g : Nat) (a b : Int) (w : World) (h : Bx w g 3 #[.int .i64 a, .int .i64 b]) : Calls Tryz.prog 174 #[.slice (some ⟨g, 0, none⟩) 2 2] w fun e w' => e = .returned (.int .i64 (or2 a b)) ∧ w = w' := by
  have HX := Lib.hid h
  clear h
  have c0 := HX.out.cell (j := 0) rfl
  have c1 := HX.out.cell (j := 1) rfl
  rcases Classical.em (a = 0) with ha | ha
  rotate_left
  · have HE : Hid (or2 a b = a) := Lib.hid (if_neg ha)
    have e1 : (a != 0) = true := bne_iff_ne.2 ha
    have e2 : (a == 0) = false := beq_eq_false_iff_ne.2 ha
    clear ha
    go_enter Tryz.func174, Tryz.ntmps174
    go_wp2_with fail
    go_loop [8] (fun i => i = .int .i64 0) (fun _ => 0)
    case atStart => rfl
    case round =>
      obtain rfl := hrel
      go_wp2_with fail
      go_ret
      exact ⟨by rw [HE.out]; rfl, rfl⟩
  subst ha
  have HE : Hid (or2 0 b = b) := Lib.hid (if_pos rfl)
  rcases Classical.em (b = 0) with hb | hb
  rotate_left
  · have e1 : (b != 0) = true := bne_iff_ne.2 hb
    have e2 : (b == 0) = false := beq_eq_false_iff_ne.2 hb
    clear hb
    go_enter Tryz.func174, Tryz.ntmps174
    go_wp2_with fail
    go_loop [8] (fun i => i = .int .i64 0 ∨ i = .int .i64 1) (fun i => 3 - (intOf i).toNat)
    case atStart => exact Or.inl rfl
    case round =>
      rcases hrel with rfl | rfl
      · go_wp2_with fail
        go_round
        case rel => exact Or.inr rfl
        case measure => simp [intOf]
      · go_wp2_with fail
        go_ret
        exact ⟨by rw [HE.out]; rfl, rfl⟩
  subst hb
  go_enter Tryz.func174, Tryz.ntmps174
  go_wp2_with fail
  go_loop [8] (fun i => i = .int .i64 0 ∨ i = .int .i64 1 ∨ i = .int .i64 2) (fun i => 4 - (intOf i).toNat)
  case atStart => exact Or.inl rfl
  case round =>
    rcases hrel with rfl | rfl | rfl
    · go_wp2_with fail
      go_round
      case rel => exact Or.inr (Or.inl rfl)
      case measure => simp [intOf]
    · go_wp2_with fail
      go_round
      case rel => exact Or.inr (Or.inr rfl)
      case measure => simp [intOf]
    · go_wp2_with fail
      go_ret
      exact ⟨by rw [HE.out]; rfl, rfl⟩
set_option maxRecDepth 100000 in
set_option maxHeartbeats 4000000 in
theorem edge_cmp (x y : Sp) (W : World) : Calls Tryz.prog 183 #[.agg #[.int .i64 x.1, .int .i64 x.2], .agg #[.int .i64 y.1, .int .i64 y.2]] W fun e w' => e = .returned (.int .i64 (cf x y)) ∧ ∃ q os', w' = grow (W.drewN q) os' := by
  have k0 := cells2 W 223 x y
  have kx := (Bx.new ((W.alloc (.cells #[.int .i64 x.1, .int .i64 x.2] 223)).alloc (.cells #[.int .i64 y.1, .int .i64 y.2] 223)) 3 #[.int .i64 (Go.Lib.compareInt x.1 y.1), .int .i64 (Go.Lib.compareInt x.2 y.2)]).drew1
  have ez : ((W.alloc (.cells #[.int .i64 x.1, .int .i64 x.2] 223)).alloc (.cells #[.int .i64 y.1, .int .i64 y.2] 223)).heap.size = W.heap.size + 1 + 1 := by rw [World.size_alloc, World.size_alloc]
  rw [ez] at kx
  have HKX := Lib.hid kx
  have HE : Hid (or2 (Go.Lib.compareInt x.1 y.1) (Go.Lib.compareInt x.2 y.2) = cf x y) := Lib.hid rfl
  clear kx ez
  go_enter Tryz.func183, Tryz.ntmps183
  go_wp2_with fail
  go_region_held3 (fun w' => w'.cell? ⟨W.heap.size, 0, none⟩ = some (.int .i64 x.1) ∧ w'.cell? ⟨W.heap.size, 1, none⟩ = some (.int .i64 x.2) ∧ w'.cell? ⟨W.heap.size + 1, 0, none⟩ = some (.int .i64 y.1) ∧ w'.cell? ⟨W.heap.size + 1, 1, none⟩ = some (.int .i64 y.2)) (first | exact k0 | go_keep | fail) (first
    | (go_at_call 176; (with_reducible refine (Cm.cmp_any _ _ _).mono ?_); rintro e w1 ⟨rfl, rfl⟩)
    | (go_at_call 174; (with_reducible refine (or2_any _ _ _ _ HKX.out).mono ?_); rintro e w1 ⟨rfl, rfl⟩; rw [HE.out])
    | fail)
  go_wp2_with fail
  go_ret
  exact ⟨rfl, 1, #[(.cells #[.int .i64 x.1, .int .i64 x.2] 223), (.cells #[.int .i64 y.1, .int .i64 y.2] 223), (.cells #[.int .i64 (Go.Lib.compareInt x.1 y.1), .int .i64 (Go.Lib.compareInt x.2 y.2)] 3)], by
    show (((W.drew.alloc _).alloc _).alloc _) = _
    rw [alloc_eq_grow, alloc_eq_grow, alloc_eq_grow, grow_grow, grow_grow]
    rfl⟩
theorem asc2_of {d : Array Sp} (h : SortedIn (ltOf cf) 0 d.size d) : d.toList.Pairwise Agm.le2 := by
  rw [List.pairwise_iff_getElem]
  intro i j hi hj hij
  have hj2 : j < d.size := by simpa using hj
  have h1 := h i j (Nat.zero_le _) hij hj2
  rw [lt_eq, getElem!_pos d j hj2, getElem!_pos d i (Nat.lt_trans hij hj2)] at h1
  have h2 := of_decide_eq_false h1
  simp only [Array.getElem_toList]
  unfold Agm.le2
  omega
theorem sort_any {lo hi n c : Nat} {p : Option Addr} {xs : List Sp} {w : World} (ho : OwS E 223 w lo hi p n c xs) (hn : n ≤ 1099511627776) :
    Calls Tryz.prog 182 #[.slice p n c, .func (.func 183) #[] #[]] w fun e w' => e = .returned (.tuple #[]) ∧ ∃ ys : List Sp, ys.Perm xs ∧ ys.Pairwise Agm.le2 ∧ OwS E 223 w' lo hi p n c ys ∧ w.grownBy w' (Value.slice p n c).ownBlock := by
  rcases Nat.eq_zero_or_pos n with h0 | h0
  · subst h0
    refine (AnyF.slices_SortFunc_none Tryz.laysSortspanEdge p c _ w).mono ?_
    rintro e w' ⟨rfl, rfl⟩
    obtain rfl : xs = [] := List.eq_nil_of_length_eq_zero ho.len
    exact ⟨rfl, [], List.Perm.refl _, List.Pairwise.nil, ho, ⟨rfl, rfl, rfl, Nat.le_refl _, fun _ _ _ => rfl⟩⟩
  · obtain ⟨g, rfl, hg⟩ : ∃ g, p = some ⟨g, 0, none⟩ ∧ g < w.heap.size := by
      rcases ho.form with ⟨_, h1, _⟩ | ⟨g, h1, h2, h3, _⟩
      · omega
      · exact ⟨g, h1, Nat.lt_of_lt_of_le h3 ho.2.2.1⟩
    have hs : xs.toArray.size = n := by rw [List.size_toArray]; exact ho.len
    have h := AnyQ.slices_SortFunc Tryz.laysSortspanEdge 2 Tryz.isAgg223 Tryz.sizeOf223 E.of E.len E.one cf cf_swo 183 #[] g 0 c xs.toArray w (enters_of Tryz.func183 (by kernel_rfl) rfl) (fun _ _ _ _ x y => edge_cmp x y _) ho.holds hg (by rw [hs]; omega)
    rw [hs] at h
    refine Calls.mono h ?_
    rintro e w' ⟨rfl, d', q, os, h1, h2, rfl⟩
    have h1' : PermIn 0 xs.toArray.size xs.toArray d' := by rw [hs]; exact h1
    have h3 := perm_of h1'
    have hd : d'.size = n := h1.1.trans hs
    have h4 := own_sorted ho q os (ys := d'.toList) (by rw [Array.length_toList]; exact hd)
    rw [Array.toArray_toList] at h4
    exact ⟨rfl, d'.toList, h3, asc2_of (by rw [hd]; exact h2), h4.1, h4.2⟩
theorem edge_info : (Tryz.prog.info? 223).map (fun i => (i.zero, i.size, i.bytes)) = some (some (.agg #[.int .i64 0, .int .i64 0]), 2, 16) := by kernel_rfl
theorem es_snoc (l : List Sp) (x : Sp) : Agm.es okB (l ++ [x]) = Agm.es okB l ++ (if okB x = true then [(x.1, 0), (x.2, 1)] else []) := by
  unfold Agm.es
  rw [List.flatMap_append]
  simp
theorem es_no {xs : List Sp} {k : Nat} {x : Sp} (hk : k < xs.length) (hx : xs[k] = x) (h : okB x = false) : Agm.es okB (xs.take (k + 1)) = Agm.es okB (xs.take k) := by
  subst hx
  rw [take_at hk, es_snoc]
  simp [h]
theorem es_yes {xs : List Sp} {k : Nat} {x : Sp} (hk : k < xs.length) (hx : xs[k] = x) (h : okB x = true) : Agm.es okB (xs.take (k + 1)) = Agm.es okB (xs.take k) ++ [(x.1, 0), (x.2, 1)] := by
  subst hx
  rw [take_at hk, es_snoc]
  simp [h]
theorem es_len : ∀ l : List Sp, (Agm.es okB l).length ≤ 2 * l.length
  | [] => by simp [Agm.es]
  | s :: l => by
    have := es_len l
    rw [Agm.es_cons, List.length_append, List.length_cons]
    split <;> simp <;> omega
theorem two_own (T : TypeId) (w : World) (lo : Nat) (x y : Sp) (h : lo ≤ w.heap.size) : OwS E T (w.alloc (.cells #[.int .i64 x.1, .int .i64 x.2, .int .i64 y.1, .int .i64 y.2] T)) lo (w.alloc (.cells #[.int .i64 x.1, .int .i64 x.2, .int .i64 y.1, .int .i64 y.2] T)).heap.size (some ⟨w.heap.size, 0, none⟩) 2 2 [x, y] := lit_own E T w lo [x, y] _ 2 rfl rfl (by unfold maxLen; omega) h
/-- The call answers a new slice of the edges of the valid spans, in order. -/
def Sorts (xs : List Sp) (w : World) (e : Ending) (w' : World) : Prop := ∃ p n c ys, e = .returned (.slice p n c) ∧ OwS E 223 w' w.heap.size w'.heap.size p n c ys ∧ Below w.heap.size w w' ∧ ys.Pairwise Agm.le2 ∧ ys.Perm (Agm.es okB xs)
set_option maxRecDepth 100000 in
set_option maxHeartbeats 4000000 in
theorem edges_any (p : Option Addr) (n c : Nat) (xs : List Sp) (w : World) (hr : RdS E w p n xs) (hn : n ≤ 1048576) : Calls Tryz.prog 159 #[.slice p n c] w (Sorts xs w) := by
  obtain ⟨i0, hi, hz0, hz1, hz2⟩ := info_parts edge_info
  have HR := Lib.hid hr
  have HL := Lib.hid hr.len
  have HM : Hid (OwS E 223 (w.alloc (.cells #[] 223)) w.heap.size (w.alloc (.cells #[] 223)).heap.size (some ⟨w.heap.size, 0, none⟩) 0 0 (Agm.es okB (xs.take 0))) := Lib.hid (empty_own _ w _ (Nat.le_refl _))
  have HB : Hid (Below w.heap.size w (w.alloc (.cells #[] 223))) := Lib.hid ((Below.refl w.heap.size w).alloc (Nat.le_refl _) _)
  have hle := hr.le
  clear hr
  go_enter Tryz.func159, Tryz.ntmps159
  go_wp2_with fail
  go_loopw [3, 9] (fun v i wr => ∃ (k m c' : Nat) (p' : Option Addr), k ≤ n ∧ i = .int .i64 k ∧ v = .slice p' m c' ∧ Hid (OwS E 223 wr w.heap.size wr.heap.size p' m c' (Agm.es okB (xs.take k))) ∧ Hid (RowKit.Below w.heap.size w wr)) (fun _ i _ => n - (intOf i).toNat)
  case atStart => exact ⟨0, _, _, _, Nat.zero_le _, rfl, rfl, HM, HB⟩
  case round =>
    obtain ⟨k, m, c', p', hk, rfl, rfl, HK, HBr⟩ := hrel
    have hm : m ≤ 2 * n := by
      have h1 := HK.out.len
      have h2 := es_len (xs.take k)
      have h3 : (xs.take k).length ≤ k := by rw [List.length_take]; omega
      omega
    by_cases hlt : k < n
    · obtain ⟨b, o, rfl, hb, hat⟩ := rd_at (HR.out.below HBr.out) hlt
      have hkL : Hid (k < xs.length) := Lib.hid (by rw [HL.out]; exact hlt)
      generalize hx : xs.getD k zero = x at hat
      have HX := Lib.hid (getD_at hkL.out hx)
      obtain ⟨xa, xb⟩ := x
      obtain ⟨hc0, hc1⟩ := hat
      simp only at hc0 hc1
      clear hx
      have hsz := HBr.out.size
      rcases hok : okB (xa, xb) with _ | _
      all_goals
        have HOk := Lib.hid hok
        clear hok
        go_wp2_with fail
        refine (isSpan_any _ _ _).mono ?_
        rintro e w1 ⟨rfl, hb1⟩
        rw [HOk.out]
        have HK1 := Lib.hid (((HK.out.alloc _).below hb1).wide (Nat.le_refl _) (Nat.le_trans (by simp) hb1.size) (Nat.le_refl _))
        have HB1 := Lib.hid (below_on (HBr.out.alloc HBr.out.size _) hb1)
        have hsz1 := HB1.out.size
        have HBX := Lib.hid ((Bx.new wr 105 #[.int .i64 xa, .int .i64 xb]).below hb1)
        obtain ⟨q0, q1, q2, q3⟩ := HBX.out.two
        have hwl : w.heap.size < w1.heap.size := Nat.lt_of_le_of_lt hsz HBX.out.lt
        clear hb1
      · have HN : Hid (Agm.es okB (xs.take (k + 1)) = Agm.es okB (xs.take k)) := Lib.hid (es_no hkL.out HX.out HOk.out)
        go_wp2_with fail
        go_roundw
        case rel => exact ⟨k + 1, _, _, _, by omega, by go_num, rfl, Lib.hid (by rw [HN.out]; exact HK1.out), HB1⟩
        case measure => simp [intOf]; omega
      · have HN : Hid (Agm.es okB (xs.take (k + 1)) = Agm.es okB (xs.take k) ++ [(xa, 0), (xb, 1)]) := Lib.hid (es_yes hkL.out HX.out HOk.out)
        go_wp2_with (at_builtin; refine wpList_appS rfl (.tmp 15) (.tmp 22) 220 rfl i0 _ 16 Tryz.underlying220 hi hz0 hz1 hz2 rfl rfl (HK1.out.alloc _) (some ⟨w1.heap.size, 0, none⟩) 2 2 [(xa, 0), (xb, 1)] rfl (two_own _ w1 0 (xa, 0) (xb, 1) (Nat.zero_le _)).rd (Nat.le_trans hsz1 (by simp)) (by omega) (by omega) ?_; intro p3 c3 w3 how3 hg3; have HK3 := Lib.hid (how3.wide (Nat.le_refl _) (Nat.le_refl _) (Nat.le_refl _)); have HB3 := Lib.hid (below_rowS (HB1.out.alloc hsz1 _) (HK1.out.alloc _) hg3 (Nat.le_refl _)); clear how3 hg3)
        go_roundw
        case rel => exact ⟨k + 1, _, _, _, by omega, by go_num, rfl, Lib.hid (by rw [HN.out]; exact HK3.out), HB3⟩
        case measure => simp [intOf]; omega
    · obtain rfl : k = n := by omega
      go_wp2_with fail
      refine (sort_any HK.out (by omega)).mono ?_
      rintro e w1 ⟨rfl, ys, hp, ha, ho, hg⟩
      have HO := Lib.hid ho
      have HW := Lib.hid (below_rowS HBr.out HK.out hg (Nat.le_refl _))
      have HP := Lib.hid hp
      have HA := Lib.hid ha
      have HS := Lib.hid hg.size
      clear ho hg hp ha
      go_wp2_with fail
      go_ret
      have hp := HP.out
      rw [List.take_of_length_le (by rw [HL.out]; exact Nat.le_refl _)] at hp
      exact ⟨_, _, _, ys, rfl, HO.out.wide (Nat.le_refl _) HS.out (Nat.le_refl _), HW.out, HA.out, hp⟩
end Go.Proofs.YtfojilogcecphaaGreat.Age

namespace Go.Proofs.YtfojilogcecphaaGreat.Co
open Go.ChangeShapes Go.WideShapes Go.ChangeAt Go.RowKit Sl St Jn Sps SlSpan Ints

abbrev zs : Sp := SlSpan.zero
def has (t : Int) (s : Sp) : Bool := okB s && decide (s.1 ≤ t ∧ t ≤ s.2)
def cnt (xs : List Sp) (t : Int) : Nat := xs.countP (has t)
theorem cnt_le (xs : List Sp) (t : Int) : cnt xs t ≤ xs.length := List.countP_le_length
theorem cnt_yes {xs : List Sp} {k : Nat} {t : Int} {x : Sp} (hk : k < xs.length) (hx : xs.getD k zs = x) (h : has t x = true) : cnt (xs.take (k + 1)) t = cnt (xs.take k) t + 1 := by
  unfold cnt
  rw [Fnd.take_succ zs hk, List.countP_append, hx]
  simp [h]
theorem cnt_no {xs : List Sp} {k : Nat} {t : Int} {x : Sp} (hk : k < xs.length) (hx : xs.getD k zs = x) (h : has t x = false) : cnt (xs.take (k + 1)) t = cnt (xs.take k) t := by
  unfold cnt
  rw [Fnd.take_succ zs hk, List.countP_append, hx]
  simp [h]
theorem cnt_take (xs : List Sp) (t : Int) (k : Nat) : cnt (xs.take k) t ≤ k := Nat.le_trans (cnt_le _ _) (by rw [List.length_take]; omega)
theorem box1 (w : World) (o : Obj) : Below w.heap.size w (w.alloc o) := (Below.refl _ _).alloc (Nat.le_refl _) _
theorem has_off {a b t : Int} (h : okB (a, b) = false) : has t (a, b) = false := by unfold has; rw [h]; rfl
theorem has_on {a b t : Int} (h : okB (a, b) = true) : has t (a, b) = decide (a ≤ t ∧ t ≤ b) := by unfold has; rw [h]; rfl
set_option maxRecDepth 100000 in
set_option maxHeartbeats 4000000 in
theorem spec_countAt_any (p : Option Addr) (n c : Nat) (xs : List Sp) (t : Int) (w : World) (hr : RdS E w p n xs) : Calls Tryz.prog 150 #[.slice p n c, .int .i64 t] w (SlSpan.Val (.int .i64 (cnt xs t : Nat)) w) := by
  have HR := Lib.hid hr
  have HL := Lib.hid hr.len
  have hle := hr.le
  clear hr
  go_enter Tryz.func150, Tryz.ntmps150
  go_wp2_with fail
  go_loopw [5, 6] (fun v i wr => ∃ k m : Nat, k ≤ n ∧ m ≤ k ∧ i = .int .i64 k ∧ v = .int .i64 (m : Nat) ∧ Hid (m = cnt (xs.take k) t) ∧ Hid (Below w.heap.size w wr)) (fun _ i _ => n - (intOf i).toNat)
  case atStart => exact ⟨0, 0, Nat.zero_le _, Nat.zero_le _, rfl, rfl, Lib.hid (by simp [cnt]), Lib.hid (Below.refl _ _)⟩
  case round =>
    obtain ⟨k, m, hk, hmk, rfl, rfl, HM, HB⟩ := hrel
    by_cases hlt : k < n
    · obtain ⟨b, o, rfl, hb, hat⟩ := rd_at (HR.out.below HB.out) hlt
      have hkx : k < xs.length := by rw [HL.out]; exact hlt
      generalize hx : xs.getD k zero = x at hat
      obtain ⟨xa, xb⟩ := x
      have HA := Lib.hid hat
      obtain ⟨c0, c1⟩ := hat
      rcases hβ : okB (xa, xb) with _ | _
      · have HO := Lib.hid hβ
        have HN := Lib.hid (cnt_no (t := t) hkx hx (has_off hβ))
        clear hβ hx
        go_wp2_with fail
        refine (spec_isSpan_any _ _ _).mono ?_
        rintro e w1 ⟨rfl, hb1⟩
        rw [HO.out]
        have HB2 := Lib.hid (below_on HB.out hb1)
        clear hb1
        go_wp2_with fail
        go_roundw
        case rel => exact ⟨k + 1, m, by omega, by omega, by go_num, rfl, Lib.hid (by rw [HN.out]; exact HM.out), HB2⟩
        case measure => simp [intOf]; omega
      · have HO := Lib.hid hβ
        by_cases h1 : xa ≤ t <;> by_cases h2 : t ≤ xb
        all_goals
          first
            | (have HN := Lib.hid (cnt_yes (t := t) hkx hx (by rw [has_on hβ]; exact decide_eq_true ⟨h1, h2⟩)))
            | (have HN := Lib.hid (cnt_no (t := t) hkx hx (by rw [has_on hβ]; exact decide_eq_false (fun h => h1 h.1))))
            | (have HN := Lib.hid (cnt_no (t := t) hkx hx (by rw [has_on hβ]; exact decide_eq_false (fun h => h2 h.2))))
          clear hβ hx
          go_wp2_with fail
          refine (spec_isSpan_any _ _ _).mono ?_
          rintro e w1 ⟨rfl, hb1⟩
          rw [HO.out]
          have HB2 := Lib.hid (below_on HB.out hb1)
          obtain ⟨d0, d1⟩ := HA.out.below hb1 hb
          clear hb1
          go_wp2_with fail
          go_roundw
          case rel => first | exact ⟨k + 1, m, by omega, by omega, by go_num, rfl, Lib.hid (by rw [HN.out]; exact HM.out), HB2⟩ | exact ⟨k + 1, m + 1, by omega, by omega, by go_num, by go_num, Lib.hid (by rw [HN.out, HM.out]), HB2⟩
          case measure => simp [intOf]; omega
    · obtain rfl : k = n := by omega
      have HE : Hid (m = cnt xs t) := Lib.hid (by have h := HM.out; rw [List.take_of_length_le (by rw [HL.out]; exact Nat.le_refl _)] at h; exact h)
      go_wp2_with fail
      go_ret
      exact ⟨by rw [← HE.out]; rfl, HB.out⟩

/-! ### supported or not -/
def lieB (n : Nat) (l : Int) : Bool := decide (0 ≤ l ∧ l ≤ (n : Int) - 1)
def supp (xs : List Sp) (t l : Int) : Bool := lieB xs.length l && decide ((xs.length : Int) - l ≤ (cnt xs t : Nat))
theorem canLie_any (p : Option Addr) (n c : Nat) (l : Int) (w : World) (hn : n ≤ 9223372036854775807) : Calls Tryz.prog 158 #[.slice p n c, .int .i64 l] w fun e w' => e = .returned (.bool (lieB n l)) ∧ w = w' := by
  go_enter Tryz.func158, Tryz.ntmps158
  go_wp2_with fail
  refine (inRange_any _ _ _ _ (show decide (0 ≤ l ∧ l ≤ (n : Int) - 1) = lieB n l from rfl) _).mono ?_
  rintro e w1 ⟨rfl, rfl⟩
  go_wp2_with fail
  go_ret
  exact ⟨rfl, rfl⟩
theorem lie_in {n : Nat} {l : Int} (h : lieB n l = true) : 0 ≤ l ∧ l ≤ (n : Int) - 1 := of_decide_eq_true h
set_option maxRecDepth 100000 in
set_option maxHeartbeats 2000000 in
theorem spec_supported_any (p : Option Addr) (n c : Nat) (xs : List Sp) (t l : Int) (w : World) (hr : RdS E w p n xs) : Calls Tryz.prog 119 #[.slice p n c, .int .i64 t, .int .i64 l] w (SlSpan.Val (.bool (supp xs t l)) w) := by
  have HR := Lib.hid hr
  have HL := Lib.hid hr.len
  have hle := hr.le
  clear hr
  rcases hβ : lieB n l with _ | _
  · have HO := Lib.hid hβ
    have HS : Hid (supp xs t l = false) := Lib.hid (by unfold supp; rw [HL.out, hβ]; rfl)
    clear hβ
    go_enter Tryz.func119, Tryz.ntmps119
    go_wp2_with fail
    refine (l1In_any _ _ _ _ (show decide (0 ≤ l ∧ l ≤ (n : Int) - 1) = lieB n l from rfl) _).mono ?_
    rintro e w1 ⟨rfl, rfl⟩
    rw [HO.out]
    go_wp2_with fail
    go_ret
    exact ⟨by rw [HS.out]; rfl, Below.refl _ _⟩
  · have HO := Lib.hid hβ
    obtain ⟨hl1, hl2⟩ := lie_in hβ
    have HS : Hid (supp xs t l = decide ((n : Int) - l ≤ (cnt xs t : Nat))) := Lib.hid (by unfold supp; rw [HL.out, hβ]; rfl)
    clear hβ
    go_enter Tryz.func119, Tryz.ntmps119
    go_wp2_with fail
    refine (l1In_any _ _ _ _ (show decide (0 ≤ l ∧ l ≤ (n : Int) - 1) = lieB n l from rfl) _).mono ?_
    rintro e w1 ⟨rfl, rfl⟩
    rw [HO.out]
    go_wp2_with fail
    refine (spec_countAt_any _ _ _ _ _ _ HR.out).mono ?_
    rintro e w1 ⟨rfl, hb⟩
    have HB := Lib.hid hb
    clear hb
    by_cases hd : (n : Int) - l ≤ (cnt xs t : Nat)
    all_goals
      go_wp2_with fail
      go_ret
      exact ⟨by rw [HS.out]; simp [hd], HB.out⟩
/-! ### who disagrees -/
def dis (xs : List Sp) (s : Sp) (k : Nat) : List Int := ((List.range k).filter fun i => !meets (xs.getD i zs) s).map fun i : Nat => (i : Int)
theorem dis_yes {xs : List Sp} {s x : Sp} {k : Nat} (hx : xs.getD k zs = x) (h : meets x s = false) : dis xs s (k + 1) = dis xs s k ++ [(k : Int)] := by
  unfold dis
  rw [List.range_succ, List.filter_append, List.map_append]
  simp only [List.filter_cons, List.filter_nil, hx, h, Bool.not_false, if_true, List.map_cons, List.map_nil]
theorem dis_no {xs : List Sp} {s x : Sp} {k : Nat} (hx : xs.getD k zs = x) (h : meets x s = true) : dis xs s (k + 1) = dis xs s k := by
  unfold dis
  rw [List.range_succ, List.filter_append, List.map_append]
  simp only [List.filter_cons, List.filter_nil, hx, h, Bool.not_true, Bool.false_eq_true, if_false, List.map_nil, List.append_nil]
theorem dis_len (xs : List Sp) (s : Sp) (k : Nat) : (dis xs s k).length ≤ k := by
  unfold dis
  rw [List.length_map]
  exact Nat.le_trans (List.length_filter_le _ _) (by rw [List.length_range]; exact Nat.le_refl _)
end Go.Proofs.YtfojilogcecphaaGreat.Co

namespace Go.Proofs.YtfojilogcecphaaGreat.Ags
open Go.ChangeShapes Go.WideShapes Go.ChangeAt Go.RowKit Sl St Jn Sps SlSpan Co
theorem ok_le (s : Int × Int) (h : okB s = true) : 0 ≤ s.1 ∧ s.1 ≤ s.2 := by
  have := of_decide_eq_true h
  omega
def agr (xs : List Sp) (l : Int) : (Int × Int) × Bool := if lieB xs.length l = true then Agm.tell (xs.foldl (Agm.sst okB fun t => supp xs t l) (-1, -1)) else ((0, 0), false)
theorem cnt_eq (xs : List Sp) (t : Int) : Agm.cnt okB xs t = cnt xs t := List.countP_congr fun x _ => by simp [has]
theorem supp_eq {xs : List Sp} {l : Int} (h : lieB xs.length l = true) : (fun t => supp xs t l) = fun t => decide ((xs.length : Int) - l ≤ (Agm.cnt okB xs t : Int)) := by
  funext t
  unfold supp
  rw [h, cnt_eq, Bool.true_and]
theorem drewB {W w : World} {B : Nat} (h : Below B W w) : Below B W w.drew := below_drewN h 1
theorem below_last {W w : World} {v0 v1 : Value} (h : Below W.heap.size W w) : Below W.heap.size W ((w.setCell ⟨W.heap.size, 0, none⟩ v0).setCell ⟨W.heap.size, 1, none⟩ v1).drew := drewB ((h.setCell (p := ⟨W.heap.size, 0, none⟩) (Nat.le_refl _) _).setCell (p := ⟨W.heap.size, 1, none⟩) (Nat.le_refl _) _)
theorem foldl_take {α β : Type} {f : β → α → β} {z : β} {xs : List α} {k : Nat} {x d : α} (hk : k < xs.length) (hx : xs.getD k d = x) : (xs.take (k + 1)).foldl f z = f ((xs.take k).foldl f z) x := by
  rw [Fnd.take_succ d hk, List.foldl_append, hx]
  rfl
theorem stp_in {need c f t x : Int} {b : Bool} : Agm.stp need (c, f, t, b) (x, 0) = (c + 1, (Agm.stp need (c, f, t, b) (x, 0)).2) := by
  unfold Agm.stp
  rw [if_pos rfl]
theorem stp_out {need c f t x : Int} {b : Bool} : Agm.stp need (c, f, t, b) (x, 1) = (c - 1, (Agm.stp need (c, f, t, b) (x, 1)).2) := by
  unfold Agm.stp
  rw [if_neg (by simp)]
set_option maxRecDepth 100000 in
set_option maxHeartbeats 8000000 in
theorem agreed_any (p : Option Addr) (n c : Nat) (xs : List Sp) (l : Int) (hl : -9223372036854775808 ≤ l ∧ l ≤ 9223372036854775807) (y0 y1 : Int) (bb : Bool) (hA : agr xs l = ((y0, y1), bb)) (w : World) (hr : RdS E w p n xs) (hn : n ≤ 1048576) : Calls Tryz.prog 137 #[.slice p n c, .int .i64 l] w fun e w' => e = .returned (.tuple #[.agg #[.int .i64 y0, .int .i64 y1], .bool bb]) ∧ Below w.heap.size w w' := by
  have HR := Lib.hid hr
  have HL := Lib.hid hr.len
  have hle := hr.le
  have HAg := Lib.hid hA
  have hb1 := box1 w (.cells #[.int .i64 0, .int .i64 0] 105)
  have HY0 := Lib.hid (Bx.new w 105 #[.int .i64 0, .int .i64 0])
  have HB0 := Lib.hid hb1
  have HR0 := Lib.hid (hr.below hb1)
  clear hr hA hb1
  rcases hlie : lieB n l with _ | _
  · have he : agr xs l = ((0, 0), false) := if_neg (by rw [HL.out, hlie]; simp)
    have h2 := he.symm.trans HAg.out
    cases h2
    have HLi := Lib.hid hlie
    clear hlie he
    go_enter Tryz.func137, Tryz.ntmps137
    go_wp2_with fail
    refine (canLie_any p n c l _ hle).mono ?_
    rintro e w1 ⟨rfl, rfl⟩
    rw [HLi.out]
    generalize (w.alloc (.cells #[.int .i64 0, .int .i64 0] 105)) = V at HY0 HB0 HR0 ⊢
    obtain ⟨q0, q1, _, _⟩ := HY0.out.two
    have f0 := HY0.out.free 0
    have f1 := HY0.out.free 1
    go_wp2_with fail
    exact bodyPost_ret (v := .tuple #[.agg #[.int .i64 0, .int .i64 0], .bool false]) (by simp [results, Tryz.results137, go_sem, q0, q1]) rfl ⟨rfl, (HB0.out.setCell (p := ⟨w.heap.size, 0, none⟩) (Nat.le_refl _) _).setCell (p := ⟨w.heap.size, 1, none⟩) (Nat.le_refl _) _⟩
  · obtain ⟨need, hneed⟩ : ∃ q : Int, (n : Int) - l = q := ⟨_, rfl⟩
    have hl2 := lie_in hlie
    have hn1 : 1 ≤ need := by omega
    have HSp : Hid (agr xs l = Agm.tell (xs.foldl (Agm.sst okB fun t => decide (need ≤ (Agm.cnt okB xs t : Int))) (-1, -1))) := Lib.hid (by unfold agr; rw [if_pos (by rw [HL.out]; exact hlie), supp_eq (by rw [HL.out]; exact hlie), HL.out, hneed])
    have HLi := Lib.hid hlie
    have hnl : -9223372036854775808 ≤ need ∧ need ≤ 9223372036854775807 := by omega
    have HX0 : Hid (Bx ((w.alloc (.cells #[.int .i64 0, .int .i64 0] 105)).alloc (.cells #[.int .i64 0, .int .i64 0, .int .i64 need, .int .i64 0, .bool false] 219)) (w.heap.size + 1) 219 #[.int .i64 0, .int .i64 0, .int .i64 need, .int .i64 0, .bool false]) := Lib.hid (by have h := Bx.new (w.alloc (.cells #[.int .i64 0, .int .i64 0] 105)) 219 #[.int .i64 0, .int .i64 0, .int .i64 need, .int .i64 0, .bool false]; rw [World.size_alloc] at h; exact h)
    have HY1 := Lib.hid (HY0.out.alloc (.cells #[.int .i64 0, .int .i64 0, .int .i64 need, .int .i64 0, .bool false] 219))
    have HB1 := Lib.hid (HB0.out.alloc HB0.out.size (.cells #[.int .i64 0, .int .i64 0, .int .i64 need, .int .i64 0, .bool false] 219))
    have HR1 := Lib.hid (HR0.out.below (box1 _ (.cells #[.int .i64 0, .int .i64 0, .int .i64 need, .int .i64 0, .bool false] 219)))
    have HV : Hid (w.heap.size + 1 < ((w.alloc (.cells #[.int .i64 0, .int .i64 0] 105)).alloc (.cells #[.int .i64 0, .int .i64 0, .int .i64 need, .int .i64 0, .bool false] 219)).heap.size) := Lib.hid HX0.out.lt
    clear hlie
    go_enter Tryz.func137, Tryz.ntmps137
    go_wp2_with fail
    refine (canLie_any p n c l _ hle).mono ?_
    rintro e w1 ⟨rfl, rfl⟩
    rw [HLi.out]
    go_wp2_with (rw [hneed])
    generalize ((w.alloc (.cells #[.int .i64 0, .int .i64 0] 105)).alloc (.cells #[.int .i64 0, .int .i64 0, .int .i64 need, .int .i64 0, .bool false] 219)) = V at HX0 HY1 HB1 HR1 HV ⊢
    refine (Age.edges_any p n c xs _ HR1.out hn).mono ?_
    rintro e w1 ⟨p1, n1, c1, ys, rfl, ho, hb, hs, hp⟩
    have hm1 : n1 ≤ 2097152 := by
      have h1 := ho.len
      have h2 := hp.length_eq
      have h3 := Age.es_len xs
      have h4 := HL.out
      omega
    have HS := Lib.hid hs
    have HP := Lib.hid hp
    have HLy := Lib.hid ho.len
    have HKd : Hid (∀ e ∈ ys, e.2 = 0 ∨ e.2 = 1) := Lib.hid (fun e he => by
      obtain ⟨s, _, _, h | h⟩ := Agm.mem_es.1 (hp.mem_iff.1 he)
      · exact Or.inl (by rw [h])
      · exact Or.inr (by rw [h]))
    have HO := Lib.hid ho
    have HX := Lib.hid (HX0.out.below hb)
    have HY := Lib.hid (HY1.out.below hb)
    have HB := Lib.hid (below_on HB1.out hb)
    clear ho hb hs hp HX0 HY1 HB1 HR1
    go_wp2_with fail
    go_loopw [22] (fun i wr => ∃ (k : Nat) (cc f t : Int) (b : Bool), k ≤ n1 ∧ -(k : Int) ≤ cc ∧ cc ≤ (k : Int) ∧ i = .int .i64 k ∧ Hid ((ys.take k).foldl (Agm.stp need) (0, 0, 0, false) = (cc, f, t, b)) ∧ Hid (OwS E 223 wr V.heap.size w1.heap.size p1 n1 c1 ys) ∧ Hid (Bx wr (w.heap.size + 1) 219 #[.int .i64 f, .int .i64 t, .int .i64 need, .int .i64 cc, .bool b]) ∧ Hid (Bx wr w.heap.size 105 #[.int .i64 0, .int .i64 0]) ∧ Hid (Below w.heap.size w wr)) (fun i _ => n1 - (intOf i).toNat)
    case atStart => exact ⟨0, 0, 0, 0, false, Nat.zero_le _, by omega, by omega, rfl, Lib.hid rfl, HO, HX, HY, HB⟩
    case round =>
      clear HO HX HY HB
      obtain ⟨k, cc, f, t, b, hk, hc1, hc2, rfl, HF, HO, HX, HY, HB⟩ := hrel
      by_cases hlt : k < n1
      · obtain ⟨bk, o, rfl, hbb, hat⟩ := rd_at HO.out.rd hlt
        have hkL : k < ys.length := by rw [HLy.out]; exact hlt
        have hkd := HKd.out _ (Fnd.getD_mem zero hkL)
        generalize hx : ys.getD k zero = x at hat hkd
        obtain ⟨e1, e2⟩ := x
        obtain ⟨c0, c1⟩ := hat
        simp only at c0 c1 hkd
        rcases hkd with hk2 | hk2
        · obtain rfl : e2 = 0 := hk2
          rcases hst : Agm.stp need (cc, f, t, b) (e1, 0) with ⟨cc', f', t', b'⟩
          have hcc : cc' = cc + 1 := by have h := (stp_in (need := need) (c := cc) (f := f) (t := t) (x := e1) (b := b)).symm.trans hst; exact (congrArg Prod.fst h).symm
          have HFk := Lib.hid (by rw [foldl_take hkL hx, HF.out]; exact hst : (ys.take (k + 1)).foldl (Agm.stp need) (0, 0, 0, false) = (cc', f', t', b'))
          have HST := Lib.hid hst
          clear hst hx
          go_wp2_with fail
          clear c0 c1
          refine (Agi.enter_any (w.heap.size + 1) f t need cc b e1 (by omega) _ (HX.out.alloc _)).mono ?_
          rintro e w2 ⟨rfl, hx2, hg2⟩
          rw [HST.out] at hx2
          have HX2 := Lib.hid hx2
          have HO2 := Lib.hid ((HO.out.alloc (.cells #[.int .i64 e1, .int .i64 0] 223)).kept hg2 (fun g e => by cases e; exact Or.inl HV.out))
          have HY2 := Lib.hid ((HY.out.alloc (.cells #[.int .i64 e1, .int .i64 0] 223)).grown hg2 (fun e => by simp at e))
          have HB2 := Lib.hid ((HB.out.alloc HB.out.size (.cells #[.int .i64 e1, .int .i64 0] 223)).grown hg2 (Nat.le_trans HB.out.size (by simp)) (fun g e => by cases e; exact Nat.le_succ _))
          clear hx2 hg2
          go_wp2_with fail
          go_roundw
          case rel => exact ⟨k + 1, cc', f', t', b', by omega, by omega, by omega, by go_num, HFk, HO2, HX2, HY2, HB2⟩
          case measure => simp [intOf]; omega
        · obtain rfl : e2 = 1 := hk2
          rcases hst : Agm.stp need (cc, f, t, b) (e1, 1) with ⟨cc', f', t', b'⟩
          have hcc : cc' = cc - 1 := by have h := (stp_out (need := need) (c := cc) (f := f) (t := t) (x := e1) (b := b)).symm.trans hst; exact (congrArg Prod.fst h).symm
          have HFk := Lib.hid (by rw [foldl_take hkL hx, HF.out]; exact hst : (ys.take (k + 1)).foldl (Agm.stp need) (0, 0, 0, false) = (cc', f', t', b'))
          have HST := Lib.hid hst
          clear hst hx
          go_wp2_with fail
          clear c0 c1
          refine (Agi.leave_any (w.heap.size + 1) f t need cc b e1 (by omega) _ (HX.out.alloc _)).mono ?_
          rintro e w2 ⟨rfl, hx2, hg2⟩
          rw [HST.out] at hx2
          have HX2 := Lib.hid hx2
          have HO2 := Lib.hid ((HO.out.alloc (.cells #[.int .i64 e1, .int .i64 1] 223)).kept hg2 (fun g e => by cases e; exact Or.inl HV.out))
          have HY2 := Lib.hid ((HY.out.alloc (.cells #[.int .i64 e1, .int .i64 1] 223)).grown hg2 (fun e => by simp at e))
          have HB2 := Lib.hid ((HB.out.alloc HB.out.size (.cells #[.int .i64 e1, .int .i64 1] 223)).grown hg2 (Nat.le_trans HB.out.size (by simp)) (fun g e => by cases e; exact Nat.le_succ _))
          clear hx2 hg2
          go_wp2_with fail
          go_roundw
          case rel => exact ⟨k + 1, cc', f', t', b', by omega, by omega, by omega, by go_num, HFk, HO2, HX2, HY2, HB2⟩
          case measure => simp [intOf]; omega
      · obtain rfl : k = n1 := by omega
        have hF := HF.out
        rw [List.take_of_length_le (by rw [HLy.out]; exact Nat.le_refl _)] at hF
        have hag := Agm.agree ok_le xs need hn1 ys HP.out HS.out
        rw [hF] at hag
        have h2 := (hag.trans HSp.out.symm).trans HAg.out
        simp only at h2
        cases h2
        clear hag hF
        go_wp2_with fail
        obtain ⟨q0, q1, _, _⟩ := HY.out.two
        have f0 := HY.out.free 0
        have f1 := HY.out.free 1
        obtain ⟨r0, r1, _, _⟩ := HY.out.drew1.two
        have g0 := HY.out.drew1.free 0
        have g1 := HY.out.drew1.free 1
        have HXd := Lib.hid (((HX.out.far (q := ⟨w.heap.size, 0, none⟩) (by show w.heap.size + 1 ≠ w.heap.size; omega) (.int .i64 y0)).far (q := ⟨w.heap.size, 1, none⟩) (by show w.heap.size + 1 ≠ w.heap.size; omega) (.int .i64 y1)).drew1)
        go_region_held3 (fun w' => w'.cell? ⟨w.heap.size + 1, 0, none⟩ = some (.int .i64 y0) ∧ w'.cell? ⟨w.heap.size + 1, 1, none⟩ = some (.int .i64 y1) ∧ w'.cell? ⟨w.heap.size + 1, 4, none⟩ = some (.bool bb)) (first | exact ⟨HX.out.drew1.cell rfl, HX.out.drew1.cell rfl, HX.out.drew1.cell rfl⟩ | exact ⟨HX.out.cell rfl, HX.out.cell rfl, HX.out.cell rfl⟩ | exact ⟨HXd.out.cell rfl, HXd.out.cell rfl, HXd.out.cell rfl⟩ | go_keep | fail) (first | fail)
        go_wp2_with fail
        exact bodyPost_ret (v := .tuple #[.agg #[.int .i64 y0, .int .i64 y1], .bool bb]) (by simp [results, Tryz.results137, go_sem, q0, q1]) rfl ⟨rfl, below_last HB.out⟩
set_option maxRecDepth 100000 in
set_option maxHeartbeats 8000000 in
theorem spec_agreed_any (p : Option Addr) (n c : Nat) (xs : List Sp) (l : Int) (y0 y1 : Int) (bb : Bool) (hA : agr xs l = ((y0, y1), bb)) (w : World) (hr : RdS E w p n xs) (hn : n ≤ 1048576) : Calls Tryz.prog 87 #[.slice p n c, .int .i64 l] w fun e w' => e = .returned (.tuple #[.agg #[.int .i64 y0, .int .i64 y1], .bool bb]) ∧ Below w.heap.size w w' := by
  have HR := Lib.hid hr
  have HL := Lib.hid hr.len
  have hle := hr.le
  have HAg := Lib.hid hA
  have HY := Lib.hid (Bx.new w 105 #[.int .i64 0, .int .i64 0])
  have HB := Lib.hid (box1 w (.cells #[.int .i64 0, .int .i64 0] 105))
  clear hr hA
  rcases hlie : lieB n l with _ | _
  · have he : agr xs l = ((0, 0), false) := if_neg (by rw [HL.out, hlie]; simp)
    have h2 := he.symm.trans HAg.out
    cases h2
    have HLi := Lib.hid hlie
    clear hlie he
    go_enter Tryz.func87, Tryz.ntmps87
    go_wp2_with fail
    refine (Ints.l1In_any _ _ _ _ (show decide (0 ≤ l ∧ l ≤ (n : Int) - 1) = lieB n l from rfl) _).mono ?_
    rintro e w1 ⟨rfl, rfl⟩
    rw [HLi.out]
    generalize (w.alloc (.cells #[.int .i64 0, .int .i64 0] 105)) = V at HY HB ⊢
    obtain ⟨q0, q1, _, _⟩ := HY.out.two
    have f0 := HY.out.free 0
    have f1 := HY.out.free 1
    go_wp2_with fail
    exact bodyPost_ret (v := .tuple #[.agg #[.int .i64 0, .int .i64 0], .bool false]) (by simp [results, Tryz.results87, go_sem, q0, q1]) rfl ⟨rfl, (HB.out.setCell (p := ⟨w.heap.size, 0, none⟩) (Nat.le_refl _) _).setCell (p := ⟨w.heap.size, 1, none⟩) (Nat.le_refl _) _⟩
  · have HSp : Hid (agr xs l = Agm.tell (xs.foldl (Agm.sst okB fun t => supp xs t l) (-1, -1))) := Lib.hid (if_pos (by rw [HL.out]; exact hlie))
    have HLi := Lib.hid hlie
    clear hlie
    go_enter Tryz.func87, Tryz.ntmps87
    go_wp2_with fail
    refine (Ints.l1In_any _ _ _ _ (show decide (0 ≤ l ∧ l ≤ (n : Int) - 1) = lieB n l from rfl) _).mono ?_
    rintro e w1 ⟨rfl, rfl⟩
    rw [HLi.out]
    generalize (w.alloc (.cells #[.int .i64 0, .int .i64 0] 105)) = V at HY HB ⊢
    go_wp2_with fail
    go_loopw [6, 7, 8] (fun fv tv i wr => ∃ (k : Nat) (f t : Int), k ≤ n ∧ fv = .int .i64 f ∧ tv = .int .i64 t ∧ i = .int .i64 k ∧ Hid ((xs.take k).foldl (Agm.sst okB fun t => supp xs t l) (-1, -1) = (f, t)) ∧ Hid (Bx wr w.heap.size 105 #[.int .i64 0, .int .i64 0]) ∧ Hid (Below w.heap.size w wr)) (fun _ _ i _ => n - (intOf i).toNat)
    case atStart => exact ⟨0, -1, -1, Nat.zero_le _, rfl, rfl, rfl, Lib.hid rfl, HY, HB⟩
    case round =>
      clear HY HB
      obtain ⟨k, f, t, hk, rfl, rfl, rfl, HF, HY, HB⟩ := hrel
      by_cases hlt : k < n
      · obtain ⟨b, o, rfl, hbb, hat⟩ := rd_at (HR.out.below HB.out) hlt
        have hkL : k < xs.length := by rw [HL.out]; exact hlt
        generalize hx : xs.getD k zero = x at hat
        obtain ⟨xa, xb⟩ := x
        have HAT := Lib.hid hat
        obtain ⟨c0, c1⟩ := hat
        simp only at c0 c1
        rcases okx : okB (xa, xb) with _ | _
        · have HOk := Lib.hid okx
          go_wp2_with fail
          clear c0 c1
          refine (spec_isSpan_any xa xb _).mono ?_
          rintro e w2 ⟨rfl, hb⟩
          rw [HOk.out]
          replace HB := Lib.hid (below_on HB.out hb)
          replace HY := Lib.hid (HY.out.below hb)
          have hbz := Nat.lt_of_lt_of_le hbb hb.size
          replace HAT := Lib.hid (HAT.out.below hb hbb)
          clear hb hbb
          have hbb := hbz
          clear hbz
          obtain ⟨c0, c1⟩ := HAT.out
          go_wp2_with fail
          clear c0 c1
          refine (spec_isSpan_any xa xb _).mono ?_
          rintro e w2 ⟨rfl, hb⟩
          rw [HOk.out]
          replace HB := Lib.hid (below_on HB.out hb)
          replace HY := Lib.hid (HY.out.below hb)
          have hbz := Nat.lt_of_lt_of_le hbb hb.size
          replace HAT := Lib.hid (HAT.out.below hb hbb)
          clear hb hbb
          have hbb := hbz
          clear hbz
          obtain ⟨c0, c1⟩ := HAT.out
          have HFk := Lib.hid (by rw [foldl_take hkL hx, HF.out]; simp [Agm.sst, okx] : (xs.take (k + 1)).foldl (Agm.sst okB fun t => supp xs t l) (-1, -1) = (f, t))
          go_wp2_with fail
          go_roundw
          case rel => exact ⟨k + 1, f, t, by omega, rfl, rfl, by go_num, HFk, HY, HB⟩
          case measure => simp [intOf]; omega
        · have HOk := Lib.hid okx
          rcases g1 : supp xs xa l with _ | _
          · have HG1 := Lib.hid g1
            go_wp2_with fail
            clear c0 c1
            refine (spec_isSpan_any xa xb _).mono ?_
            rintro e w2 ⟨rfl, hb⟩
            rw [HOk.out]
            replace HB := Lib.hid (below_on HB.out hb)
            replace HY := Lib.hid (HY.out.below hb)
            have hbz := Nat.lt_of_lt_of_le hbb hb.size
            replace HAT := Lib.hid (HAT.out.below hb hbb)
            clear hb hbb
            have hbb := hbz
            clear hbz
            obtain ⟨c0, c1⟩ := HAT.out
            go_wp2_with fail
            clear c0 c1
            refine (spec_supported_any _ _ _ xs xa l _ (HR.out.below HB.out)).mono ?_
            rintro e w2 ⟨rfl, hb⟩
            rw [HG1.out]
            replace HB := Lib.hid (below_on HB.out hb)
            replace HY := Lib.hid (HY.out.below hb)
            have hbz := Nat.lt_of_lt_of_le hbb hb.size
            replace HAT := Lib.hid (HAT.out.below hb hbb)
            clear hb hbb
            have hbb := hbz
            clear hbz
            obtain ⟨c0, c1⟩ := HAT.out
            rcases g2 : supp xs xb l with _ | _
            · have HG2 := Lib.hid g2
              go_wp2_with fail
              clear c0 c1
              refine (spec_isSpan_any xa xb _).mono ?_
              rintro e w2 ⟨rfl, hb⟩
              rw [HOk.out]
              replace HB := Lib.hid (below_on HB.out hb)
              replace HY := Lib.hid (HY.out.below hb)
              have hbz := Nat.lt_of_lt_of_le hbb hb.size
              replace HAT := Lib.hid (HAT.out.below hb hbb)
              clear hb hbb
              have hbb := hbz
              clear hbz
              obtain ⟨c0, c1⟩ := HAT.out
              go_wp2_with fail
              clear c0 c1
              refine (spec_supported_any _ _ _ xs xb l _ (HR.out.below HB.out)).mono ?_
              rintro e w2 ⟨rfl, hb⟩
              rw [HG2.out]
              replace HB := Lib.hid (below_on HB.out hb)
              replace HY := Lib.hid (HY.out.below hb)
              have hbz := Nat.lt_of_lt_of_le hbb hb.size
              replace HAT := Lib.hid (HAT.out.below hb hbb)
              clear hb hbb
              have hbb := hbz
              clear hbz
              obtain ⟨c0, c1⟩ := HAT.out
              have HFk := Lib.hid (by rw [foldl_take hkL hx, HF.out]; simp [Agm.sst, okx, g1, g2] : (xs.take (k + 1)).foldl (Agm.sst okB fun t => supp xs t l) (-1, -1) = (f, t))
              go_wp2_with fail
              go_roundw
              case rel => exact ⟨k + 1, f, t, by omega, rfl, rfl, by go_num, HFk, HY, HB⟩
              case measure => simp [intOf]; omega
            · have HG2 := Lib.hid g2
              go_wp2_with fail
              clear c0 c1
              refine (spec_isSpan_any xa xb _).mono ?_
              rintro e w2 ⟨rfl, hb⟩
              rw [HOk.out]
              replace HB := Lib.hid (below_on HB.out hb)
              replace HY := Lib.hid (HY.out.below hb)
              have hbz := Nat.lt_of_lt_of_le hbb hb.size
              replace HAT := Lib.hid (HAT.out.below hb hbb)
              clear hb hbb
              have hbb := hbz
              clear hbz
              obtain ⟨c0, c1⟩ := HAT.out
              go_wp2_with fail
              clear c0 c1
              refine (spec_supported_any _ _ _ xs xb l _ (HR.out.below HB.out)).mono ?_
              rintro e w2 ⟨rfl, hb⟩
              rw [HG2.out]
              replace HB := Lib.hid (below_on HB.out hb)
              replace HY := Lib.hid (HY.out.below hb)
              have hbz := Nat.lt_of_lt_of_le hbb hb.size
              replace HAT := Lib.hid (HAT.out.below hb hbb)
              clear hb hbb
              have hbb := hbz
              clear hbz
              obtain ⟨c0, c1⟩ := HAT.out
              go_wp2_with fail
              refine (Ints.spec_max_any _ _ _).mono ?_
              rintro e w3 ⟨rfl, rfl⟩
              have HFk := Lib.hid (by rw [foldl_take hkL hx, HF.out]; simp [Agm.sst, okx, g1, g2] : (xs.take (k + 1)).foldl (Agm.sst okB fun t => supp xs t l) (-1, -1) = (f, (if t < xb then xb else t)))
              go_wp2_with fail
              go_roundw
              case rel => exact ⟨k + 1, f, (if t < xb then xb else t), by omega, rfl, by unfold Ints.maxI; rfl, by go_num, HFk, HY, HB⟩
              case measure => simp [intOf]; omega
          · have HG1 := Lib.hid g1
            by_cases h1 : f < 0
            · skip
              go_wp2_with fail
              clear c0 c1
              refine (spec_isSpan_any xa xb _).mono ?_
              rintro e w2 ⟨rfl, hb⟩
              rw [HOk.out]
              replace HB := Lib.hid (below_on HB.out hb)
              replace HY := Lib.hid (HY.out.below hb)
              have hbz := Nat.lt_of_lt_of_le hbb hb.size
              replace HAT := Lib.hid (HAT.out.below hb hbb)
              clear hb hbb
              have hbb := hbz
              clear hbz
              obtain ⟨c0, c1⟩ := HAT.out
              go_wp2_with fail
              clear c0 c1
              refine (spec_supported_any _ _ _ xs xa l _ (HR.out.below HB.out)).mono ?_
              rintro e w2 ⟨rfl, hb⟩
              rw [HG1.out]
              replace HB := Lib.hid (below_on HB.out hb)
              replace HY := Lib.hid (HY.out.below hb)
              have hbz := Nat.lt_of_lt_of_le hbb hb.size
              replace HAT := Lib.hid (HAT.out.below hb hbb)
              clear hb hbb
              have hbb := hbz
              clear hbz
              obtain ⟨c0, c1⟩ := HAT.out
              rcases g2 : supp xs xb l with _ | _
              · have HG2 := Lib.hid g2
                go_wp2_with fail
                clear c0 c1
                refine (spec_isSpan_any xa xb _).mono ?_
                rintro e w2 ⟨rfl, hb⟩
                rw [HOk.out]
                replace HB := Lib.hid (below_on HB.out hb)
                replace HY := Lib.hid (HY.out.below hb)
                have hbz := Nat.lt_of_lt_of_le hbb hb.size
                replace HAT := Lib.hid (HAT.out.below hb hbb)
                clear hb hbb
                have hbb := hbz
                clear hbz
                obtain ⟨c0, c1⟩ := HAT.out
                go_wp2_with fail
                clear c0 c1
                refine (spec_supported_any _ _ _ xs xb l _ (HR.out.below HB.out)).mono ?_
                rintro e w2 ⟨rfl, hb⟩
                rw [HG2.out]
                replace HB := Lib.hid (below_on HB.out hb)
                replace HY := Lib.hid (HY.out.below hb)
                have hbz := Nat.lt_of_lt_of_le hbb hb.size
                replace HAT := Lib.hid (HAT.out.below hb hbb)
                clear hb hbb
                have hbb := hbz
                clear hbz
                obtain ⟨c0, c1⟩ := HAT.out
                have HFk := Lib.hid (by rw [foldl_take hkL hx, HF.out]; simp [Agm.sst, okx, g1, h1, g2] : (xs.take (k + 1)).foldl (Agm.sst okB fun t => supp xs t l) (-1, -1) = (xa, t))
                go_wp2_with fail
                go_roundw
                case rel => exact ⟨k + 1, xa, t, by omega, rfl, rfl, by go_num, HFk, HY, HB⟩
                case measure => simp [intOf]; omega
              · have HG2 := Lib.hid g2
                go_wp2_with fail
                clear c0 c1
                refine (spec_isSpan_any xa xb _).mono ?_
                rintro e w2 ⟨rfl, hb⟩
                rw [HOk.out]
                replace HB := Lib.hid (below_on HB.out hb)
                replace HY := Lib.hid (HY.out.below hb)
                have hbz := Nat.lt_of_lt_of_le hbb hb.size
                replace HAT := Lib.hid (HAT.out.below hb hbb)
                clear hb hbb
                have hbb := hbz
                clear hbz
                obtain ⟨c0, c1⟩ := HAT.out
                go_wp2_with fail
                clear c0 c1
                refine (spec_supported_any _ _ _ xs xb l _ (HR.out.below HB.out)).mono ?_
                rintro e w2 ⟨rfl, hb⟩
                rw [HG2.out]
                replace HB := Lib.hid (below_on HB.out hb)
                replace HY := Lib.hid (HY.out.below hb)
                have hbz := Nat.lt_of_lt_of_le hbb hb.size
                replace HAT := Lib.hid (HAT.out.below hb hbb)
                clear hb hbb
                have hbb := hbz
                clear hbz
                obtain ⟨c0, c1⟩ := HAT.out
                go_wp2_with fail
                refine (Ints.spec_max_any _ _ _).mono ?_
                rintro e w3 ⟨rfl, rfl⟩
                have HFk := Lib.hid (by rw [foldl_take hkL hx, HF.out]; simp [Agm.sst, okx, g1, h1, g2] : (xs.take (k + 1)).foldl (Agm.sst okB fun t => supp xs t l) (-1, -1) = (xa, (if t < xb then xb else t)))
                go_wp2_with fail
                go_roundw
                case rel => exact ⟨k + 1, xa, (if t < xb then xb else t), by omega, rfl, by unfold Ints.maxI; rfl, by go_num, HFk, HY, HB⟩
                case measure => simp [intOf]; omega
            · by_cases h2 : xa < f
              · skip
                go_wp2_with fail
                clear c0 c1
                refine (spec_isSpan_any xa xb _).mono ?_
                rintro e w2 ⟨rfl, hb⟩
                rw [HOk.out]
                replace HB := Lib.hid (below_on HB.out hb)
                replace HY := Lib.hid (HY.out.below hb)
                have hbz := Nat.lt_of_lt_of_le hbb hb.size
                replace HAT := Lib.hid (HAT.out.below hb hbb)
                clear hb hbb
                have hbb := hbz
                clear hbz
                obtain ⟨c0, c1⟩ := HAT.out
                go_wp2_with fail
                clear c0 c1
                refine (spec_supported_any _ _ _ xs xa l _ (HR.out.below HB.out)).mono ?_
                rintro e w2 ⟨rfl, hb⟩
                rw [HG1.out]
                replace HB := Lib.hid (below_on HB.out hb)
                replace HY := Lib.hid (HY.out.below hb)
                have hbz := Nat.lt_of_lt_of_le hbb hb.size
                replace HAT := Lib.hid (HAT.out.below hb hbb)
                clear hb hbb
                have hbb := hbz
                clear hbz
                obtain ⟨c0, c1⟩ := HAT.out
                rcases g2 : supp xs xb l with _ | _
                · have HG2 := Lib.hid g2
                  go_wp2_with fail
                  clear c0 c1
                  refine (spec_isSpan_any xa xb _).mono ?_
                  rintro e w2 ⟨rfl, hb⟩
                  rw [HOk.out]
                  replace HB := Lib.hid (below_on HB.out hb)
                  replace HY := Lib.hid (HY.out.below hb)
                  have hbz := Nat.lt_of_lt_of_le hbb hb.size
                  replace HAT := Lib.hid (HAT.out.below hb hbb)
                  clear hb hbb
                  have hbb := hbz
                  clear hbz
                  obtain ⟨c0, c1⟩ := HAT.out
                  go_wp2_with fail
                  clear c0 c1
                  refine (spec_supported_any _ _ _ xs xb l _ (HR.out.below HB.out)).mono ?_
                  rintro e w2 ⟨rfl, hb⟩
                  rw [HG2.out]
                  replace HB := Lib.hid (below_on HB.out hb)
                  replace HY := Lib.hid (HY.out.below hb)
                  have hbz := Nat.lt_of_lt_of_le hbb hb.size
                  replace HAT := Lib.hid (HAT.out.below hb hbb)
                  clear hb hbb
                  have hbb := hbz
                  clear hbz
                  obtain ⟨c0, c1⟩ := HAT.out
                  have HFk := Lib.hid (by rw [foldl_take hkL hx, HF.out]; simp [Agm.sst, okx, g1, h2, g2] : (xs.take (k + 1)).foldl (Agm.sst okB fun t => supp xs t l) (-1, -1) = (xa, t))
                  go_wp2_with fail
                  go_roundw
                  case rel => exact ⟨k + 1, xa, t, by omega, rfl, rfl, by go_num, HFk, HY, HB⟩
                  case measure => simp [intOf]; omega
                · have HG2 := Lib.hid g2
                  go_wp2_with fail
                  clear c0 c1
                  refine (spec_isSpan_any xa xb _).mono ?_
                  rintro e w2 ⟨rfl, hb⟩
                  rw [HOk.out]
                  replace HB := Lib.hid (below_on HB.out hb)
                  replace HY := Lib.hid (HY.out.below hb)
                  have hbz := Nat.lt_of_lt_of_le hbb hb.size
                  replace HAT := Lib.hid (HAT.out.below hb hbb)
                  clear hb hbb
                  have hbb := hbz
                  clear hbz
                  obtain ⟨c0, c1⟩ := HAT.out
                  go_wp2_with fail
                  clear c0 c1
                  refine (spec_supported_any _ _ _ xs xb l _ (HR.out.below HB.out)).mono ?_
                  rintro e w2 ⟨rfl, hb⟩
                  rw [HG2.out]
                  replace HB := Lib.hid (below_on HB.out hb)
                  replace HY := Lib.hid (HY.out.below hb)
                  have hbz := Nat.lt_of_lt_of_le hbb hb.size
                  replace HAT := Lib.hid (HAT.out.below hb hbb)
                  clear hb hbb
                  have hbb := hbz
                  clear hbz
                  obtain ⟨c0, c1⟩ := HAT.out
                  go_wp2_with fail
                  refine (Ints.spec_max_any _ _ _).mono ?_
                  rintro e w3 ⟨rfl, rfl⟩
                  have HFk := Lib.hid (by rw [foldl_take hkL hx, HF.out]; simp [Agm.sst, okx, g1, h2, g2] : (xs.take (k + 1)).foldl (Agm.sst okB fun t => supp xs t l) (-1, -1) = (xa, (if t < xb then xb else t)))
                  go_wp2_with fail
                  go_roundw
                  case rel => exact ⟨k + 1, xa, (if t < xb then xb else t), by omega, rfl, by unfold Ints.maxI; rfl, by go_num, HFk, HY, HB⟩
                  case measure => simp [intOf]; omega
              · skip
                go_wp2_with fail
                clear c0 c1
                refine (spec_isSpan_any xa xb _).mono ?_
                rintro e w2 ⟨rfl, hb⟩
                rw [HOk.out]
                replace HB := Lib.hid (below_on HB.out hb)
                replace HY := Lib.hid (HY.out.below hb)
                have hbz := Nat.lt_of_lt_of_le hbb hb.size
                replace HAT := Lib.hid (HAT.out.below hb hbb)
                clear hb hbb
                have hbb := hbz
                clear hbz
                obtain ⟨c0, c1⟩ := HAT.out
                go_wp2_with fail
                clear c0 c1
                refine (spec_supported_any _ _ _ xs xa l _ (HR.out.below HB.out)).mono ?_
                rintro e w2 ⟨rfl, hb⟩
                rw [HG1.out]
                replace HB := Lib.hid (below_on HB.out hb)
                replace HY := Lib.hid (HY.out.below hb)
                have hbz := Nat.lt_of_lt_of_le hbb hb.size
                replace HAT := Lib.hid (HAT.out.below hb hbb)
                clear hb hbb
                have hbb := hbz
                clear hbz
                obtain ⟨c0, c1⟩ := HAT.out
                rcases g2 : supp xs xb l with _ | _
                · have HG2 := Lib.hid g2
                  go_wp2_with fail
                  clear c0 c1
                  refine (spec_isSpan_any xa xb _).mono ?_
                  rintro e w2 ⟨rfl, hb⟩
                  rw [HOk.out]
                  replace HB := Lib.hid (below_on HB.out hb)
                  replace HY := Lib.hid (HY.out.below hb)
                  have hbz := Nat.lt_of_lt_of_le hbb hb.size
                  replace HAT := Lib.hid (HAT.out.below hb hbb)
                  clear hb hbb
                  have hbb := hbz
                  clear hbz
                  obtain ⟨c0, c1⟩ := HAT.out
                  go_wp2_with fail
                  clear c0 c1
                  refine (spec_supported_any _ _ _ xs xb l _ (HR.out.below HB.out)).mono ?_
                  rintro e w2 ⟨rfl, hb⟩
                  rw [HG2.out]
                  replace HB := Lib.hid (below_on HB.out hb)
                  replace HY := Lib.hid (HY.out.below hb)
                  have hbz := Nat.lt_of_lt_of_le hbb hb.size
                  replace HAT := Lib.hid (HAT.out.below hb hbb)
                  clear hb hbb
                  have hbb := hbz
                  clear hbz
                  obtain ⟨c0, c1⟩ := HAT.out
                  have HFk := Lib.hid (by rw [foldl_take hkL hx, HF.out]; simp [Agm.sst, okx, g1, g2]; intro hh; omega : (xs.take (k + 1)).foldl (Agm.sst okB fun t => supp xs t l) (-1, -1) = (f, t))
                  go_wp2_with fail
                  go_roundw
                  case rel => exact ⟨k + 1, f, t, by omega, rfl, rfl, by go_num, HFk, HY, HB⟩
                  case measure => simp [intOf]; omega
                · have HG2 := Lib.hid g2
                  go_wp2_with fail
                  clear c0 c1
                  refine (spec_isSpan_any xa xb _).mono ?_
                  rintro e w2 ⟨rfl, hb⟩
                  rw [HOk.out]
                  replace HB := Lib.hid (below_on HB.out hb)
                  replace HY := Lib.hid (HY.out.below hb)
                  have hbz := Nat.lt_of_lt_of_le hbb hb.size
                  replace HAT := Lib.hid (HAT.out.below hb hbb)
                  clear hb hbb
                  have hbb := hbz
                  clear hbz
                  obtain ⟨c0, c1⟩ := HAT.out
                  go_wp2_with fail
                  clear c0 c1
                  refine (spec_supported_any _ _ _ xs xb l _ (HR.out.below HB.out)).mono ?_
                  rintro e w2 ⟨rfl, hb⟩
                  rw [HG2.out]
                  replace HB := Lib.hid (below_on HB.out hb)
                  replace HY := Lib.hid (HY.out.below hb)
                  have hbz := Nat.lt_of_lt_of_le hbb hb.size
                  replace HAT := Lib.hid (HAT.out.below hb hbb)
                  clear hb hbb
                  have hbb := hbz
                  clear hbz
                  obtain ⟨c0, c1⟩ := HAT.out
                  go_wp2_with fail
                  refine (Ints.spec_max_any _ _ _).mono ?_
                  rintro e w3 ⟨rfl, rfl⟩
                  have HFk := Lib.hid (by rw [foldl_take hkL hx, HF.out]; simp [Agm.sst, okx, g1, g2]; intro hh; omega : (xs.take (k + 1)).foldl (Agm.sst okB fun t => supp xs t l) (-1, -1) = (f, (if t < xb then xb else t)))
                  go_wp2_with fail
                  go_roundw
                  case rel => exact ⟨k + 1, f, (if t < xb then xb else t), by omega, rfl, by unfold Ints.maxI; rfl, by go_num, HFk, HY, HB⟩
                  case measure => simp [intOf]; omega
      · obtain rfl : k = n := by omega
        have hF := HF.out
        rw [List.take_of_length_le (by rw [HL.out]; exact Nat.le_refl _)] at hF
        have h2 := HSp.out.symm.trans HAg.out
        rw [hF] at h2
        unfold Agm.tell at h2
        simp only at h2
        obtain ⟨q0, q1, _, _⟩ := HY.out.two
        have f0 := HY.out.free 0
        have f1 := HY.out.free 1
        by_cases hf : f < 0
        · rw [if_pos hf] at h2
          cases h2
          go_wp2_with fail
          exact bodyPost_ret (v := .tuple #[.agg #[.int .i64 0, .int .i64 0], .bool false]) (by simp [results, Tryz.results87, go_sem, q0, q1]) rfl ⟨rfl, (HB.out.setCell (p := ⟨w.heap.size, 0, none⟩) (Nat.le_refl _) _).setCell (p := ⟨w.heap.size, 1, none⟩) (Nat.le_refl _) _⟩
        · rw [if_neg hf] at h2
          cases h2
          go_wp2_with fail
          exact bodyPost_ret (v := .tuple #[.agg #[.int .i64 y0, .int .i64 y1], .bool true]) (by simp [results, Tryz.results87, go_sem, q0, q1]) rfl ⟨rfl, (HB.out.setCell (p := ⟨w.heap.size, 0, none⟩) (Nat.le_refl _) _).setCell (p := ⟨w.heap.size, 1, none⟩) (Nat.le_refl _) _⟩
end Go.Proofs.YtfojilogcecphaaGreat.Ags
