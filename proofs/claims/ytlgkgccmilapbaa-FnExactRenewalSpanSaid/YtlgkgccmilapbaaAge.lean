/- The edges of spans, sorted, in the program. -/
import Derived.Test.YtlgkgccmilapbaaJi
import Derived.Test.YtlgkgccmilapbaaAgm
namespace Go.Proofs.Ytlgkgccmilapbaa.Age
open Go.ChangeShapes Go.WideShapes Go.ChangeAt Go.RowKit Go.Shelf Go.Sort Sl St Jn Sps SlSpan Jo Ji
def or2 (a b : Int) : Int := if a = 0 then b else a
set_option maxRecDepth 100000 in
set_option maxHeartbeats 4000000 in
theorem or2_any (g : Nat) (a b : Int) (w : World) (h : Bx w g 3 #[.int .i64 a, .int .i64 b]) : Calls Try.prog 121 #[.slice (some ⟨g, 0, none⟩) 2 2] w fun e w' => e = .returned (.int .i64 (or2 a b)) ∧ w = w' := by
  have HX := Lib.hid h
  clear h
  have c0 := HX.out.cell (j := 0) rfl
  have c1 := HX.out.cell (j := 1) rfl
  rcases Classical.em (a = 0) with ha | ha
  rotate_left
  · have HE : Hid (or2 a b = a) := Lib.hid (if_neg ha)
    have e1 : (a != 0) = true := bne_iff_ne.2 ha
    have e2 : (a == 0) = false := beq_eq_false_iff_ne.2 ha
    clear ha
    go_enter Try.func121, Try.ntmps121
    go_wp2_with fail
    go_loop [8] (fun i => i = .int .i64 0) (fun _ => 0)
    case atStart => rfl
    case round =>
      obtain rfl := hrel
      go_wp2_with fail
      go_ret
      exact ⟨by rw [HE.out]; rfl, rfl⟩
  subst ha
  have HE : Hid (or2 0 b = b) := Lib.hid (if_pos rfl)
  rcases Classical.em (b = 0) with hb | hb
  rotate_left
  · have e1 : (b != 0) = true := bne_iff_ne.2 hb
    have e2 : (b == 0) = false := beq_eq_false_iff_ne.2 hb
    clear hb
    go_enter Try.func121, Try.ntmps121
    go_wp2_with fail
    go_loop [8] (fun i => i = .int .i64 0 ∨ i = .int .i64 1) (fun i => 3 - (intOf i).toNat)
    case atStart => exact Or.inl rfl
    case round =>
      rcases hrel with rfl | rfl
      · go_wp2_with fail
        go_round
        case rel => exact Or.inr rfl
        case measure => simp [intOf]
      · go_wp2_with fail
        go_ret
        exact ⟨by rw [HE.out]; rfl, rfl⟩
  subst hb
  go_enter Try.func121, Try.ntmps121
  go_wp2_with fail
  go_loop [8] (fun i => i = .int .i64 0 ∨ i = .int .i64 1 ∨ i = .int .i64 2) (fun i => 4 - (intOf i).toNat)
  case atStart => exact Or.inl rfl
  case round =>
    rcases hrel with rfl | rfl | rfl
    · go_wp2_with fail
      go_round
      case rel => exact Or.inr (Or.inl rfl)
      case measure => simp [intOf]
    · go_wp2_with fail
      go_round
      case rel => exact Or.inr (Or.inr rfl)
      case measure => simp [intOf]
    · go_wp2_with fail
      go_ret
      exact ⟨by rw [HE.out]; rfl, rfl⟩
set_option maxRecDepth 100000 in
set_option maxHeartbeats 4000000 in
theorem edge_cmp (x y : Sp) (W : World) : Calls Try.prog 120 #[.agg #[.int .i64 x.1, .int .i64 x.2], .agg #[.int .i64 y.1, .int .i64 y.2]] W fun e w' => e = .returned (.int .i64 (cf x y)) ∧ ∃ q os', w' = grow (W.drewN q) os' := by
  have k0 := cells2 W 136 x y
  have kx := (Bx.new ((W.alloc (.cells #[.int .i64 x.1, .int .i64 x.2] 136)).alloc (.cells #[.int .i64 y.1, .int .i64 y.2] 136)) 3 #[.int .i64 (Go.Lib.compareInt x.1 y.1), .int .i64 (Go.Lib.compareInt x.2 y.2)]).drew1
  have ez : ((W.alloc (.cells #[.int .i64 x.1, .int .i64 x.2] 136)).alloc (.cells #[.int .i64 y.1, .int .i64 y.2] 136)).heap.size = W.heap.size + 1 + 1 := by rw [World.size_alloc, World.size_alloc]
  rw [ez] at kx
  have HKX := Lib.hid kx
  have HE : Hid (or2 (Go.Lib.compareInt x.1 y.1) (Go.Lib.compareInt x.2 y.2) = cf x y) := Lib.hid rfl
  clear kx ez
  go_enter Try.func120, Try.ntmps120
  go_wp2_with fail
  go_region_held3 (fun w' => w'.cell? ⟨W.heap.size, 0, none⟩ = some (.int .i64 x.1) ∧ w'.cell? ⟨W.heap.size, 1, none⟩ = some (.int .i64 x.2) ∧ w'.cell? ⟨W.heap.size + 1, 0, none⟩ = some (.int .i64 y.1) ∧ w'.cell? ⟨W.heap.size + 1, 1, none⟩ = some (.int .i64 y.2)) (first | exact k0 | go_keep | fail) (first
    | (go_at_call 122; (with_reducible refine (Cm.cmp_any _ _ _).mono ?_); rintro e w1 ⟨rfl, rfl⟩)
    | (go_at_call 121; (with_reducible refine (or2_any _ _ _ _ HKX.out).mono ?_); rintro e w1 ⟨rfl, rfl⟩; rw [HE.out])
    | fail)
  go_wp2_with fail
  go_ret
  exact ⟨rfl, 1, #[(.cells #[.int .i64 x.1, .int .i64 x.2] 136), (.cells #[.int .i64 y.1, .int .i64 y.2] 136), (.cells #[.int .i64 (Go.Lib.compareInt x.1 y.1), .int .i64 (Go.Lib.compareInt x.2 y.2)] 3)], by
    show (((W.drew.alloc _).alloc _).alloc _) = _
    rw [alloc_eq_grow, alloc_eq_grow, alloc_eq_grow, grow_grow, grow_grow]
    rfl⟩
theorem asc2_of {d : Array Sp} (h : SortedIn (ltOf cf) 0 d.size d) : d.toList.Pairwise Agm.le2 := by
  rw [List.pairwise_iff_getElem]
  intro i j hi hj hij
  have hj2 : j < d.size := by simpa using hj
  have h1 := h i j (Nat.zero_le _) hij hj2
  rw [lt_eq, getElem!_pos d j hj2, getElem!_pos d i (Nat.lt_trans hij hj2)] at h1
  have h2 := of_decide_eq_false h1
  simp only [Array.getElem_toList]
  unfold Agm.le2
  omega
theorem sort_any {lo hi n c : Nat} {p : Option Addr} {xs : List Sp} {w : World} (ho : OwS E 136 w lo hi p n c xs) (hn : n ≤ 1099511627776) :
    Calls Try.prog 119 #[.slice p n c, .func (.func 120) #[] #[]] w fun e w' => e = .returned (.tuple #[]) ∧ ∃ ys : List Sp, ys.Perm xs ∧ ys.Pairwise Agm.le2 ∧ OwS E 136 w' lo hi p n c ys ∧ w.grownBy w' (Value.slice p n c).ownBlock := by
  rcases Nat.eq_zero_or_pos n with h0 | h0
  · subst h0
    refine (AnyF.slices_SortFunc_none Try.laysSortspanEdge p c _ w).mono ?_
    rintro e w' ⟨rfl, rfl⟩
    obtain rfl : xs = [] := List.eq_nil_of_length_eq_zero ho.len
    exact ⟨rfl, [], List.Perm.refl _, List.Pairwise.nil, ho, ⟨rfl, rfl, rfl, Nat.le_refl _, fun _ _ _ => rfl⟩⟩
  · obtain ⟨g, rfl, hg⟩ : ∃ g, p = some ⟨g, 0, none⟩ ∧ g < w.heap.size := by
      rcases ho.form with ⟨_, h1, _⟩ | ⟨g, h1, h2, h3, _⟩
      · omega
      · exact ⟨g, h1, Nat.lt_of_lt_of_le h3 ho.2.2.1⟩
    have hs : xs.toArray.size = n := by rw [List.size_toArray]; exact ho.len
    have h := AnyQ.slices_SortFunc Try.laysSortspanEdge 2 Try.isAgg136 Try.sizeOf136 E.of E.len E.one cf cf_swo 120 #[] g 0 c xs.toArray w (enters_of Try.func120 (by kernel_rfl) rfl) (fun _ _ _ _ x y => edge_cmp x y _) ho.holds hg (by rw [hs]; omega)
    rw [hs] at h
    refine Calls.mono h ?_
    rintro e w' ⟨rfl, d', q, os, h1, h2, rfl⟩
    have h1' : PermIn 0 xs.toArray.size xs.toArray d' := by rw [hs]; exact h1
    have h3 := perm_of h1'
    have hd : d'.size = n := h1.1.trans hs
    have h4 := own_sorted ho q os (ys := d'.toList) (by rw [Array.length_toList]; exact hd)
    rw [Array.toArray_toList] at h4
    exact ⟨rfl, d'.toList, h3, asc2_of (by rw [hd]; exact h2), h4.1, h4.2⟩
theorem edge_info : (Try.prog.info? 136).map (fun i => (i.zero, i.size, i.bytes)) = some (some (.agg #[.int .i64 0, .int .i64 0]), 2, 16) := by kernel_rfl
theorem es_snoc (l : List Sp) (x : Sp) : Agm.es okB (l ++ [x]) = Agm.es okB l ++ (if okB x = true then [(x.1, 0), (x.2, 1)] else []) := by
  unfold Agm.es
  rw [List.flatMap_append]
  simp
theorem es_no {xs : List Sp} {k : Nat} {x : Sp} (hk : k < xs.length) (hx : xs[k] = x) (h : okB x = false) : Agm.es okB (xs.take (k + 1)) = Agm.es okB (xs.take k) := by
  subst hx
  rw [take_at hk, es_snoc]
  simp [h]
theorem es_yes {xs : List Sp} {k : Nat} {x : Sp} (hk : k < xs.length) (hx : xs[k] = x) (h : okB x = true) : Agm.es okB (xs.take (k + 1)) = Agm.es okB (xs.take k) ++ [(x.1, 0), (x.2, 1)] := by
  subst hx
  rw [take_at hk, es_snoc]
  simp [h]
theorem es_len : ∀ l : List Sp, (Agm.es okB l).length ≤ 2 * l.length
  | [] => by simp [Agm.es]
  | s :: l => by
    have := es_len l
    rw [Agm.es_cons, List.length_append, List.length_cons]
    split <;> simp <;> omega
theorem two_own (T : TypeId) (w : World) (lo : Nat) (x y : Sp) (h : lo ≤ w.heap.size) : OwS E T (w.alloc (.cells #[.int .i64 x.1, .int .i64 x.2, .int .i64 y.1, .int .i64 y.2] T)) lo (w.alloc (.cells #[.int .i64 x.1, .int .i64 x.2, .int .i64 y.1, .int .i64 y.2] T)).heap.size (some ⟨w.heap.size, 0, none⟩) 2 2 [x, y] := lit_own E T w lo [x, y] _ 2 rfl rfl (by unfold maxLen; omega) h
/-- The call answers a new slice of the edges of the valid spans, in order. -/
def Sorts (xs : List Sp) (w : World) (e : Ending) (w' : World) : Prop := ∃ p n c ys, e = .returned (.slice p n c) ∧ OwS E 136 w' w.heap.size w'.heap.size p n c ys ∧ Below w.heap.size w w' ∧ ys.Pairwise Agm.le2 ∧ ys.Perm (Agm.es okB xs)
set_option maxRecDepth 100000 in
set_option maxHeartbeats 4000000 in
theorem edges_any (p : Option Addr) (n c : Nat) (xs : List Sp) (w : World) (hr : RdS E w p n xs) (hn : n ≤ 1048576) : Calls Try.prog 106 #[.slice p n c] w (Sorts xs w) := by
  obtain ⟨i0, hi, hz0, hz1, hz2⟩ := info_parts edge_info
  have HR := Lib.hid hr
  have HL := Lib.hid hr.len
  have HM : Hid (OwS E 136 (w.alloc (.cells #[] 136)) w.heap.size (w.alloc (.cells #[] 136)).heap.size (some ⟨w.heap.size, 0, none⟩) 0 0 (Agm.es okB (xs.take 0))) := Lib.hid (empty_own _ w _ (Nat.le_refl _))
  have HB : Hid (Below w.heap.size w (w.alloc (.cells #[] 136))) := Lib.hid ((Below.refl w.heap.size w).alloc (Nat.le_refl _) _)
  have hle := hr.le
  clear hr
  go_enter Try.func106, Try.ntmps106
  go_wp2_with fail
  go_loopw [3, 9] (fun v i wr => ∃ (k m c' : Nat) (p' : Option Addr), k ≤ n ∧ i = .int .i64 k ∧ v = .slice p' m c' ∧ Hid (OwS E 136 wr w.heap.size wr.heap.size p' m c' (Agm.es okB (xs.take k))) ∧ Hid (RowKit.Below w.heap.size w wr)) (fun _ i _ => n - (intOf i).toNat)
  case atStart => exact ⟨0, _, _, _, Nat.zero_le _, rfl, rfl, HM, HB⟩
  case round =>
    obtain ⟨k, m, c', p', hk, rfl, rfl, HK, HBr⟩ := hrel
    have hm : m ≤ 2 * n := by
      have h1 := HK.out.len
      have h2 := es_len (xs.take k)
      have h3 : (xs.take k).length ≤ k := by rw [List.length_take]; omega
      omega
    by_cases hlt : k < n
    · obtain ⟨b, o, rfl, hb, hat⟩ := rd_at (HR.out.below HBr.out) hlt
      have hkL : Hid (k < xs.length) := Lib.hid (by rw [HL.out]; exact hlt)
      generalize hx : xs.getD k zero = x at hat
      have HX := Lib.hid (getD_at hkL.out hx)
      obtain ⟨xa, xb⟩ := x
      obtain ⟨hc0, hc1⟩ := hat
      simp only at hc0 hc1
      clear hx
      have hsz := HBr.out.size
      rcases hok : okB (xa, xb) with _ | _
      all_goals
        have HOk := Lib.hid hok
        clear hok
        go_wp2_with fail
        refine (isSpan_any _ _ _).mono ?_
        rintro e w1 ⟨rfl, hb1⟩
        rw [HOk.out]
        have HK1 := Lib.hid (((HK.out.alloc _).below hb1).wide (Nat.le_refl _) (Nat.le_trans (by simp) hb1.size) (Nat.le_refl _))
        have HB1 := Lib.hid (below_on (HBr.out.alloc HBr.out.size _) hb1)
        have hsz1 := HB1.out.size
        have HBX := Lib.hid ((Bx.new wr 40 #[.int .i64 xa, .int .i64 xb]).below hb1)
        obtain ⟨q0, q1, q2, q3⟩ := HBX.out.two
        have hwl : w.heap.size < w1.heap.size := Nat.lt_of_le_of_lt hsz HBX.out.lt
        clear hb1
      · have HN : Hid (Agm.es okB (xs.take (k + 1)) = Agm.es okB (xs.take k)) := Lib.hid (es_no hkL.out HX.out HOk.out)
        go_wp2_with fail
        go_roundw
        case rel => exact ⟨k + 1, _, _, _, by omega, by go_num, rfl, Lib.hid (by rw [HN.out]; exact HK1.out), HB1⟩
        case measure => simp [intOf]; omega
      · have HN : Hid (Agm.es okB (xs.take (k + 1)) = Agm.es okB (xs.take k) ++ [(xa, 0), (xb, 1)]) := Lib.hid (es_yes hkL.out HX.out HOk.out)
        go_wp2_with (at_builtin; refine wpList_appS rfl (.tmp 15) (.tmp 22) 133 rfl i0 _ 16 Try.underlying133 hi hz0 hz1 hz2 rfl rfl (HK1.out.alloc _) (some ⟨w1.heap.size, 0, none⟩) 2 2 [(xa, 0), (xb, 1)] rfl (two_own _ w1 0 (xa, 0) (xb, 1) (Nat.zero_le _)).rd (Nat.le_trans hsz1 (by simp)) (by omega) (by omega) ?_; intro p3 c3 w3 how3 hg3; have HK3 := Lib.hid (how3.wide (Nat.le_refl _) (Nat.le_refl _) (Nat.le_refl _)); have HB3 := Lib.hid (below_rowS (HB1.out.alloc hsz1 _) (HK1.out.alloc _) hg3 (Nat.le_refl _)); clear how3 hg3)
        go_roundw
        case rel => exact ⟨k + 1, _, _, _, by omega, by go_num, rfl, Lib.hid (by rw [HN.out]; exact HK3.out), HB3⟩
        case measure => simp [intOf]; omega
    · obtain rfl : k = n := by omega
      go_wp2_with fail
      refine (sort_any HK.out (by omega)).mono ?_
      rintro e w1 ⟨rfl, ys, hp, ha, ho, hg⟩
      have HO := Lib.hid ho
      have HW := Lib.hid (below_rowS HBr.out HK.out hg (Nat.le_refl _))
      have HP := Lib.hid hp
      have HA := Lib.hid ha
      have HS := Lib.hid hg.size
      clear ho hg hp ha
      go_wp2_with fail
      go_ret
      have hp := HP.out
      rw [List.take_of_length_le (by rw [HL.out]; exact Nat.le_refl _)] at hp
      exact ⟨_, _, _, ys, rfl, HO.out.wide (Nat.le_refl _) HS.out (Nat.le_refl _), HW.out, HA.out, hp⟩
end Go.Proofs.Ytlgkgccmilapbaa.Age
