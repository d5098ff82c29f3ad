/- Contracts of the reference's lists of spans: one put in, the join. -/
import Derived.Test.YtlgkgccmilapbaaSlSpan
import Derived.Test.YtlgkgccmilapbaaSp
import Derived.Deep.QuietTactic
import Derived.BigQuiet
namespace Go.Proofs.Ytlgkgccmilapbaa.Jo
open Go.ChangeShapes Go.WideShapes Go.ChangeAt Go.RowKit Sl St Jn Sps SlSpan

/-- on the way: the list that is made, the span as it has grown -/
def PutWay (L : List Sp) (s0 : Sp) (k : Nat) (out : List Sp) (s : Sp) (p : Option Addr) (m c : Nat) (w wr : World) : Prop :=
  Put L s0 k out s ∧ OwS E 40 wr (w.heap.size + 1) wr.heap.size p m c out ∧ Bx wr w.heap.size 40 #[.int .i64 s.1, .int .i64 s.2] ∧ Below w.heap.size w wr ∧ w.heap.size + 1 ≤ wr.heap.size
theorem empty_own (T : TypeId) (w : World) (lo : Nat) (h : lo ≤ w.heap.size) : OwS E T (w.alloc (.cells #[] T)) lo (w.alloc (.cells #[] T)).heap.size (some ⟨w.heap.size, 0, none⟩) 0 0 [] :=
  lit_own E T w lo [] #[] 0 rfl rfl (Nat.zero_le _) h
theorem one_own (T : TypeId) (w : World) (lo : Nat) (x : Sp) (h : lo ≤ w.heap.size) : OwS E T (w.alloc (.cells #[.int .i64 x.1, .int .i64 x.2] T)) lo (w.alloc (.cells #[.int .i64 x.1, .int .i64 x.2] T)).heap.size (some ⟨w.heap.size, 0, none⟩) 1 1 [x] :=
  lit_own E T w lo [x] _ 1 rfl rfl (by unfold maxLen; omega) h
theorem PutWay.start {L : List Sp} {s : Sp} {w : World} (h : okB s = true) : PutWay L s 0 [] s (some ⟨w.heap.size + 1, 0, none⟩) 0 0 w ((w.alloc (.cells #[.int .i64 s.1, .int .i64 s.2] 40)).alloc (.cells #[] 40)) := by
  refine ⟨Put.start L s h, ?_, (Bx.new w _ _).alloc _, ((Below.refl w.heap.size w).alloc (Nat.le_refl _) _).alloc (by simp) _, by simp⟩
  have h2 := empty_own 40 (w.alloc (.cells #[.int .i64 s.1, .int .i64 s.2] 40)) (w.heap.size + 1) (by simp)
  rw [World.size_alloc w] at h2
  exact h2
theorem one_rd (T : TypeId) (w : World) (O : Obj) (x : Sp) : RdS E ((w.alloc O).alloc (.cells #[.int .i64 x.1, .int .i64 x.2] T)) (some ⟨w.heap.size + 1, 0, none⟩) 1 [x] := by
  have h := (one_own T (w.alloc O) 0 x (Nat.zero_le _)).rd
  rw [World.size_alloc] at h
  exact h
/-- the element apart goes behind the list -/
theorem PutWay.skip {L out : List Sp} {s0 s x : Sp} {k m c c' : Nat} {p p' : Option Addr} {w wr w3 : World} {O : Obj} (h : PutWay L s0 k out s p m c w wr) (hL : Jn.Can L) (hk : k < L.length) (hx : L.getD k zero = x) (ha : x.2 + 1 < s.1 ∨ s.2 + 1 < x.1)
    (ho : OwS E 40 w3 (w.heap.size + 1) w3.heap.size p' (m + 1) c' (out ++ [x])) (hg : ((wr.alloc O).alloc (.cells #[.int .i64 x.1, .int .i64 x.2] 40)).grownBy w3 (Value.slice p m c).ownBlock) : PutWay L s0 (k + 1) (out ++ [x]) s p' (m + 1) c' w w3 := by
  obtain ⟨h1, h2, h3, h4, h5⟩ := h
  have hxe : L[k] = x := by rw [← hx, List.getD_eq_getElem?_getD, List.getElem?_eq_getElem hk]; rfl
  have hp := h1.skip hL hk (by rw [hxe]; exact ha)
  rw [hxe] at hp
  have hf := h2.far
  have hs := hg.size
  simp at hs
  refine ⟨hp, ho, ((h3.alloc _).alloc _).grown hg (fun e => by have := hf _ e.symm; omega), ((h4.alloc h4.size _).alloc (by simp; omega) _).grown hg (by simp; omega) (fun k e => by have := hf k e; omega), by omega⟩
theorem PutWay.merge {L out : List Sp} {s0 s x : Sp} {u v : Int} {k m c : Nat} {p : Option Addr} {w wr w3 : World} (h : PutWay L s0 k out s p m c w wr) (hL : Jn.Can L) (hk : k < L.length) (hx : L.getD k zero = x) (ha : ¬ (x.2 + 1 < s.1 ∨ s.2 + 1 < x.1))
    (hu : min s.1 x.1 = u) (hv : max s.2 x.2 = v) (hb : Bx w3 w.heap.size 40 #[.int .i64 u, .int .i64 v]) (hg : wr.grownBy w3 (some w.heap.size)) : PutWay L s0 (k + 1) out (u, v) p m c w w3 := by
  subst hu hv
  obtain ⟨h1, h2, h3, h4, h5⟩ := h
  have hxe : L[k] = x := by rw [← hx, List.getD_eq_getElem?_getD, List.getElem?_eq_getElem hk]; rfl
  have hp := h1.merge hL hk (by rw [hxe]; exact ha)
  rw [hxe] at hp
  have hs := hg.size
  exact ⟨hp, (h2.kept hg (fun g e => by simp at e; omega)).wide (Nat.le_refl _) hs (Nat.le_refl _), hb, h4.grown hg h4.size (fun k e => by simp at e; omega), by omega⟩

theorem below_lit {wo W w4 : World} {O : Obj} {n c : Nat} (hW : Below wo.heap.size wo W) (hg : (W.alloc O).grownBy w4 (Value.slice (some ⟨W.heap.size, 0, none⟩) n c).ownBlock) : Below wo.heap.size wo w4 :=
  (hW.alloc hW.size _).grown hg (Nat.le_trans hW.size (by simp)) (fun k e => by simp [Value.ownBlock] at e; have := hW.size; omega)
theorem below_own {wo W w4 : World} {g n c : Nat} (hW : Below wo.heap.size wo W) (h0 : wo.heap.size ≤ g) (hg : W.grownBy w4 (Value.slice (some ⟨g, 0, none⟩) n c).ownBlock) : Below wo.heap.size wo w4 :=
  hW.grown hg hW.size (fun k e => by simp [Value.ownBlock] at e; omega)
theorem empty_ownG (T : TypeId) (w : World) (g lo : Nat) (hg : g = w.heap.size) (h : lo ≤ w.heap.size) : OwS E T (w.alloc (.cells #[] T)) lo (w.alloc (.cells #[] T)).heap.size (some ⟨g, 0, none⟩) 0 0 [] := by
  subst hg
  exact empty_own T w lo h
theorem one_rdG (T : TypeId) (w : World) (g : Nat) (x : Sp) (hg : g = w.heap.size) : RdS E (w.alloc (.cells #[.int .i64 x.1, .int .i64 x.2] T)) (some ⟨g, 0, none⟩) 1 [x] := by
  subst hg
  exact (one_own T w 0 x (Nat.zero_le _)).rd
theorem rd_off {w w4 : World} {g g' n c m : Nat} {xs : List Sp} (h : RdS E w (some ⟨g, 0, none⟩) m xs) (hg : w.grownBy w4 (Value.slice (some ⟨g', 0, none⟩) n c).ownBlock) (hne : g ≠ g') : RdS E w4 (some ⟨g, 0, none⟩) m xs :=
  h.grown hg fun b o e => by
    simp only [Option.some.injEq, Addr.mk.injEq, and_true] at e
    simp only [Value.ownBlock, ne_eq, Option.some.injEq]
    omega
set_option maxRecDepth 100000 in
set_option maxHeartbeats 8000000 in
theorem put_any (p : Option Addr) (n c : Nat) (L : List Sp) (a0 b0 : Int) (w : World) (hr : RdS E w p n L) (hL : Jn.Can L) (hs : okB (a0, b0) = true) (hn : n ≤ 1099511627776) : Calls Try.prog 75 #[.slice p n c, .agg #[.int .i64 a0, .int .i64 b0]] w (Makes (ins (a0, b0) L) w) := by
  obtain ⟨i0, hi, hz0, hz1, hz2⟩ := info_parts info
  have HR := Lib.hid hr
  have HLen := Lib.hid hr.len
  have HCan := Lib.hid hL
  have HOk := Lib.hid hs
  have HM := Lib.hid (PutWay.start (L := L) (w := w) hs)
  have hle := hr.le
  clear hr hL hs
  go_enter Try.func75, Try.ntmps75
  go_wp2_with fail
  go_loopw [5, 6] (fun v i wr => ∃ (k m c' : Nat) (p' : Option Addr) (out : List Sp) (s : Sp), k ≤ n ∧ i = .int .i64 k ∧ v = .slice p' m c' ∧ Hid (PutWay L (a0, b0) k out s p' m c' w wr)) (fun _ i _ => n - (intOf i).toNat)
  case atStart => exact ⟨0, _, _, _, _, _, Nat.zero_le _, rfl, rfl, HM⟩
  case round =>
    obtain ⟨k, m, c', p', out, ⟨sa, sb⟩, hk, rfl, rfl, HK⟩ := hrel
    have hsz := HK.out.2.2.2.2
    have hm : m ≤ n := by have := HK.out.1.len; have := HK.out.2.1.len; omega
    obtain ⟨vs1, vs2, vs3, vs4, vs5⟩ := okB_yes HK.out.1.ok
    by_cases hlt : k < n
    · obtain ⟨b, o, rfl, hb, hat⟩ := rd_at (HR.out.below HK.out.2.2.2.1) hlt
      have hkL : Hid (k < L.length) := Lib.hid (by rw [HLen.out]; exact hlt)
      have hox : okB (L.getD k zero) = true := by
        have := HCan.out.ok (List.getElem_mem hkL.out)
        rwa [List.getD_eq_getElem?_getD, List.getElem?_eq_getElem hkL.out]
      generalize hx : L.getD k zero = x at hat hox
      have HX := Lib.hid hx
      obtain ⟨xa, xb⟩ := x
      obtain ⟨hc0, hc1⟩ := hat
      obtain ⟨vx1, vx2, vx3, vx4, vx5⟩ := okB_yes hox
      simp only at vs1 vs2 vs3 vs4 vs5 vx1 vx2 vx3 vx4 vx5 hc0 hc1
      obtain ⟨s1, s2, s3, s4⟩ := HK.out.2.2.1.two
      clear hx hox
      have hbn : b ≠ wr.heap.size := by omega
      have hwl : w.heap.size < wr.heap.size := by omega
      rcases (show (xb + 1 < sa) ∨ (¬ xb + 1 < sa ∧ sb + 1 < xa) ∨ (¬ xb + 1 < sa ∧ ¬ sb + 1 < xa) by omega) with ha | ⟨ha, ha2⟩ | ⟨ha, ha2⟩
      · have HA : Hid (xb + 1 < sa ∨ sb + 1 < xa) := Lib.hid (Or.inl ha)
        go_wp2_with (at_builtin; refine wpList_appS rfl (.tmp 34) (.tmp 36) 26 rfl i0 _ 16 Try.underlying26 hi hz0 hz1 hz2 rfl rfl ((HK.out.2.1.alloc _).alloc _) (some ⟨wr.heap.size + 1, 0, none⟩) 1 1 [(xa, xb)] rfl (one_rd _ wr _ (xa, xb)) (by simp; omega) (by omega) (by omega) ?_; intro p3 c3 w3 how3 hg3; have HK3 := Lib.hid (HK.out.skip HCan.out hkL.out HX.out HA.out how3 hg3); clear how3 hg3)
        go_roundw
        case rel => exact ⟨k + 1, _, _, _, _, _, by omega, by go_num, rfl, HK3⟩
        case measure => simp [intOf]; omega
      · have HA : Hid (xb + 1 < sa ∨ sb + 1 < xa) := Lib.hid (Or.inr ha2)
        go_wp2_with (at_builtin; refine wpList_appS rfl (.tmp 34) (.tmp 36) 26 rfl i0 _ 16 Try.underlying26 hi hz0 hz1 hz2 rfl rfl ((HK.out.2.1.alloc _).alloc _) (some ⟨wr.heap.size + 1, 0, none⟩) 1 1 [(xa, xb)] rfl (one_rd _ wr _ (xa, xb)) (by simp; omega) (by omega) (by omega) ?_; intro p3 c3 w3 how3 hg3; have HK3 := Lib.hid (HK.out.skip HCan.out hkL.out HX.out HA.out how3 hg3); clear how3 hg3)
        go_roundw
        case rel => exact ⟨k + 1, _, _, _, _, _, by omega, by go_num, rfl, HK3⟩
        case measure => simp [intOf]; omega
      · have HA : Hid (¬ (xb + 1 < sa ∨ sb + 1 < xa)) := Lib.hid (by omega)
        obtain ⟨u, hu⟩ : ∃ u, min sa xa = u := ⟨_, rfl⟩
        obtain ⟨v, hv⟩ : ∃ v, max sb xb = v := ⟨_, rfl⟩
        have HU := Lib.hid hu
        have HV := Lib.hid hv
        clear hu hv
        go_wp2_with fail
        refine (spec_min_b _ _ _).mono ?_
        rintro e w1 ⟨rfl, rfl⟩
        rw [HU.out]
        go_wp2_with fail
        refine (spec_max_b _ _ _).mono ?_
        rintro e w1 ⟨rfl, rfl⟩
        rw [HV.out]
        go_wp2_with fail
        refine ⟨⟨k + 1, m, c', p', out, (u, v), by omega, by go_num, rfl, Lib.hid (HK.out.merge HCan.out hkL.out HX.out HA.out HU.out HV.out (((HK.out.2.2.1.set_ 0 _).set_ 1 _).alloc _) (grown_alloc (grown_set2 (Below.refl _ _) _ _ _ _ _) _))⟩, by simp [intOf]; omega⟩
    · obtain rfl : k = n := by omega
      obtain ⟨hP, hO, hX, hB, _⟩ := HK.out
      have HP := Lib.hid hP
      have HO := Lib.hid hO
      have HX := Lib.hid hX
      have HB := Lib.hid hB
      have HOL := Lib.hid hO.len
      obtain ⟨s1, s2, s3, s4⟩ := hX.two
      have hwl : w.heap.size < wr.heap.size := by omega
      clear hP hO hX hB HK
      go_wp2_with fail
      obtain ⟨wo, hwo⟩ : ∃ wo : World, wo = wr := ⟨_, rfl⟩
      subst hwo
      go_loopw [8] (fun i wr => ∃ j q : Nat, j ≤ m ∧ i = .int .i64 j ∧ wr = wo.drewN q ∧ Hid (∀ x ∈ out.take j, x.1 < sa)) (fun i _ => m - (intOf i).toNat)
      case atStart => exact ⟨0, 0, Nat.zero_le _, rfl, rfl, Lib.hid (fun x hx => by simp at hx)⟩
      case round =>
        obtain ⟨j, q, hj, rfl, rfl, HJ⟩ := hrel
        by_cases hgo : j < m ∧ (out.getD j zero).1 < sa
        · obtain ⟨hjm, hlt2⟩ := hgo
          obtain ⟨g, o, rfl, hg, hat⟩ := rd_at HO.out.rd hjm
          generalize hy : out.getD j zero = y at hat hlt2
          have HY := Lib.hid hy
          obtain ⟨ya, yb⟩ := y
          obtain ⟨d0, d1⟩ := hat
          clear hy
          simp only at d0 d1 hlt2
          have i1 : (0 : Int) ≤ (j : Int) := by omega
          have i2 : (j : Int) < (m : Int) := by omega
          have hb1 : decide ((j : Int) < (m : Int)) = true := decide_eq_true i2
          have hb2 : decide (j < m) = true := decide_eq_true hjm
          have hb3 : decide (ya < sa) = true := decide_eq_true hlt2
          have HL2 := Lib.hid hlt2
          go_wp2_with fail
          go_quiet (fail)
          go_wp2_with fail
          refine ⟨⟨j + 1, _, by omega, by go_num, rfl, Lib.hid fun x hx => ?_⟩, by simp [intOf]; omega⟩
          rw [List.take_succ_eq_append_getElem (by rw [HOL.out]; exact hjm)] at hx
          rcases List.mem_append.1 hx with hx | hx
          · exact HJ.out x hx
          · rw [List.mem_singleton] at hx
            have h := HY.out
            rw [List.getD_eq_getElem?_getD, List.getElem?_eq_getElem (by rw [HOL.out]; exact hjm)] at h
            have h2 : out[j]'(by rw [HOL.out]; exact hjm) = (ya, yb) := h
            rw [hx, h2]
            exact HL2.out
        · have HE : Hid (∀ hj : j < out.length, sa ≤ out[j].1) := Lib.hid fun hj => by
            have h1 : j < m := by rw [← HOL.out]; exact hj
            have h2 : ¬ (out.getD j zero).1 < sa := fun h => hgo ⟨h1, h⟩
            rw [List.getD_eq_getElem?_getD, List.getElem?_eq_getElem hj] at h2
            exact Int.not_lt.1 h2
          have hmc := HO.out.le
          obtain ⟨hmc1, hmc2⟩ := hmc
          have i1 : (0 : Int) ≤ (j : Int) := by omega
          have i3 : (j : Int) ≤ (m : Int) := by omega
          have i4 : (m : Int) ≤ (c' : Int) := by omega
          have i5 : (j : Int) ≤ (c' : Int) := by omega
          rcases (show (j < m ∧ ¬ c' = j) ∨ (j = m ∧ ¬ c' = j) ∨ (j = m ∧ c' = j) by omega) with ⟨hjm, hcj⟩ | ⟨hjm, hcj⟩ | ⟨hjm, hcj⟩
          focus
            obtain ⟨g, o, rfl, hg, hat⟩ := rd_at HO.out.rd hjm
            obtain rfl : o = 0 := by
              rcases HO.out.form with ⟨h, _⟩ | ⟨g', h, _⟩
              · cases h
              · simp only [Option.some.injEq, Addr.mk.injEq] at h; exact h.2.1
            have hn2 : ¬ (out.getD j zero).1 < sa := fun h => hgo ⟨hjm, h⟩
            generalize hy : out.getD j zero = y at hat hn2
            obtain ⟨ya, yb⟩ := y
            obtain ⟨d0, d1⟩ := hat
            clear hy hgo
            simp only [Nat.zero_add] at d0 d1 hn2
            have i2 : (j : Int) < (m : Int) := by omega
            have hb1 : decide ((j : Int) < (m : Int)) = true := decide_eq_true i2
            have hb2 : decide (j < m) = true := decide_eq_true hjm
            have hb3 : decide (ya < sa) = false := decide_eq_false hn2
            have HS1 : Hid (RdS E wo (some ⟨g, 0, none⟩) j (out.take j)) := Lib.hid (by
              have h := HO.out.rd.cut (lo := 0) (m := j) (p' := some ⟨g, 0, none⟩) (by omega) (fun _ b o e => by simp only [Option.some.injEq, Addr.mk.injEq, and_true] at e; obtain ⟨rfl, rfl⟩ := e; rw [Nat.zero_mul])
              exact h)
            obtain ⟨D, hD⟩ : ∃ D, D = out.drop j := ⟨_, rfl⟩
            have HS2 : Hid (RdS E wo (some ⟨g, j * 2, none⟩) (m - j) D) := Lib.hid (by
              have h := HO.out.rd.cut (lo := j) (m := m - j) (p' := some ⟨g, j * 2, none⟩) (by omega) (fun _ b o e => by simp only [Option.some.injEq, Addr.mk.injEq, and_true] at e; obtain ⟨rfl, rfl⟩ := e; rw [Nat.zero_add]; rfl)
              rw [List.take_of_length_le (by rw [List.length_drop, HOL.out]; exact Nat.le_refl _), ← hD] at h
              exact h)
            have HD := Lib.hid hD
            clear hD
            go_wp2_with fail
            go_quiet (fail)
            go_wp2_with fail
          rotate_left
          focus
            rcases HO.out.form with ⟨rfl, hm0, hc0⟩ | ⟨g, rfl, hg1, hg2, _⟩
            · omega
            obtain rfl := hjm
            clear hgo
            have hb1 : decide ((j : Int) < (j : Int)) = false := decide_eq_false (by omega)
            have hb2 : decide (j < j) = false := decide_eq_false (by omega)
            have HS1 : Hid (RdS E wo (some ⟨g, 0, none⟩) j (out.take j)) := Lib.hid (by
              have h := HO.out.rd.cut (lo := 0) (m := j) (p' := some ⟨g, 0, none⟩) (by omega) (fun _ b o e => by simp only [Option.some.injEq, Addr.mk.injEq, and_true] at e; obtain ⟨rfl, rfl⟩ := e; rw [Nat.zero_mul])
              exact h)
            obtain ⟨D, hD⟩ : ∃ D, D = out.drop j := ⟨_, rfl⟩
            have HS2 : Hid (RdS E wo (some ⟨g, j * 2, none⟩) 0 D) := Lib.hid (by
              rw [hD, List.drop_of_length_le (by rw [HOL.out]; exact Nat.le_refl _)]
              exact RdS.nil_ _ _ _)
            have HD := Lib.hid hD
            clear hD
            go_wp2_with fail
            go_quiet (fail)
            go_wp2_with fail
          rotate_left
          focus
            obtain rfl := hjm
            obtain rfl := hcj.symm
            clear hgo
            have hb1 : decide ((j : Int) < (j : Int)) = false := decide_eq_false (by omega)
            have hb2 : decide (j < j) = false := decide_eq_false (by omega)
            have HS1 : Hid (RdS E wo p' j (out.take j)) := Lib.hid (by
              rw [List.take_of_length_le (by rw [HOL.out]; exact Nat.le_refl _)]
              exact HO.out.rd)
            obtain ⟨D, hD⟩ : ∃ D, D = out.drop j := ⟨_, rfl⟩
            have HS2 : Hid (RdS E wo p' 0 D) := Lib.hid (by
              rw [hD, List.drop_of_length_le (by rw [HOL.out]; exact Nat.le_refl _)]
              exact RdS.nil_ _ _ _)
            have HD := Lib.hid hD
            clear hD
            go_wp2_with fail
            go_quiet (fail)
            go_wp2_with fail
          rotate_left
          all_goals
            go_region_held3 (fun w' => w'.cell? ⟨w.heap.size, 0, none⟩ = some (.int .i64 sa) ∧ w'.cell? ⟨w.heap.size, 1, none⟩ = some (.int .i64 sb)) (first | exact ⟨HX4.out.cell rfl, HX4.out.cell rfl⟩ | exact ⟨(HX4.out.alloc _).cell rfl, (HX4.out.alloc _).cell rfl⟩ | go_keep) (first
              | (refine step_appS (by rfl) (.tmp 66) (.tmp 69) 26 (by rfl) i0 _ 16 Try.underlying26 hi hz0 hz1 hz2 (by rfl) (by rfl) (empty_own _ _ wo.heap.size (Nat.le_refl _)) _ _ _ (out.take j) (by rfl) ((RdS.drewN HS1.out _).alloc _) (by simp) (by omega) (by omega) ?_; intro p4 c4 w4 how4 hg4; have HB4 := Lib.hid (below_lit (below_drewN (Below.refl wo.heap.size wo) _) hg4); rw [Nat.zero_add, List.nil_append] at how4; have HO4 := Lib.hid how4; have HX4 := Lib.hid (HX.out.below HB4.out); clear how4 hg4)
              | (refine step_appS (by rfl) (.tmp 66) (.tmp 69) 26 (by rfl) i0 _ 16 Try.underlying26 hi hz0 hz1 hz2 (by rfl) (by rfl) ((empty_own _ _ wo.heap.size (Nat.le_refl _)).alloc _) _ _ _ (out.take j) (by rfl) (((RdS.drewN HS1.out _).alloc _).alloc _) (by simp; omega) (by omega) (by omega) ?_; intro p4 c4 w4 how4 hg4; have HB4 := Lib.hid (below_own (((below_drewN (Below.refl wo.heap.size wo) _).alloc (Nat.le_refl _) _).alloc (by simp) _) (Nat.le_refl _) hg4); have HS3 := Lib.hid (rd_off (one_rdG _ _ (wo.heap.size + 1) (sa, sb) (by simp)) hg4 (by omega)); have HO4 := Lib.hid how4; have HX4 := Lib.hid (HX.out.below HB4.out); clear how4 hg4)
              | (refine step_appS (by rfl) (.tmp 66) (.tmp 69) 26 (by rfl) i0 _ 16 Try.underlying26 hi hz0 hz1 hz2 (by rfl) (by rfl) (empty_ownG _ _ (wo.heap.size + 1) wo.heap.size (by simp) (by simp)) _ _ _ (out.take j) (by rfl) (((RdS.drewN HS1.out _).alloc _).alloc _) (by simp; omega) (by omega) (by omega) ?_; intro p4 c4 w4 how4 hg4; have HB4 := Lib.hid (below_own (((below_drewN (Below.refl wo.heap.size wo) _).alloc (Nat.le_refl _) _).alloc (by simp) _) (Nat.le_succ _) hg4); have HS3 := Lib.hid (rd_off ((one_rdG _ _ wo.heap.size (sa, sb) (by rfl)).alloc _) hg4 (by omega)); have HO4 := Lib.hid how4; have HX4 := Lib.hid (HX.out.below HB4.out); clear how4 hg4)
              | (refine step_appS (by rfl) (.tmp 70) (.tmp 72) 26 (by rfl) i0 _ 16 Try.underlying26 hi hz0 hz1 hz2 (by rfl) (by rfl) (HO4.out.alloc _) (some ⟨w4.heap.size, 0, none⟩) 1 _ [(sa, sb)] (by rfl) (one_own _ w4 0 (sa, sb) (Nat.zero_le _)).rd (Nat.le_trans HB4.out.size (by simp)) (by omega) (by omega) ?_; intro p5 c5 w5 how5 hg5; have HB5 := Lib.hid ((HB4.out.alloc HB4.out.size _).trans ((HO4.out.alloc _).below_row hg5 (Nat.le_trans HB4.out.size (by simp)))); have HO5 := Lib.hid how5; replace HX4 := Lib.hid (HX.out.below HB5.out); clear how5 hg5)
              | (refine step_appS (by rfl) (.tmp 70) (.tmp 72) 26 (by rfl) i0 _ 16 Try.underlying26 hi hz0 hz1 hz2 (by rfl) (by rfl) HO4.out (some ⟨wo.heap.size + 1, 0, none⟩) 1 _ [(sa, sb)] (by rfl) HS3.out HB4.out.size (by omega) (by omega) ?_; intro p5 c5 w5 how5 hg5; have HB5 := Lib.hid (HB4.out.trans (HO4.out.below_row hg5 HB4.out.size)); have HO5z := Lib.hid how5; rw [Nat.zero_add, List.nil_append] at how5; have HO5 := Lib.hid how5; replace HX4 := Lib.hid (HX.out.below HB5.out); clear how5 hg5)
              | (refine step_appS (by rfl) (.tmp 70) (.tmp 72) 26 (by rfl) i0 _ 16 Try.underlying26 hi hz0 hz1 hz2 (by rfl) (by rfl) HO4.out (some ⟨wo.heap.size, 0, none⟩) 1 _ [(sa, sb)] (by rfl) HS3.out HB4.out.size (by omega) (by omega) ?_; intro p5 c5 w5 how5 hg5; have HB5 := Lib.hid (HB4.out.trans (HO4.out.below_row hg5 HB4.out.size)); have HO5z := Lib.hid how5; rw [Nat.zero_add, List.nil_append] at how5; have HO5 := Lib.hid how5; replace HX4 := Lib.hid (HX.out.below HB5.out); clear how5 hg5)
              | (refine step_appS (by rfl) (.tmp 73) (.tmp 76) 26 (by rfl) i0 _ 16 Try.underlying26 hi hz0 hz1 hz2 (by rfl) (by rfl) HO5.out _ _ _ D (by rfl) (HS2.out.below HB5.out) HB5.out.size (by omega) (by omega) ?_; intro p6 c6 w6 how6 hg6; have HB6 := Lib.hid (HB5.out.trans (HO5.out.below_row hg6 HB5.out.size)); have HO6 := Lib.hid how6; replace HX4 := Lib.hid (HX.out.below HB6.out); clear how6 hg6)
              | (refine step_appS (by rfl) (.tmp 73) (.tmp 76) 26 (by rfl) i0 _ 16 Try.underlying26 hi hz0 hz1 hz2 (by rfl) (by rfl) HO5z.out _ _ _ D (by rfl) (HS2.out.below HB5.out) HB5.out.size (by omega) (by omega) ?_; intro p6 c6 w6 how6 hg6; have HB6 := Lib.hid (HB5.out.trans (HO5z.out.below_row hg6 HB5.out.size)); rw [Nat.zero_add, List.nil_append] at how6; have HO6 := Lib.hid how6; replace HX4 := Lib.hid (HX.out.below HB6.out); clear how6 hg6))
            all_goals
              go_wp2_with fail
              go_ret
              have hp := HP.out
              rw [← HLen.out] at hp
              have hd := hp.done HOk.out HCan.out HJ.out HE.out
              rw [← HD.out] at hd
              have ho := HO6.out
              rw [hd] at ho
              exact ⟨_, _, _, rfl, ho.wide HB.out.size (Nat.le_refl _) (Nat.le_refl _), below_on HB.out HB6.out⟩
end Go.Proofs.Ytlgkgccmilapbaa.Jo
