/- Contracts of the owners that are missing, and of the next one; in the program (a closure handed on) and in the reference. -/
import Derived.Test.YtjoeacdoblgncaaSg
import Derived.Test.YtjoeacdoblgncaaSlRule
import Derived.LoopTactic
namespace Go.Proofs.Ytjoeacdoblgncaa.Mo
open Go.ChangeShapes Go.WideShapes Go.ChangeAt Go.RowKit Go.Shelf Sl St Fnd Kn Kr Ki Km Ko SlSignature Gi Ge Gs Sg
def isMiss (ks : List I5) (xs : List I9) (dg ow : Int) : Bool := decide (first (sg ks ow dg) xs < 0)
def miss (ks : List I5) (xs : List I9) (dg : Int) (ows : List Int) : List Int := ows.filter (isMiss ks xs dg)
theorem isMiss_yes {ks : List I5} {xs : List I9} {dg ow r : Int} (h : first (sg ks ow dg) xs = r) (h0 : r < 0) : isMiss ks xs dg ow = true := by unfold isMiss; rw [h]; exact decide_eq_true h0
theorem isMiss_no {ks : List I5} {xs : List I9} {dg ow r : Int} (h : first (sg ks ow dg) xs = r) (h0 : ¬ r < 0) : isMiss ks xs dg ow = false := by unfold isMiss; rw [h]; exact decide_eq_false h0
theorem filt_no {pr : Int → Bool} {zs : List Int} {k : Nat} {x : Int} (hk : k < zs.length) (hx : zs.getD k 0 = x) (h : pr x = false) : (zs.take (k + 1)).filter pr = (zs.take k).filter pr := by
  rw [take_succ 0 hk, List.filter_append, hx]
  simp [h]
theorem filt_yes {pr : Int → Bool} {zs : List Int} {k : Nat} {x : Int} (hk : k < zs.length) (hx : zs.getD k 0 = x) (h : pr x = true) : (zs.take (k + 1)).filter pr = (zs.take k).filter pr ++ [x] := by
  rw [take_succ 0 hk, List.filter_append, hx]
  simp [h]
def MoWay (pr : Int → Bool) (zs : List Int) (k : Nat) (p : Option Addr) (m c : Nat) (w wr : World) : Prop := Ow .i64 3 wr w.heap.size wr.heap.size p m c ((zs.take k).filter pr) ∧ Below w.heap.size w wr
theorem MoWay.len {pr : Int → Bool} {zs : List Int} {k : Nat} {p : Option Addr} {m c : Nat} {w wr : World} (h : MoWay pr zs k p m c w wr) : m ≤ k := by
  have h1 := h.1.len
  have h2 := List.length_filter_le pr (zs.take k)
  rw [List.length_take] at h2
  omega
theorem MoWay.next {pr : Int → Bool} {zs : List Int} {k : Nat} {p : Option Addr} {m c : Nat} {w wr w1 : World} (h : MoWay pr zs k p m c w wr) (hb : Below wr.heap.size wr w1) (hi : (zs.take (k + 1)).filter pr = (zs.take k).filter pr) : MoWay pr zs (k + 1) p m c w w1 := ⟨by rw [hi]; exact (h.1.below hb).wide (Nat.le_refl _) hb.size (Nat.le_refl _), below_on h.2 hb⟩
set_option maxRecDepth 100000 in
set_option maxHeartbeats 4000000 in
theorem pred_any (g1 g2 g3 : Nat) (p : Option Addr) (n c : Nat) (ks : List I5) (hR : ∀ x ∈ ks, SlKey.InR x) (q : Option Addr) (m c' : Nat) (xs : List I9) (hX : ∀ x ∈ xs, InR x) (dg ow : Int) (w : World) (hk : Bx w g1 31 #[.slice p n c]) (hl : Bx w g2 35 #[.slice q m c']) (hd : Bx w g3 3 #[.int .i64 dg]) (hr : RdS SlKey.E w p n ks) (hs : RdS E w q m xs) : Calls Try.prog 57 #[.int .i64 ow, .pointer (some ⟨g1, 0, none⟩), .pointer (some ⟨g2, 0, none⟩), .pointer (some ⟨g3, 0, none⟩)] w fun e w' => e = .returned (.bool (isMiss ks xs dg ow)) ∧ Below w.heap.size w w' := by
  have HR := Lib.hid hr
  have HS := Lib.hid hs
  have k1 := hk.cell (j := 0) rfl
  have k2 := hl.cell (j := 0) rfl
  have k3 := hd.cell (j := 0) rfl
  clear hk hl hd hr hs
  obtain ⟨φ, hφ⟩ : ∃ r, first (sg ks ow dg) xs = r := ⟨_, rfl⟩
  have HF := Lib.hid hφ
  by_cases h0 : φ < 0
  · have HM := Lib.hid (isMiss_yes hφ h0)
    clear hφ
    go_enter Try.func57, Try.ntmps57
    go_wp2_with fail
    refine (sigOf_any p n c ks hR q m c' xs hX ow dg _ HR.out HS.out).mono ?_
    rintro e w1 ⟨rfl, hb⟩
    rw [HF.out]
    have HB := Lib.hid hb
    clear hb
    go_wp2_with fail
    go_ret
    exact ⟨by rw [HM.out]; try rfl, HB.out⟩
  · have HM := Lib.hid (isMiss_no hφ h0)
    clear hφ
    go_enter Try.func57, Try.ntmps57
    go_wp2_with fail
    refine (sigOf_any p n c ks hR q m c' xs hX ow dg _ HR.out HS.out).mono ?_
    rintro e w1 ⟨rfl, hb⟩
    rw [HF.out]
    have HB := Lib.hid hb
    clear hb
    go_wp2_with fail
    go_ret
    exact ⟨by rw [HM.out]; show Ending.returned (Value.bool (decide (φ < 0))) = _; rw [decide_eq_false (by omega)], HB.out⟩
set_option maxRecDepth 100000 in
set_option maxHeartbeats 4000000 in
theorem elems_any (pr : Int → Bool) (g1 g2 g3 : Nat) (p : Option Addr) (n c : Nat) (zs : List Int) (w : World) (hr : Rd .i64 w p n zs) (hn : n ≤ 10000000)
    (hp : ∀ (W : World) (x : Int), Below w.heap.size w W → Calls Try.prog 57 #[.int .i64 x, .pointer (some ⟨g1, 0, none⟩), .pointer (some ⟨g2, 0, none⟩), .pointer (some ⟨g3, 0, none⟩)] W fun e w' => e = .returned (.bool (pr x)) ∧ Below W.heap.size W w') :
    Calls Try.prog 56 #[.slice p n c, .func (.func 57) #[] #[.pointer (some ⟨g1, 0, none⟩), .pointer (some ⟨g2, 0, none⟩), .pointer (some ⟨g3, 0, none⟩)]] w (SlI.Makes (zs.filter pr) w) := by
  obtain ⟨i0, hi, hz0, hz1, hz2⟩ := info_parts SlI.info
  have HR := Lib.hid hr
  have HL := Lib.hid hr.len
  have HA := Lib.hid hr.all
  have HP := Lib.hid hp
  have HM : Hid (MoWay pr zs 0 (some ⟨w.heap.size, 0, none⟩) 0 0 w (w.alloc (.cells #[] 3))) := Lib.hid ⟨lit0_own w, box1 _ _⟩
  clear hr hp
  go_enter Try.func56, Try.ntmps56
  go_wp2_with fail
  go_loopw [5, 11] (fun v i wr => ∃ (k m c' : Nat) (p' : Option Addr), k ≤ n ∧ i = .int .i64 k ∧ v = .slice p' m c' ∧ Hid (MoWay pr zs k p' m c' w wr)) (fun _ i _ => n - (intOf i).toNat)
  case atStart => exact ⟨0, _, _, _, Nat.zero_le _, rfl, rfl, HM⟩
  case round =>
    obtain ⟨k, m, c', p', hk, rfl, rfl, HK⟩ := hrel
    have hml := HK.out.len
    by_cases hlt : k < n
    · obtain ⟨b, o, rfl, hbb, hat⟩ := HR.out.at_below HK.out.2 hlt
      have hkx : k < zs.length := by rw [HL.out]; exact hlt
      have HX' : Hid (inK .i64 (zs.getD k 0)) := Lib.hid (allK_getD HA.out k)
      generalize hx : zs.getD k 0 = x at hat HX'
      obtain ⟨β, hβ⟩ : ∃ β, pr x = β := ⟨_, rfl⟩
      have HBt := Lib.hid hβ
      cases β
      · have HI := Lib.hid (filt_no hkx hx hβ)
        clear hx hβ hkx
        go_wp2_with fail
        refine (HP.out wr x HK.out.2).mono ?_
        rintro e w1 ⟨rfl, hb1⟩
        rw [HBt.out]
        have HK1 := Lib.hid (HK.out.next hb1 HI.out)
        clear hb1 hat
        go_wp2_with fail
        go_roundw
        case rel => exact ⟨k + 1, _, _, _, by omega, by go_num, rfl, HK1⟩
        case measure => simp [intOf]; omega
      · have HI := Lib.hid (filt_yes hkx hx hβ)
        clear hx hβ hkx
        go_wp2_with fail
        refine (HP.out wr x HK.out.2).mono ?_
        rintro e w1 ⟨rfl, hb1⟩
        rw [HBt.out]
        have HO1 := Lib.hid ((HK.out.1.below hb1).wide (Nat.le_refl _) hb1.size (Nat.le_refl _))
        have HB1 := Lib.hid (below_on HK.out.2 hb1)
        have hsz := HB1.out.size
        have HLit := Lib.hid (lit1_in w1 3 x HX'.out)
        clear hb1 hat
        go_wp2_with (at_builtin; refine wpList_appR rfl (.tmp 18) (.tmp 20) 23 rfl i0 _ 8 Try.underlying23 hi hz0 hz1 hz2 rfl rfl (HO1.out.alloc _) _ _ _ _ rfl HLit.out (Nat.le_trans hsz (by simp)) (by omega) (by omega) ?_; intro p2 c2 w2 how2 hg2; rw [← HI.out] at how2; have HK2 : Hid (MoWay pr zs (k + 1) p2 (m + 1) c2 w w2) := Lib.hid ⟨how2, (HB1.out.alloc hsz _).trans ((HO1.out.alloc _).below_row hg2 (Nat.le_trans hsz (by simp)))⟩; clear how2 hg2)
        go_roundw
        case rel => exact ⟨k + 1, _, _, _, by omega, by go_num, rfl, HK2⟩
        case measure => simp [intOf]; omega
    · obtain rfl : k = n := by omega
      have HT : Hid (zs.take k = zs) := Lib.hid (List.take_of_length_le (by rw [HL.out]; exact Nat.le_refl _))
      go_wp2_with fail
      go_ret
      exact ⟨_, _, _, rfl, by have h := HK.out.1; rw [HT.out] at h; exact h, HK.out.2⟩
set_option maxRecDepth 100000 in
set_option maxHeartbeats 4000000 in
theorem missing_any (p : Option Addr) (n c : Nat) (ks : List I5) (hR : ∀ x ∈ ks, SlKey.InR x) (po : Option Addr) (no co : Nat) (io : Bool) (ows : List Int) (q : Option Addr) (m c' : Nat) (xs : List I9) (hX : ∀ x ∈ xs, InR x) (dg : Int) (w : World) (hr : RdS SlKey.E w p n ks) (ho : Rd .i64 w po no ows) (hs : RdS E w q m xs) (hn : no ≤ 10000000) : Calls Try.prog 21 #[.slice p n c, .agg #[.slice po no co, .bool io], .slice q m c', .int .i64 dg] w (SlI.Makes (miss ks xs dg ows) w) := by
  have b0 := (((Bx.new w 31 #[.slice p n c]).alloc (.cells #[.slice po no co, .bool io] 33)).alloc (.cells #[.slice q m c'] 35)).alloc (.cells #[.int .i64 dg] 3)
  have b1 := ((Bx.new (w.alloc (.cells #[.slice p n c] 31)) 33 #[.slice po no co, .bool io]).alloc (.cells #[.slice q m c'] 35)).alloc (.cells #[.int .i64 dg] 3)
  have b2 := (Bx.new ((w.alloc (.cells #[.slice p n c] 31)).alloc (.cells #[.slice po no co, .bool io] 33)) 35 #[.slice q m c']).alloc (.cells #[.int .i64 dg] 3)
  have b3 := Bx.new (((w.alloc (.cells #[.slice p n c] 31)).alloc (.cells #[.slice po no co, .bool io] 33)).alloc (.cells #[.slice q m c'] 35)) 3 #[.int .i64 dg]
  rw [World.size_alloc] at b1
  rw [World.size_alloc, World.size_alloc] at b2
  rw [World.size_alloc, World.size_alloc, World.size_alloc] at b3
  have hb : Below w.heap.size w ((((w.alloc (.cells #[.slice p n c] 31)).alloc (.cells #[.slice po no co, .bool io] 33)).alloc (.cells #[.slice q m c'] 35)).alloc (.cells #[.int .i64 dg] 3)) := ((((Below.refl w.heap.size w).alloc (Nat.le_refl _) _).alloc (by simp) _).alloc (by simp; omega) _).alloc (by simp; omega) _
  have HB := Lib.hid hb
  have HS := Lib.hid (hs.below hb)
  have HR := Lib.hid (hr.below hb)
  have HO := Lib.hid (ho.below hb)
  have H0 := Lib.hid b0
  have H2 := Lib.hid b2
  have H3 := Lib.hid b3
  have HP : Hid (∀ (W : World) (x : Int), Below ((((w.alloc (.cells #[.slice p n c] 31)).alloc (.cells #[.slice po no co, .bool io] 33)).alloc (.cells #[.slice q m c'] 35)).alloc (.cells #[.int .i64 dg] 3)).heap.size ((((w.alloc (.cells #[.slice p n c] 31)).alloc (.cells #[.slice po no co, .bool io] 33)).alloc (.cells #[.slice q m c'] 35)).alloc (.cells #[.int .i64 dg] 3)) W → Calls Try.prog 57 #[.int .i64 x, .pointer (some ⟨w.heap.size, 0, none⟩), .pointer (some ⟨w.heap.size + 1 + 1, 0, none⟩), .pointer (some ⟨w.heap.size + 1 + 1 + 1, 0, none⟩)] W fun e w' => e = .returned (.bool (isMiss ks xs dg x)) ∧ Below W.heap.size W w') := Lib.hid (fun W x hb => pred_any _ _ _ p n c ks hR q m c' xs hX dg x W (H0.out.below hb) (H2.out.below hb) (H3.out.below hb) (HR.out.below hb) (HS.out.below hb))
  obtain ⟨c0, c1⟩ := SlRule.bx2 b1
  clear b0 b1 b2 b3 hb hr hs ho
  go_enter Try.func21, Try.ntmps21
  go_wp2_with fail
  generalize ((((w.alloc (.cells #[.slice p n c] 31)).alloc (.cells #[.slice po no co, .bool io] 33)).alloc (.cells #[.slice q m c'] 35)).alloc (.cells #[.int .i64 dg] 3)) = V at HB HS HR HO H0 H2 H3 HP c0 c1 ⊢
  refine (elems_any (isMiss ks xs dg) _ _ _ po no co ows V HO.out hn HP.out).mono ?_
  rintro e w1 ⟨p1, n1, c1', rfl, ho1, hb⟩
  have HO1 := Lib.hid (ho1.wide HB.out.size (Nat.le_refl _) (Nat.le_refl _))
  have HB1 := Lib.hid (below_on HB.out hb)
  clear hb ho1 c0 c1 HP
  go_wp2_with fail
  go_ret
  exact ⟨_, _, _, rfl, HO1.out, HB1.out⟩
set_option maxRecDepth 100000 in
set_option maxHeartbeats 8000000 in
theorem spec_missing_any (p : Option Addr) (n c : Nat) (ks : List I5) (hR : ∀ x ∈ ks, SlKey.InR x) (po : Option Addr) (no co : Nat) (io : Bool) (ows : List Int) (q : Option Addr) (m c' : Nat) (xs : List I9) (hX : ∀ x ∈ xs, InR x) (dg : Int) (w : World) (hr : RdS SlKey.E w p n ks) (ho : Rd .i64 w po no ows) (hs : RdS E w q m xs) (hn : no ≤ 10000000) : Calls Try.prog 20 #[.slice p n c, .agg #[.slice po no co, .bool io], .slice q m c', .int .i64 dg] w (SlI.Makes (miss ks xs dg ows) w) := by
  obtain ⟨i0, hi, hz0, hz1, hz2⟩ := info_parts SlI.info
  have hb := Ki.box1 w (.cells #[.slice po no co, .bool io] 33)
  have HB := Lib.hid hb
  have HX' := Lib.hid (Bx.new w 33 #[.slice po no co, .bool io])
  have HS := Lib.hid (hs.below hb)
  have HR := Lib.hid (hr.below hb)
  have HO := Lib.hid (ho.below hb)
  have HL := Lib.hid ho.len
  have HA := Lib.hid ho.all
  have HV : Hid ((w.alloc (.cells #[.slice po no co, .bool io] 33)).heap.size = w.heap.size + 1) := Lib.hid (by rw [World.size_alloc])
  clear hb hr hs ho
  go_enter Try.func20, Try.ntmps20
  go_wp2_with fail
  generalize w.alloc (.cells #[.slice po no co, .bool io] 33) = V at HB HX' HS HR HO HV ⊢
  have HM : Hid (MoWay (isMiss ks xs dg) ows 0 (some ⟨w.heap.size + 1, 0, none⟩) 0 0 V (V.alloc (.cells #[] 3))) := Lib.hid ⟨litN_at 3 V V.heap.size (w.heap.size + 1) [] (allK_nil _) (Nat.le_refl _) HV.out.symm (by simp), (Below.refl _ _).alloc (Nat.le_refl _) _⟩
  go_loopw [9, 10] (fun v i wr => ∃ (k m c' : Nat) (p' : Option Addr), k ≤ no ∧ i = .int .i64 k ∧ v = .slice p' m c' ∧ Hid (MoWay (isMiss ks xs dg) ows k p' m c' V wr)) (fun _ i _ => no - (intOf i).toNat)
  case atStart => exact ⟨0, _, _, _, Nat.zero_le _, rfl, rfl, HM⟩
  case round =>
    obtain ⟨k, m1, c1, p', hk, rfl, rfl, HK⟩ := hrel
    have hml := HK.out.len
    have HXr := Lib.hid (HX'.out.below HK.out.2)
    obtain ⟨q0, q1⟩ := SlRule.bx2 HXr.out
    by_cases hlt : k < no
    · obtain ⟨b, o, rfl, hbb, hat⟩ := HO.out.at_below HK.out.2 hlt
      have hbr : b < wr.heap.size := Nat.lt_of_lt_of_le hbb HK.out.2.size
      have hkx : k < ows.length := by rw [HL.out]; exact hlt
      have HI' : Hid (inK .i64 (ows.getD k 0)) := Lib.hid (allK_getD HA.out k)
      generalize hx : ows.getD k 0 = x at hat HI'
      have HAT := Lib.hid hat
      obtain ⟨φ, hφ⟩ : ∃ r, first (sg ks x dg) xs = r := ⟨_, rfl⟩
      have HF := Lib.hid hφ
      by_cases h0 : φ < 0
      · have HI := Lib.hid (filt_yes hkx hx (isMiss_yes hφ h0))
        clear hx hφ hkx
        go_wp2_with fail
        refine (spec_sigOf_any p n c ks hR q m c' xs hX x dg _ (HR.out.below HK.out.2) (HS.out.below HK.out.2)).mono ?_
        rintro e w1 ⟨rfl, hb1⟩
        rw [HF.out]
        have HO1 := Lib.hid ((HK.out.1.below hb1).wide (Nat.le_refl _) hb1.size (Nat.le_refl _))
        have HB1 := Lib.hid (below_on HK.out.2 hb1)
        have hsz := HB1.out.size
        have HLit := Lib.hid (lit1_in w1 3 x HI'.out)
        have hat1 := (hb1.cell (p := ⟨b, o + k, none⟩) hbr).trans HAT.out
        clear q0 q1 hat
        obtain ⟨q0, q1⟩ := SlRule.bx2 (HXr.out.below hb1)
        clear hb1
        go_wp2_with (at_builtin; refine wpList_appR rfl (.tmp 29) (.tmp 35) 23 rfl i0 _ 8 Try.underlying23 hi hz0 hz1 hz2 rfl rfl (HO1.out.alloc _) _ _ _ _ rfl HLit.out (Nat.le_trans hsz (by simp)) (by omega) (by omega) ?_; intro p2 c2 w2 how2 hg2; rw [← HI.out] at how2; have HK2 : Hid (MoWay (isMiss ks xs dg) ows (k + 1) p2 (m1 + 1) c2 V w2) := Lib.hid ⟨how2, (HB1.out.alloc hsz _).trans ((HO1.out.alloc _).below_row hg2 (Nat.le_trans hsz (by simp)))⟩; clear how2 hg2)
        go_roundw
        case rel => exact ⟨k + 1, _, _, _, by omega, by go_num, rfl, HK2⟩
        case measure => simp [intOf]; omega
      · have HI := Lib.hid (filt_no hkx hx (isMiss_no hφ h0))
        clear hx hφ hkx
        go_wp2_with fail
        refine (spec_sigOf_any p n c ks hR q m c' xs hX x dg _ (HR.out.below HK.out.2) (HS.out.below HK.out.2)).mono ?_
        rintro e w1 ⟨rfl, hb1⟩
        rw [HF.out]
        have HK1 := Lib.hid (HK.out.next hb1 HI.out)
        clear q0 q1 hat hb1
        go_wp2_with fail
        go_roundw
        case rel => exact ⟨k + 1, _, _, _, by omega, by go_num, rfl, HK1⟩
        case measure => simp [intOf]; omega
    · obtain rfl : k = no := by omega
      have HT : Hid (ows.take k = ows) := Lib.hid (List.take_of_length_le (by rw [HL.out]; exact Nat.le_refl _))
      go_wp2_with fail
      go_ret
      exact ⟨_, _, _, rfl, by have h := HK.out.1.wide HB.out.size (Nat.le_refl _) (Nat.le_refl _); rw [HT.out] at h; exact h, below_on HB.out HK.out.2⟩
/-! ### the next one -/
def nextO : List Int → Int
  | [] => -1
  | x :: _ => x
set_option maxRecDepth 100000 in
set_option maxHeartbeats 4000000 in
theorem next_any (p : Option Addr) (n c : Nat) (ks : List I5) (hR : ∀ x ∈ ks, SlKey.InR x) (po : Option Addr) (no co : Nat) (io : Bool) (ows : List Int) (q : Option Addr) (m c' : Nat) (xs : List I9) (hX : ∀ x ∈ xs, InR x) (dg : Int) (w : World) (hr : RdS SlKey.E w p n ks) (ho : Rd .i64 w po no ows) (hs : RdS E w q m xs) (hn : no ≤ 10000000) : Calls Try.prog 29 #[.slice p n c, .agg #[.slice po no co, .bool io], .slice q m c', .int .i64 dg] w (Val (.int .i64 (nextO (miss ks xs dg ows))) w) := by
  have hb := Ki.box1 w (.cells #[.slice po no co, .bool io] 33)
  have HB := Lib.hid hb
  have hx := Bx.new w 33 #[.slice po no co, .bool io]
  have HS := Lib.hid (hs.below hb)
  have HR := Lib.hid (hr.below hb)
  have HO := Lib.hid (ho.below hb)
  obtain ⟨ms, hms⟩ : ∃ ms, miss ks xs dg ows = ms := ⟨_, rfl⟩
  have HMs := Lib.hid hms
  rw [hms]
  obtain ⟨q0, q1⟩ := SlRule.bx2 hx
  clear hb hr hs ho hms hx
  go_enter Try.func29, Try.ntmps29
  go_wp2_with fail
  generalize w.alloc (.cells #[.slice po no co, .bool io] 33) = V at HB HS HR HO q0 q1 ⊢
  clear q0 q1
  refine (missing_any p n c ks hR po no co io ows q m c' xs hX dg V HR.out HO.out HS.out hn).mono ?_
  rintro e w1 ⟨p1, n1, c1, rfl, ho1, hb⟩
  rw [HMs.out] at ho1
  have HB1 := Lib.hid (below_on HB.out hb)
  clear hb HMs
  cases ms with
  | nil =>
    obtain rfl : n1 = 0 := ho1.len.symm
    clear ho1
    go_wp2_with fail
    go_ret
    exact says rfl HB1.out
  | cons y ys =>
    have hl : ys.length + 1 = n1 := ho1.len
    have e0 : ((n1 : Int) == 0) = false := beq_eq_false_iff_ne.2 (by omega)
    obtain ⟨b, o, rfl, hbb, hc⟩ := ho1.rd.at_ (i := 0) (by omega)
    simp only [Nat.add_zero, List.getD_cons_zero] at hc
    have i2 : (0 : Int) < (n1 : Int) := by omega
    clear ho1 hl hbb
    go_wp2_with fail
    go_ret
    exact says rfl HB1.out
set_option maxRecDepth 100000 in
set_option maxHeartbeats 4000000 in
theorem spec_next_any (p : Option Addr) (n c : Nat) (ks : List I5) (hR : ∀ x ∈ ks, SlKey.InR x) (po : Option Addr) (no co : Nat) (io : Bool) (ows : List Int) (q : Option Addr) (m c' : Nat) (xs : List I9) (hX : ∀ x ∈ xs, InR x) (dg : Int) (w : World) (hr : RdS SlKey.E w p n ks) (ho : Rd .i64 w po no ows) (hs : RdS E w q m xs) (hn : no ≤ 10000000) : Calls Try.prog 28 #[.slice p n c, .agg #[.slice po no co, .bool io], .slice q m c', .int .i64 dg] w (Val (.int .i64 (nextO (miss ks xs dg ows))) w) := by
  have hb := Ki.box1 w (.cells #[.slice po no co, .bool io] 33)
  have HB := Lib.hid hb
  have hx := Bx.new w 33 #[.slice po no co, .bool io]
  have HS := Lib.hid (hs.below hb)
  have HR := Lib.hid (hr.below hb)
  have HO := Lib.hid (ho.below hb)
  obtain ⟨ms, hms⟩ : ∃ ms, miss ks xs dg ows = ms := ⟨_, rfl⟩
  have HMs := Lib.hid hms
  rw [hms]
  obtain ⟨q0, q1⟩ := SlRule.bx2 hx
  clear hb hr hs ho hms hx
  go_enter Try.func28, Try.ntmps28
  go_wp2_with fail
  generalize w.alloc (.cells #[.slice po no co, .bool io] 33) = V at HB HS HR HO q0 q1 ⊢
  clear q0 q1
  refine (spec_missing_any p n c ks hR po no co io ows q m c' xs hX dg V HR.out HO.out HS.out hn).mono ?_
  rintro e w1 ⟨p1, n1, c1, rfl, ho1, hb⟩
  rw [HMs.out] at ho1
  have HB1 := Lib.hid (below_on HB.out hb)
  clear hb HMs
  cases ms with
  | nil =>
    obtain rfl : n1 = 0 := ho1.len.symm
    clear ho1
    go_wp2_with fail
    go_ret
    exact says rfl HB1.out
  | cons y ys =>
    have hl : ys.length + 1 = n1 := ho1.len
    have e0 : ((n1 : Int) == 0) = false := beq_eq_false_iff_ne.2 (by omega)
    obtain ⟨b, o, rfl, hbb, hc⟩ := ho1.rd.at_ (i := 0) (by omega)
    simp only [Nat.add_zero, List.getD_cons_zero] at hc
    have i2 : (0 : Int) < (n1 : Int) := by omega
    clear ho1 hl hbb
    go_wp2_with fail
    go_ret
    exact says rfl HB1.out
end Go.Proofs.Ytjoeacdoblgncaa.Mo
