/- Contracts of redacted documents: the hidden parts' indices, how many are shown; in the program and in the reference. -/
import Derived.Test.YtjlckfbacphblaaSlRed
import Derived.Test.YtjlckfbacphblaaDn
import Derived.IntWalk
import Derived.Deep.RegionHeld3
namespace Go.Proofs.Ytjlckfbacphblaa.Rk
open Go.ChangeShapes Go.WideShapes Go.ChangeAt Go.RowKit Sl St Tn Dk SlRed

/-- the indices below k of what is not shown -/
def hidL (sh : List Bool) (k : Nat) : List Int := ((List.range k).filter fun i => !(sh.getD i false)).map fun i : Nat => (i : Int)
/-- how many of the first k are shown -/
def cntT (sh : List Bool) (k : Nat) : Nat := ((List.range k).filter fun i => sh.getD i false).length
theorem hidL_zero (sh : List Bool) : hidL sh 0 = [] := rfl
theorem hidL_hid {sh : List Bool} {k : Nat} (h : sh.getD k false = false) : hidL sh (k + 1) = hidL sh k ++ [(k : Int)] := by
  unfold hidL
  rw [List.range_succ, List.filter_append, List.map_append, List.filter_cons_of_pos (by rw [h]; rfl)]
  rfl
theorem hidL_show {sh : List Bool} {k : Nat} (h : sh.getD k false = true) : hidL sh (k + 1) = hidL sh k := by
  unfold hidL
  rw [List.range_succ, List.filter_append, List.map_append, List.filter_cons_of_neg (by rw [h]; decide)]
  exact List.append_nil _
theorem cntT_hid {sh : List Bool} {k : Nat} (h : sh.getD k false = false) : cntT sh (k + 1) = cntT sh k := by
  unfold cntT
  rw [List.range_succ, List.filter_append, List.length_append, List.filter_cons_of_neg (by rw [h]; decide)]
  rfl
theorem cntT_show {sh : List Bool} {k : Nat} (h : sh.getD k false = true) : cntT sh (k + 1) = cntT sh k + 1 := by
  unfold cntT
  rw [List.range_succ, List.filter_append, List.length_append, List.filter_cons_of_pos (by rw [h])]
  rfl
theorem cnt_hid (sh : List Bool) : ∀ k, (hidL sh k).length + cntT sh k = k
  | 0 => rfl
  | k + 1 => by
    have h := cnt_hid sh k
    rcases hb : sh.getD k false with _ | _
    · rw [hidL_hid hb, cntT_hid hb, List.length_append, List.length_singleton]
      omega
    · rw [hidL_show hb, cntT_show hb]
      omega
theorem hidL_len (sh : List Bool) (k : Nat) : (hidL sh k).length ≤ k := by have := cnt_hid sh k; omega
theorem cntT_le (sh : List Bool) (k : Nat) : cntT sh k ≤ k := by have := cnt_hid sh k; omega
/-- The call answers a new slice of ints; what lay before is as it was. -/
def MakesI (xs : List Int) (w : World) (e : Ending) (w' : World) : Prop := ∃ p n c, e = .returned (.slice p n c) ∧ Ow .i64 3 w' w.heap.size w'.heap.size p n c xs ∧ Below w.heap.size w w'
/-- The call answers a number; what lay before is as it was. -/
def Num (z : Int) (w : World) (e : Ending) (w' : World) : Prop := e = .returned (.int .i64 z) ∧ Below w.heap.size w w'
set_option maxRecDepth 100000 in
set_option maxHeartbeats 4000000 in
theorem hidden_any (a : Ra) (D : Rc) (w : World) (h : RdR w a D) (hn : a.shn ≤ 1048576) : Calls Try.prog 70 #[a.val] w (MakesI (hidL D.sh a.shn) w) := by
  obtain ⟨i0, hi, hz0, hz1, hz2⟩ := info_parts SlI.info
  obtain ⟨t, msp, msn, msc, shp, shn, shc, psp, psn, psc, ssp, ssn, ssc, dsp, dsn, dsc⟩ := a
  obtain ⟨dt, dms, dsh, dps, dss, dds⟩ := D
  obtain ⟨e0, _, r2, _⟩ := h
  dsimp only at e0 r2 hn
  subst e0
  have HX := Lib.hid (Bx.new w 43 #[.int .i64 t, .slice msp msn msc, .slice shp shn shc, .slice psp psn psc, .slice ssp ssn ssc, .slice dsp dsn dsc])
  have HB := Lib.hid (box1 w (.cells #[.int .i64 t, .slice msp msn msc, .slice shp shn shc, .slice psp psn psc, .slice ssp ssn ssc, .slice dsp dsn dsc] 43))
  have HR := Lib.hid (r2.below HB.out)
  clear r2
  simp only [Ra.val, Ra.cells]
  go_enter Try.func70, Try.ntmps70
  go_wp2_with fail
  have hs1 : (w.alloc (.cells #[.int .i64 t, .slice msp msn msc, .slice shp shn shc, .slice psp psn psc, .slice ssp ssn ssc, .slice dsp dsn dsc] 43)).heap.size = w.heap.size + 1 := by simp
  obtain ⟨w1, hw1⟩ : ∃ w1, w.alloc (.cells #[.int .i64 t, .slice msp msn msc, .slice shp shn shc, .slice psp psn psc, .slice ssp ssn ssc, .slice dsp dsn dsc] 43) = w1 := ⟨_, rfl⟩
  rw [hw1] at HX HB HR hs1 ⊢
  clear hw1
  have HM : Hid (Ow .i64 3 (w1.alloc (.cells #[] 3)) w1.heap.size (w1.alloc (.cells #[] 3)).heap.size (some ⟨w1.heap.size, 0, none⟩) 0 0 (hidL dsh 0) ∧ Below w1.heap.size w1 (w1.alloc (.cells #[] 3))) := Lib.hid ⟨Dt.emptyI w1 w1.heap.size (Nat.le_refl _), box1 _ _⟩
  rw [hs1] at HM
  go_loopw [3, 10] (fun v i wr => ∃ (k m c' : Nat) (p' : Option Addr), k ≤ shn ∧ i = .int .i64 k ∧ v = .slice p' m c' ∧ Hid (Ow .i64 3 wr (w.heap.size + 1) wr.heap.size p' m c' (hidL dsh k) ∧ Below (w.heap.size + 1) w1 wr)) (fun _ i _ => shn - (intOf i).toNat)
  case atStart => exact ⟨0, _, _, _, Nat.zero_le _, rfl, rfl, HM⟩
  case round =>
    obtain ⟨k, m, c', p', hk, rfl, rfl, HK⟩ := hrel
    have HBw : Hid (Below w1.heap.size w1 wr) := Lib.hid (HK.out.2.mono (by omega))
    by_cases hlt : k < shn
    · obtain ⟨b, o, rfl, hb, hc⟩ := SlBool.rd_at (HR.out.below HBw.out) hlt
      have hm : m ≤ k := by rw [← HK.out.1.len]; exact hidL_len _ _
      have hsz := HK.out.2.size
      rcases hx : dsh.getD k false with _ | _
      · have HN := Lib.hid (hidL_hid hx)
        rw [hx] at hc
        clear hx
        go_wp2_with (at_builtin; refine wpList_app1 rfl (.tmp 17) (.tmp 19) 25 rfl i0 _ 8 Try.underlying25 hi hz0 hz1 hz2 rfl rfl (HK.out.1.alloc _) wr.heap.size 1 (k : Int) rfl (by go_simp) ⟨by omega, by omega⟩ (by simp; omega) (by omega) (by omega) ?_; intro p3 c3 w3 how3 hg3; have HO3 := Lib.hid how3; have HB3 := Lib.hid ((HK.out.2.alloc (by omega) _).trans ((HK.out.1.alloc _).below_row hg3 (by simp; omega))); clear how3 hg3)
        go_roundw
        case rel => exact ⟨k + 1, _, _, _, by omega, by go_num, rfl, Lib.hid ⟨by rw [HN.out]; exact HO3.out, HB3.out⟩⟩
        case measure => simp [intOf]; omega
      · have HN := Lib.hid (hidL_show hx)
        rw [hx] at hc
        clear hx
        go_wp2_with fail
        go_roundw
        case rel => exact ⟨k + 1, _, _, _, by omega, by go_num, rfl, Lib.hid ⟨by rw [HN.out]; exact HK.out.1, HK.out.2⟩⟩
        case measure => simp [intOf]; omega
    · obtain rfl : k = shn := by omega
      go_wp2_with fail
      go_ret
      exact ⟨_, _, _, rfl, HK.out.1.wide (by omega) (Nat.le_refl _) (Nat.le_refl _), HB.out.trans (HK.out.2.mono (by omega))⟩
theorem shn_le {w : World} {a : Ra} {D : Rc} (h : RdR w a D) (hf : size D ≤ 1048576) : a.shn ≤ 1048576 := by
  have := h.2.2.1.len
  unfold size at hf
  omega
def countOf (D : Rc) : Int := (cntT D.sh D.sh.length : Nat)
theorem countOf_sub (D : Rc) {n : Nat} (h : D.sh.length = n) : (n : Int) - ((hidL D.sh n).length : Nat) = countOf D := by
  subst h
  have := cnt_hid D.sh D.sh.length
  unfold countOf
  omega
set_option maxRecDepth 100000 in
set_option maxHeartbeats 4000000 in
theorem count_any (a : Ra) (D : Rc) (w : World) (h : RdR w a D) (hn : a.shn ≤ 1048576) : Calls Try.prog 26 #[a.val] w (Num (countOf D) w) := by
  have H0 := Lib.hid h
  have HL : Hid (D.sh.length = a.shn) := Lib.hid h.2.2.1.len
  have HC := Lib.hid (countOf_sub D HL.out)
  obtain ⟨t, msp, msn, msc, shp, shn, shc, psp, psn, psc, ssp, ssn, ssc, dsp, dsn, dsc⟩ := a
  dsimp only at hn
  have hlen := hidL_len D.sh shn
  have HX := Lib.hid (Bx.new w 43 #[.int .i64 t, .slice msp msn msc, .slice shp shn shc, .slice psp psn psc, .slice ssp ssn ssc, .slice dsp dsn dsc])
  have HB := Lib.hid (box1 w (.cells #[.int .i64 t, .slice msp msn msc, .slice shp shn shc, .slice psp psn psc, .slice ssp ssn ssc, .slice dsp dsn dsc] 43))
  clear h
  obtain ⟨x0, x1, x2, x3, x4, x5⟩ := bx6 HX.out
  simp only [Ra.val, Ra.cells]
  go_enter Try.func26, Try.ntmps26
  go_wp2_with fail
  go_region_held3 (fun w' => w'.cell? ⟨w.heap.size, 0, none⟩ = some (.int .i64 t) ∧ w'.cell? ⟨w.heap.size, 1, none⟩ = some (.slice msp msn msc) ∧ w'.cell? ⟨w.heap.size, 2, none⟩ = some (.slice shp shn shc) ∧ w'.cell? ⟨w.heap.size, 3, none⟩ = some (.slice psp psn psc) ∧ w'.cell? ⟨w.heap.size, 4, none⟩ = some (.slice ssp ssn ssc) ∧ w'.cell? ⟨w.heap.size, 5, none⟩ = some (.slice dsp dsn dsc)) (first | exact bx6 HX1.out | exact bx6 HX.out.drew1 | go_keep) (first
    | (go_at_call 70; refine (hidden_any ⟨t, msp, msn, msc, shp, shn, shc, psp, psn, psc, ssp, ssn, ssc, dsp, dsn, dsc⟩ D _ (H0.out.below (below_drewN HB.out 1)) hn).mono ?_; rintro e w1 ⟨p1, n1, c1, rfl, ho, hb⟩; have HB1 := Lib.hid (below_on (below_drewN HB.out 1) hb); have HX1 := Lib.hid (HX.out.drew1.below hb); have hl1 := ho.len; have hn1 : n1 ≤ 1048576 := (by rw [← hl1]; exact Nat.le_trans hlen hn); have HL1 := Lib.hid hl1; have HW1 := Lib.hid (IntWalk.i64_in ((shn : Int) - (n1 : Int)) (by omega)); clear ho hb hl1))
  all_goals
    go_wp2_with fail
    go_ret
    exact ⟨by show Ending.returned (.int .i64 (IntKind.i64.wrap _)) = _; rw [HW1.out, ← HC.out, HL1.out], HB1.out⟩
set_option maxRecDepth 100000 in
set_option maxHeartbeats 4000000 in
theorem spec_count_any (a : Ra) (D : Rc) (w : World) (h : RdR w a D) (hn : a.shn ≤ 1048576) : Calls Try.prog 42 #[a.val] w (Num (countOf D) w) := by
  have HL : Hid (D.sh.length = a.shn) := Lib.hid h.2.2.1.len
  obtain ⟨t, msp, msn, msc, shp, shn, shc, psp, psn, psc, ssp, ssn, ssc, dsp, dsn, dsc⟩ := a
  obtain ⟨dt, dms, dsh, dps, dss, dds⟩ := D
  obtain ⟨e0, _, r2, _⟩ := h
  dsimp only at e0 r2 hn HL
  subst e0
  have HX := Lib.hid (Bx.new w 43 #[.int .i64 t, .slice msp msn msc, .slice shp shn shc, .slice psp psn psc, .slice ssp ssn ssc, .slice dsp dsn dsc])
  have HB := Lib.hid (box1 w (.cells #[.int .i64 t, .slice msp msn msc, .slice shp shn shc, .slice psp psn psc, .slice ssp ssn ssc, .slice dsp dsn dsc] 43))
  have HR := Lib.hid (r2.below HB.out)
  clear r2
  obtain ⟨x0, x1, x2, x3, x4, x5⟩ := bx6 HX.out
  simp only [Ra.val, Ra.cells]
  go_enter Try.func42, Try.ntmps42
  go_wp2_with fail
  go_loop [3, 4] (fun v i => ∃ (k m : Nat), k ≤ shn ∧ i = .int .i64 k ∧ v = .int .i64 m ∧ m ≤ k ∧ Hid (m = cntT dsh k)) (fun _ i => shn - (intOf i).toNat)
  case atStart => exact ⟨0, 0, Nat.zero_le _, rfl, rfl, Nat.le_refl _, Lib.hid rfl⟩
  case round =>
    obtain ⟨k, m, hk, rfl, rfl, hm, HK⟩ := hrel
    by_cases hlt : k < shn
    · obtain ⟨b, o, rfl, hb, hc⟩ := SlBool.rd_at HR.out hlt
      rcases hx : dsh.getD k false with _ | _
      · have HN := Lib.hid (cntT_hid hx)
        rw [hx] at hc
        clear hx
        go_wp2_with fail
        go_round
        case rel => exact ⟨k + 1, m, by omega, by go_num, rfl, by omega, Lib.hid (by rw [HN.out]; exact HK.out)⟩
        case measure => simp [intOf]; omega
      · have HN := Lib.hid (cntT_show hx)
        rw [hx] at hc
        clear hx
        go_wp2_with fail
        go_round
        case rel => exact ⟨k + 1, m + 1, by omega, by go_num, by go_num, by omega, Lib.hid (by rw [HN.out, HK.out])⟩
        case measure => simp [intOf]; omega
    · obtain rfl : k = shn := by omega
      go_wp2_with fail
      go_ret
      exact ⟨by unfold countOf; dsimp only; rw [HL.out, ← HK.out]; rfl, HB.out⟩
end Go.Proofs.Ytjlckfbacphblaa.Rk
