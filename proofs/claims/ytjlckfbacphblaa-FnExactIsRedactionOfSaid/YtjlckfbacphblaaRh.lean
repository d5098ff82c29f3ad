/- Contract of RedactedDigest. -/
import Derived.Test.YtjlckfbacphblaaRf
import Derived.Deep.RegionHeld3
import Derived.Laws.EntriesVeiled
namespace Go.Proofs.Ytjlckfbacphblaa.Rf
open Go.ChangeShapes Go.WideShapes Go.ChangeAt Go.RowKit Go.Shelf Sl St Tn Dm Dk Dp Hs Dg Dd SlRed Rk Rm Rp Rn
attribute [local go_sem] Oper.semAt_some
set_option maxRecDepth 100000 in
set_option maxHeartbeats 8000000 in
theorem fold2_any (mth t : Int) (ht : inK .i64 t) (gf : Nat) (lb : Array Value) (eg : ∀ args w, (callFunc gf args).run Try.prog w = .ok (.enter gf args) w) (xs : List I64) (hx : xs.length ≤ 6) (Sp : List I64 → Prop) (w : World)
    (hseq : ∀ W0, Below w.heap.size w W0 → W0.heap.size = w.heap.size + 2 → SeqStopsK Fence.wide (3 - 1) Try.prog gf lb encI (Keep2 w.heap.size) (fun ys => ys = xs) Sp xs.length W0) :
    Calls Try.prog 55 #[.int .i64 mth, .int .i64 t, .func (.func gf) #[] lb] w (Hs.Num (dig mth (t :: vals xs)) w) := by
  refine (callsIn_wide (n := 3)).1 ?_
  refine callsIn_of_wp_marks Try.func55 rfl trivial ?_ rfl
  simp only [Try.ntmps55, List.size_toArray, List.length_cons, List.length_nil, Nat.reduceAdd, Nat.reduceSub, Array.replicate_succ, Array.replicate_zero, List.push_toArray, List.append_toArray, List.nil_append, List.cons_append]
  gi_wp2
  have bV := (Bx.new w 116 (cellsF t [])).alloc (.cells #[.int .i64 1] 3)
  have bN := Bx.new (w.alloc (.cells (cellsF t []) 116)) 3 #[.int .i64 1]
  rw [World.size_alloc] at bN
  have hB0 : Below w.heap.size w ((w.alloc (.cells (cellsF t []) 116)).alloc (.cells #[.int .i64 1] 3)) := ((Below.refl _ w).alloc (Nat.le_refl _) _).alloc (by simp) _
  have hsz : ((w.alloc (.cells (cellsF t []) 116)).alloc (.cells #[.int .i64 1] 3)).heap.size = w.heap.size + 2 := by simp
  have hc0 : cellsF t [] = #[.int .i64 t, .int .i64 0, .int .i64 0, .int .i64 0, .int .i64 0, .int .i64 0, .int .i64 0] := rfl
  obtain ⟨W0, hW0⟩ : ∃ W0, (w.alloc (.cells (cellsF t []) 116)).alloc (.cells #[.int .i64 1] 3) = W0 := ⟨_, rfl⟩
  rw [hW0] at bV bN hB0 hsz
  rw [hc0] at hW0
  rw [hW0]
  clear hW0
  refine wpIn_rangeFunc_ownF (F := Fence.wide) rfl (by omega) (gf := gf) (lb := lb) rfl trivial eg (hseq W0 hB0 hsz) keep2_t
    (keep2_b (w := W0) (by omega)) (Below.refl _ _) (fun _ => rfl)
    (fun pre W => (Bx W w.heap.size 116 (cellsF t pre) ∧ Bx W (w.heap.size + 1) 3 #[.int .i64 ((pre.length + 1 : Nat) : Int)]) ∧ Below w.heap.size w W)
    (fun _ _ _ => False)
    (OwnFrom.and (fun s A B row hs hg hr => ⟨bx_own hs.1 hg (fun r e => (hr r e).2), bx_own hs.2 hg (fun r e => (hr r e).2)⟩) (ownFrom_below (Nat.le_refl _) (by omega)))
    (fun _ _ _ _ _ hs _ _ => hs)
    ⟨⟨bV, bN⟩, hB0⟩
    (fun x => { tmps := #[.int .i64 mth, .int .i64 t, .func (.func gf) #[] lb, undef, undef, undef, .int .i64 0, .pointer (some ⟨w.heap.size, 0, none⟩), .pointer (some ⟨w.heap.size + 1, 0, none⟩), .int .i64 x.1, .int .i64 t, .agg #[.int .i64 t, .int .i64 0, .int .i64 0, .int .i64 0, .int .i64 0, .int .i64 0, .int .i64 0], .func (.func gf) #[] lb, .int .i64 x.1, undef, undef, undef, undef, undef, undef, undef, undef, undef], defers := [] })
    ?assign ?body ?done ?stop
  case assign =>
    intro l x W K hK
    dsimp only [encI]
    gi_wp2
    exact hK
  case body =>
    rintro l pre x W ⟨⟨bV1, bN1⟩, hB1⟩ hlt
    obtain ⟨K, hK⟩ : ∃ K, K = pre.length + 1 := ⟨_, rfl⟩
    obtain ⟨y, hy⟩ := cellsF_at t pre (i := K) (by omega) (by omega)
    have cN : W.cell? ⟨w.heap.size + 1, 0, none⟩ = some (.int .i64 (K : Int)) := by rw [hK]; exact bN1.cell (j := 0) rfl
    have fN := bN1.free 0
    have cV := bV1.cell hy
    have fV := bV1.free K
    have K1 : (0 : Int) ≤ (K : Int) := by omega
    have K2 : (K : Int) < 7 := by omega
    have hn1 := bN1.far (q := ⟨w.heap.size, K, none⟩) (by simp) (.int .i64 x.1)
    have cN2 : (W.setCell ⟨w.heap.size, K, none⟩ (.int .i64 x.1)).cell? ⟨w.heap.size + 1, 0, none⟩ = some (.int .i64 (K : Int)) := by have h := hn1.cell (j := 0) (v := .int .i64 ((pre.length + 1 : Nat) : Int)) rfl; rw [← hK] at h; exact h
    have fN2 := hn1.free 0
    have nV := bV1.set_ K (.int .i64 x.1)
    rw [hK, cellsF_next t pre x (by omega), ← hK] at nV
    have nN := (bN1.far (q := ⟨w.heap.size, K, none⟩) (by simp) (.int .i64 x.1)).set_ 0 (.int .i64 ((K : Int) + 1))
    have nV2 := nV.far (q := ⟨w.heap.size + 1, 0, none⟩) (by simp) (.int .i64 ((K : Int) + 1))
    have HK := Lib.hid hK
    have HV := Lib.hid nV2
    have HN : Hid (Bx ((W.setCell ⟨w.heap.size, K, none⟩ (.int .i64 x.1)).setCell ⟨w.heap.size + 1, 0, none⟩ (.int .i64 ((K : Int) + 1))) (w.heap.size + 1) 3 #[.int .i64 ((K : Int) + 1)]) := Lib.hid nN
    clear hy nV nV2 nN hn1 hK bN1 bV1
    gi_wp2
    have e1 : (((pre ++ [x]).length + 1 : Nat) : Int) = (K : Int) + 1 := by rw [List.length_append, List.length_singleton, HK.out]; omega
    refine ⟨(KeepsOthers.setCell _ _ _).trans (KeepsOthers.setCell _ _ _), keep2_set w.heap.size W K 0 _ _, ⟨HV.out, ?_⟩, (hB1.setCell (p := ⟨w.heap.size, K, none⟩) (Nat.le_refl _) _).setCell (p := ⟨w.heap.size + 1, 0, none⟩) (by simp) _⟩
    rw [e1]
    exact HN.out
  case done =>
    rintro D ys W hD rfl ⟨⟨bV1, bN1⟩, hB1⟩ hK
    have HR := Lib.hid (cellsF_rd t ht ys hx bV1)
    obtain ⟨K, hK2⟩ : ∃ K, ys.length + 1 = K := ⟨_, rfl⟩
    have cN : W.cell? ⟨w.heap.size + 1, 0, none⟩ = some (.int .i64 (K : Int)) := by rw [← hK2]; exact bN1.cell (j := 0) rfl
    have L1 : (0 : Int) ≤ (K : Int) := by omega
    have L2 : (K : Int) ≤ 7 := by omega
    have L3 : K ≤ 7 := by omega
    rw [hK2] at HR
    clear hK2 bN1 bV1
    gi_wp2_with (refine ⟨trivial, ?_⟩; gi_at_call 101; refine (callsIn_wide.2 (dig_any mth _ _ _ _ _ HR.out)).mono ?_; rintro e w' ⟨rfl, rfl⟩)
    refine ⟨by simp, .inl ⟨_, _, rfl, run_takeDeferred hK, ?_⟩⟩
    exact ⟨_, results_tmp rfl _ _ _, rfl, hB1.trans (belowK_b (w := w) (Nat.le_refl _) W D _ _ (by omega) hK rfl rfl)⟩
  case stop =>
    rintro D c pre W _ _ h _
    exact h.elim

/-! ### where a method stands; whether a part is hidden -/
def placeI (ms : List Int) (m : Int) : Int := if ms.idxOf m < ms.length then (ms.idxOf m : Nat) else -1
theorem placeI_of {ms : List Int} {m : Int} {k : Nat} (h : ms.idxOf m = k) (hk : k < ms.length) : placeI ms m = k := by unfold placeI; rw [h, if_pos hk]
theorem placeI_no {ms : List Int} {m : Int} (h : ms.idxOf m = ms.length) : placeI ms m = -1 := by unfold placeI; rw [h, if_neg (Nat.lt_irrefl _)]
set_option maxRecDepth 100000 in
set_option maxHeartbeats 2000000 in
theorem index_any (p : Option Addr) (n c : Nat) (ms : List Int) (m : Int) (w : World) (hr : Rd .i64 w p n ms) : Calls Try.prog 66 #[.slice p n c, .int .i64 m] w fun e w' => e = .returned (.int .i64 (placeI ms m)) ∧ w = w' := by
  have HR := Lib.hid hr
  have HL := Lib.hid hr.len
  have hle := hr.le
  clear hr
  go_enter Try.func66, Try.ntmps66
  go_wp2_with fail
  go_loop [8] (fun i => ∃ k : Nat, k ≤ n ∧ i = .int .i64 k ∧ Hid (∀ j, j < k → ms.getD j 0 ≠ m)) (fun i => n - (intOf i).toNat)
  case atStart => exact ⟨0, Nat.zero_le _, rfl, Lib.hid fun j h => by omega⟩
  case round =>
    obtain ⟨k, hk, rfl, HA⟩ := hrel
    by_cases hlt : k < n
    · obtain ⟨b, o, rfl, hb, hc⟩ := HR.out.at_ hlt
      by_cases he : ms.getD k 0 = m
      · have HE : Hid (placeI ms m = (k : Int)) := Lib.hid (placeI_of (idx_eq ms m k HA.out (Or.inr ⟨by rw [HL.out]; exact hlt, he⟩)) (by rw [HL.out]; exact hlt))
        rw [he] at hc
        clear he
        go_wp2_with fail
        go_ret
        exact ⟨by rw [HE.out]; rfl, rfl⟩
      · have HN2 : Hid (∀ j, j < k + 1 → ms.getD j 0 ≠ m) := Lib.hid fun j hj => by
          rcases Nat.lt_succ_iff_lt_or_eq.1 hj with h | rfl
          · exact HA.out j h
          · exact he
        generalize ms.getD k 0 = z at hc he
        have he' : ¬ (m = z) := fun h => he h.symm
        have q1 : (m == z) = false := beq_eq_false_iff_ne.2 he'
        have q3 : decide (m = z) = false := decide_eq_false he'
        go_wp2_with fail
        go_round
        case rel => exact ⟨k + 1, by omega, by go_num, HN2⟩
        case measure => simp [intOf]; omega
    · obtain rfl : k = n := by omega
      have HE : Hid (placeI ms m = -1) := Lib.hid (placeI_no (by rw [HL.out]; exact idx_eq ms m k HA.out (Or.inl HL.out.symm)))
      go_wp2_with fail
      go_ret
      exact ⟨by rw [HE.out]; rfl, rfl⟩
/-- The call answers a number that is negative or not as b says. -/
def Sgn (b : Bool) (w : World) (e : Ending) (w' : World) : Prop := ∃ r : Int, e = .returned (.int .i64 r) ∧ decide (0 ≤ r) = b ∧ w = w'
set_option maxRecDepth 100000 in
set_option maxHeartbeats 2000000 in
theorem indexB_any (p : Option Addr) (n c : Nat) (D : Rc) (w : World) (hr : RdS SlBool.E w p n D.sh) : Calls Try.prog 105 #[.slice p n c, .bool false] w (Sgn (anyHid D) w) := by
  have HR := Lib.hid hr
  have HL := Lib.hid hr.len
  have hle := hr.le
  clear hr
  go_enter Try.func105, Try.ntmps105
  go_wp2_with fail
  go_loop [8] (fun i => ∃ k : Nat, k ≤ n ∧ i = .int .i64 k ∧ Hid (∀ j, j < k → D.sh.getD j false = true)) (fun i => n - (intOf i).toNat)
  case atStart => exact ⟨0, Nat.zero_le _, rfl, Lib.hid fun j h => by omega⟩
  case round =>
    obtain ⟨k, hk, rfl, HA⟩ := hrel
    by_cases hlt : k < n
    · obtain ⟨b, o, rfl, hb, hc⟩ := SlBool.rd_at HR.out hlt
      rcases hx : D.sh.getD k false with _ | _
      · have HE := Lib.hid (anyHid_yes (D := D) (by rw [HL.out]; exact hlt) hx)
        rw [hx] at hc
        clear hx
        go_wp2_with fail
        go_ret
        exact ⟨(k : Int), rfl, by rw [HE.out]; exact decide_eq_true (by omega), rfl⟩
      · have HN2 : Hid (∀ j, j < k + 1 → D.sh.getD j false = true) := Lib.hid fun j hj => by
          rcases Nat.lt_succ_iff_lt_or_eq.1 hj with h | rfl
          · exact HA.out j h
          · exact hx
        rw [hx] at hc
        clear hx
        go_wp2_with fail
        go_round
        case rel => exact ⟨k + 1, by omega, by go_num, HN2⟩
        case measure => simp [intOf]; omega
    · obtain rfl : k = n := by omega
      have HE := Lib.hid (anyHid_no (D := D) (fun i hi => HA.out i (by rw [← HL.out]; exact hi)))
      go_wp2_with fail
      go_ret
      exact ⟨-1, rfl, by rw [HE.out]; rfl, rfl⟩
set_option maxHeartbeats 2000000 in
theorem containsB_any (p : Option Addr) (n c : Nat) (D : Rc) (w : World) (hr : RdS SlBool.E w p n D.sh) : Calls Try.prog 67 #[.slice p n c, .bool false] w fun e w' => e = .returned (.bool (anyHid D)) ∧ w = w' := by
  go_enter Try.func67, Try.ntmps67
  go_wp2_with fail
  refine (indexB_any p n c D _ hr).mono ?_
  rintro e w1 ⟨r, rfl, hr2, rfl⟩
  have HR2 := Lib.hid hr2
  clear hr2
  go_wp2_with fail
  go_ret
  exact ⟨by rw [← HR2.out]; rfl, rfl⟩

/-! ### the function -/
/-- the world behind remainingDigests -/
def remW (m P : Int) (V : Array Value) (w : World) : World := (((w.alloc (.cells #[.int .i64 m] 3)).alloc (.cells #[.int .i64 P] 3)).alloc (.cells V 43)).alloc (.cells #[.func (.func 106) #[] #[.pointer (some ⟨w.heap.size + 2, 0, none⟩), .pointer (some ⟨w.heap.size + 1, 0, none⟩), .pointer (some ⟨w.heap.size, 0, none⟩)]] 118)
theorem rem_any (m P : Int) (t : Int) (msp : Option Addr) (msn msc : Nat) (shp : Option Addr) (shn shc : Nat) (psp : Option Addr) (psn psc : Nat) (ssp : Option Addr) (ssn ssc : Nat) (dsp : Option Addr) (dsn dsc : Nat) (w : World) :
    Calls Try.prog 68 #[.int .i64 m, .int .i64 P, .agg #[.int .i64 t, .slice msp msn msc, .slice shp shn shc, .slice psp psn psc, .slice ssp ssn ssc, .slice dsp dsn dsc]] w fun e w' => e = .returned (.func (.func 107) #[] #[.pointer (some ⟨w.heap.size + 2, 0, none⟩), .pointer (some ⟨w.heap.size + 3, 0, none⟩)]) ∧ w' = remW m P #[.int .i64 t, .slice msp msn msc, .slice shp shn shc, .slice psp psn psc, .slice ssp ssn ssc, .slice dsp dsn dsc] w := by
  go_enter Try.func68, Try.ntmps68
  go_wp2_with fail
  go_ret
  exact ⟨rfl, rfl⟩
theorem remW_at (m P : Int) (V : Array Value) (w : World) : Below w.heap.size w (remW m P V w) ∧ (remW m P V w).heap.size = w.heap.size + 4 ∧ Bx (remW m P V w) w.heap.size 3 #[.int .i64 m] ∧ Bx (remW m P V w) (w.heap.size + 1) 3 #[.int .i64 P] ∧ Bx (remW m P V w) (w.heap.size + 2) 43 V ∧
    Bx (remW m P V w) (w.heap.size + 3) 118 #[.func (.func 106) #[] #[.pointer (some ⟨w.heap.size + 2, 0, none⟩), .pointer (some ⟨w.heap.size + 1, 0, none⟩), .pointer (some ⟨w.heap.size, 0, none⟩)]] := by
  unfold remW
  have b0 := Bx.new w 3 #[.int .i64 m]
  have b1 := Bx.new (w.alloc (.cells #[.int .i64 m] 3)) 3 #[.int .i64 P]
  have b2 := Bx.new ((w.alloc (.cells #[.int .i64 m] 3)).alloc (.cells #[.int .i64 P] 3)) 43 V
  have b3 := Bx.new (((w.alloc (.cells #[.int .i64 m] 3)).alloc (.cells #[.int .i64 P] 3)).alloc (.cells V 43)) 118 #[.func (.func 106) #[] #[.pointer (some ⟨w.heap.size + 2, 0, none⟩), .pointer (some ⟨w.heap.size + 1, 0, none⟩), .pointer (some ⟨w.heap.size, 0, none⟩)]]
  simp only [World.size_alloc] at b1 b2 b3
  exact ⟨((((Below.refl w.heap.size w).alloc (Nat.le_refl _) _).alloc (by simp) _).alloc (by simp; omega) _).alloc (by simp; omega) _, by simp, ((b0.alloc _).alloc _).alloc _, (b1.alloc _).alloc _, b2.alloc _, b3⟩
theorem vals_items (m : Int) (D : Rc) (n : Nat) (hr : ∀ i, i < n → inK .i64 (itemD m D i)) : vals (upto (itemI m D) n) = itemsD m D n := by
  unfold vals upto itemsD
  rw [List.map_map]
  apply List.map_congr_left
  intro i hi
  show intK (itemD m D i) = itemD m D i
  exact intK_of (hr i (List.mem_range.1 hi))
theorem rd_stops (Br Bf Bp Bm : Nat) (m : Int) (P : Int) (a : Ra) (D : Rc) (w : World) (hr : RdR w a D) (hn : a.shn ≤ 1048576) (hps : a.psn = a.shn) (hss : a.ssn = a.shn) (hds : a.dsn = a.shn)
    (h40 : ∀ j, j < a.shn → D.sh.getD j false = true → (D.ps.getD j ByteArray.empty).size ≤ 10000000) (hP : ∀ j, j < a.shn → D.sh.getD j false = false → P = (D.ms.idxOf m : Nat) ∧ D.ms.idxOf m < (D.ds.getD j []).length)
    (hBr : Bx w Br 43 a.cells) (hBf : Bx w Bf 118 #[.func (.func 106) #[] #[.pointer (some ⟨Br, 0, none⟩), .pointer (some ⟨Bp, 0, none⟩), .pointer (some ⟨Bm, 0, none⟩)]]) (hBp : Bx w Bp 3 #[.int .i64 P]) (hBm : Bx w Bm 3 #[.int .i64 m])
    (W0 : World) (hb : Below w.heap.size w W0) (hs : W0.heap.size = w.heap.size + 2) :
    SeqStopsK Fence.wide (3 - 1) Try.prog 107 #[.pointer (some ⟨Br, 0, none⟩), .pointer (some ⟨Bf, 0, none⟩)] encI (Keep2 w.heap.size) (fun ys => ys = upto (itemI m D) a.shn) (fun pre => ∃ j, j ≤ a.shn ∧ pre = upto (itemI m D) j) (upto (itemI m D) a.shn).length W0 := fun l J Jx W hW hJ _ hY h0 => by
  rw [upto_length] at hY
  exact rd1_in (3 - 1) (by omega) l Br Bf Bp Bm w.heap.size m P a D w hr hn hps hss hds h40 hP J Jx W hJ hY (hb.trans (hW.mono hb.size)) rfl (by have := hW.size; omega) hBr hBf hBp hBm h0
set_option maxRecDepth 100000 in
set_option maxHeartbeats 8000000 in
theorem redD_any (m : Int) (a : Ra) (D : Rc) (w : World) (h : RdR w a D) (hf : size D ≤ 1048576) : Calls Try.prog 21 #[.int .i64 m, a.val] w (Hs.Num (redD m D) w) := by
  obtain ⟨t, msp, msn, msc, shp, shn, shc, psp, psn, psc, ssp, ssn, ssc, dsp, dsn, dsc⟩ := a
  obtain ⟨dt, dms, dsh, dps, dss, dds⟩ := D
  have H0 := Lib.hid h
  have ht : t = dt := h.1
  subst ht
  have HN := Lib.hid (show dsh.length = shn from h.2.2.1.len)
  have HNp := Lib.hid (show dps.length = psn from h.2.2.2.1.len)
  have HNs := Lib.hid (show dss.length = ssn from h.2.2.2.2.1.len)
  have HNd := Lib.hid (show dds.length = dsn from h.2.2.2.2.2.len)
  have HNm := Lib.hid (show dms.length = msn from h.2.1.len)
  have hle : shn ≤ 1048576 := shn_le h hf
  have HF := Lib.hid hf
  clear h hf
  have HX := Lib.hid (Bx.new w 43 #[.int .i64 t, .slice msp msn msc, .slice shp shn shc, .slice psp psn psc, .slice ssp ssn ssc, .slice dsp dsn dsc])
  have HB := Lib.hid (box1 w (.cells #[.int .i64 t, .slice msp msn msc, .slice shp shn shc, .slice psp psn psc, .slice ssp ssn ssc, .slice dsp dsn dsc] 43))
  obtain ⟨x0, x1, x2, x3, x4, x5⟩ := bx6 HX.out
  simp only [Ra.val, Ra.cells]
  rcases hok : redOk ⟨t, dms, dsh, dps, dss, dds⟩ with _ | _
  · have HO := Lib.hid hok
    have HD := Lib.hid (redD_bad (m := m) hok)
    clear hok
    go_enter Try.func21, Try.ntmps21
    go_wp2_with fail
    refine (index_any _ _ _ dms m _ (H0.out.2.1.below HB.out)).mono ?_
    rintro e w1 ⟨rfl, rfl⟩
    go_wp2_with fail
    refine (Ri.isRed_any ⟨t, msp, msn, msc, shp, shn, shc, psp, psn, psc, ssp, ssn, ssc, dsp, dsn, dsc⟩ ⟨t, dms, dsh, dps, dss, dds⟩ _ (H0.out.below HB.out) HF.out).mono ?_
    rintro e w1 ⟨rfl, hb⟩
    rw [HO.out]
    have HB1 := Lib.hid (below_on HB.out hb)
    clear hb x0 x1 x2 x3 x4 x5
    go_wp2_with fail
    go_ret
    exact ⟨by rw [HD.out]; rfl, HB1.out⟩
  · have hsay := headOk_says (redOk_says hok).1
    have hps : psn = shn := by rw [← HNp.out, ← HN.out]; exact hsay.2.1
    have hss : ssn = shn := by rw [← HNs.out, ← HN.out]; exact hsay.2.2.1
    have hds : dsn = shn := by rw [← HNd.out, ← HN.out]; exact hsay.2.2.2
    have hn6 : shn ≤ 6 := by rw [← HN.out]; exact hsay.1.2
    have HOK := Lib.hid hok
    have hti := redOk_title hok
    have ht1 : 0 ≤ t := hti.1
    have ht2 : t ≤ 999 := hti.2
    have HT : Hid (inK .i64 t) := Lib.hid ⟨by omega, by omega⟩
    clear hok hsay hti
    subst hps
    subst hss
    subst hds
    have H40 : Hid (∀ j, j < dsn → dsh.getD j false = true → (dps.getD j ByteArray.empty).size ≤ 10000000) := Lib.hid fun j hj hs => by
      have h1 := (redOk_part HOK.out (i := j) (by show j < dsh.length; rw [HN.out]; exact hj) hs).1
      have h2 : (dps.getD j ByteArray.empty).size ≤ 40 := h1
      omega
    by_cases hI : dms.idxOf m = dms.length
    rotate_left
    focus
      have hlt : dms.idxOf m < dms.length := by have := idx_le dms m; omega
      have HP : Hid (placeI dms m = (dms.idxOf m : Nat)) := Lib.hid (placeI_of rfl hlt)
      have HD := Lib.hid (redD_yes (m := m) (D := ⟨t, dms, dsh, dps, dss, dds⟩) HOK.out (fun h2 => absurd h2 hI))
      have HPj : Hid (∀ j, j < dsn → dsh.getD j false = false → ((dms.idxOf m : Nat) : Int) = (dms.idxOf m : Nat) ∧ dms.idxOf m < (dds.getD j []).length) := Lib.hid fun j hj hs => by
        refine ⟨rfl, ?_⟩
        have h2 := redOk_hid HOK.out (i := j) (by show j < dsh.length; rw [HN.out]; exact hj) hs
        have h3 : (dds.getD j []).length = dms.length := h2
        rw [h3]
        exact hlt
      obtain ⟨P, hPe⟩ : ∃ P : Int, P = (dms.idxOf m : Nat) := ⟨_, rfl⟩
      have hP0 : 0 ≤ P := by omega
      have hP2 : P ≤ 9223372036854775807 := by
        have h9 : msn ≤ 9223372036854775807 := H0.out.2.1.le
        have := HNm.out
        omega
      have hPl : ¬ P < 0 := by omega
      rw [show placeI dms m = (dms.idxOf m : Nat) ↔ placeI dms m = P by rw [hPe]] at HP
      have HPk : Hid (∀ j, j < dsn → dsh.getD j false = false → P = (dms.idxOf m : Nat) ∧ dms.idxOf m < (dds.getD j []).length) := Lib.hid (by rw [hPe]; exact HPj.out)
      clear HPj
      have HPj := HPk
      clear HPk hPe hI hlt
      go_enter Try.func21, Try.ntmps21
      go_wp2_with fail
      refine (index_any _ _ _ dms m _ (H0.out.2.1.below HB.out)).mono ?_
      rintro e w1 ⟨rfl, rfl⟩
      rw [HP.out]
      go_wp2_with fail
      refine (Ri.isRed_any ⟨t, msp, msn, msc, shp, dsn, shc, psp, dsn, psc, ssp, dsn, ssc, dsp, dsn, dsc⟩ ⟨t, dms, dsh, dps, dss, dds⟩ _ (H0.out.below HB.out) HF.out).mono ?_
      rintro e w1 ⟨rfl, hb⟩
      rw [HOK.out]
      have HB1 := Lib.hid (below_on HB.out hb)
      have HX1 := Lib.hid (HX.out.below hb)
      clear hb x0 x1 x2 x3 x4 x5
      obtain ⟨x0, x1, x2, x3, x4, x5⟩ := bx6 HX1.out
      go_wp2_with fail
    rotate_left
    have HP : Hid (placeI dms m = -1) := Lib.hid (placeI_no hI)
    rcases hany : anyHid ⟨t, dms, dsh, dps, dss, dds⟩ with _ | _
    rotate_left
    · have HA := Lib.hid hany
      have HD := Lib.hid (redD_none (m := m) (D := ⟨t, dms, dsh, dps, dss, dds⟩) hI hany)
      clear hany hI
      go_enter Try.func21, Try.ntmps21
      go_wp2_with fail
      refine (index_any _ _ _ dms m _ (H0.out.2.1.below HB.out)).mono ?_
      rintro e w1 ⟨rfl, rfl⟩
      rw [HP.out]
      go_wp2_with fail
      refine (Ri.isRed_any ⟨t, msp, msn, msc, shp, dsn, shc, psp, dsn, psc, ssp, dsn, ssc, dsp, dsn, dsc⟩ ⟨t, dms, dsh, dps, dss, dds⟩ _ (H0.out.below HB.out) HF.out).mono ?_
      rintro e w1 ⟨rfl, hb⟩
      rw [HOK.out]
      have HB1 := Lib.hid (below_on HB.out hb)
      have HX1 := Lib.hid (HX.out.below hb)
      clear hb x0 x1 x2 x3 x4 x5
      obtain ⟨x0, x1, x2, x3, x4, x5⟩ := bx6 HX1.out
      go_wp2_with fail
      refine (containsB_any _ _ _ ⟨t, dms, dsh, dps, dss, dds⟩ _ (H0.out.2.2.1.below HB1.out)).mono ?_
      rintro e w2 ⟨rfl, rfl⟩
      rw [HA.out]
      go_wp2_with fail
      go_ret
      exact ⟨by rw [HD.out]; rfl, HB1.out⟩
    rotate_left
    focus
      have HA := Lib.hid hany
      have HD := Lib.hid (redD_yes (m := m) (D := ⟨t, dms, dsh, dps, dss, dds⟩) HOK.out (fun _ => hany))
      have HPj : Hid (∀ j, j < dsn → dsh.getD j false = false → (-1 : Int) = (dms.idxOf m : Nat) ∧ dms.idxOf m < (dds.getD j []).length) := Lib.hid fun j hj hs => by
        have h2 := anyHid_says (D := ⟨t, dms, dsh, dps, dss, dds⟩) hany (i := j) (by show j < dsh.length; rw [HN.out]; exact hj)
        have h3 : dsh.getD j false = true := h2
        rw [hs] at h3; cases h3
      obtain ⟨P, hPe⟩ : ∃ P : Int, P = -1 := ⟨_, rfl⟩
      have hP1 : -1 ≤ P := by omega
      have hPle : P < 0 := by omega
      rw [← hPe] at HP HPj
      clear hany hI hPe
      go_enter Try.func21, Try.ntmps21
      go_wp2_with fail
      refine (index_any _ _ _ dms m _ (H0.out.2.1.below HB.out)).mono ?_
      rintro e w1 ⟨rfl, rfl⟩
      rw [HP.out]
      go_wp2_with fail
      refine (Ri.isRed_any ⟨t, msp, msn, msc, shp, dsn, shc, psp, dsn, psc, ssp, dsn, ssc, dsp, dsn, dsc⟩ ⟨t, dms, dsh, dps, dss, dds⟩ _ (H0.out.below HB.out) HF.out).mono ?_
      rintro e w1 ⟨rfl, hb⟩
      rw [HOK.out]
      have HB1 := Lib.hid (below_on HB.out hb)
      have HX1 := Lib.hid (HX.out.below hb)
      clear hb x0 x1 x2 x3 x4 x5
      obtain ⟨x0, x1, x2, x3, x4, x5⟩ := bx6 HX1.out
      go_wp2_with fail
      refine (containsB_any _ _ _ ⟨t, dms, dsh, dps, dss, dds⟩ _ (H0.out.2.2.1.below HB1.out)).mono ?_
      rintro e w2 ⟨rfl, rfl⟩
      rw [HA.out]
      go_wp2_with fail
    all_goals
      go_region_held3 (fun w' => w'.cell? ⟨w.heap.size, 0, none⟩ = some (.int .i64 t) ∧ w'.cell? ⟨w.heap.size, 1, none⟩ = some (.slice msp msn msc) ∧ w'.cell? ⟨w.heap.size, 2, none⟩ = some (.slice shp dsn shc) ∧ w'.cell? ⟨w.heap.size, 3, none⟩ = some (.slice psp dsn psc) ∧ w'.cell? ⟨w.heap.size, 4, none⟩ = some (.slice ssp dsn ssc) ∧ w'.cell? ⟨w.heap.size, 5, none⟩ = some (.slice dsp dsn dsc)) (first | exact bx6 HX3.out | exact bx6 HX2.out | exact bx6 HX1.out | exact bx6 HX1.out.drew1 | go_keep) (first
        | (go_at_call 68; refine (rem_any m P t msp msn msc shp dsn shc psp dsn psc ssp dsn ssc dsp dsn dsc _).mono ?_; rintro e w2 ⟨rfl, hw2⟩; obtain ⟨q1, q2, q3, q4, q5, q6⟩ := remW_at m P #[.int .i64 t, .slice msp msn msc, .slice shp dsn shc, .slice psp dsn psc, .slice ssp dsn ssc, .slice dsp dsn dsc] w1.drew; rw [← hw2] at q1 q2 q3 q4 q5 q6; have HX2 := Lib.hid (HX1.out.drew1.below q1); have HB2 := Lib.hid (below_on (below_drewN HB1.out 1) q1); have HQ3 := Lib.hid q3; have HQ4 := Lib.hid q4; have HQ5 := Lib.hid q5; have HQ6 := Lib.hid q6; clear hw2 q1 q2 q3 q4 q5 q6)
        | (go_at_call 55; refine (fold2_any m t HT.out 107 _ (enters_of Try.func107 (by kernel_rfl) rfl) (upto (itemI m ⟨t, dms, dsh, dps, dss, dds⟩) dsn) (by rw [upto_length]; exact hn6) _ _ (rd_stops _ _ _ _ m P ⟨t, msp, msn, msc, shp, dsn, shc, psp, dsn, psc, ssp, dsn, ssc, dsp, dsn, dsc⟩ ⟨t, dms, dsh, dps, dss, dds⟩ _ (H0.out.below HB2.out) hle rfl rfl rfl H40.out HPj.out HQ5.out HQ6.out HQ4.out HQ3.out)).mono ?_; rintro e w3 ⟨rfl, hb3⟩; have HX3 := Lib.hid (HX2.out.below hb3); have HB3 := Lib.hid (below_on HB2.out hb3); clear hb3))
      all_goals
        go_wp2_with fail
        go_ret
        refine ⟨?_, HB3.out⟩
        rw [HD.out, show ((⟨t, dms, dsh, dps, dss, dds⟩ : Rc).sh.length) = dsn from HN.out, ← vals_items m ⟨t, dms, dsh, dps, dss, dds⟩ dsn (fun i hi => by
          rcases hs : dsh.getD i false with _ | _
          · rw [itemD_hid (D := ⟨t, dms, dsh, dps, dss, dds⟩) hs]
            obtain ⟨_, _, _, _, _, _, _, _, hrk⟩ := H0.out.2.2.2.2.2.at_ (k := i) hi
            exact allK_getD hrk.all _
          · rw [itemD_show (D := ⟨t, dms, dsh, dps, dss, dds⟩) hs]
            have := partD_in m (dps.getD i ByteArray.empty) (dss.getD i 0)
            exact ⟨by show _ ≤ partD m (dps.getD i ByteArray.empty) (dss.getD i 0); omega, by show partD m (dps.getD i ByteArray.empty) (dss.getD i 0) ≤ _; omega⟩)]
        rfl
end Go.Proofs.Ytjlckfbacphblaa.Rf
