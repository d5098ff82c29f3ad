/- Contracts: the span of a stamp; in the program and in the reference. -/
import Derived.Test.YtfojilogcecphaaGreatAo
import Derived.Test.YtfojilogcecphaaGreatSp
import Derived.Test.YtfojilogcecphaaGreatSlStamp
import Derived.Deep.RegionHeld3
namespace Go.Proofs.YtfojilogcecphaaGreat.Ap
open Go.ChangeShapes Go.WideShapes Go.ChangeAt Go.RowKit Sl St Fnd SlAuthority Ki Ao Jn Sps
def okT (xs : List I3) (x0 x2 : Int) : Bool := (aut xs x0).2 && (!decide ((aut xs x0).1.2.2 < 0) && inB x2 0 10000)
def stS (xs : List I3) (x0 x2 : Int) : Sp × Bool := if okT xs x0 x2 = true then (makeS (wrap64 (x2 - (aut xs x0).1.2.2)) (wrap64 (x2 + (aut xs x0).1.2.2)), makeB (wrap64 (x2 - (aut xs x0).1.2.2)) (wrap64 (x2 + (aut xs x0).1.2.2))) else ((0, 0), false)
theorem st_none {xs : List I3} {x0 x2 a0 a1 a2 : Int} (ha : aut xs x0 = ((a0, a1, a2), false)) : stS xs x0 x2 = ((0, 0), false) := by simp [stS, okT, ha]
theorem st_neg {xs : List I3} {x0 x2 a0 a1 a2 : Int} (ha : aut xs x0 = ((a0, a1, a2), true)) (h : a2 < 0) : stS xs x0 x2 = ((0, 0), false) := by simp [stS, okT, ha, h]
theorem st_off {xs : List I3} {x0 x2 a0 a1 a2 : Int} (ha : aut xs x0 = ((a0, a1, a2), true)) (h : inB x2 0 10000 = false) : stS xs x0 x2 = ((0, 0), false) := by simp [stS, okT, ha, h]
theorem st_on {xs : List I3} {x0 x2 a0 a1 a2 : Int} (ha : aut xs x0 = ((a0, a1, a2), true)) (h2 : ¬ a2 < 0) (h : inB x2 0 10000 = true) : stS xs x0 x2 = (makeS (wrap64 (x2 - a2)) (wrap64 (x2 + a2)), makeB (wrap64 (x2 - a2)) (wrap64 (x2 + a2))) := by
  have k : okT xs x0 x2 = true := by simp [okT, ha, h]; omega
  unfold stS
  rw [if_pos k, ha]
theorem far2 {w : World} {b o r : Nat} {x : Value} (h : w.cell? ⟨b, o, none⟩ = some x) (hne : b ≠ r) (u v : Value) : ((w.setCell ⟨r, 0, none⟩ u).setCell ⟨r, 1, none⟩ v).cell? ⟨b, o, none⟩ = some x := by
  have k : ∀ (w : World) (j : Nat) (u : Value), (w.setCell ⟨r, j, none⟩ u).cell? ⟨b, o, none⟩ = w.cell? ⟨b, o, none⟩ := fun w j u => World.cell?_of_block (a := ⟨b, o, none⟩) (Below.heap_setCell w ⟨r, j, none⟩ u b hne)
  rw [k, k]
  exact h
set_option maxRecDepth 100000 in
set_option maxHeartbeats 8000000 in
theorem stampSpan_any (p : Option Addr) (n c : Nat) (xs : List I3) (x0 x1 x2 x3 x4 : Int) (w : World) (hr : RdS E w p n xs) : Calls Tryz.prog 136 #[.slice p n c, .agg #[.int .i64 x0, .int .i64 x1, .int .i64 x2, .int .i64 x3, .int .i64 x4]] w (Spans (stS xs x0 x2).1 (stS xs x0 x2).2 w) := by
  rcases ha : aut xs x0 with ⟨⟨a0, a1, a2⟩, b⟩
  have HA := Lib.hid ha
  have hv : Below w.heap.size w ((w.alloc (.cells #[.int .i64 x0, .int .i64 x1, .int .i64 x2, .int .i64 x3, .int .i64 x4] 154)).alloc (.cells #[.int .i64 0, .int .i64 0] 105)) := ((Below.refl _ _).alloc (Nat.le_refl _) _).alloc (by simp) _
  have HR := Lib.hid (hr.below hv)
  have HB := Lib.hid hv
  have HX := Lib.hid ((Bx.new w 154 #[.int .i64 x0, .int .i64 x1, .int .i64 x2, .int .i64 x3, .int .i64 x4]).alloc (.cells #[.int .i64 0, .int .i64 0] 105))
  have HY : Hid (Bx ((w.alloc (.cells #[.int .i64 x0, .int .i64 x1, .int .i64 x2, .int .i64 x3, .int .i64 x4] 154)).alloc (.cells #[.int .i64 0, .int .i64 0] 105)) (w.heap.size + 1) 105 #[.int .i64 0, .int .i64 0]) := Lib.hid (by
    have h := Bx.new (w.alloc (.cells #[.int .i64 x0, .int .i64 x1, .int .i64 x2, .int .i64 x3, .int .i64 x4] 154)) 105 #[.int .i64 0, .int .i64 0]
    rw [World.size_alloc] at h
    exact h)
  clear hr hv
  cases b
  · have HS := Lib.hid (st_none (x2 := x2) ha)
    clear ha
    go_enter Tryz.func136, Tryz.ntmps136
    go_wp2_with fail
    refine (authorityOf_any p n c xs x0 x1 x2 x3 x4 a0 a1 a2 false HA.out _ HR.out).mono ?_
    rintro e w1 ⟨rfl, hb⟩
    replace HB := Lib.hid ((below_on HB.out hb).alloc (below_on HB.out hb).size (.cells #[.int .i64 a0, .int .i64 a1, .int .i64 a2] 134))
    replace HX := Lib.hid ((HX.out.below hb).alloc (.cells #[.int .i64 a0, .int .i64 a1, .int .i64 a2] 134))
    replace HY := Lib.hid ((HY.out.below hb).alloc (.cells #[.int .i64 a0, .int .i64 a1, .int .i64 a2] 134))
    have HQ := Lib.hid (Bx.new w1 134 #[.int .i64 a0, .int .i64 a1, .int .i64 a2])
    obtain ⟨cc0, cc1, cc2, cc3, cc4⟩ := SlStamp.bxc HX.out
    obtain ⟨q0, q1, q2, q3⟩ := HY.out.two
    clear hb
    go_wp2_with fail
    exact bodyPost_ret (v := .tuple #[.agg #[.int .i64 0, .int .i64 0], .bool false]) (by simp [results, Tryz.results136, go_sem, q0, q1]) rfl ⟨by rw [HS.out], by first | exact (HB.out.setCell (p := ⟨w.heap.size + 1, 0, none⟩) (by simp) _).setCell (p := ⟨w.heap.size + 1, 1, none⟩) (by simp) _ | exact HB.out⟩
  · by_cases h2 : a2 < 0
    · have HS := Lib.hid (st_neg (x2 := x2) ha h2)
      clear ha
      go_enter Tryz.func136, Tryz.ntmps136
      go_wp2_with fail
      refine (authorityOf_any p n c xs x0 x1 x2 x3 x4 a0 a1 a2 true HA.out _ HR.out).mono ?_
      rintro e w1 ⟨rfl, hb⟩
      replace HB := Lib.hid ((below_on HB.out hb).alloc (below_on HB.out hb).size (.cells #[.int .i64 a0, .int .i64 a1, .int .i64 a2] 134))
      replace HX := Lib.hid ((HX.out.below hb).alloc (.cells #[.int .i64 a0, .int .i64 a1, .int .i64 a2] 134))
      replace HY := Lib.hid ((HY.out.below hb).alloc (.cells #[.int .i64 a0, .int .i64 a1, .int .i64 a2] 134))
      have HQ := Lib.hid (Bx.new w1 134 #[.int .i64 a0, .int .i64 a1, .int .i64 a2])
      obtain ⟨cc0, cc1, cc2, cc3, cc4⟩ := SlStamp.bxc HX.out
      obtain ⟨q0, q1, q2, q3⟩ := HY.out.two
      clear hb
      go_wp2_with fail
      exact bodyPost_ret (v := .tuple #[.agg #[.int .i64 0, .int .i64 0], .bool false]) (by simp [results, Tryz.results136, go_sem, q0, q1]) rfl ⟨by rw [HS.out], by first | exact (HB.out.setCell (p := ⟨w.heap.size + 1, 0, none⟩) (by simp) _).setCell (p := ⟨w.heap.size + 1, 1, none⟩) (by simp) _ | exact HB.out⟩
    · rcases h3 : inB x2 0 10000 with _ | _
      · have HS := Lib.hid (st_off ha h3)
        have H3 := Lib.hid h3
        clear ha h3
        go_enter Tryz.func136, Tryz.ntmps136
        go_wp2_with fail
        refine (authorityOf_any p n c xs x0 x1 x2 x3 x4 a0 a1 a2 true HA.out _ HR.out).mono ?_
        rintro e w1 ⟨rfl, hb⟩
        replace HB := Lib.hid ((below_on HB.out hb).alloc (below_on HB.out hb).size (.cells #[.int .i64 a0, .int .i64 a1, .int .i64 a2] 134))
        replace HX := Lib.hid ((HX.out.below hb).alloc (.cells #[.int .i64 a0, .int .i64 a1, .int .i64 a2] 134))
        replace HY := Lib.hid ((HY.out.below hb).alloc (.cells #[.int .i64 a0, .int .i64 a1, .int .i64 a2] 134))
        have HQ := Lib.hid (Bx.new w1 134 #[.int .i64 a0, .int .i64 a1, .int .i64 a2])
        obtain ⟨cc0, cc1, cc2, cc3, cc4⟩ := SlStamp.bxc HX.out
        obtain ⟨q0, q1, q2, q3⟩ := HY.out.two
        clear hb
        go_wp2_with fail
        refine (time1_any _ x2 _ (by go_simp)).mono ?_
        rintro e w2 ⟨rfl, rfl⟩
        rw [H3.out]
        replace HB := Lib.hid (HB.out.alloc HB.out.size (.cells #[.int .i64 x2] 3))
        replace HX := Lib.hid (HX.out.alloc (.cells #[.int .i64 x2] 3))
        replace HY := Lib.hid (HY.out.alloc (.cells #[.int .i64 x2] 3))
        replace HQ := Lib.hid (HQ.out.alloc (.cells #[.int .i64 x2] 3))
        clear q0 q1 q2 q3 cc0 cc1 cc2 cc3 cc4
        obtain ⟨q0, q1, q2, q3⟩ := HY.out.two
        obtain ⟨cc0, cc1, cc2, cc3, cc4⟩ := SlStamp.bxc HX.out
        obtain ⟨a_0, a_1, a_2⟩ := SlAuthority.bxc HQ.out
        go_wp2_with fail
        exact bodyPost_ret (v := .tuple #[.agg #[.int .i64 0, .int .i64 0], .bool false]) (by simp [results, Tryz.results136, go_sem, q0, q1]) rfl ⟨by rw [HS.out], by first | exact (HB.out.setCell (p := ⟨w.heap.size + 1, 0, none⟩) (by simp) _).setCell (p := ⟨w.heap.size + 1, 1, none⟩) (by simp) _ | exact HB.out⟩
      · have HS := Lib.hid (st_on ha h2 h3)
        have H3 := Lib.hid h3
        clear ha h3
        go_enter Tryz.func136, Tryz.ntmps136
        go_wp2_with fail
        refine (authorityOf_any p n c xs x0 x1 x2 x3 x4 a0 a1 a2 true HA.out _ HR.out).mono ?_
        rintro e w1 ⟨rfl, hb⟩
        replace HB := Lib.hid ((below_on HB.out hb).alloc (below_on HB.out hb).size (.cells #[.int .i64 a0, .int .i64 a1, .int .i64 a2] 134))
        replace HX := Lib.hid ((HX.out.below hb).alloc (.cells #[.int .i64 a0, .int .i64 a1, .int .i64 a2] 134))
        replace HY := Lib.hid ((HY.out.below hb).alloc (.cells #[.int .i64 a0, .int .i64 a1, .int .i64 a2] 134))
        have HQ := Lib.hid (Bx.new w1 134 #[.int .i64 a0, .int .i64 a1, .int .i64 a2])
        obtain ⟨cc0, cc1, cc2, cc3, cc4⟩ := SlStamp.bxc HX.out
        obtain ⟨q0, q1, q2, q3⟩ := HY.out.two
        clear hb
        go_wp2_with fail
        refine (time1_any _ x2 _ (by go_simp)).mono ?_
        rintro e w2 ⟨rfl, rfl⟩
        rw [H3.out]
        replace HB := Lib.hid (HB.out.alloc HB.out.size (.cells #[.int .i64 x2] 3))
        replace HX := Lib.hid (HX.out.alloc (.cells #[.int .i64 x2] 3))
        replace HY := Lib.hid (HY.out.alloc (.cells #[.int .i64 x2] 3))
        replace HQ := Lib.hid (HQ.out.alloc (.cells #[.int .i64 x2] 3))
        clear q0 q1 q2 q3 cc0 cc1 cc2 cc3 cc4
        obtain ⟨q0, q1, q2, q3⟩ := HY.out.two
        obtain ⟨cc0, cc1, cc2, cc3, cc4⟩ := SlStamp.bxc HX.out
        obtain ⟨a_0, a_1, a_2⟩ := SlAuthority.bxc HQ.out
        go_wp2_with fail
        refine (make_any _ _ _).mono ?_
        rintro e w3 ⟨rfl, hb⟩
        replace HB := Lib.hid (below_on HB.out hb)
        replace HY := Lib.hid (HY.out.below hb)
        clear q0 q1 q2 q3 cc0 cc1 cc2 cc3 cc4 a_0 a_1 a_2 hb
        obtain ⟨q0, q1, q2, q3⟩ := HY.out.two
        go_wp2_with fail
        exact bodyPost_ret (v := .tuple #[.agg #[.int .i64 (makeS (wrap64 (x2 - a2)) (wrap64 (x2 + a2))).1, .int .i64 (makeS (wrap64 (x2 - a2)) (wrap64 (x2 + a2))).2], .bool (makeB (wrap64 (x2 - a2)) (wrap64 (x2 + a2)))]) (by simp [results, Tryz.results136, go_sem, q0, q1]) rfl ⟨by rw [HS.out], (HB.out.setCell (p := ⟨w.heap.size + 1, 0, none⟩) (by simp) _).setCell (p := ⟨w.heap.size + 1, 1, none⟩) (by simp) _⟩
set_option maxRecDepth 100000 in
set_option maxHeartbeats 8000000 in
theorem spec_stampSpan_any (p : Option Addr) (n c : Nat) (xs : List I3) (x0 x1 x2 x3 x4 : Int) (w : World) (hr : RdS E w p n xs) : Calls Tryz.prog 86 #[.slice p n c, .agg #[.int .i64 x0, .int .i64 x1, .int .i64 x2, .int .i64 x3, .int .i64 x4]] w (Spans (stS xs x0 x2).1 (stS xs x0 x2).2 w) := by
  rcases ha : aut xs x0 with ⟨⟨a0, a1, a2⟩, b⟩
  have HL := Lib.hid hr.len
  have hle := hr.le
  have HRW := Lib.hid hr
  have hv : Below w.heap.size w ((w.alloc (.cells #[.int .i64 x0, .int .i64 x1, .int .i64 x2, .int .i64 x3, .int .i64 x4] 154)).alloc (.cells #[.int .i64 0, .int .i64 0] 105)) := ((Below.refl _ _).alloc (Nat.le_refl _) _).alloc (by simp) _
  have HR := Lib.hid (hr.below hv)
  have HB := Lib.hid hv
  have HX := Lib.hid ((Bx.new w 154 #[.int .i64 x0, .int .i64 x1, .int .i64 x2, .int .i64 x3, .int .i64 x4]).alloc (.cells #[.int .i64 0, .int .i64 0] 105))
  have HY : Hid (Bx ((w.alloc (.cells #[.int .i64 x0, .int .i64 x1, .int .i64 x2, .int .i64 x3, .int .i64 x4] 154)).alloc (.cells #[.int .i64 0, .int .i64 0] 105)) (w.heap.size + 1) 105 #[.int .i64 0, .int .i64 0]) := Lib.hid (by
    have h := Bx.new (w.alloc (.cells #[.int .i64 x0, .int .i64 x1, .int .i64 x2, .int .i64 x3, .int .i64 x4] 154)) 105 #[.int .i64 0, .int .i64 0]
    rw [World.size_alloc] at h
    exact h)
  clear hr hv
  rcases aut_cases xs x0 ha with ⟨k, h1, g2, g3, g4⟩ | ⟨g2, _, _, _, g6⟩
  · subst g4
    have HF := Lib.hid g2
    have hkn : k < n := by have := HL.out; omega
    have H3A := Lib.hid g3
    clear h1 g2 g3
    by_cases h2 : a2 < 0
    · have HS := Lib.hid (st_neg (x2 := x2) ha h2)
      clear ha
      go_enter Tryz.func86, Tryz.ntmps86
      go_wp2_with fail
      refine (FAuthority.spec_find_any p n c xs x0 _ HR.out).mono ?_
      rintro e w1 ⟨rfl, rfl⟩
      rw [HF.out]
      obtain ⟨cc0, cc1, cc2, cc3, cc4⟩ := SlStamp.bxc HX.out
      obtain ⟨q0, q1, q2, q3⟩ := HY.out.two
      obtain ⟨bb, o, rfl, hbb, hat⟩ := SlAuthority.rd_at HRW.out hkn
      have hat' := hat.below HB.out hbb
      rw [H3A.out] at hat'
      obtain ⟨c0, c1, c2⟩ := hat'
      have C2 := Lib.hid c2
      clear hat
      have i1 : (0 : Int) ≤ (k : Int) := by omega
      have i2 : (k : Int) < (n : Int) := by omega
      go_wp2_with fail
      exact bodyPost_ret (v := .tuple #[.agg #[.int .i64 0, .int .i64 0], .bool false]) (by simp [results, Tryz.results86, go_sem, q0, q1]) rfl ⟨by rw [HS.out], by first | exact (HB.out.setCell (p := ⟨w.heap.size + 1, 0, none⟩) (by simp) _).setCell (p := ⟨w.heap.size + 1, 1, none⟩) (by simp) _ | exact HB.out⟩
    · rcases h3 : inB x2 0 10000 with _ | _
      · have HS := Lib.hid (st_off ha h3)
        have H3 := Lib.hid h3
        clear ha h3
        go_enter Tryz.func86, Tryz.ntmps86
        go_wp2_with fail
        refine (FAuthority.spec_find_any p n c xs x0 _ HR.out).mono ?_
        rintro e w1 ⟨rfl, rfl⟩
        rw [HF.out]
        obtain ⟨cc0, cc1, cc2, cc3, cc4⟩ := SlStamp.bxc HX.out
        obtain ⟨q0, q1, q2, q3⟩ := HY.out.two
        obtain ⟨bb, o, rfl, hbb, hat⟩ := SlAuthority.rd_at HRW.out hkn
        have hat' := hat.below HB.out hbb
        rw [H3A.out] at hat'
        obtain ⟨c0, c1, c2⟩ := hat'
        have C2 := Lib.hid c2
        clear hat
        have i1 : (0 : Int) ≤ (k : Int) := by omega
        have i2 : (k : Int) < (n : Int) := by omega
        go_wp2_with fail
        refine (time_any x2 _).mono ?_
        rintro e w2 ⟨rfl, rfl⟩
        rw [H3.out]
        go_wp2_with fail
        exact bodyPost_ret (v := .tuple #[.agg #[.int .i64 0, .int .i64 0], .bool false]) (by simp [results, Tryz.results86, go_sem, q0, q1]) rfl ⟨by rw [HS.out], by first | exact (HB.out.setCell (p := ⟨w.heap.size + 1, 0, none⟩) (by simp) _).setCell (p := ⟨w.heap.size + 1, 1, none⟩) (by simp) _ | exact HB.out⟩
      · have HS := Lib.hid (st_on ha h2 h3)
        have H3 := Lib.hid h3
        clear ha h3
        go_enter Tryz.func86, Tryz.ntmps86
        go_wp2_with fail
        refine (FAuthority.spec_find_any p n c xs x0 _ HR.out).mono ?_
        rintro e w1 ⟨rfl, rfl⟩
        rw [HF.out]
        obtain ⟨cc0, cc1, cc2, cc3, cc4⟩ := SlStamp.bxc HX.out
        obtain ⟨q0, q1, q2, q3⟩ := HY.out.two
        obtain ⟨bb, o, rfl, hbb, hat⟩ := SlAuthority.rd_at HRW.out hkn
        have hat' := hat.below HB.out hbb
        rw [H3A.out] at hat'
        obtain ⟨c0, c1, c2⟩ := hat'
        have C2 := Lib.hid c2
        clear hat
        have i1 : (0 : Int) ≤ (k : Int) := by omega
        have i2 : (k : Int) < (n : Int) := by omega
        go_wp2_with fail
        refine (time_any x2 _).mono ?_
        rintro e w2 ⟨rfl, rfl⟩
        rw [H3.out]
        go_wp2_with fail
        generalize ((w.alloc (.cells #[.int .i64 x0, .int .i64 x1, .int .i64 x2, .int .i64 x3, .int .i64 x4] 154)).alloc (.cells #[.int .i64 0, .int .i64 0] 105)) = V at *
        go_region_held3 (fun w' => w'.cell? ⟨w.heap.size, 2, none⟩ = some (.int .i64 x2) ∧ w'.cell? ⟨bb, o + k * 3 + 2, none⟩ = some (.int .i64 a2)) (first | with_reducible exact ⟨HX3.out.cell rfl, D2.out⟩ | with_reducible exact ⟨HX.out.drew1.cell rfl, C2.out⟩ | exact ⟨far2 (HX3.out.cell rfl) (by omega) _ _, far2 D2.out (by omega) _ _⟩ | exact ⟨HX.out.cell rfl, C2.out⟩ | go_keep) (first
          | (go_at_call 117; (with_reducible refine (spec_make_any _ _ _).mono ?_); rintro e w3 ⟨rfl, hb⟩; have hb' : Below V.heap.size V w3 := below_on (below_drewN (Below.refl _ _) 1) hb; have HX3 := Lib.hid (HX.out.below hb'); have HY3 := Lib.hid (HY.out.below hb'); have HB3 := Lib.hid (below_on HB.out hb'); have D2 : Hid (w3.cell? ⟨bb, o + k * 3 + 2, none⟩ = some (.int .i64 a2)) := Lib.hid ((hb'.cell (p := ⟨bb, o + k * 3 + 2, none⟩) (Nat.lt_of_lt_of_le hbb HB.out.size)).trans C2.out); obtain ⟨q4, q5, q6, q7⟩ := HY3.out.two; clear hb hb'))
        all_goals
          go_wp2_with fail
          exact bodyPost_ret (v := .tuple #[.agg #[.int .i64 (makeS (wrap64 (x2 - a2)) (wrap64 (x2 + a2))).1, .int .i64 (makeS (wrap64 (x2 - a2)) (wrap64 (x2 + a2))).2], .bool (makeB (wrap64 (x2 - a2)) (wrap64 (x2 + a2)))]) (by simp [results, Tryz.results86, go_sem, q4, q5, IntWalk.i64_left]) rfl ⟨by rw [HS.out], (HB3.out.setCell (p := ⟨w.heap.size + 1, 0, none⟩) (by simp) _).setCell (p := ⟨w.heap.size + 1, 1, none⟩) (by simp) _⟩
  · subst g6
    have HF := Lib.hid g2
    have HS := Lib.hid (st_none (x2 := x2) ha)
    clear ha g2
    go_enter Tryz.func86, Tryz.ntmps86
    go_wp2_with fail
    refine (FAuthority.spec_find_any p n c xs x0 _ HR.out).mono ?_
    rintro e w1 ⟨rfl, rfl⟩
    rw [HF.out]
    obtain ⟨cc0, cc1, cc2, cc3, cc4⟩ := SlStamp.bxc HX.out
    obtain ⟨q0, q1, q2, q3⟩ := HY.out.two
    go_wp2_with fail
    exact bodyPost_ret (v := .tuple #[.agg #[.int .i64 0, .int .i64 0], .bool false]) (by simp [results, Tryz.results86, go_sem, q0, q1]) rfl ⟨by rw [HS.out], by first | exact (HB.out.setCell (p := ⟨w.heap.size + 1, 0, none⟩) (by simp) _).setCell (p := ⟨w.heap.size + 1, 1, none⟩) (by simp) _ | exact HB.out⟩
end Go.Proofs.YtfojilogcecphaaGreat.Ap
