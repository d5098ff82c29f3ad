/- The walk of the law FnExactIsRedactionOf. -/
import Derived.Test.YtjlckfbacphblaaRs
import Derived.Deep.RegionHeld3
import Derived.OpenShut
namespace Go.Proofs.Ytjlckfbacphblaa.fnExactIsRedactionOf
open Go.ChangeShapes Go.WideShapes Go.ChangeAt Go.RowKit Sl St Dk
set_option maxRecDepth 100000 in
set_option maxHeartbeats 8000000 in
theorem walk {H : Type} {enc : TypeId × Value → H} (W : World) (base : Nat)
    (v0 : Value) (d0 : DataW H) (p0 : List MemPlace) (h0 : DataW.Trod enc Try.prog W 0 (fun _ => true) true 63 v0 d0 p0) (k0 : Value.okWide Try.prog W .any base 63 v0)
    (v1 : Value) (d1 : DataW H) (p1 : List MemPlace) (h1 : DataW.Trod enc Try.prog W 0 (fun _ => true) true 53 v1 d1 p1) (k1 : Value.okWide Try.prog W .any base 53 v1)
    (_hsz : (DataW.weightsEach Try.prog [63, 53] [d0, d1]).all (· ≤ reachBytes) = true) :
    Calls Try.prog 8 #[v0, v1] W fun e w' => e = .returned (.bool true) ∧ Below W.heap.size W w' := by
  obtain ⟨a0t, a0msp, a0msn, a0msc, a0shp, a0shn, a0shc, a0psp, a0psn, a0psc, a0ssp, a0ssn, a0ssc, a0dsp, a0dsn, a0dsc, D0, rfl, hr0, hw0⟩ := SlRed.open_x h0 k0
  have HP0 := Lib.hid hr0
  have HW0 := Lib.hid hw0
  clear h0 k0 hr0 hw0
  obtain ⟨a1t, a1psp, a1psn, a1psc, a1ssp, a1ssn, a1ssc, D1, rfl, hr1, hw1⟩ := SlDcu.open_x h1 k1
  have HP1 := Lib.hid hr1
  have HW1 := Lib.hid hw1
  clear h1 k1 hr1 hw1
  clear _hsz
  have hB := (Below.refl W.heap.size W).alloc (Nat.le_refl _) (.cells #[.int .i64 a0t, .slice a0msp a0msn a0msc, .slice a0shp a0shn a0shc, .slice a0psp a0psn a0psc, .slice a0ssp a0ssn a0ssc, .slice a0dsp a0dsn a0dsc] 63)
  have hA0 := Bx.new W 63 #[.int .i64 a0t, .slice a0msp a0msn a0msc, .slice a0shp a0shn a0shc, .slice a0psp a0psn a0psc, .slice a0ssp a0ssn a0ssc, .slice a0dsp a0dsn a0dsc]
  have hA1 := Bx.new (W.alloc (.cells #[.int .i64 a0t, .slice a0msp a0msn a0msc, .slice a0shp a0shn a0shc, .slice a0psp a0psn a0psc, .slice a0ssp a0ssn a0ssc, .slice a0dsp a0dsn a0dsc] 63)) 53 #[.int .i64 a1t, .slice a1psp a1psn a1psc, .slice a1ssp a1ssn a1ssc]
  rw [World.size_alloc] at hA1
  replace hB := hB.alloc (by simp) (.cells #[.int .i64 a1t, .slice a1psp a1psn a1psc, .slice a1ssp a1ssn a1ssc] 53)
  replace hA0 := hA0.alloc (.cells #[.int .i64 a1t, .slice a1psp a1psn a1psc, .slice a1ssp a1ssn a1ssc] 53)
  have HB := Lib.hid hB
  have A0 := Lib.hid hA0
  have A1 := Lib.hid hA1
  clear hB hA0 hA1
  by_cases hf0 : SlRed.size D0 ≤ 1048576
  rotate_left
  · go_enter Try.func8, Try.ntmps8
    go_wp2_with fail
    refine (SlRed.sz_big _ _ _ _ _ _ _ _ _ _ _ _ _ _ _ _ (1048576) D0 (1048576) rfl _ (HP0.out.below HB.out) HW0.out (by omega) hf0).mono ?_
    rintro e w0 ⟨rfl, hb⟩
    replace HB := Lib.hid (below_on HB.out hb)
    clear hb
    go_wp2_with fail
    go_ret
    exact ⟨rfl, HB.out⟩
  by_cases hf1 : SlDcu.size D1 ≤ 1048576 - SlRed.size D0
  rotate_left
  · go_enter Try.func8, Try.ntmps8
    go_wp2_with fail
    refine (SlRed.sz_fit _ _ _ _ _ _ _ _ _ _ _ _ _ _ _ _ (1048576) D0 (1048576) rfl _ (HP0.out.below HB.out) HW0.out (by omega) hf0).mono ?_
    rintro e w0 ⟨rfl, hb⟩
    replace HB := Lib.hid (below_on HB.out hb)
    replace A0 := Lib.hid (A0.out.below hb)
    replace A1 := Lib.hid (A1.out.below hb)
    clear hb
    obtain ⟨u00, u01, u02, u03, u04, u05⟩ := SlRed.bx6 A0.out
    obtain ⟨u10, u11, u12⟩ := SlDcu.bx3 A1.out
    go_wp2_with fail
    refine (SlDcu.sz_big _ _ _ _ _ _ _ (1048576 - SlRed.size D0) D1 (1048576 - SlRed.size D0) (by omega) _ (HP1.out.below HB.out) HW1.out (by omega) hf1).mono ?_
    rintro e w0 ⟨rfl, hb⟩
    replace HB := Lib.hid (below_on HB.out hb)
    clear hb
    go_wp2_with fail
    go_ret
    exact ⟨rfl, HB.out⟩
  go_enter Try.func8, Try.ntmps8
  go_wp2_with fail
  refine (SlRed.sz_fit _ _ _ _ _ _ _ _ _ _ _ _ _ _ _ _ (1048576) D0 (1048576) rfl _ (HP0.out.below HB.out) HW0.out (by omega) hf0).mono ?_
  rintro e w1 ⟨rfl, hb⟩
  replace HB := Lib.hid (below_on HB.out hb)
  replace A0 := Lib.hid (A0.out.below hb)
  replace A1 := Lib.hid (A1.out.below hb)
  clear hb
  obtain ⟨u00, u01, u02, u03, u04, u05⟩ := SlRed.bx6 A0.out
  obtain ⟨u10, u11, u12⟩ := SlDcu.bx3 A1.out
  go_wp2_with fail
  clear u00 u01 u02 u03 u04 u05 u10 u11 u12
  refine (SlDcu.sz_fit _ _ _ _ _ _ _ (1048576 - SlRed.size D0) D1 (1048576 - SlRed.size D0) (by omega) _ (HP1.out.below HB.out) HW1.out (by omega) hf1).mono ?_
  rintro e w2 ⟨rfl, hb⟩
  replace HB := Lib.hid (below_on HB.out hb)
  replace A0 := Lib.hid (A0.out.below hb)
  replace A1 := Lib.hid (A1.out.below hb)
  clear hb
  obtain ⟨u00, u01, u02, u03, u04, u05⟩ := SlRed.bx6 A0.out
  obtain ⟨u10, u11, u12⟩ := SlDcu.bx3 A1.out
  have HF0 : SlRed.size D0 ≤ 1048576 := by omega
  have HF1 : SlDcu.size D1 ≤ 1048576 := by omega
  go_wp2_with fail
  go_region_held3 (fun w' => w'.cell? ⟨W.heap.size, 0, none⟩ = some (.int .i64 a0t) ∧ w'.cell? ⟨W.heap.size, 1, none⟩ = some (.slice a0msp a0msn a0msc) ∧ w'.cell? ⟨W.heap.size, 2, none⟩ = some (.slice a0shp a0shn a0shc) ∧ w'.cell? ⟨W.heap.size, 3, none⟩ = some (.slice a0psp a0psn a0psc) ∧ w'.cell? ⟨W.heap.size, 4, none⟩ = some (.slice a0ssp a0ssn a0ssc) ∧ w'.cell? ⟨W.heap.size, 5, none⟩ = some (.slice a0dsp a0dsn a0dsc) ∧ w'.cell? ⟨W.heap.size + 1, 0, none⟩ = some (.int .i64 a1t) ∧ w'.cell? ⟨W.heap.size + 1, 1, none⟩ = some (.slice a1psp a1psn a1psc) ∧ w'.cell? ⟨W.heap.size + 1, 2, none⟩ = some (.slice a1ssp a1ssn a1ssc)) (first | exact (by obtain ⟨k0, k1, k2, k3, k4, k5⟩ := SlRed.bx6 Y3.out; obtain ⟨l0, l1, l2⟩ := SlDcu.bx3 Z3.out; exact ⟨k0, k1, k2, k3, k4, k5, l0, l1, l2⟩) | exact (by obtain ⟨k0, k1, k2, k3, k4, k5⟩ := SlRed.bx6 Y2.out; obtain ⟨l0, l1, l2⟩ := SlDcu.bx3 Z2.out; exact ⟨k0, k1, k2, k3, k4, k5, l0, l1, l2⟩) | exact (by obtain ⟨k0, k1, k2, k3, k4, k5⟩ := SlRed.bx6 Y1.out; obtain ⟨l0, l1, l2⟩ := SlDcu.bx3 Z1.out; exact ⟨k0, k1, k2, k3, k4, k5, l0, l1, l2⟩) | exact (by obtain ⟨k0, k1, k2, k3, k4, k5⟩ := SlRed.bx6 A0.out; obtain ⟨l0, l1, l2⟩ := SlDcu.bx3 A1.out; exact ⟨k0, k1, k2, k3, k4, k5, l0, l1, l2⟩) | exact (by obtain ⟨k0, k1, k2, k3, k4, k5⟩ := SlRed.bx6 A0.out.drew1; obtain ⟨l0, l1, l2⟩ := SlDcu.bx3 A1.out.drew1; exact ⟨k0, k1, k2, k3, k4, k5, l0, l1, l2⟩) | go_keep) (first
    | (go_at_call 29; refine (SlDcu.to_x a1t a1psp a1psn a1psc a1ssp a1ssn a1ssc D1 _ (HP1.out.below HB1.out) HF1).mono ?_; rintro e w2r ⟨s1t, s1psp, s1psn, s1psc, s1ssp, s1ssn, s1ssc, rfl, hR, hb⟩; have HB2 := Lib.hid (below_on HB1.out hb); have Y2 := Lib.hid ((Y1.out).below hb); have Z2 := Lib.hid ((Z1.out).below hb); have Rs1 := Lib.hid hR; replace Rs0 := Lib.hid (Rs0.out.below hb); clear hR hb)
    | (go_at_call 39; refine (SlRed.to_x a0t a0msp a0msn a0msc a0shp a0shn a0shc a0psp a0psn a0psc a0ssp a0ssn a0ssc a0dsp a0dsn a0dsc D0 _ (HP0.out.below HB1.out) HF0).mono ?_; rintro e w2r ⟨s0t, s0msp, s0msn, s0msc, s0shp, s0shn, s0shc, s0psp, s0psn, s0psc, s0ssp, s0ssn, s0ssc, s0dsp, s0dsn, s0dsc, rfl, hR, hb⟩; have HB2 := Lib.hid (below_on HB1.out hb); have Y2 := Lib.hid ((Y1.out).below hb); have Z2 := Lib.hid ((Z1.out).below hb); have Rs0 := Lib.hid hR; replace Rs1 := Lib.hid (Rs1.out.below hb); clear hR hb)
    | (go_at_call 39; refine (SlRed.to_x a0t a0msp a0msn a0msc a0shp a0shn a0shc a0psp a0psn a0psc a0ssp a0ssn a0ssc a0dsp a0dsn a0dsc D0 _ (HP0.out.below (below_drewN HB.out 1)) HF0).mono ?_; rintro e w1r ⟨s0t, s0msp, s0msn, s0msc, s0shp, s0shn, s0shc, s0psp, s0psn, s0psc, s0ssp, s0ssn, s0ssc, s0dsp, s0dsn, s0dsc, rfl, hR, hb⟩; have HB1 := Lib.hid (below_on (below_drewN HB.out 1) hb); have Y1 := Lib.hid ((A0.out.drew1).below hb); have Z1 := Lib.hid ((A1.out.drew1).below hb); have Rs0 := Lib.hid hR; clear hR hb)
    | (go_at_call 29; refine (SlDcu.to_x a1t a1psp a1psn a1psc a1ssp a1ssn a1ssc D1 _ (HP1.out.below (below_drewN HB.out 1)) HF1).mono ?_; rintro e w1r ⟨s1t, s1psp, s1psn, s1psc, s1ssp, s1ssn, s1ssc, rfl, hR, hb⟩; have HB1 := Lib.hid (below_on (below_drewN HB.out 1) hb); have Y1 := Lib.hid ((A0.out.drew1).below hb); have Z1 := Lib.hid ((A1.out.drew1).below hb); have Rs1 := Lib.hid hR; clear hR hb)
    | (go_at_call 41; refine (Ro.spec_isOf_any ⟨s0t, s0msp, s0msn, s0msc, s0shp, s0shn, s0shc, s0psp, s0psn, s0psc, s0ssp, s0ssn, s0ssc, s0dsp, s0dsn, s0dsc⟩ ⟨s1t, s1psp, s1psn, s1psc, s1ssp, s1ssn, s1ssc⟩ D0 D1 _ Rs0.out Rs1.out HF0 HF1).mono ?_; rintro e w3r ⟨rfl, hb⟩; have HB3 := Lib.hid (below_on HB2.out hb); have Y3 := Lib.hid (Y2.out.below hb); have Z3 := Lib.hid (Z2.out.below hb); clear hb Rs0 Rs1))
  all_goals
    replace HB := Lib.hid HB3.out
    replace A0 := Lib.hid Y3.out
    replace A1 := Lib.hid Z3.out
    clear HB1 HB2 HB3 Y1 Y2 Y3 Z1 Z2 Z3
    clear u00 u01 u02 u03 u04 u05 u10 u11 u12
    obtain ⟨u00, u01, u02, u03, u04, u05⟩ := SlRed.bx6 A0.out
    obtain ⟨u10, u11, u12⟩ := SlDcu.bx3 A1.out
    go_wp2_with fail
    refine (SlRed.to_x _ _ _ _ _ _ _ _ _ _ _ _ _ _ _ _ D0 _ (HP0.out.below HB.out) HF0).mono ?_
    rintro e w3 ⟨x0t, x0msp, x0msn, x0msc, x0shp, x0shn, x0shc, x0psp, x0psn, x0psc, x0ssp, x0ssn, x0ssc, x0dsp, x0dsn, x0dsc, rfl, hR, hb⟩
    replace HB := Lib.hid (below_on HB.out hb)
    replace A0 := Lib.hid (A0.out.below hb)
    replace A1 := Lib.hid (A1.out.below hb)
    have Rx0 := Lib.hid hR
    clear u00 u01 u02 u03 u04 u05 u10 u11 u12
    clear hR hb
    obtain ⟨u00, u01, u02, u03, u04, u05⟩ := SlRed.bx6 A0.out
    obtain ⟨u10, u11, u12⟩ := SlDcu.bx3 A1.out
    have X0 := Lib.hid (Bx.new w3 43 #[.int .i64 x0t, .slice x0msp x0msn x0msc, .slice x0shp x0shn x0shc, .slice x0psp x0psn x0psc, .slice x0ssp x0ssn x0ssc, .slice x0dsp x0dsn x0dsc])
    replace HB := Lib.hid (HB.out.alloc HB.out.size (.cells #[.int .i64 x0t, .slice x0msp x0msn x0msc, .slice x0shp x0shn x0shc, .slice x0psp x0psn x0psc, .slice x0ssp x0ssn x0ssc, .slice x0dsp x0dsn x0dsc] 43))
    replace A0 := Lib.hid (A0.out.alloc (.cells #[.int .i64 x0t, .slice x0msp x0msn x0msc, .slice x0shp x0shn x0shc, .slice x0psp x0psn x0psc, .slice x0ssp x0ssn x0ssc, .slice x0dsp x0dsn x0dsc] 43))
    replace A1 := Lib.hid (A1.out.alloc (.cells #[.int .i64 x0t, .slice x0msp x0msn x0msc, .slice x0shp x0shn x0shc, .slice x0psp x0psn x0psc, .slice x0ssp x0ssn x0ssc, .slice x0dsp x0dsn x0dsc] 43))
    replace Rx0 := Lib.hid (Rx0.out.alloc (.cells #[.int .i64 x0t, .slice x0msp x0msn x0msc, .slice x0shp x0shn x0shc, .slice x0psp x0psn x0psc, .slice x0ssp x0ssn x0ssc, .slice x0dsp x0dsn x0dsc] 43))
    clear u00 u01 u02 u03 u04 u05 u10 u11 u12
    obtain ⟨u00, u01, u02, u03, u04, u05⟩ := SlRed.bx6 A0.out
    obtain ⟨u10, u11, u12⟩ := SlDcu.bx3 A1.out
    go_wp2_with fail
    refine (SlDcu.to_x _ _ _ _ _ _ _ D1 _ (HP1.out.below HB.out) HF1).mono ?_
    rintro e w4 ⟨x1t, x1psp, x1psn, x1psc, x1ssp, x1ssn, x1ssc, rfl, hR, hb⟩
    replace HB := Lib.hid (below_on HB.out hb)
    replace A0 := Lib.hid (A0.out.below hb)
    replace A1 := Lib.hid (A1.out.below hb)
    replace Rx0 := Lib.hid (Rx0.out.below hb)
    replace X0 := Lib.hid (X0.out.below hb)
    have Rx1 := Lib.hid hR
    clear u00 u01 u02 u03 u04 u05 u10 u11 u12
    clear hR hb
    obtain ⟨u00, u01, u02, u03, u04, u05⟩ := SlRed.bx6 A0.out
    obtain ⟨u10, u11, u12⟩ := SlDcu.bx3 A1.out
    have X1 := Lib.hid (Bx.new w4 27 #[.int .i64 x1t, .slice x1psp x1psn x1psc, .slice x1ssp x1ssn x1ssc])
    replace HB := Lib.hid (HB.out.alloc HB.out.size (.cells #[.int .i64 x1t, .slice x1psp x1psn x1psc, .slice x1ssp x1ssn x1ssc] 27))
    replace A0 := Lib.hid (A0.out.alloc (.cells #[.int .i64 x1t, .slice x1psp x1psn x1psc, .slice x1ssp x1ssn x1ssc] 27))
    replace A1 := Lib.hid (A1.out.alloc (.cells #[.int .i64 x1t, .slice x1psp x1psn x1psc, .slice x1ssp x1ssn x1ssc] 27))
    replace Rx0 := Lib.hid (Rx0.out.alloc (.cells #[.int .i64 x1t, .slice x1psp x1psn x1psc, .slice x1ssp x1ssn x1ssc] 27))
    replace X0 := Lib.hid (X0.out.alloc (.cells #[.int .i64 x1t, .slice x1psp x1psn x1psc, .slice x1ssp x1ssn x1ssc] 27))
    replace Rx1 := Lib.hid (Rx1.out.alloc (.cells #[.int .i64 x1t, .slice x1psp x1psn x1psc, .slice x1ssp x1ssn x1ssc] 27))
    clear u00 u01 u02 u03 u04 u05 u10 u11 u12
    obtain ⟨u00, u01, u02, u03, u04, u05⟩ := SlRed.bx6 A0.out
    obtain ⟨u10, u11, u12⟩ := SlDcu.bx3 A1.out
    obtain ⟨z00, z01, z02, z03, z04, z05⟩ := SlRed.bx6 X0.out
    go_wp2_with fail
    clear z00 z01 z02 z03 z04 z05
    refine (Ro.isOf_any ⟨x0t, x0msp, x0msn, x0msc, x0shp, x0shn, x0shc, x0psp, x0psn, x0psc, x0ssp, x0ssn, x0ssc, x0dsp, x0dsn, x0dsc⟩ ⟨x1t, x1psp, x1psn, x1psc, x1ssp, x1ssn, x1ssc⟩ D0 D1 _ Rx0.out Rx1.out HF0 HF1).mono ?_
    rintro e w5 ⟨rfl, hb⟩
    replace HB := Lib.hid (below_on HB.out hb)
    replace A0 := Lib.hid (A0.out.below hb)
    replace A1 := Lib.hid (A1.out.below hb)
    replace Rx0 := Lib.hid (Rx0.out.below hb)
    replace X0 := Lib.hid (X0.out.below hb)
    replace Rx1 := Lib.hid (Rx1.out.below hb)
    replace X1 := Lib.hid (X1.out.below hb)
    clear u00 u01 u02 u03 u04 u05 u10 u11 u12
    clear hb
    obtain ⟨u00, u01, u02, u03, u04, u05⟩ := SlRed.bx6 A0.out
    obtain ⟨u10, u11, u12⟩ := SlDcu.bx3 A1.out
    obtain ⟨z00, z01, z02, z03, z04, z05⟩ := SlRed.bx6 X0.out
    obtain ⟨z10, z11, z12⟩ := SlDcu.bx3 X1.out
    go_wp2_with fail
    go_region_held3 (fun w' => w'.cell? ⟨w3.heap.size, 0, none⟩ = some (.int .i64 x0t) ∧ w'.cell? ⟨w3.heap.size, 1, none⟩ = some (.slice x0msp x0msn x0msc) ∧ w'.cell? ⟨w3.heap.size, 2, none⟩ = some (.slice x0shp x0shn x0shc) ∧ w'.cell? ⟨w3.heap.size, 3, none⟩ = some (.slice x0psp x0psn x0psc) ∧ w'.cell? ⟨w3.heap.size, 4, none⟩ = some (.slice x0ssp x0ssn x0ssc) ∧ w'.cell? ⟨w3.heap.size, 5, none⟩ = some (.slice x0dsp x0dsn x0dsc) ∧ w'.cell? ⟨W.heap.size, 0, none⟩ = some (.int .i64 a0t) ∧ w'.cell? ⟨W.heap.size, 1, none⟩ = some (.slice a0msp a0msn a0msc) ∧ w'.cell? ⟨W.heap.size, 2, none⟩ = some (.slice a0shp a0shn a0shc) ∧ w'.cell? ⟨W.heap.size, 3, none⟩ = some (.slice a0psp a0psn a0psc) ∧ w'.cell? ⟨W.heap.size, 4, none⟩ = some (.slice a0ssp a0ssn a0ssc) ∧ w'.cell? ⟨W.heap.size, 5, none⟩ = some (.slice a0dsp a0dsn a0dsc)) (first | exact (by obtain ⟨k0, k1, k2, k3, k4, k5⟩ := SlRed.bx6 X0r.out; obtain ⟨l0, l1, l2, l3, l4, l5⟩ := SlRed.bx6 A0r.out; exact ⟨k0, k1, k2, k3, k4, k5, l0, l1, l2, l3, l4, l5⟩) | exact (by obtain ⟨k0, k1, k2, k3, k4, k5⟩ := SlRed.bx6 X0.out; obtain ⟨l0, l1, l2, l3, l4, l5⟩ := SlRed.bx6 A0.out; exact ⟨k0, k1, k2, k3, k4, k5, l0, l1, l2, l3, l4, l5⟩) | exact (by obtain ⟨k0, k1, k2, k3, k4, k5⟩ := SlRed.bx6 X0.out.drew1; obtain ⟨l0, l1, l2, l3, l4, l5⟩ := SlRed.bx6 A0.out.drew1; exact ⟨k0, k1, k2, k3, k4, k5, l0, l1, l2, l3, l4, l5⟩) | go_keep) (first
      | (go_at_call 39; refine (SlRed.to_x a0t a0msp a0msn a0msc a0shp a0shn a0shc a0psp a0psn a0psc a0ssp a0ssn a0ssc a0dsp a0dsn a0dsc D0 _ (HP0.out.below (below_drewN HB.out 1)) HF0).mono ?_; rintro e v01 ⟨qt, qmsp, qmsn, qmsc, qshp, qshn, qshc, qpsp, qpsn, qpsc, qssp, qssn, qssc, qdsp, qdsn, qdsc, rfl, hR, hb⟩; have HBr := Lib.hid (below_on (below_drewN HB.out 1) hb); have Rx0r := Lib.hid ((Rx0.out.drewN 1).below hb); have X0r := Lib.hid ((X0.out.drewN 1).below hb); have Rx1r := Lib.hid ((Rx1.out.drewN 1).below hb); have X1r := Lib.hid ((X1.out.drewN 1).below hb); have A0r := Lib.hid ((A0.out.drewN 1).below hb); have A1r := Lib.hid ((A1.out.drewN 1).below hb); have Rq := Lib.hid hR; clear hR hb)
      | (go_at_call 30; refine (SlRed.eq_x x0t x0msp x0msn x0msc x0shp x0shn x0shc x0psp x0psn x0psc x0ssp x0ssn x0ssc x0dsp x0dsn x0dsc qt qmsp qmsn qmsc qshp qshn qshc qpsp qpsn qpsc qssp qssn qssc qdsp qdsn qdsc D0 _ Rx0r.out Rq.out).mono ?_; rintro e v02 ⟨rfl, hb⟩; replace HBr := Lib.hid (below_on HBr.out hb); replace Rx0r := Lib.hid (Rx0r.out.below hb); replace X0r := Lib.hid (X0r.out.below hb); replace Rx1r := Lib.hid (Rx1r.out.below hb); replace X1r := Lib.hid (X1r.out.below hb); replace A0r := Lib.hid (A0r.out.below hb); replace A1r := Lib.hid (A1r.out.below hb); clear hb Rq))
    replace HB := Lib.hid HBr.out
    replace Rx0 := Lib.hid Rx0r.out
    replace X0 := Lib.hid X0r.out
    replace Rx1 := Lib.hid Rx1r.out
    replace X1 := Lib.hid X1r.out
    replace A0 := Lib.hid A0r.out
    replace A1 := Lib.hid A1r.out
    clear HBr Rx0r X0r Rx1r X1r A0r A1r
    clear u00 u01 u02 u03 u04 u05 u10 u11 u12
    clear z00 z01 z02 z03 z04 z05 z10 z11 z12
    obtain ⟨u00, u01, u02, u03, u04, u05⟩ := SlRed.bx6 A0.out
    obtain ⟨u10, u11, u12⟩ := SlDcu.bx3 A1.out
    obtain ⟨z00, z01, z02, z03, z04, z05⟩ := SlRed.bx6 X0.out
    obtain ⟨z10, z11, z12⟩ := SlDcu.bx3 X1.out
    go_wp2_with fail
    go_region_held3 (fun w' => w'.cell? ⟨w4.heap.size, 0, none⟩ = some (.int .i64 x1t) ∧ w'.cell? ⟨w4.heap.size, 1, none⟩ = some (.slice x1psp x1psn x1psc) ∧ w'.cell? ⟨w4.heap.size, 2, none⟩ = some (.slice x1ssp x1ssn x1ssc) ∧ w'.cell? ⟨W.heap.size + 1, 0, none⟩ = some (.int .i64 a1t) ∧ w'.cell? ⟨W.heap.size + 1, 1, none⟩ = some (.slice a1psp a1psn a1psc) ∧ w'.cell? ⟨W.heap.size + 1, 2, none⟩ = some (.slice a1ssp a1ssn a1ssc)) (first | exact (by obtain ⟨k0, k1, k2⟩ := SlDcu.bx3 X1r.out; obtain ⟨l0, l1, l2⟩ := SlDcu.bx3 A1r.out; exact ⟨k0, k1, k2, l0, l1, l2⟩) | exact (by obtain ⟨k0, k1, k2⟩ := SlDcu.bx3 X1.out; obtain ⟨l0, l1, l2⟩ := SlDcu.bx3 A1.out; exact ⟨k0, k1, k2, l0, l1, l2⟩) | exact (by obtain ⟨k0, k1, k2⟩ := SlDcu.bx3 X1.out.drew1; obtain ⟨l0, l1, l2⟩ := SlDcu.bx3 A1.out.drew1; exact ⟨k0, k1, k2, l0, l1, l2⟩) | go_keep) (first
      | (go_at_call 29; refine (SlDcu.to_x a1t a1psp a1psn a1psc a1ssp a1ssn a1ssc D1 _ (HP1.out.below (below_drewN HB.out 1)) HF1).mono ?_; rintro e v11 ⟨qt, qpsp, qpsn, qpsc, qssp, qssn, qssc, rfl, hR, hb⟩; have HBr := Lib.hid (below_on (below_drewN HB.out 1) hb); have Rx0r := Lib.hid ((Rx0.out.drewN 1).below hb); have X0r := Lib.hid ((X0.out.drewN 1).below hb); have Rx1r := Lib.hid ((Rx1.out.drewN 1).below hb); have X1r := Lib.hid ((X1.out.drewN 1).below hb); have A0r := Lib.hid ((A0.out.drewN 1).below hb); have A1r := Lib.hid ((A1.out.drewN 1).below hb); have Rq := Lib.hid hR; clear hR hb)
      | (go_at_call 32; refine (SlDcu.eq_x x1t x1psp x1psn x1psc x1ssp x1ssn x1ssc qt qpsp qpsn qpsc qssp qssn qssc D1 _ Rx1r.out Rq.out).mono ?_; rintro e v12 ⟨rfl, hb⟩; replace HBr := Lib.hid (below_on HBr.out hb); replace Rx0r := Lib.hid (Rx0r.out.below hb); replace X0r := Lib.hid (X0r.out.below hb); replace Rx1r := Lib.hid (Rx1r.out.below hb); replace X1r := Lib.hid (X1r.out.below hb); replace A0r := Lib.hid (A0r.out.below hb); replace A1r := Lib.hid (A1r.out.below hb); clear hb Rq))
    replace HB := Lib.hid HBr.out
    replace Rx0 := Lib.hid Rx0r.out
    replace X0 := Lib.hid X0r.out
    replace Rx1 := Lib.hid Rx1r.out
    replace X1 := Lib.hid X1r.out
    replace A0 := Lib.hid A0r.out
    replace A1 := Lib.hid A1r.out
    clear HBr Rx0r X0r Rx1r X1r A0r A1r
    clear u00 u01 u02 u03 u04 u05 u10 u11 u12
    clear z00 z01 z02 z03 z04 z05 z10 z11 z12
    obtain ⟨u00, u01, u02, u03, u04, u05⟩ := SlRed.bx6 A0.out
    obtain ⟨u10, u11, u12⟩ := SlDcu.bx3 A1.out
    obtain ⟨z00, z01, z02, z03, z04, z05⟩ := SlRed.bx6 X0.out
    obtain ⟨z10, z11, z12⟩ := SlDcu.bx3 X1.out
    go_wp2_with fail
    go_ret
    exact ⟨rfl, HB.out⟩
end Go.Proofs.Ytjlckfbacphblaa.fnExactIsRedactionOf
