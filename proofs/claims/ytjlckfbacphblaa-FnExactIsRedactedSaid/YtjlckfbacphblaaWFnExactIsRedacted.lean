/- The walk of the law FnExactIsRedacted. -/
import Derived.Test.YtjlckfbacphblaaRj
import Derived.Deep.RegionHeld3
import Derived.OpenShut
namespace Go.Proofs.Ytjlckfbacphblaa.fnExactIsRedacted
open Go.ChangeShapes Go.WideShapes Go.ChangeAt Go.RowKit Sl St Dk
set_option maxRecDepth 100000 in
set_option maxHeartbeats 8000000 in
theorem walk {H : Type} {enc : TypeId × Value → H} (W : World) (base : Nat)
    (v0 : Value) (d0 : DataW H) (p0 : List MemPlace) (h0 : DataW.Trod enc Try.prog W 0 (fun _ => true) true 63 v0 d0 p0) (k0 : Value.okWide Try.prog W .any base 63 v0)
    (_hsz : (DataW.weightsEach Try.prog [63] [d0]).all (· ≤ reachBytes) = true) :
    Calls Try.prog 6 #[v0] W fun e w' => e = .returned (.bool true) ∧ Below W.heap.size W w' := by
  obtain ⟨a0t, a0msp, a0msn, a0msc, a0shp, a0shn, a0shc, a0psp, a0psn, a0psc, a0ssp, a0ssn, a0ssc, a0dsp, a0dsn, a0dsc, D0, rfl, hr0, hw0⟩ := SlRed.open_x h0 k0
  have HP0 := Lib.hid hr0
  have HW0 := Lib.hid hw0
  clear h0 k0 hr0 hw0
  clear _hsz
  have hB := (Below.refl W.heap.size W).alloc (Nat.le_refl _) (.cells #[.int .i64 a0t, .slice a0msp a0msn a0msc, .slice a0shp a0shn a0shc, .slice a0psp a0psn a0psc, .slice a0ssp a0ssn a0ssc, .slice a0dsp a0dsn a0dsc] 63)
  have hA0 := Bx.new W 63 #[.int .i64 a0t, .slice a0msp a0msn a0msc, .slice a0shp a0shn a0shc, .slice a0psp a0psn a0psc, .slice a0ssp a0ssn a0ssc, .slice a0dsp a0dsn a0dsc]
  have HB := Lib.hid hB
  have A0 := Lib.hid hA0
  clear hB hA0
  by_cases hf0 : SlRed.size D0 ≤ 1048576
  rotate_left
  · go_enter Try.func6, Try.ntmps6
    go_wp2_with fail
    refine (SlRed.sz_big _ _ _ _ _ _ _ _ _ _ _ _ _ _ _ _ (1048576) D0 (1048576) rfl _ (HP0.out.below HB.out) HW0.out (by omega) hf0).mono ?_
    rintro e w0 ⟨rfl, hb⟩
    replace HB := Lib.hid (below_on HB.out hb)
    clear hb
    go_wp2_with fail
    go_ret
    exact ⟨rfl, HB.out⟩
  go_enter Try.func6, Try.ntmps6
  go_wp2_with fail
  refine (SlRed.sz_fit _ _ _ _ _ _ _ _ _ _ _ _ _ _ _ _ (1048576) D0 (1048576) rfl _ (HP0.out.below HB.out) HW0.out (by omega) hf0).mono ?_
  rintro e w1 ⟨rfl, hb⟩
  replace HB := Lib.hid (below_on HB.out hb)
  replace A0 := Lib.hid (A0.out.below hb)
  clear hb
  obtain ⟨u00, u01, u02, u03, u04, u05⟩ := SlRed.bx6 A0.out
  have HF0 : SlRed.size D0 ≤ 1048576 := by omega
  go_wp2_with fail
  refine (SlRed.to_x _ _ _ _ _ _ _ _ _ _ _ _ _ _ _ _ D0 _ (HP0.out.below HB.out) HF0).mono ?_
  rintro e w2 ⟨s0t, s0msp, s0msn, s0msc, s0shp, s0shn, s0shc, s0psp, s0psn, s0psc, s0ssp, s0ssn, s0ssc, s0dsp, s0dsn, s0dsc, rfl, hR, hb⟩
  replace HB := Lib.hid (below_on HB.out hb)
  replace A0 := Lib.hid (A0.out.below hb)
  have Rs0 := Lib.hid hR
  clear u00 u01 u02 u03 u04 u05
  clear hR hb
  obtain ⟨u00, u01, u02, u03, u04, u05⟩ := SlRed.bx6 A0.out
  go_wp2_with fail
  refine (Ri.spec_isRed_any ⟨s0t, s0msp, s0msn, s0msc, s0shp, s0shn, s0shc, s0psp, s0psn, s0psc, s0ssp, s0ssn, s0ssc, s0dsp, s0dsn, s0dsc⟩ D0 _ Rs0.out HF0).mono ?_
  rintro e w3 ⟨rfl, hb⟩
  replace HB := Lib.hid (below_on HB.out hb)
  replace A0 := Lib.hid (A0.out.below hb)
  replace Rs0 := Lib.hid (Rs0.out.below hb)
  clear u00 u01 u02 u03 u04 u05
  clear hb
  obtain ⟨u00, u01, u02, u03, u04, u05⟩ := SlRed.bx6 A0.out
  clear Rs0
  go_wp2_with fail
  refine (SlRed.to_x _ _ _ _ _ _ _ _ _ _ _ _ _ _ _ _ D0 _ (HP0.out.below HB.out) HF0).mono ?_
  rintro e w4 ⟨x0t, x0msp, x0msn, x0msc, x0shp, x0shn, x0shc, x0psp, x0psn, x0psc, x0ssp, x0ssn, x0ssc, x0dsp, x0dsn, x0dsc, rfl, hR, hb⟩
  replace HB := Lib.hid (below_on HB.out hb)
  replace A0 := Lib.hid (A0.out.below hb)
  have Rx0 := Lib.hid hR
  clear u00 u01 u02 u03 u04 u05
  clear hR hb
  obtain ⟨u00, u01, u02, u03, u04, u05⟩ := SlRed.bx6 A0.out
  have X0 := Lib.hid (Bx.new w4 43 #[.int .i64 x0t, .slice x0msp x0msn x0msc, .slice x0shp x0shn x0shc, .slice x0psp x0psn x0psc, .slice x0ssp x0ssn x0ssc, .slice x0dsp x0dsn x0dsc])
  replace HB := Lib.hid (HB.out.alloc HB.out.size (.cells #[.int .i64 x0t, .slice x0msp x0msn x0msc, .slice x0shp x0shn x0shc, .slice x0psp x0psn x0psc, .slice x0ssp x0ssn x0ssc, .slice x0dsp x0dsn x0dsc] 43))
  replace A0 := Lib.hid (A0.out.alloc (.cells #[.int .i64 x0t, .slice x0msp x0msn x0msc, .slice x0shp x0shn x0shc, .slice x0psp x0psn x0psc, .slice x0ssp x0ssn x0ssc, .slice x0dsp x0dsn x0dsc] 43))
  replace Rx0 := Lib.hid (Rx0.out.alloc (.cells #[.int .i64 x0t, .slice x0msp x0msn x0msc, .slice x0shp x0shn x0shc, .slice x0psp x0psn x0psc, .slice x0ssp x0ssn x0ssc, .slice x0dsp x0dsn x0dsc] 43))
  clear u00 u01 u02 u03 u04 u05
  obtain ⟨u00, u01, u02, u03, u04, u05⟩ := SlRed.bx6 A0.out
  go_wp2_with fail
  refine (Ri.isRed_any ⟨x0t, x0msp, x0msn, x0msc, x0shp, x0shn, x0shc, x0psp, x0psn, x0psc, x0ssp, x0ssn, x0ssc, x0dsp, x0dsn, x0dsc⟩ D0 _ Rx0.out HF0).mono ?_
  rintro e w5 ⟨rfl, hb⟩
  replace HB := Lib.hid (below_on HB.out hb)
  replace A0 := Lib.hid (A0.out.below hb)
  replace Rx0 := Lib.hid (Rx0.out.below hb)
  replace X0 := Lib.hid (X0.out.below hb)
  clear u00 u01 u02 u03 u04 u05
  clear hb
  obtain ⟨u00, u01, u02, u03, u04, u05⟩ := SlRed.bx6 A0.out
  obtain ⟨z00, z01, z02, z03, z04, z05⟩ := SlRed.bx6 X0.out
  go_wp2_with fail
  go_region_held3 (fun w' => w'.cell? ⟨w4.heap.size, 0, none⟩ = some (.int .i64 x0t) ∧ w'.cell? ⟨w4.heap.size, 1, none⟩ = some (.slice x0msp x0msn x0msc) ∧ w'.cell? ⟨w4.heap.size, 2, none⟩ = some (.slice x0shp x0shn x0shc) ∧ w'.cell? ⟨w4.heap.size, 3, none⟩ = some (.slice x0psp x0psn x0psc) ∧ w'.cell? ⟨w4.heap.size, 4, none⟩ = some (.slice x0ssp x0ssn x0ssc) ∧ w'.cell? ⟨w4.heap.size, 5, none⟩ = some (.slice x0dsp x0dsn x0dsc) ∧ w'.cell? ⟨W.heap.size, 0, none⟩ = some (.int .i64 a0t) ∧ w'.cell? ⟨W.heap.size, 1, none⟩ = some (.slice a0msp a0msn a0msc) ∧ w'.cell? ⟨W.heap.size, 2, none⟩ = some (.slice a0shp a0shn a0shc) ∧ w'.cell? ⟨W.heap.size, 3, none⟩ = some (.slice a0psp a0psn a0psc) ∧ w'.cell? ⟨W.heap.size, 4, none⟩ = some (.slice a0ssp a0ssn a0ssc) ∧ w'.cell? ⟨W.heap.size, 5, none⟩ = some (.slice a0dsp a0dsn a0dsc)) (first | exact (by obtain ⟨k0, k1, k2, k3, k4, k5⟩ := SlRed.bx6 X0r.out; obtain ⟨l0, l1, l2, l3, l4, l5⟩ := SlRed.bx6 A0r.out; exact ⟨k0, k1, k2, k3, k4, k5, l0, l1, l2, l3, l4, l5⟩) | exact (by obtain ⟨k0, k1, k2, k3, k4, k5⟩ := SlRed.bx6 X0.out; obtain ⟨l0, l1, l2, l3, l4, l5⟩ := SlRed.bx6 A0.out; exact ⟨k0, k1, k2, k3, k4, k5, l0, l1, l2, l3, l4, l5⟩) | exact (by obtain ⟨k0, k1, k2, k3, k4, k5⟩ := SlRed.bx6 X0.out.drew1; obtain ⟨l0, l1, l2, l3, l4, l5⟩ := SlRed.bx6 A0.out.drew1; exact ⟨k0, k1, k2, k3, k4, k5, l0, l1, l2, l3, l4, l5⟩) | go_keep) (first
    | (go_at_call 39; refine (SlRed.to_x a0t a0msp a0msn a0msc a0shp a0shn a0shc a0psp a0psn a0psc a0ssp a0ssn a0ssc a0dsp a0dsn a0dsc D0 _ (HP0.out.below (below_drewN HB.out 1)) HF0).mono ?_; rintro e v01 ⟨qt, qmsp, qmsn, qmsc, qshp, qshn, qshc, qpsp, qpsn, qpsc, qssp, qssn, qssc, qdsp, qdsn, qdsc, rfl, hR, hb⟩; have HBr := Lib.hid (below_on (below_drewN HB.out 1) hb); have Rx0r := Lib.hid ((Rx0.out.drewN 1).below hb); have X0r := Lib.hid ((X0.out.drewN 1).below hb); have A0r := Lib.hid ((A0.out.drewN 1).below hb); have Rq := Lib.hid hR; clear hR hb)
    | (go_at_call 30; refine (SlRed.eq_x x0t x0msp x0msn x0msc x0shp x0shn x0shc x0psp x0psn x0psc x0ssp x0ssn x0ssc x0dsp x0dsn x0dsc qt qmsp qmsn qmsc qshp qshn qshc qpsp qpsn qpsc qssp qssn qssc qdsp qdsn qdsc D0 _ Rx0r.out Rq.out).mono ?_; rintro e v02 ⟨rfl, hb⟩; replace HBr := Lib.hid (below_on HBr.out hb); replace Rx0r := Lib.hid (Rx0r.out.below hb); replace X0r := Lib.hid (X0r.out.below hb); replace A0r := Lib.hid (A0r.out.below hb); clear hb Rq))
  replace HB := Lib.hid HBr.out
  replace Rx0 := Lib.hid Rx0r.out
  replace X0 := Lib.hid X0r.out
  replace A0 := Lib.hid A0r.out
  clear HBr Rx0r X0r A0r
  clear u00 u01 u02 u03 u04 u05
  clear z00 z01 z02 z03 z04 z05
  obtain ⟨u00, u01, u02, u03, u04, u05⟩ := SlRed.bx6 A0.out
  obtain ⟨z00, z01, z02, z03, z04, z05⟩ := SlRed.bx6 X0.out
  go_wp2_with fail
  go_ret
  exact ⟨rfl, HB.out⟩
end Go.Proofs.Ytjlckfbacphblaa.fnExactIsRedacted
