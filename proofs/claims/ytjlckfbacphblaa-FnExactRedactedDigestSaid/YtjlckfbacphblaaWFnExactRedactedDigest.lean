/- The walk of the law FnExactRedactedDigest. -/
import Derived.Test.YtjlckfbacphblaaRh
import Derived.Test.YtjlckfbacphblaaRg
import Derived.Deep.RegionHeld3
import Derived.OpenShut
namespace Go.Proofs.Ytjlckfbacphblaa.fnExactRedactedDigest
open Go.ChangeShapes Go.WideShapes Go.ChangeAt Go.RowKit Sl St Dk
set_option maxRecDepth 100000 in
set_option maxHeartbeats 8000000 in
theorem walk {H : Type} {enc : TypeId × Value → H} (W : World) (base : Nat)
    (v0 : Value) (d0 : DataW H) (p0 : List MemPlace) (h0 : DataW.Trod enc Try.prog W 0 (fun _ => true) true 3 v0 d0 p0) (k0 : Value.okWide Try.prog W .any base 3 v0)
    (v1 : Value) (d1 : DataW H) (p1 : List MemPlace) (h1 : DataW.Trod enc Try.prog W 0 (fun _ => true) true 63 v1 d1 p1) (k1 : Value.okWide Try.prog W .any base 63 v1)
    (_hsz : (DataW.weightsEach Try.prog [3, 63] [d0, d1]).all (· ≤ reachBytes) = true) :
    Calls Try.prog 7 #[v0, v1] W fun e w' => e = .returned (.bool true) ∧ Below W.heap.size W w' := by
  obtain ⟨x0, rfl, _, _, wf0⟩ := open_int Try.underlying3 k0 h0
  have xb0 := bounds_i64 wf0
  obtain ⟨xl0, xh0⟩ := xb0
  clear wf0 h0 k0
  obtain ⟨a1t, a1msp, a1msn, a1msc, a1shp, a1shn, a1shc, a1psp, a1psn, a1psc, a1ssp, a1ssn, a1ssc, a1dsp, a1dsn, a1dsc, D1, rfl, hr1, hw1⟩ := SlRed.open_x h1 k1
  have HP1 := Lib.hid hr1
  have HW1 := Lib.hid hw1
  clear h1 k1 hr1 hw1
  clear _hsz
  have hB := (Below.refl W.heap.size W).alloc (Nat.le_refl _) (.cells #[.int .i64 a1t, .slice a1msp a1msn a1msc, .slice a1shp a1shn a1shc, .slice a1psp a1psn a1psc, .slice a1ssp a1ssn a1ssc, .slice a1dsp a1dsn a1dsc] 63)
  have hA1 := Bx.new W 63 #[.int .i64 a1t, .slice a1msp a1msn a1msc, .slice a1shp a1shn a1shc, .slice a1psp a1psn a1psc, .slice a1ssp a1ssn a1ssc, .slice a1dsp a1dsn a1dsc]
  have HB := Lib.hid hB
  have A1 := Lib.hid hA1
  clear hB hA1
  by_cases hf1 : SlRed.size D1 ≤ 1048576
  rotate_left
  · go_enter Try.func7, Try.ntmps7
    go_wp2_with fail
    refine (SlRed.sz_big _ _ _ _ _ _ _ _ _ _ _ _ _ _ _ _ (1048576) D1 (1048576) rfl _ (HP1.out.below HB.out) HW1.out (by omega) hf1).mono ?_
    rintro e w0 ⟨rfl, hb⟩
    replace HB := Lib.hid (below_on HB.out hb)
    clear hb
    go_wp2_with fail
    go_ret
    exact ⟨rfl, HB.out⟩
  go_enter Try.func7, Try.ntmps7
  go_wp2_with fail
  refine (SlRed.sz_fit _ _ _ _ _ _ _ _ _ _ _ _ _ _ _ _ (1048576) D1 (1048576) rfl _ (HP1.out.below HB.out) HW1.out (by omega) hf1).mono ?_
  rintro e w1 ⟨rfl, hb⟩
  replace HB := Lib.hid (below_on HB.out hb)
  replace A1 := Lib.hid (A1.out.below hb)
  clear hb
  obtain ⟨u10, u11, u12, u13, u14, u15⟩ := SlRed.bx6 A1.out
  have HF1 : SlRed.size D1 ≤ 1048576 := by omega
  go_wp2_with fail
  refine (SlRed.to_x _ _ _ _ _ _ _ _ _ _ _ _ _ _ _ _ D1 _ (HP1.out.below HB.out) HF1).mono ?_
  rintro e w2 ⟨s1t, s1msp, s1msn, s1msc, s1shp, s1shn, s1shc, s1psp, s1psn, s1psc, s1ssp, s1ssn, s1ssc, s1dsp, s1dsn, s1dsc, rfl, hR, hb⟩
  replace HB := Lib.hid (below_on HB.out hb)
  replace A1 := Lib.hid (A1.out.below hb)
  have Rs1 := Lib.hid hR
  clear u10 u11 u12 u13 u14 u15
  clear hR hb
  obtain ⟨u10, u11, u12, u13, u14, u15⟩ := SlRed.bx6 A1.out
  go_wp2_with fail
  refine (Rg.spec_redD_any x0 ⟨s1t, s1msp, s1msn, s1msc, s1shp, s1shn, s1shc, s1psp, s1psn, s1psc, s1ssp, s1ssn, s1ssc, s1dsp, s1dsn, s1dsc⟩ D1 _ ⟨xl0, xh0⟩ Rs1.out HF1).mono ?_
  rintro e w3 ⟨rfl, hb⟩
  replace HB := Lib.hid (below_on HB.out hb)
  replace A1 := Lib.hid (A1.out.below hb)
  replace Rs1 := Lib.hid (Rs1.out.below hb)
  clear u10 u11 u12 u13 u14 u15
  clear hb
  obtain ⟨u10, u11, u12, u13, u14, u15⟩ := SlRed.bx6 A1.out
  clear Rs1
  go_wp2_with fail
  refine (SlRed.to_x _ _ _ _ _ _ _ _ _ _ _ _ _ _ _ _ D1 _ (HP1.out.below HB.out) HF1).mono ?_
  rintro e w4 ⟨x1t, x1msp, x1msn, x1msc, x1shp, x1shn, x1shc, x1psp, x1psn, x1psc, x1ssp, x1ssn, x1ssc, x1dsp, x1dsn, x1dsc, rfl, hR, hb⟩
  replace HB := Lib.hid (below_on HB.out hb)
  replace A1 := Lib.hid (A1.out.below hb)
  have Rx1 := Lib.hid hR
  clear u10 u11 u12 u13 u14 u15
  clear hR hb
  obtain ⟨u10, u11, u12, u13, u14, u15⟩ := SlRed.bx6 A1.out
  have X1 := Lib.hid (Bx.new w4 43 #[.int .i64 x1t, .slice x1msp x1msn x1msc, .slice x1shp x1shn x1shc, .slice x1psp x1psn x1psc, .slice x1ssp x1ssn x1ssc, .slice x1dsp x1dsn x1dsc])
  replace HB := Lib.hid (HB.out.alloc HB.out.size (.cells #[.int .i64 x1t, .slice x1msp x1msn x1msc, .slice x1shp x1shn x1shc, .slice x1psp x1psn x1psc, .slice x1ssp x1ssn x1ssc, .slice x1dsp x1dsn x1dsc] 43))
  replace A1 := Lib.hid (A1.out.alloc (.cells #[.int .i64 x1t, .slice x1msp x1msn x1msc, .slice x1shp x1shn x1shc, .slice x1psp x1psn x1psc, .slice x1ssp x1ssn x1ssc, .slice x1dsp x1dsn x1dsc] 43))
  replace Rx1 := Lib.hid (Rx1.out.alloc (.cells #[.int .i64 x1t, .slice x1msp x1msn x1msc, .slice x1shp x1shn x1shc, .slice x1psp x1psn x1psc, .slice x1ssp x1ssn x1ssc, .slice x1dsp x1dsn x1dsc] 43))
  clear u10 u11 u12 u13 u14 u15
  obtain ⟨u10, u11, u12, u13, u14, u15⟩ := SlRed.bx6 A1.out
  go_wp2_with fail
  refine (Rf.redD_any x0 ⟨x1t, x1msp, x1msn, x1msc, x1shp, x1shn, x1shc, x1psp, x1psn, x1psc, x1ssp, x1ssn, x1ssc, x1dsp, x1dsn, x1dsc⟩ D1 _ Rx1.out HF1).mono ?_
  rintro e w5 ⟨rfl, hb⟩
  replace HB := Lib.hid (below_on HB.out hb)
  replace A1 := Lib.hid (A1.out.below hb)
  replace Rx1 := Lib.hid (Rx1.out.below hb)
  replace X1 := Lib.hid (X1.out.below hb)
  clear u10 u11 u12 u13 u14 u15
  clear hb
  obtain ⟨u10, u11, u12, u13, u14, u15⟩ := SlRed.bx6 A1.out
  obtain ⟨z10, z11, z12, z13, z14, z15⟩ := SlRed.bx6 X1.out
  go_wp2_with fail
  go_region_held3 (fun w' => w'.cell? ⟨w4.heap.size, 0, none⟩ = some (.int .i64 x1t) ∧ w'.cell? ⟨w4.heap.size, 1, none⟩ = some (.slice x1msp x1msn x1msc) ∧ w'.cell? ⟨w4.heap.size, 2, none⟩ = some (.slice x1shp x1shn x1shc) ∧ w'.cell? ⟨w4.heap.size, 3, none⟩ = some (.slice x1psp x1psn x1psc) ∧ w'.cell? ⟨w4.heap.size, 4, none⟩ = some (.slice x1ssp x1ssn x1ssc) ∧ w'.cell? ⟨w4.heap.size, 5, none⟩ = some (.slice x1dsp x1dsn x1dsc) ∧ w'.cell? ⟨W.heap.size, 0, none⟩ = some (.int .i64 a1t) ∧ w'.cell? ⟨W.heap.size, 1, none⟩ = some (.slice a1msp a1msn a1msc) ∧ w'.cell? ⟨W.heap.size, 2, none⟩ = some (.slice a1shp a1shn a1shc) ∧ w'.cell? ⟨W.heap.size, 3, none⟩ = some (.slice a1psp a1psn a1psc) ∧ w'.cell? ⟨W.heap.size, 4, none⟩ = some (.slice a1ssp a1ssn a1ssc) ∧ w'.cell? ⟨W.heap.size, 5, none⟩ = some (.slice a1dsp a1dsn a1dsc)) (first | exact (by obtain ⟨k0, k1, k2, k3, k4, k5⟩ := SlRed.bx6 X1r.out; obtain ⟨l0, l1, l2, l3, l4, l5⟩ := SlRed.bx6 A1r.out; exact ⟨k0, k1, k2, k3, k4, k5, l0, l1, l2, l3, l4, l5⟩) | exact (by obtain ⟨k0, k1, k2, k3, k4, k5⟩ := SlRed.bx6 X1.out; obtain ⟨l0, l1, l2, l3, l4, l5⟩ := SlRed.bx6 A1.out; exact ⟨k0, k1, k2, k3, k4, k5, l0, l1, l2, l3, l4, l5⟩) | exact (by obtain ⟨k0, k1, k2, k3, k4, k5⟩ := SlRed.bx6 X1.out.drew1; obtain ⟨l0, l1, l2, l3, l4, l5⟩ := SlRed.bx6 A1.out.drew1; exact ⟨k0, k1, k2, k3, k4, k5, l0, l1, l2, l3, l4, l5⟩) | go_keep) (first
    | (go_at_call 39; refine (SlRed.to_x a1t a1msp a1msn a1msc a1shp a1shn a1shc a1psp a1psn a1psc a1ssp a1ssn a1ssc a1dsp a1dsn a1dsc D1 _ (HP1.out.below (below_drewN HB.out 1)) HF1).mono ?_; rintro e v11 ⟨qt, qmsp, qmsn, qmsc, qshp, qshn, qshc, qpsp, qpsn, qpsc, qssp, qssn, qssc, qdsp, qdsn, qdsc, rfl, hR, hb⟩; have HBr := Lib.hid (below_on (below_drewN HB.out 1) hb); have Rx1r := Lib.hid ((Rx1.out.drewN 1).below hb); have X1r := Lib.hid ((X1.out.drewN 1).below hb); have A1r := Lib.hid ((A1.out.drewN 1).below hb); have Rq := Lib.hid hR; clear hR hb)
    | (go_at_call 30; refine (SlRed.eq_x x1t x1msp x1msn x1msc x1shp x1shn x1shc x1psp x1psn x1psc x1ssp x1ssn x1ssc x1dsp x1dsn x1dsc qt qmsp qmsn qmsc qshp qshn qshc qpsp qpsn qpsc qssp qssn qssc qdsp qdsn qdsc D1 _ Rx1r.out Rq.out).mono ?_; rintro e v12 ⟨rfl, hb⟩; replace HBr := Lib.hid (below_on HBr.out hb); replace Rx1r := Lib.hid (Rx1r.out.below hb); replace X1r := Lib.hid (X1r.out.below hb); replace A1r := Lib.hid (A1r.out.below hb); clear hb Rq))
  replace HB := Lib.hid HBr.out
  replace Rx1 := Lib.hid Rx1r.out
  replace X1 := Lib.hid X1r.out
  replace A1 := Lib.hid A1r.out
  clear HBr Rx1r X1r A1r
  clear u10 u11 u12 u13 u14 u15
  clear z10 z11 z12 z13 z14 z15
  obtain ⟨u10, u11, u12, u13, u14, u15⟩ := SlRed.bx6 A1.out
  obtain ⟨z10, z11, z12, z13, z14, z15⟩ := SlRed.bx6 X1.out
  go_wp2_with fail
  go_ret
  exact ⟨rfl, HB.out⟩
end Go.Proofs.Ytjlckfbacphblaa.fnExactRedactedDigest
