/- The walk of the law FnExactIsSignRule. -/
import Derived.Test.YtkbdmocbeaejhabIr
import Derived.RegionTactic
import Derived.OpenShut
namespace Go.Proofs.Ytkbdmocbeaejhab.fnExactIsSignRule
open Go.ChangeShapes Go.WideShapes Go.ChangeAt Go.RowKit Sl St SlRule Ir
set_option maxRecDepth 100000 in
set_option maxHeartbeats 4000000 in
theorem walk {H : Type} {enc : TypeId × Value → H} (W : World) (base : Nat)
    (v0 : Value) (d0 : DataW H) (p0 : List MemPlace) (h0 : DataW.Trod enc Try.prog W 0 (fun _ => true) true 24 v0 d0 p0) (k0 : Value.okWide Try.prog W .any base 24 v0)
    (_hsz : (DataW.weightsEach Try.prog [24] [d0]).all (· ≤ reachBytes) = true) :
    Calls Try.prog 3 #[v0] W fun e w' => e = .returned (.bool true) ∧ Below W.heap.size W w' := by
  obtain ⟨a0, n0, c0, m0, zs0, rfl, hr0⟩ := SlRule.open_val h0 k0
  have HR0 := Lib.hid hr0
  have hn0 := hr0.le
  clear hr0 h0 k0
  clear _hsz
  have HB := Lib.hid (SlRule.box1 W (.cells #[.slice a0 n0 c0, .bool m0] 24))
  have HA := Lib.hid (Bx.new W 24 #[.slice a0 n0 c0, .bool m0])
  by_cases hbig0 : 1048576 < n0
  · go_enter Try.func3, Try.ntmps3
    obtain ⟨q0, q1⟩ := bx2 HA.out
    go_wp2_with fail
    refine (SlRule.sz_big _ _ _ _ _ _ (by omega) (by omega) (by omega) hn0).mono ?_
    rintro e w0 ⟨rfl, hb⟩
    clear q0 q1
    replace HB := Lib.hid (below_on HB.out hb)
    clear hb
    go_wp2_with fail
    go_ret
    exact ⟨rfl, HB.out⟩
  go_enter Try.func3, Try.ntmps3
  obtain ⟨q0, q1⟩ := bx2 HA.out
  go_wp2_with fail
  refine (SlRule.sz_fits _ _ _ _ _ _ (by omega) (by omega)).mono ?_
  rintro e w0 ⟨rfl, hb⟩
  clear q0 q1
  replace HB := Lib.hid (below_on HB.out hb)
  replace HA := Lib.hid (HA.out.below hb)
  clear hb
  obtain ⟨q0, q1⟩ := bx2 HA.out
  go_wp2_with fail
  refine (SlRule.to_any _ _ _ _ _ _ (HR0.out.below HB.out) (by omega)).mono ?_
  rintro e w1 ⟨pT, nT, cT, rfl, ho, hb⟩
  clear q0 q1
  replace HB := Lib.hid (below_on HB.out hb)
  replace HA := Lib.hid (HA.out.below hb)
  have HT := Lib.hid ho
  obtain rfl : n0 = nT := HR0.out.len.symm.trans HT.out.len
  have bT : n0 ≤ cT := by
    rcases HT.out.form with ⟨_, h1, h2⟩ | ⟨_, _, _, _, h1, _⟩
    · omega
    · exact h1
  clear ho hb
  go_wp2_with fail
  refine (spec_isRule_any _ _ _ _ _ _ HT.out.rd bT).mono ?_
  rintro e w2 ⟨rfl, hb⟩
  replace HB := Lib.hid (below_on HB.out hb)
  replace HA := Lib.hid (HA.out.below hb)
  clear hb
  clear HT
  obtain ⟨q0, q1⟩ := bx2 HA.out
  go_wp2_with fail
  refine (SlRule.to_any _ _ _ _ _ _ (HR0.out.below HB.out) (by omega)).mono ?_
  rintro e w3 ⟨pX, nX, cX, rfl, ho, hb⟩
  clear q0 q1
  replace HB := Lib.hid (below_on HB.out hb)
  replace HA := Lib.hid (HA.out.below hb)
  have HX := Lib.hid ho
  obtain rfl : n0 = nX := HR0.out.len.symm.trans HX.out.len
  have bX : n0 ≤ cX := by
    rcases HX.out.form with ⟨_, h1, h2⟩ | ⟨_, _, _, _, h1, _⟩
    · omega
    · exact h1
  clear ho hb
  have HG := Lib.hid (Bx.new w3 27 #[.slice pX n0 cX, .bool m0])
  have sG := HB.out.size
  replace HB := Lib.hid (HB.out.alloc sG (.cells #[.slice pX n0 cX, .bool m0] 27))
  replace HA := Lib.hid (HA.out.alloc (.cells #[.slice pX n0 cX, .bool m0] 27))
  replace HX := Lib.hid (HX.out.alloc (.cells #[.slice pX n0 cX, .bool m0] 27))
  obtain ⟨q0, q1⟩ := bx2 HG.out
  go_wp2_with fail
  generalize w3.heap.size = g at HG q0 q1 ⊢
  generalize hV : w3.alloc (.cells #[.slice pX n0 cX, .bool m0] 27) = V at HG HB HA HX q0 q1 ⊢
  refine (isRule_any _ _ _ _ _ _ HX.out.rd bX).mono ?_
  rintro e w4 ⟨rfl, hb⟩
  clear q0 q1
  replace HB := Lib.hid (below_on HB.out hb)
  replace HA := Lib.hid (HA.out.below hb)
  replace HG := Lib.hid (HG.out.below hb)
  replace HX := Lib.hid (HX.out.below hb)
  clear hb
  go_wp2_with fail
  go_region_held3 (fun w' => (w'.cell? ⟨W.heap.size, 0, none⟩ = some (.slice a0 n0 c0) ∧ w'.cell? ⟨W.heap.size, 1, none⟩ = some (.bool m0)) ∧ (w'.cell? ⟨g, 0, none⟩ = some (.slice pX n0 cX) ∧ w'.cell? ⟨g, 1, none⟩ = some (.bool m0))) (first | with_reducible exact ⟨bx2 HA6.out, bx2 HG6.out⟩ | with_reducible exact ⟨bx2 HA5.out, bx2 HG5.out⟩ | exact ⟨bx2 (HA.out.drewN 1), bx2 (HG.out.drewN 1)⟩ | exact ⟨bx2 HA.out, bx2 HG.out⟩ | go_keep) (first
    | (go_at_call 9; refine (SlRule.to_any _ _ _ _ _ _ (HR0.out.below (below_drewN HB.out 1)) (by omega)).mono ?_; rintro e w5 ⟨pY, nY, cY, rfl, ho, hb5⟩; have HB5 := Lib.hid (below_on (below_drewN HB.out 1) hb5); have HA5 := Lib.hid ((HA.out.drewN 1).below hb5); have HG5 := Lib.hid ((HG.out.drewN 1).below hb5); have HX5 := Lib.hid ((HX.out.drewN 1).below hb5); have HY := Lib.hid ho; obtain rfl : n0 = nY := HR0.out.len.symm.trans HY.out.len; clear ho hb5)
    | (go_at_call 11; refine (SlRule.eq_any _ _ _ _ _ _ _ _ HX5.out.rd HY.out.rd).mono ?_; rintro e w6 ⟨rfl, hb6⟩; have HB6 := Lib.hid (below_on HB5.out hb6); have HA6 := Lib.hid (HA5.out.below hb6); have HG6 := Lib.hid (HG5.out.below hb6); clear hb6))
  go_wp2_with fail
  go_ret
  exact ⟨rfl, HB6.out⟩
end Go.Proofs.Ytkbdmocbeaejhab.fnExactIsSignRule
