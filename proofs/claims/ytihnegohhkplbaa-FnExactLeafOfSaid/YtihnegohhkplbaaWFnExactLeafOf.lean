/- The walk of the law FnExactLeafOf. -/
import Derived.Test.YtihnegohhkplbaaEd
import Derived.Test.YtihnegohhkplbaaDz
import Derived.Test.YtihnegohhkplbaaSlI
import Derived.Test.YtihnegohhkplbaaDpPiece
import Derived.Test.YtihnegohhkplbaaWl
import Derived.OpenShut
import Derived.Deep.RegionHeld3
import Derived.Laws.Strings
namespace Go.Proofs.Ytihnegohhkplbaa.fnExactLeafOf
open Go.ChangeShapes Go.WideShapes Go.ChangeAt Go.RowKit Sl St Ed Wp Wq Wl
theorem drewB {W w : World} {B : Nat} (h : Below B W w) : Below B W w.drew := below_drewN h 1
set_option maxRecDepth 100000 in
set_option maxHeartbeats 8000000 in
theorem walk {H : Type} {enc : TypeId × Value → H} (W : World) (base : Nat)
    (v0 : Value) (d0 : DataW H) (p0 : List MemPlace) (h0 : DataW.Trod enc Try.prog W 0 (fun _ => true) true 3 v0 d0 p0) (k0 : Value.okWide Try.prog W .any base 3 v0)
    (v1 : Value) (d1 : DataW H) (p1 : List MemPlace) (h1 : DataW.Trod enc Try.prog W 0 (fun _ => true) true 3 v1 d1 p1) (k1 : Value.okWide Try.prog W .any base 3 v1)
    (v2 : Value) (d2 : DataW H) (p2 : List MemPlace) (h2 : DataW.Trod enc Try.prog W 0 (fun _ => true) true 58 v2 d2 p2) (k2 : Value.okWide Try.prog W .any base 58 v2)
    (v3 : Value) (d3 : DataW H) (p3 : List MemPlace) (h3 : DataW.Trod enc Try.prog W 0 (fun _ => true) true 3 v3 d3 p3) (k3 : Value.okWide Try.prog W .any base 3 v3)
    (_hsz : (DataW.weightsEach Try.prog [3, 3, 58, 3] [d0, d1, d2, d3]).all (· ≤ reachBytes) = true) :
    Calls Try.prog 12 #[v0, v1, v2, v3] W fun e w' => e = .returned (.bool true) ∧ Below W.heap.size W w' := by
  obtain ⟨x0, rfl, _, _, wf0⟩ := open_int Try.underlying3 k0 h0
  have xb0 := bounds_i64 wf0
  have XB0 := Lib.hid xb0
  clear wf0 xb0
  clear h0 k0
  obtain ⟨x1, rfl, _, _, wf1⟩ := open_int Try.underlying3 k1 h1
  have xb1 := bounds_i64 wf1
  have XB1 := Lib.hid xb1
  clear wf1 xb1
  clear h1 k1
  obtain ⟨p2, n2, c2, l2, rfl, hr2⟩ := Dz.open_sl (E := DpPiece.E) Try.underlying58 (by kernel_rfl) (fun hl h => DpPiece.open_cells hl h) h2 k2
  have HP2 := Lib.hid hr2
  have hn2 := hr2.le
  clear hr2
  clear h2 k2
  obtain ⟨x3, rfl, _, _, wf3⟩ := open_int Try.underlying3 k3 h3
  have xb3 := bounds_i64 wf3
  have XB3 := Lib.hid xb3
  clear wf3 xb3
  clear h3 k3
  clear _hsz
  have HB := Lib.hid (Below.refl W.heap.size W)
  obtain ⟨m2, hm2⟩ : ∃ m : Nat, n2 + wts DpPiece.E l2 = m := ⟨_, rfl⟩
  have HM2 := Lib.hid hm2
  clear hm2
  by_cases hbig2 : 1048576 < m2
  · go_enter Try.func12, Try.ntmps12
    go_wp2_with fail
    refine (DpPiece.szM_big _ _ _ _ _ _ _ HM2.out (HP2.out.below HB.out) (by omega) (by omega) (by omega)).mono ?_
    rintro e w1 ⟨rfl, hb⟩
    replace HB := Lib.hid (below_on HB.out hb)
    clear hb
    go_wp2_with fail
    go_ret
    exact ⟨rfl, HB.out⟩
  go_enter Try.func12, Try.ntmps12
  go_wp2_with fail
  refine (DpPiece.szM_fits _ _ _ _ _ _ _ HM2.out (HP2.out.below HB.out) (by omega) (by omega)).mono ?_
  rintro e w2 ⟨rfl, hb⟩
  replace HB := Lib.hid (below_on HB.out hb)
  clear hb
  have sm2 : m2 ≤ 1048576 := by omega
  clear hbig2
  have sn2 : n2 ≤ 1048576 := by have h := HM2.out; omega
  go_wp2_with fail
  refine (DpPiece.toS_any _ _ _ _ _ (HP2.out.below HB.out) (by have := HM2.out; omega)).mono ?_
  rintro e w3 ⟨qHT2, dHT2, rfl, ho, hb⟩
  replace HB := Lib.hid (below_on HB.out hb)
  have HT2 := Lib.hid ho
  clear ho
  clear hb
  go_wp2_with fail
  refine (spec_leaf_any x0 XB0.out x1 XB1.out _ _ _ _ x3 XB3.out _ HT2.out (by have := HM2.out; omega)).mono ?_
  rintro e w4 ⟨rfl, hb⟩
  replace HB := Lib.hid (below_on HB.out hb)
  replace HT2 := Lib.hid (HT2.out.below hb)
  clear hb
  clear HT2
  go_wp2_with fail
  refine (DpPiece.toS_any _ _ _ _ _ (HP2.out.below HB.out) (by have := HM2.out; omega)).mono ?_
  rintro e w5 ⟨qHU2, dHU2, rfl, ho, hb⟩
  replace HB := Lib.hid (below_on HB.out hb)
  have HU2 := Lib.hid ho
  clear ho
  clear hb
  go_wp2_with fail
  refine (leaf_any x0 x1 XB1.out _ _ _ _ x3 XB3.out _ HU2.out (by have := HM2.out; omega)).mono ?_
  rintro e w6 ⟨rfl, hb⟩
  replace HB := Lib.hid (below_on HB.out hb)
  replace HU2 := Lib.hid (HU2.out.below hb)
  clear hb
  go_wp2_with fail
  refine (DpPiece.toS_any _ _ _ _ _ (HP2.out.below HB.out) (by have := HM2.out; omega)).mono ?_
  rintro e w7 ⟨qHY2, dHY2, rfl, ho, hb⟩
  replace HB := Lib.hid (below_on HB.out hb)
  replace HU2 := Lib.hid (HU2.out.below hb)
  have HY2 := Lib.hid ho
  clear ho
  clear hb
  go_wp2_with fail
  refine (DpPiece.eqS_any _ _ _ _ _ _ _ HU2.out HY2.out).mono ?_
  rintro e w8 ⟨rfl, hb⟩
  replace HB := Lib.hid (below_on HB.out hb)
  replace HU2 := Lib.hid (HU2.out.below hb)
  replace HY2 := Lib.hid (HY2.out.below hb)
  clear hb
  clear HY2
  go_wp2_with fail
  go_ret
  exact ⟨rfl, HB.out⟩
end Go.Proofs.Ytihnegohhkplbaa.fnExactLeafOf
