/- The walk of the law FnExactPiecesDigest. -/
import Derived.Test.YtihnegohhkplbaaEd
import Derived.Test.YtihnegohhkplbaaDz
import Derived.Test.YtihnegohhkplbaaSlI
import Derived.Test.YtihnegohhkplbaaDpPiece
import Derived.Test.YtihnegohhkplbaaWq
import Derived.OpenShut
import Derived.Deep.RegionHeld3
import Derived.Laws.Strings
namespace Go.Proofs.Ytihnegohhkplbaa.fnExactPiecesDigest
open Go.ChangeShapes Go.WideShapes Go.ChangeAt Go.RowKit Sl St Ed Wp Wq
theorem drewB {W w : World} {B : Nat} (h : Below B W w) : Below B W w.drew := below_drewN h 1
set_option maxRecDepth 100000 in
set_option maxHeartbeats 8000000 in
theorem walk {H : Type} {enc : TypeId × Value → H} (W : World) (base : Nat)
    (v0 : Value) (d0 : DataW H) (p0 : List MemPlace) (h0 : DataW.Trod enc Try.prog W 0 (fun _ => true) true 3 v0 d0 p0) (k0 : Value.okWide Try.prog W .any base 3 v0)
    (v1 : Value) (d1 : DataW H) (p1 : List MemPlace) (h1 : DataW.Trod enc Try.prog W 0 (fun _ => true) true 58 v1 d1 p1) (k1 : Value.okWide Try.prog W .any base 58 v1)
    (_hsz : (DataW.weightsEach Try.prog [3, 58] [d0, d1]).all (· ≤ reachBytes) = true) :
    Calls Try.prog 11 #[v0, v1] W fun e w' => e = .returned (.bool true) ∧ Below W.heap.size W w' := by
  obtain ⟨x0, rfl, _, _, wf0⟩ := open_int Try.underlying3 k0 h0
  have xb0 := bounds_i64 wf0
  have XB0 := Lib.hid xb0
  clear wf0 xb0
  clear h0 k0
  obtain ⟨p1, n1, c1, l1, rfl, hr1⟩ := Dz.open_sl (E := DpPiece.E) Try.underlying58 (by kernel_rfl) (fun hl h => DpPiece.open_cells hl h) h1 k1
  have HP1 := Lib.hid hr1
  have hn1 := hr1.le
  clear hr1
  clear h1 k1
  clear _hsz
  have HB := Lib.hid (Below.refl W.heap.size W)
  obtain ⟨m1, hm1⟩ : ∃ m : Nat, n1 + wts DpPiece.E l1 = m := ⟨_, rfl⟩
  have HM1 := Lib.hid hm1
  clear hm1
  by_cases hbig1 : 1048576 < m1
  · go_enter Try.func11, Try.ntmps11
    go_wp2_with fail
    refine (DpPiece.szM_big _ _ _ _ _ _ _ HM1.out (HP1.out.below HB.out) (by omega) (by omega) (by omega)).mono ?_
    rintro e w1 ⟨rfl, hb⟩
    replace HB := Lib.hid (below_on HB.out hb)
    clear hb
    go_wp2_with fail
    go_ret
    exact ⟨rfl, HB.out⟩
  go_enter Try.func11, Try.ntmps11
  go_wp2_with fail
  refine (DpPiece.szM_fits _ _ _ _ _ _ _ HM1.out (HP1.out.below HB.out) (by omega) (by omega)).mono ?_
  rintro e w2 ⟨rfl, hb⟩
  replace HB := Lib.hid (below_on HB.out hb)
  clear hb
  have sm1 : m1 ≤ 1048576 := by omega
  clear hbig1
  have sn1 : n1 ≤ 1048576 := by have h := HM1.out; omega
  go_wp2_with fail
  refine (DpPiece.toS_any _ _ _ _ _ (HP1.out.below HB.out) (by have := HM1.out; omega)).mono ?_
  rintro e w3 ⟨qHT1, dHT1, rfl, ho, hb⟩
  replace HB := Lib.hid (below_on HB.out hb)
  have HT1 := Lib.hid ho
  clear ho
  clear hb
  go_wp2_with fail
  refine (spec_digest_any x0 XB0.out _ _ _ _ _ HT1.out (by have := HM1.out; omega)).mono ?_
  rintro e w4 ⟨rfl, hb⟩
  replace HB := Lib.hid (below_on HB.out hb)
  replace HT1 := Lib.hid (HT1.out.below hb)
  clear hb
  clear HT1
  go_wp2_with fail
  refine (DpPiece.toS_any _ _ _ _ _ (HP1.out.below HB.out) (by have := HM1.out; omega)).mono ?_
  rintro e w5 ⟨qHU1, dHU1, rfl, ho, hb⟩
  replace HB := Lib.hid (below_on HB.out hb)
  have HU1 := Lib.hid ho
  clear ho
  clear hb
  go_wp2_with fail
  refine (digest_any x0 _ _ _ _ _ HU1.out (by have := HM1.out; omega)).mono ?_
  rintro e w6 ⟨rfl, hb⟩
  replace HB := Lib.hid (below_on HB.out hb)
  replace HU1 := Lib.hid (HU1.out.below hb)
  clear hb
  go_wp2_with fail
  refine (DpPiece.toS_any _ _ _ _ _ (HP1.out.below HB.out) (by have := HM1.out; omega)).mono ?_
  rintro e w7 ⟨qHY1, dHY1, rfl, ho, hb⟩
  replace HB := Lib.hid (below_on HB.out hb)
  replace HU1 := Lib.hid (HU1.out.below hb)
  have HY1 := Lib.hid ho
  clear ho
  clear hb
  go_wp2_with fail
  refine (DpPiece.eqS_any _ _ _ _ _ _ _ HU1.out HY1.out).mono ?_
  rintro e w8 ⟨rfl, hb⟩
  replace HB := Lib.hid (below_on HB.out hb)
  replace HU1 := Lib.hid (HU1.out.below hb)
  replace HY1 := Lib.hid (HY1.out.below hb)
  clear hb
  clear HY1
  go_wp2_with fail
  go_ret
  exact ⟨rfl, HB.out⟩
end Go.Proofs.Ytihnegohhkplbaa.fnExactPiecesDigest
