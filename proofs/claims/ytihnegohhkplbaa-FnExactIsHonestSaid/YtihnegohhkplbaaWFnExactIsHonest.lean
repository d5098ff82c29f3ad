/- The walk of the law FnExactIsHonest. -/
import Derived.Test.YtihnegohhkplbaaEd
import Derived.Test.YtihnegohhkplbaaDz
import Derived.Test.YtihnegohhkplbaaSlI
import Derived.Test.YtihnegohhkplbaaDpEvent
import Derived.Test.YtihnegohhkplbaaCk
import Derived.OpenShut
import Derived.Deep.RegionHeld3
import Derived.Laws.Strings
namespace Go.Proofs.Ytihnegohhkplbaa.fnExactIsHonest
open Go.ChangeShapes Go.WideShapes Go.ChangeAt Go.RowKit Sl St Ed Ck
theorem drewB {W w : World} {B : Nat} (h : Below B W w) : Below B W w.drew := below_drewN h 1
set_option maxRecDepth 100000 in
set_option maxHeartbeats 8000000 in
theorem walk {H : Type} {enc : TypeId × Value → H} (W : World) (base : Nat)
    (v0 : Value) (d0 : DataW H) (p0 : List MemPlace) (h0 : DataW.Trod enc Try.prog W 0 (fun _ => true) true 47 v0 d0 p0) (k0 : Value.okWide Try.prog W .any base 47 v0)
    (_hsz : (DataW.weightsEach Try.prog [47] [d0]).all (· ≤ reachBytes) = true) :
    Calls Try.prog 10 #[v0] W fun e w' => e = .returned (.bool true) ∧ Below W.heap.size W w' := by
  obtain ⟨p0, n0, c0, l0, rfl, hr0⟩ := Dz.open_sl (E := DpEvent.E) Try.underlying47 (by kernel_rfl) (fun hl h => DpEvent.open_cells hl h) h0 k0
  have HP0 := Lib.hid hr0
  have hn0 := hr0.le
  clear hr0
  clear h0 k0
  clear _hsz
  have HB := Lib.hid (Below.refl W.heap.size W)
  obtain ⟨m0, hm0⟩ : ∃ m : Nat, n0 + wts DpEvent.E l0 = m := ⟨_, rfl⟩
  have HM0 := Lib.hid hm0
  clear hm0
  by_cases hbig0 : 1048576 < m0
  · go_enter Try.func10, Try.ntmps10
    go_wp2_with fail
    refine (DpEvent.szM_big _ _ _ _ _ _ _ HM0.out (HP0.out.below HB.out) (by omega) (by omega) (by omega)).mono ?_
    rintro e w1 ⟨rfl, hb⟩
    replace HB := Lib.hid (below_on HB.out hb)
    clear hb
    go_wp2_with fail
    go_ret
    exact ⟨rfl, HB.out⟩
  go_enter Try.func10, Try.ntmps10
  go_wp2_with fail
  refine (DpEvent.szM_fits _ _ _ _ _ _ _ HM0.out (HP0.out.below HB.out) (by omega) (by omega)).mono ?_
  rintro e w2 ⟨rfl, hb⟩
  replace HB := Lib.hid (below_on HB.out hb)
  clear hb
  have sm0 : m0 ≤ 1048576 := by omega
  clear hbig0
  have sn0 : n0 ≤ 1048576 := by have h := HM0.out; omega
  go_wp2_with fail
  refine (DpEvent.toS_any _ _ _ _ _ (HP0.out.below HB.out) (by have := HM0.out; omega)).mono ?_
  rintro e w3 ⟨qHT0, dHT0, rfl, ho, hb⟩
  replace HB := Lib.hid (below_on HB.out hb)
  have HT0 := Lib.hid ho
  clear ho
  clear hb
  go_wp2_with fail
  refine (Ck.spec_honest_any _ _ _ _ _ HT0.out).mono ?_
  rintro e w4 ⟨rfl, hb⟩
  replace HB := Lib.hid (below_on HB.out hb)
  replace HT0 := Lib.hid (HT0.out.below hb)
  clear hb
  clear HT0
  go_wp2_with fail
  refine (DpEvent.toS_any _ _ _ _ _ (HP0.out.below HB.out) (by have := HM0.out; omega)).mono ?_
  rintro e w5 ⟨qHU0, dHU0, rfl, ho, hb⟩
  replace HB := Lib.hid (below_on HB.out hb)
  have HU0 := Lib.hid ho
  clear ho
  clear hb
  go_wp2_with fail
  refine (Ck.honest_any _ _ _ _ _ HU0.out).mono ?_
  rintro e w6 ⟨rfl, hb⟩
  replace HB := Lib.hid (below_on HB.out hb)
  replace HU0 := Lib.hid (HU0.out.below hb)
  clear hb
  go_wp2_with fail
  refine (DpEvent.toS_any _ _ _ _ _ (HP0.out.below HB.out) (by have := HM0.out; omega)).mono ?_
  rintro e w7 ⟨qHY0, dHY0, rfl, ho, hb⟩
  replace HB := Lib.hid (below_on HB.out hb)
  replace HU0 := Lib.hid (HU0.out.below hb)
  have HY0 := Lib.hid ho
  clear ho
  clear hb
  go_wp2_with fail
  refine (DpEvent.eqS_any _ _ _ _ _ _ _ HU0.out HY0.out).mono ?_
  rintro e w8 ⟨rfl, hb⟩
  replace HB := Lib.hid (below_on HB.out hb)
  replace HU0 := Lib.hid (HU0.out.below hb)
  replace HY0 := Lib.hid (HY0.out.below hb)
  clear hb
  clear HY0
  go_wp2_with fail
  go_ret
  exact ⟨rfl, HB.out⟩
end Go.Proofs.Ytihnegohhkplbaa.fnExactIsHonest
