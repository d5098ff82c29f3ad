/- The walk of the law FnExactStampsDigest. -/
import Derived.Test.YtllkpapkkgfjaacSlStamp
import Derived.Test.YtllkpapkkgfjaacSd
import Derived.Test.YtllkpapkkgfjaacSlB
import Derived.Test.YtllkpapkkgfjaacSlI
import Derived.OpenShut
namespace Go.Proofs.Ytllkpapkkgfjaac.fnExactStampsDigest
open Go.ChangeShapes Go.WideShapes Go.ChangeAt Go.RowKit Sl St Fnd SlStamp Ki Ge Sd
set_option maxRecDepth 100000 in
set_option maxHeartbeats 4000000 in
theorem walk {H : Type} {enc : TypeId × Value → H} (W : World) (base : Nat)
    (v0 : Value) (d0 : DataW H) (p0 : List MemPlace) (h0 : DataW.Trod enc Try.prog W 0 (fun _ => true) true 3 v0 d0 p0) (k0 : Value.okWide Try.prog W .any base 3 v0)
    (v1 : Value) (d1 : DataW H) (p1 : List MemPlace) (h1 : DataW.Trod enc Try.prog W 0 (fun _ => true) true 57 v1 d1 p1) (k1 : Value.okWide Try.prog W .any base 57 v1)
    (_hsz : (DataW.weightsEach Try.prog [3, 57] [d0, d1]).all (· ≤ reachBytes) = true) :
    Calls Try.prog 9 #[v0, v1] W fun e w' => e = .returned (.bool true) ∧ Below W.heap.size W w' := by
  obtain ⟨x0, rfl, _, _, wf0⟩ := open_int Try.underlying3 k0 h0
  have xb0 := bounds_i64 wf0
  obtain ⟨xl0, xh0⟩ := xb0
  clear wf0
  clear h0 k0
  obtain ⟨a1, n1, c1, zs1, rfl, hr1, hg1⟩ := SlStamp.open_argR h1 k1
  have HR1 := Lib.hid hr1
  have hn1 := hr1.le
  clear hr1
  clear h1 k1
  clear _hsz
  have HB := Lib.hid (Below.refl W.heap.size W)
  by_cases hbig1 : 1048576 < n1
  · go_enter Try.func9, Try.ntmps9
    go_wp2_with fail
    refine (SlStamp.sz_big _ _ _ _ _ (by omega) (by omega) (by omega) hn1).mono ?_
    rintro e w0 ⟨rfl, rfl⟩
    go_wp2_with fail
    go_ret
    exact ⟨rfl, HB.out⟩
  go_enter Try.func9, Try.ntmps9
  go_wp2_with fail
  refine (SlStamp.sz_fits _ _ _ _ _ (by omega) (by omega)).mono ?_
  rintro e w0 ⟨rfl, rfl⟩
  go_wp2_with fail
  refine (SlStamp.to_any _ _ _ _ _ (HR1.out.below HB.out) (by omega)).mono ?_
  rintro e w1 ⟨qHT1, mHT1, eHT1, rfl, ho, hb⟩
  replace HB := Lib.hid (below_on HB.out hb)
  have HT1 := Lib.hid ho
  have bHT1 := HT1.out.le
  obtain rfl : n1 = mHT1 := HR1.out.len.symm.trans HT1.out.len
  clear ho hb
  go_wp2_with fail
  refine (spec_stamps_any _ ⟨xl0, xh0⟩ _ _ _ _ hg1 _ HT1.out.rd (by omega)).mono ?_
  rintro e w2 ⟨rfl, hb⟩
  replace HB := Lib.hid (below_on HB.out hb)
  replace HT1 := Lib.hid (HT1.out.below hb)
  clear hb
  clear HT1
  go_wp2_with fail
  refine (SlStamp.to_any _ _ _ _ _ (HR1.out.below HB.out) (by omega)).mono ?_
  rintro e w3 ⟨qHK1, mHK1, eHK1, rfl, ho, hb⟩
  replace HB := Lib.hid (below_on HB.out hb)
  have HK1 := Lib.hid ho
  have bHK1 := HK1.out.le
  obtain rfl : n1 = mHK1 := HR1.out.len.symm.trans HK1.out.len
  clear ho hb
  go_wp2_with fail
  refine (stamps_any _ _ _ _ _ hg1 _ HK1.out.rd (by omega)).mono ?_
  rintro e w4 ⟨rfl, hb⟩
  replace HB := Lib.hid (below_on HB.out hb)
  replace HK1 := Lib.hid (HK1.out.below hb)
  clear hb
  go_wp2_with fail
  refine (SlStamp.to_any _ _ _ _ _ (HR1.out.below HB.out) (by omega)).mono ?_
  rintro e w5 ⟨qHY1, mHY1, eHY1, rfl, ho, hb⟩
  replace HB := Lib.hid (below_on HB.out hb)
  replace HK1 := Lib.hid (HK1.out.below hb)
  have HY1 := Lib.hid ho
  have bHY1 := HY1.out.le
  obtain rfl : n1 = mHY1 := HR1.out.len.symm.trans HY1.out.len
  clear ho hb
  go_wp2_with fail
  refine (SlStamp.eq_any _ _ _ _ _ _ _ HK1.out.rd HY1.out.rd).mono ?_
  rintro e w6 ⟨rfl, hb⟩
  replace HB := Lib.hid (below_on HB.out hb)
  replace HK1 := Lib.hid (HK1.out.below hb)
  replace HY1 := Lib.hid (HY1.out.below hb)
  clear hb
  clear HY1
  go_wp2_with fail
  go_ret
  exact ⟨rfl, HB.out⟩
end Go.Proofs.Ytllkpapkkgfjaac.fnExactStampsDigest
