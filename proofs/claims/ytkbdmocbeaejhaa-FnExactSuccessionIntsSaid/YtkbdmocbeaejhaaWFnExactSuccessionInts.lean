/- The walk of the law FnExactSuccessionInts. -/
import Derived.Test.YtkbdmocbeaejhaaSlSuccession
import Derived.Test.YtkbdmocbeaejhaaYi
import Derived.Test.YtkbdmocbeaejhaaSlB
import Derived.Test.YtkbdmocbeaejhaaSlI
import Derived.OpenShut
namespace Go.Proofs.Ytkbdmocbeaejhaa.fnExactSuccessionInts
open Go.ChangeShapes Go.WideShapes Go.ChangeAt Go.RowKit Sl St Fnd SlSuccession Yi
set_option maxRecDepth 100000 in
set_option maxHeartbeats 4000000 in
theorem walk {H : Type} {enc : TypeId × Value → H} (W : World) (base : Nat)
    (v0 : Value) (d0 : DataW H) (p0 : List MemPlace) (h0 : DataW.Trod enc Try.prog W 0 (fun _ => true) true 57 v0 d0 p0) (k0 : Value.okWide Try.prog W .any base 57 v0)
    (_hsz : (DataW.weightsEach Try.prog [57] [d0]).all (· ≤ reachBytes) = true) :
    Calls Try.prog 9 #[v0] W fun e w' => e = .returned (.bool true) ∧ Below W.heap.size W w' := by
  obtain ⟨x0_0, x0_1, x0_2, x0_3, rfl, b0_0, b0_1, b0_2, b0_3⟩ := SlSuccession.open_val h0 k0
  have HG0_0 := Lib.hid b0_0
  have HG0_1 := Lib.hid b0_1
  have HG0_2 := Lib.hid b0_2
  have HG0_3 := Lib.hid b0_3
  clear b0_0 b0_1 b0_2 b0_3
  clear h0 k0
  clear _hsz
  have HB := Lib.hid (Below.refl W.heap.size W)
  have HX0 := Lib.hid (Bx.new W 57 #[.int .i64 x0_0, .int .i64 x0_1, .int .i64 x0_2, .int .i64 x0_3])
  replace HB := Lib.hid (HB.out.alloc HB.out.size (.cells #[.int .i64 x0_0, .int .i64 x0_1, .int .i64 x0_2, .int .i64 x0_3] 57))
  have lX0 := HX0.out.lt
  go_enter Try.func9, Try.ntmps9
  have sW := HB.out.size
  obtain ⟨cc0, cc1, cc2, cc3⟩ := SlSuccession.bxc HX0.out
  go_wp2_with fail
  refine (SlSuccession.val_any _ _ _ _ _).mono ?_
  rintro e w1 ⟨rfl, hb⟩
  replace HB := Lib.hid (below_on HB.out hb)
  replace HX0 := Lib.hid (HX0.out.below hb)
  have s1 := hb.size
  clear hb
  clear cc0 cc1 cc2 cc3
  go_wp2_with fail
  refine (spec_succInts_any x0_0 x0_1 x0_2 x0_3 _ HG0_0.out HG0_1.out HG0_2.out HG0_3.out).mono ?_
  rintro e w2 ⟨qHW, mHW, eHW, rfl, ho, hb⟩
  replace HB := Lib.hid (below_on HB.out hb)
  replace HX0 := Lib.hid (HX0.out.below hb)
  have HW := Lib.hid ho
  have s2 := hb.size
  clear ho hb
  have bL : mHW ≤ 4 := Nat.le_of_eq HW.out.len.symm
  obtain ⟨cc0, cc1, cc2, cc3⟩ := SlSuccession.bxc HX0.out
  go_wp2_with fail
  refine (SlSuccession.val_any _ _ _ _ _).mono ?_
  rintro e w3 ⟨rfl, hb⟩
  replace HB := Lib.hid (below_on HB.out hb)
  replace HX0 := Lib.hid (HX0.out.below hb)
  replace HW := Lib.hid (HW.out.below hb)
  have s3 := hb.size
  clear hb
  clear cc0 cc1 cc2 cc3
  go_wp2_with fail
  refine (succInts_any x0_0 x0_1 x0_2 x0_3 _ HG0_0.out HG0_1.out HG0_2.out HG0_3.out).mono ?_
  rintro e w4 ⟨qHG, mHG, eHG, rfl, ho, hb⟩
  replace HB := Lib.hid (below_on HB.out hb)
  replace HX0 := Lib.hid (HX0.out.below hb)
  replace HW := Lib.hid (HW.out.below hb)
  have HG := Lib.hid ho
  have s4 := hb.size
  clear ho hb
  obtain rfl : mHW = mHG := HW.out.len.symm.trans HG.out.len
  go_wp2_with fail
  refine (SlI.eq_any _ _ _ _ _ _ _ HG.out.rd HW.out.rd).mono ?_
  rintro e w5 ⟨rfl, hb⟩
  replace HB := Lib.hid (below_on HB.out hb)
  replace HX0 := Lib.hid (HX0.out.below hb)
  replace HW := Lib.hid (HW.out.below hb)
  replace HG := Lib.hid (HG.out.below hb)
  have s5 := hb.size
  clear hb
  have bHW := HW.out.le
  have bHG := HG.out.le
  go_wp2_with fail
  refine (SlI.mark_any _ _ _ _ _ _ _ _ HG.out (by omega) (by have := HG.out.le; omega)).mono ?_
  rintro e w6 ⟨rfl, ho, hg⟩
  replace HB := Lib.hid (below_row HB.out HG.out hg (by omega))
  replace HW := Lib.hid (HW.out.kept hg (fun g e => by have := HG.out.far g e; omega))
  replace HX0 := Lib.hid (HX0.out.grown hg (fun e => by have := HG.out.far _ e.symm; have := HX0.out.lt; omega))
  replace HG := Lib.hid ho
  clear ho hg
  go_wp2_with fail
  refine (SlI.held_any _ _ _ _ _ HG.out.rd (by omega) (by omega)).mono ?_
  rintro e w7 ⟨rfl, rfl⟩
  obtain ⟨cc0, cc1, cc2, cc3⟩ := SlSuccession.bxc HX0.out
  go_wp2_with fail
  refine (SlSuccession.val_any _ _ _ _ _).mono ?_
  rintro e w8 ⟨rfl, hb⟩
  replace HB := Lib.hid (below_on HB.out hb)
  replace HX0 := Lib.hid (HX0.out.below hb)
  replace HW := Lib.hid (HW.out.below hb)
  replace HG := Lib.hid (HG.out.below hb)
  have s8 := hb.size
  clear hb
  clear cc0 cc1 cc2 cc3
  go_wp2_with fail
  refine (succInts_any x0_0 x0_1 x0_2 x0_3 _ HG0_0.out HG0_1.out HG0_2.out HG0_3.out).mono ?_
  rintro e w9 ⟨qHH, mHH, eHH, rfl, ho, hb⟩
  replace HB := Lib.hid (below_on HB.out hb)
  replace HX0 := Lib.hid (HX0.out.below hb)
  replace HW := Lib.hid (HW.out.below hb)
  replace HG := Lib.hid (HG.out.below hb)
  have HH := Lib.hid ho
  have s9 := hb.size
  clear ho hb
  obtain rfl : mHW = mHH := HW.out.len.symm.trans HH.out.len
  go_wp2_with fail
  refine (SlI.eq_any _ _ _ _ _ _ _ HH.out.rd HW.out.rd).mono ?_
  rintro e w10 ⟨rfl, hb⟩
  replace HB := Lib.hid (below_on HB.out hb)
  replace HX0 := Lib.hid (HX0.out.below hb)
  replace HW := Lib.hid (HW.out.below hb)
  replace HG := Lib.hid (HG.out.below hb)
  replace HH := Lib.hid (HH.out.below hb)
  have s10 := hb.size
  clear hb
  go_wp2_with fail
  refine (SlI.held_any _ _ _ _ _ HG.out.rd (by omega) (by omega)).mono ?_
  rintro e w11 ⟨rfl, rfl⟩
  go_wp2_with fail
  go_ret
  exact ⟨rfl, HB.out⟩
end Go.Proofs.Ytkbdmocbeaejhaa.fnExactSuccessionInts
