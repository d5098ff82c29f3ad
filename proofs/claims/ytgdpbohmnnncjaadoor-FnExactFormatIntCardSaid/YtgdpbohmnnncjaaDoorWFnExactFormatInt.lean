/- The walk of the law FnExactFormatInt. -/
import Derived.Test.YtgdpbohmnnncjaaDoorItoa
import Derived.Test.YtgdpbohmnnncjaaDoorCards
import Derived.LaidMore
import Derived.Laws.Strings
namespace Go.Proofs.YtgdpbohmnnncjaaDoor.fnExactFormatInt
open Go.ChangeShapes Go.WideShapes Go.ChangeAt Go.RowKit
theorem walk {H : Type} {enc : TypeId × Value → H} (W : World) (base : Nat)
    (v0 : Value) (d0 : DataW H) (p0 : List MemPlace) (h0 : DataW.Trod enc Tryd.prog W 0 (fun _ => true) true 3 v0 d0 p0) (k0 : Value.okWide Tryd.prog W .any base 3 v0)
    (_hsz : (DataW.weightsEach Tryd.prog [3] [d0]).all (· ≤ reachBytes) = true) (hL : laidMetH Tryd.prog Rows.fnExactFormatIntRow.laid W) :
    Calls Tryd.prog 4 #[v0] W fun e w' => e = .returned (.bool true) ∧ Below W.heap.size W w' := by
  obtain ⟨n, rfl, rfl, rfl, hn⟩ := open_int Tryd.underlying3 k0 h0
  have hw : -9223372036854775808 ≤ n ∧ n ≤ 9223372036854775807 := by simpa [Lit.wf, IntKind.min, IntKind.max, IntKind.signed, IntKind.bits] using hn
  obtain ⟨w0, w1⟩ := hw
  have HT := Lib.hid (Ints.pow10_of_head (laidMet.tail (laidMet.tail hL)))
  clear h0 k0 hL hn
  go_enter Tryd.func4, Tryd.ntmps4
  go_wp2_with fail
  refine (Ints.spec_format_any n _ w0 w1).mono ?_
  rintro e w' ⟨rfl, hb1⟩
  have HB1 := Lib.hid hb1
  clear hb1
  go_wp2_with fail
  refine (Ints.format_any n _ w0 w1 (HT.out.on HB1.out)).mono ?_
  rintro e w2 ⟨rfl, hb2⟩
  have HB2 := Lib.hid hb2
  clear hb2
  go_wp2
  go_ret
  exact ⟨rfl, HB1.out.trans (HB2.out.mono HB1.out.size)⟩
end Go.Proofs.YtgdpbohmnnncjaaDoor.fnExactFormatInt
