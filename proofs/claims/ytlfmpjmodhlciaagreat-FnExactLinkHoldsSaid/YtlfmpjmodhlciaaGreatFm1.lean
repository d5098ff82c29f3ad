/- The end of a method; the closures that tell a method's time. -/
import Derived.Test.YtlfmpjmodhlciaaGreatFm0
import Derived.Test.YtlfmpjmodhlciaaGreatMmA
import Derived.Test.YtlfmpjmodhlciaaGreatDpFrame
import Derived.Outline
namespace Go.Proofs.YtlfmpjmodhlciaaGreat.Fm1
open Go.ChangeShapes Go.WideShapes Go.ChangeAt Go.RowKit Sl St Mn SlMethod Mb Mq Fm0
open Ed Dz
set_option maxRecDepth 100000 in
theorem brkClo_any (g : Nat) (ms : List Me) (pm : Option Addr) (nm cm : Nat) (id : Int) (hid : InI id) {S : Nat → Prop} (w : World) (hm : RdD (flat SlMethod.E SlMethod.InR) S w pm nm ms) (hg : Bx w g 36 #[.slice pm nm cm]) : Calls Tryz.prog 69 #[.int .i64 id, .pointer (some ⟨g, 0, none⟩)] w (Dz.Val (.int .i64 (brk ms id)) w) := by
  have HM := Lib.hid hm
  have HI := Lib.hid hid
  have c0 := hg.cell (j := 0) rfl
  clear hm hid
  go_enter Tryz.func69, Tryz.ntmps69
  go_wp2_with fail
  refine (Mq.brk_any _ _ _ ms HM.out.allP id HI.out _ HM.out.rdS).mono ?_
  rintro e w1 ⟨rfl, hb⟩
  have HB := Lib.hid hb
  clear hb
  go_wp2_with fail
  go_ret
  exact Dz.val_of rfl HB.out
end Go.Proofs.YtlfmpjmodhlciaaGreat.Fm1
