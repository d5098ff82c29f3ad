/- Contract: what covers, in the program. -/
import Derived.Test.YtlgkgccmilapbaaTc
import Derived.Test.YtlgkgccmilapbaaJi
namespace Go.Proofs.Ytlgkgccmilapbaa.Tc
open Go.ChangeShapes Go.WideShapes Go.ChangeAt Go.RowKit Go.Shelf Sl St Jn Sps SlSpan Jo
set_option maxRecDepth 100000 in
theorem covers_any (q : Option Addr) (n c : Nat) (xs : List Sp) (a b : Int) (w : World) (hr : RdS E w q n xs) (hn : n ≤ 1099511627776) : Calls Try.prog 52 #[.slice q n c, .agg #[.int .i64 a, .int .i64 b]] w (Tells (covers xs (a, b)) w) := by
  have HR := Lib.hid hr
  clear hr
  go_enter Try.func52, Try.ntmps52
  go_wp2_with fail
  refine (Ji.join_any _ _ _ _ _ (HR.out.alloc _) hn).mono ?_
  rintro e w1 ⟨p1, n1, c1, rfl, ho, hb1⟩
  have HO := Lib.hid ho.rd
  have HX := Lib.hid ((Bx.new w 40 #[.int .i64 a, .int .i64 b]).below hb1)
  have HB1 := Lib.hid (((Below.refl w.heap.size w).alloc (Nat.le_refl _) _).trans (hb1.mono (by simp)))
  clear ho hb1
  go_wp2_with fail
  refine (has_any (fun x => inside (a, b) x) _ _ (enters_of Try.func78 (by kernel_rfl) rfl) _ _ _ _ _ HO.out (cover_pred a b _ _ HX.out.lt HX.out)).mono ?_
  rintro e w2 ⟨rfl, hb2⟩
  have HB2 := Lib.hid (below_on HB1.out hb2)
  clear hb2
  go_wp2_with fail
  go_ret
  exact ⟨rfl, HB2.out⟩
end Go.Proofs.Ytlgkgccmilapbaa.Tc
