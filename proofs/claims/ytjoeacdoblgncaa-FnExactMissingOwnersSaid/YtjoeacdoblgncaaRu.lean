/- The laws' marks over a rule for signing together. -/
import Derived.Test.YtjoeacdoblgncaaSlRule
import Derived.Test.YtjoeacdoblgncaaKi
namespace Go.Proofs.Ytjoeacdoblgncaa.Ru
open Go.ChangeShapes Go.WideShapes Go.ChangeAt Go.RowKit Sl St
theorem grown_on {w w' : World} {o : Obj} {row : Option Nat} (h : (w.alloc o).grownBy w' row) : w.grownBy w' row := by
  have hb := Ki.box1 w o
  exact ⟨h.os.trans hb.os, h.tape.trans hb.tape, h.output.trans hb.output, Nat.le_trans hb.size h.size, fun i hi hne => (h.block i (Nat.lt_of_lt_of_le hi hb.size) hne).trans (hb.block i hi)⟩
set_option maxRecDepth 100000 in
theorem mark_any (lo hi : Nat) (p : Option Addr) (n c : Nat) (m : Bool) (zs : List Int) (k : Int) (w : World) (ho : Ow .i64 3 w lo hi p n c zs) (hm : 0 ≤ k) (hm' : k + n ≤ 9223372036854775000) : Calls Try.prog 24 #[.agg #[.slice p n c, .bool m], .int .i64 k] w fun e w' => e = .returned (.int .i64 (k + n)) ∧ Ow .i64 3 w' lo hi p n c (marks intK k n) ∧ w.grownBy w' (Value.slice p n c).ownBlock := by
  have HO := Lib.hid (ho.alloc (.cells #[.slice p n c, .bool m] 33))
  obtain ⟨q0, q1⟩ := SlRule.bx2 (Bx.new w 33 #[.slice p n c, .bool m])
  clear ho
  go_enter Try.func24, Try.ntmps24
  go_wp2_with fail
  refine (SlI.mark_any lo hi p n c zs k _ HO.out hm hm').mono ?_
  rintro e w1 ⟨rfl, ho1, hg⟩
  have HO1 := Lib.hid ho1
  have HG := Lib.hid (grown_on hg)
  clear ho1 hg q0 q1
  go_wp2_with fail
  go_ret
  exact ⟨rfl, HO1.out, HG.out⟩
end Go.Proofs.Ytjoeacdoblgncaa.Ru
