/- Leaves; of both. -/
import Derived.Test.YtnkpioaaabnlcaaWq
namespace Go.Proofs.Ytnkpioaaabnlcaa.Wl
open Go.ChangeShapes Go.WideShapes Go.ChangeAt Go.RowKit Sl St Ed Dz Wr Wp Wq Es
def leaf (id doc : Int) (xs : List DpPiece.A) (before : Int) : Int := Dg.dig id [3, doc, pd id xs, before]
theorem pd_in (id : Int) (xs : List DpPiece.A) : InI (pd id xs) := dig_inK _ _
set_option maxRecDepth 100000 in
set_option maxHeartbeats 4000000 in
theorem leaf_any (id doc : Int) (hdoc : InI doc) (xs : List DpPiece.A) (p : Option Addr) (n c : Nat) (before : Int) (hbef : InI before) {S : Nat → Prop} (w : World) (hr : RdD DpPiece.E S w p n xs) (hm : n + wts DpPiece.E xs ≤ 1048576) : Calls Try.prog 35 #[.int .i64 id, .int .i64 doc, .slice p n c, .int .i64 before] w (Val (.int .i64 (leaf id doc xs before)) w) := by
  have HR := Lib.hid hr
  have HM := Lib.hid hm
  have HK := Lib.hid (show allK .i64 [3, doc, pd id xs, before] from allK_cons ⟨by omega, by omega⟩ (allK_cons hdoc (allK_cons (pd_in id xs) (allK_cons hbef (allK_nil _)))))
  clear hr hm hdoc hbef
  go_enter Try.func35, Try.ntmps35
  go_wp2_with fail
  refine (digest_any id xs _ _ _ _ HR.out HM.out).mono ?_
  rintro e w1 ⟨rfl, hb⟩
  have HB := Lib.hid hb
  clear hb
  have HL := Lib.hid (lit_rd w1 [3, doc, pd id xs, before] HK.out (by simp))
  go_wp2_with fail
  refine (Dg.dig_any id _ _ _ _ _ HL.out).mono ?_
  rintro e w2 ⟨rfl, rfl⟩
  have HB2 := Lib.hid (HB.out.alloc HB.out.size (.cells #[.int .i64 3, .int .i64 doc, .int .i64 (pd id xs), .int .i64 before] 3))
  go_wp2_with fail
  go_ret
  exact val_of rfl HB2.out
set_option maxRecDepth 100000 in
set_option maxHeartbeats 4000000 in
theorem spec_leaf_any (id : Int) (hid : InI id) (doc : Int) (hdoc : InI doc) (xs : List DpPiece.A) (p : Option Addr) (n c : Nat) (before : Int) (hbef : InI before) {S : Nat → Prop} (w : World) (hr : RdD DpPiece.E S w p n xs) (hm : n + wts DpPiece.E xs ≤ 1048576) : Calls Try.prog 30 #[.int .i64 id, .int .i64 doc, .slice p n c, .int .i64 before] w (Val (.int .i64 (leaf id doc xs before)) w) := by
  have HR := Lib.hid hr
  have HM := Lib.hid hm
  have HID : Hid (inK .i64 id) := Lib.hid hid
  have HK := Lib.hid (show allK .i64 [3, doc, pd id xs, before] from allK_cons ⟨by omega, by omega⟩ (allK_cons hdoc (allK_cons (pd_in id xs) (allK_cons hbef (allK_nil _)))))
  clear hr hm hdoc hbef hid
  go_enter Try.func30, Try.ntmps30
  go_wp2_with fail
  refine (spec_digest_any id HID.out xs _ _ _ _ HR.out HM.out).mono ?_
  rintro e w1 ⟨rfl, hb⟩
  have HB := Lib.hid hb
  clear hb
  have HL := Lib.hid (lit_rd w1 [3, doc, pd id xs, before] HK.out (by simp))
  have HB1 := Lib.hid (HB.out.alloc HB.out.size (.cells #[.int .i64 3, .int .i64 doc, .int .i64 (pd id xs), .int .i64 before] 3))
  go_wp2_with fail
  refine (Dg.spec_dig_any id _ _ _ _ _ HL.out HID.out (by simp)).mono ?_
  rintro e w2 ⟨rfl, hb⟩
  have HB2 := Lib.hid (below_on HB1.out hb)
  clear hb
  go_wp2_with fail
  go_ret
  exact val_of rfl HB2.out
end Go.Proofs.Ytnkpioaaabnlcaa.Wl
