/- Marks over Item, by value and in slices, in memory that may be written. -/
import Derived.Test.YtpjckbdljbpliaaEk
import Derived.Test.YtpjckbdljbpliaaDpItem
import Derived.Test.YtpjckbdljbpliaaMdDocument
import Derived.Test.YtpjckbdljbpliaaMdSignature
import Derived.Test.YtpjckbdljbpliaaMdStrand
import Derived.LoopTactic
import Derived.Outline
namespace Go.Proofs.Ytpjckbdljbpliaa.MdItem
open Go.ChangeShapes Go.WideShapes Go.ChangeAt Go.RowKit Sl St Ed Ek
def M : Ek.MkE DpItem.E := (Ek.mPair Ek.mInt (Ek.mPair Ek.mInt (Ek.mPair MdDocument.M (Ek.mPair MdSignature.M MdStrand.M))))
set_option maxRecDepth 100000 in
set_option maxHeartbeats 4000000 in
theorem mark_any (lo hi : Nat) (x0 : Int) (x1 : Int) (x2 : Int) (l3 : List ByteArray) (p3 : Option Addr) (n3 c3 : Nat) (l4 : List Int) (p4 : Option Addr) (n4 c4 : Nat) (x5 : Int) (x6 : Int) (x7 : Int) (x8 : Int) (x9 : Int) (x10 : Int) (x11 : Int) (x12 : Int) (x13 : Int) (l14 : List DpPiece.A) (p14 : Option Addr) (n14 c14 : Nat) (l15 : List DpRenewal.A) (p15 : Option Addr) (n15 c15 : Nat) (k : Int) (w : World) (hhi : hi ≤ w.heap.size) (h3 : RRd str lo hi w p3 n3 l3) (h4 : RRd int lo hi w p4 n4 l4) (h14 : RRd DpPiece.E lo hi w p14 n14 l14) (h15 : RRd DpRenewal.E lo hi w p15 n15 l15) (hk : 1 ≤ k) (hm : k + ((l3.map Ek.mStr.nw).sum + (l4.map Ek.mInt.nw).sum + (l14.map MdPiece.M.nw).sum + (l15.map MdRenewal.M.nw).sum : Nat) ≤ 1000000000) : Calls Try.prog 27 #[.agg #[.int .i64 x0, .int .i64 x1, .int .i64 x2, .slice p3 n3 c3, .slice p4 n4 c4, .int .i64 x5, .int .i64 x6, .int .i64 x7, .int .i64 x8, .int .i64 x9, .int .i64 x10, .int .i64 x11, .int .i64 x12, .int .i64 x13, .slice p14 n14 c14, .slice p15 n15 c15], .int .i64 k] w (MkD lo hi k ((l3.map Ek.mStr.nw).sum + (l4.map Ek.mInt.nw).sum + (l14.map MdPiece.M.nw).sum + (l15.map MdRenewal.M.nw).sum) w) := by
  have HX := Lib.hid (Bx.new w 61 #[.int .i64 x0, .int .i64 x1, .int .i64 x2, .slice p3 n3 c3, .slice p4 n4 c4, .int .i64 x5, .int .i64 x6, .int .i64 x7, .int .i64 x8, .int .i64 x9, .int .i64 x10, .int .i64 x11, .int .i64 x12, .int .i64 x13, .slice p14 n14 c14, .slice p15 n15 c15])
  have HM : Hid (Mk lo hi w (w.alloc (.cells #[.int .i64 x0, .int .i64 x1, .int .i64 x2, .slice p3 n3 c3, .slice p4 n4 c4, .int .i64 x5, .int .i64 x6, .int .i64 x7, .int .i64 x8, .int .i64 x9, .int .i64 x10, .int .i64 x11, .int .i64 x12, .int .i64 x13, .slice p14 n14 c14, .slice p15 n15 c15] 61))) := Lib.hid (Mk.ofBelow (Dz.box1 w _))
  have HHI := Lib.hid hhi
  have HT := Lib.hid hm
  have H3 := Lib.hid (h3.below (Dz.box1 w (.cells #[.int .i64 x0, .int .i64 x1, .int .i64 x2, .slice p3 n3 c3, .slice p4 n4 c4, .int .i64 x5, .int .i64 x6, .int .i64 x7, .int .i64 x8, .int .i64 x9, .int .i64 x10, .int .i64 x11, .int .i64 x12, .int .i64 x13, .slice p14 n14 c14, .slice p15 n15 c15] 61)))
  have H4 := Lib.hid (h4.below (Dz.box1 w (.cells #[.int .i64 x0, .int .i64 x1, .int .i64 x2, .slice p3 n3 c3, .slice p4 n4 c4, .int .i64 x5, .int .i64 x6, .int .i64 x7, .int .i64 x8, .int .i64 x9, .int .i64 x10, .int .i64 x11, .int .i64 x12, .int .i64 x13, .slice p14 n14 c14, .slice p15 n15 c15] 61)))
  have H14 := Lib.hid (h14.below (Dz.box1 w (.cells #[.int .i64 x0, .int .i64 x1, .int .i64 x2, .slice p3 n3 c3, .slice p4 n4 c4, .int .i64 x5, .int .i64 x6, .int .i64 x7, .int .i64 x8, .int .i64 x9, .int .i64 x10, .int .i64 x11, .int .i64 x12, .int .i64 x13, .slice p14 n14 c14, .slice p15 n15 c15] 61)))
  have H15 := Lib.hid (h15.below (Dz.box1 w (.cells #[.int .i64 x0, .int .i64 x1, .int .i64 x2, .slice p3 n3 c3, .slice p4 n4 c4, .int .i64 x5, .int .i64 x6, .int .i64 x7, .int .i64 x8, .int .i64 x9, .int .i64 x10, .int .i64 x11, .int .i64 x12, .int .i64 x13, .slice p14 n14 c14, .slice p15 n15 c15] 61)))
  clear hm hhi h3 h4 h14 h15
  go_enter Try.func27, Try.ntmps27
  obtain ⟨u0, u1, u2, u3, u4, u5, u6, u7, u8, u9, u10, u11, u12, u13, u14, u15⟩ := DpItem.bxc HX.out
  go_wp2_with fail
  refine (MdDocument.mark_any lo hi _ _ _ _ _ _ _ _ _ (k) _ (Nat.le_trans HHI.out HM.out.size) H3.out H4.out (by omega) (by have h0 := HT.out; omega)).mono ?_
  rintro e w1 ⟨y1, rfl, hy1, hy2, hm⟩
  have HB1 : Hid (y1 ≤ k + ((l3.map Ek.mStr.nw).sum + (l4.map Ek.mInt.nw).sum : Nat)) := Lib.hid hy2
  replace HX := Lib.hid (hm.bx HX.out (Or.inl HHI.out))
  obtain ⟨l14_1, h_, he_⟩ := RRd.mk MdPiece.M H14.out hm
  have HE14 : Hid (l14_1.map MdPiece.M.nw = l14.map MdPiece.M.nw) := Lib.hid (he_)
  replace H14 := Lib.hid h_
  clear h_ he_
  obtain ⟨l15_1, h_, he_⟩ := RRd.mk MdRenewal.M H15.out hm
  have HE15 : Hid (l15_1.map MdRenewal.M.nw = l15.map MdRenewal.M.nw) := Lib.hid (he_)
  replace H15 := Lib.hid h_
  clear h_ he_
  replace HM := Lib.hid (HM.out.trans hm)
  clear hm hy2 u0 u1 u2 u3 u4 u5 u6 u7 u8 u9 u10 u11 u12 u13 u14 u15
  obtain ⟨u0, u1, u2, u3, u4, u5, u6, u7, u8, u9, u10, u11, u12, u13, u14, u15⟩ := DpItem.bxc HX.out
  go_wp2_with fail
  refine (MdStrand.mark_any lo hi _ _ _ _ _ _ _ _ (y1) _ (Nat.le_trans HHI.out HM.out.size) H14.out H15.out (by omega) (by rw [HE14.out]; rw [HE15.out]; have h0 := HT.out; have g1 := HB1.out; omega)).mono ?_
  rintro e w2 ⟨y2, rfl, hy2, hy2, hm⟩
  rw [HE14.out] at hy2; rw [HE15.out] at hy2
  have HB2 : Hid (y2 ≤ y1 + ((l14.map MdPiece.M.nw).sum + (l15.map MdRenewal.M.nw).sum : Nat)) := Lib.hid hy2
  replace HX := Lib.hid (hm.bx HX.out (Or.inl HHI.out))
  replace HM := Lib.hid (HM.out.trans hm)
  clear hm hy2 u0 u1 u2 u3 u4 u5 u6 u7 u8 u9 u10 u11 u12 u13 u14 u15
  go_wp2_with fail
  go_ret
  exact ⟨y2, rfl, by omega, by have g1 := HB1.out; have g2 := HB2.out; omega, HM.out⟩
end Go.Proofs.Ytpjckbdljbpliaa.MdItem
