/- Marks over Strand, by value and in slices, in memory that may be written. -/
import Derived.Test.YtpjckbdljbpliaaEk
import Derived.Test.YtpjckbdljbpliaaDpStrand
import Derived.Test.YtpjckbdljbpliaaMdPiece
import Derived.Test.YtpjckbdljbpliaaMdRenewal
import Derived.LoopTactic
import Derived.Outline
namespace Go.Proofs.Ytpjckbdljbpliaa.MdStrand
open Go.ChangeShapes Go.WideShapes Go.ChangeAt Go.RowKit Sl St Ed Ek
def M : Ek.MkE DpStrand.E := (Ek.mPair (Ek.mSl MdPiece.M (by show 3 ≤ 16; omega)) (Ek.mSl MdRenewal.M (by show 5 ≤ 16; omega)))
set_option maxRecDepth 100000 in
set_option maxHeartbeats 4000000 in
theorem mark_any (lo hi : Nat) (l0 : List DpPiece.A) (p0 : Option Addr) (n0 c0 : Nat) (l1 : List DpRenewal.A) (p1 : Option Addr) (n1 c1 : Nat) (k : Int) (w : World) (hhi : hi ≤ w.heap.size) (h0 : RRd DpPiece.E lo hi w p0 n0 l0) (h1 : RRd DpRenewal.E lo hi w p1 n1 l1) (hk : 1 ≤ k) (hm : k + ((l0.map MdPiece.M.nw).sum + (l1.map MdRenewal.M.nw).sum : Nat) ≤ 1000000000) : Calls Try.prog 53 #[.agg #[.slice p0 n0 c0, .slice p1 n1 c1], .int .i64 k] w (MkD lo hi k ((l0.map MdPiece.M.nw).sum + (l1.map MdRenewal.M.nw).sum) w) := by
  have HX := Lib.hid (Bx.new w 59 #[.slice p0 n0 c0, .slice p1 n1 c1])
  have HM : Hid (Mk lo hi w (w.alloc (.cells #[.slice p0 n0 c0, .slice p1 n1 c1] 59))) := Lib.hid (Mk.ofBelow (Dz.box1 w _))
  have HHI := Lib.hid hhi
  have HT := Lib.hid hm
  have H0 := Lib.hid (h0.below (Dz.box1 w (.cells #[.slice p0 n0 c0, .slice p1 n1 c1] 59)))
  have H1 := Lib.hid (h1.below (Dz.box1 w (.cells #[.slice p0 n0 c0, .slice p1 n1 c1] 59)))
  clear hm hhi h0 h1
  go_enter Try.func53, Try.ntmps53
  obtain ⟨u0, u1⟩ := DpStrand.bxc HX.out
  go_wp2_with fail
  refine (MdPiece.markS_any lo hi _ _ _ _ (k) _ H0.out (by omega) (by have h0 := HT.out; omega)).mono ?_
  rintro e w1 ⟨y1, rfl, hy1, hy2, hm⟩
  have HB1 : Hid (y1 ≤ k + ((l0.map MdPiece.M.nw).sum : Nat)) := Lib.hid hy2
  replace HX := Lib.hid (hm.bx HX.out (Or.inl HHI.out))
  obtain ⟨l1_1, h_, he_⟩ := RRd.mk MdRenewal.M H1.out hm
  have HE1 : Hid (l1_1.map MdRenewal.M.nw = l1.map MdRenewal.M.nw) := Lib.hid (he_)
  replace H1 := Lib.hid h_
  clear h_ he_
  replace HM := Lib.hid (HM.out.trans hm)
  clear hm hy2 u0 u1
  obtain ⟨u0, u1⟩ := DpStrand.bxc HX.out
  go_wp2_with fail
  refine (MdRenewal.markS_any lo hi _ _ _ _ (y1) _ H1.out (by omega) (by rw [HE1.out]; have h0 := HT.out; have g1 := HB1.out; omega)).mono ?_
  rintro e w2 ⟨y2, rfl, hy2, hy2, hm⟩
  rw [HE1.out] at hy2
  have HB2 : Hid (y2 ≤ y1 + ((l1.map MdRenewal.M.nw).sum : Nat)) := Lib.hid hy2
  replace HX := Lib.hid (hm.bx HX.out (Or.inl HHI.out))
  replace HM := Lib.hid (HM.out.trans hm)
  clear hm hy2 u0 u1
  go_wp2_with fail
  go_ret
  exact ⟨y2, rfl, by omega, by have g1 := HB1.out; have g2 := HB2.out; omega, HM.out⟩
end Go.Proofs.Ytpjckbdljbpliaa.MdStrand
