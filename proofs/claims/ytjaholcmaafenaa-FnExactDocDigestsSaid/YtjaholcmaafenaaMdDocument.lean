/- Marks over Document, by value and in slices, in memory that may be written. -/
import Derived.Test.YtjaholcmaafenaaEk
import Derived.Test.YtjaholcmaafenaaDpDocument
import Derived.Test.YtjaholcmaafenaaMdStr
import Derived.Test.YtjaholcmaafenaaMdI
import Derived.LoopTactic
import Derived.Outline
namespace Go.Proofs.Ytjaholcmaafenaa.MdDocument
open Go.ChangeShapes Go.WideShapes Go.ChangeAt Go.RowKit Sl St Ed Ek
def M : Ek.MkE DpDocument.E := (Ek.mPair Ek.mInt (Ek.mPair (Ek.mSl Ek.mStr (by show 1 ≤ 16; omega)) (Ek.mSl Ek.mInt (by show 1 ≤ 16; omega))))
set_option maxRecDepth 100000 in
set_option maxHeartbeats 4000000 in
theorem mark_any (lo hi : Nat) (x0 : Int) (l1 : List ByteArray) (p1 : Option Addr) (n1 c1 : Nat) (l2 : List Int) (p2 : Option Addr) (n2 c2 : Nat) (k : Int) (w : World) (hhi : hi ≤ w.heap.size) (h1 : RRd str lo hi w p1 n1 l1) (h2 : RRd int lo hi w p2 n2 l2) (hk : 1 ≤ k) (hm : k + ((l1.map Ek.mStr.nw).sum + (l2.map Ek.mInt.nw).sum : Nat) ≤ 1000000000) : Calls Try.prog 20 #[.agg #[.int .i64 x0, .slice p1 n1 c1, .slice p2 n2 c2], .int .i64 k] w (MkD lo hi k ((l1.map Ek.mStr.nw).sum + (l2.map Ek.mInt.nw).sum) w) := by
  have HX := Lib.hid (Bx.new w 38 #[.int .i64 x0, .slice p1 n1 c1, .slice p2 n2 c2])
  have HM : Hid (Mk lo hi w (w.alloc (.cells #[.int .i64 x0, .slice p1 n1 c1, .slice p2 n2 c2] 38))) := Lib.hid (Mk.ofBelow (Dz.box1 w _))
  have HHI := Lib.hid hhi
  have HT := Lib.hid hm
  have H1 := Lib.hid (h1.below (Dz.box1 w (.cells #[.int .i64 x0, .slice p1 n1 c1, .slice p2 n2 c2] 38)))
  have H2 := Lib.hid (h2.below (Dz.box1 w (.cells #[.int .i64 x0, .slice p1 n1 c1, .slice p2 n2 c2] 38)))
  clear hm hhi h1 h2
  go_enter Try.func20, Try.ntmps20
  obtain ⟨u0, u1, u2⟩ := DpDocument.bxc HX.out
  go_wp2_with fail
  refine (MdStr.markS_any lo hi _ _ _ _ (k) _ H1.out (by omega) (by have h0 := HT.out; omega)).mono ?_
  rintro e w1 ⟨y1, rfl, hy1, hy2, hm⟩
  have HB1 : Hid (y1 ≤ k + ((l1.map Ek.mStr.nw).sum : Nat)) := Lib.hid hy2
  replace HX := Lib.hid (hm.bx HX.out (Or.inl HHI.out))
  obtain ⟨l2_1, h_, he_⟩ := RRd.mk Ek.mInt H2.out hm
  have HE2 : Hid (l2_1.map Ek.mInt.nw = l2.map Ek.mInt.nw) := Lib.hid (he_)
  replace H2 := Lib.hid h_
  clear h_ he_
  replace HM := Lib.hid (HM.out.trans hm)
  clear hm hy2 u0 u1 u2
  obtain ⟨u0, u1, u2⟩ := DpDocument.bxc HX.out
  go_wp2_with fail
  refine (MdI.markS_any lo hi _ _ _ _ (y1) _ H2.out (by omega) (by rw [HE2.out]; have h0 := HT.out; have g1 := HB1.out; omega)).mono ?_
  rintro e w2 ⟨y2, rfl, hy2, hy2, hm⟩
  rw [HE2.out] at hy2
  have HB2 : Hid (y2 ≤ y1 + ((l2.map Ek.mInt.nw).sum : Nat)) := Lib.hid hy2
  replace HX := Lib.hid (hm.bx HX.out (Or.inl HHI.out))
  replace HM := Lib.hid (HM.out.trans hm)
  clear hm hy2 u0 u1 u2
  go_wp2_with fail
  go_ret
  exact ⟨y2, rfl, by omega, by have g1 := HB1.out; have g2 := HB2.out; omega, HM.out⟩
end Go.Proofs.Ytjaholcmaafenaa.MdDocument
