/- Marks over World, by value and in slices, in memory that may be written. -/
import Derived.Test.YtpjckbdljbpliaaGreatEk
import Derived.Test.YtpjckbdljbpliaaGreatDpWorld
import Derived.Test.YtpjckbdljbpliaaGreatDfA
import Derived.Test.YtpjckbdljbpliaaGreatMdCert
import Derived.Test.YtpjckbdljbpliaaGreatMsA
import Derived.LoopTactic
import Derived.Outline
namespace Go.Proofs.YtpjckbdljbpliaaGreat.MdWorld
open Go.ChangeShapes Go.WideShapes Go.ChangeAt Go.RowKit Sl St Ed Ek
def M : Ek.MkE DpWorld.E := (Ek.mPair MdFrame.M (Ek.mPair (Ek.mSl MdCert.M (by show 7 ≤ 16; omega)) (Ek.mPair (Ek.mSl Ek.mInt (by show 1 ≤ 16; omega)) (Ek.mPair (Ek.mSl MdArchive.M (by show 2 ≤ 16; omega)) (Ek.mPair (Ek.mSl Ek.mInt (by show 1 ≤ 16; omega)) (Ek.mPair (Ek.mSl Ek.mInt (by show 1 ≤ 16; omega)) (Ek.mPair Ek.mInt (Ek.mSl Ek.mInt (by show 1 ≤ 16; omega)))))))))
set_option maxRecDepth 100000 in
set_option maxHeartbeats 4000000 in
theorem mark_any (lo hi : Nat) (l0 : List (Int × Int × Int × Int × Int)) (p0 : Option Addr) (n0 c0 : Nat) (l1 : List (Int × Int × Int)) (p1 : Option Addr) (n1 c1 : Nat) (l2 : List (Int × Int × Int × Int)) (p2 : Option Addr) (n2 c2 : Nat) (x3 : Int) (x4 : Int) (l5 : List (Int × Int × Int × Int × Int × Int × Int)) (p5 : Option Addr) (n5 c5 : Nat) (l6 : List Int) (p6 : Option Addr) (n6 c6 : Nat) (l7 : List DpArchive.A) (p7 : Option Addr) (n7 c7 : Nat) (l8 : List Int) (p8 : Option Addr) (n8 c8 : Nat) (l9 : List Int) (p9 : Option Addr) (n9 c9 : Nat) (x10 : Int) (l11 : List Int) (p11 : Option Addr) (n11 c11 : Nat) (k : Int) (w : World) (hhi : hi ≤ w.heap.size) (h0 : RRd (flat SlKey.E SlKey.InR) lo hi w p0 n0 l0) (h1 : RRd (flat SlAuthority.E SlAuthority.InR) lo hi w p1 n1 l1) (h2 : RRd (flat SlMethod.E SlMethod.InR) lo hi w p2 n2 l2) (h5 : RRd (flat SlCert.E SlCert.InR) lo hi w p5 n5 l5) (h6 : RRd int lo hi w p6 n6 l6) (h7 : RRd DpArchive.E lo hi w p7 n7 l7) (h8 : RRd int lo hi w p8 n8 l8) (h9 : RRd int lo hi w p9 n9 l9) (h11 : RRd int lo hi w p11 n11 l11) (hk : 1 ≤ k) (hm : k + ((l0.map MdKey.M.nw).sum + (l1.map MdAuthority.M.nw).sum + (l2.map MdMethod.M.nw).sum + (l5.map MdCert.M.nw).sum + (l6.map Ek.mInt.nw).sum + (l7.map MdArchive.M.nw).sum + (l8.map Ek.mInt.nw).sum + (l9.map Ek.mInt.nw).sum + (l11.map Ek.mInt.nw).sum : Nat) ≤ 1000000000) : Calls Tryz.prog 23 #[.agg #[.slice p0 n0 c0, .slice p1 n1 c1, .slice p2 n2 c2, .int .i64 x3, .int .i64 x4, .slice p5 n5 c5, .slice p6 n6 c6, .slice p7 n7 c7, .slice p8 n8 c8, .slice p9 n9 c9, .int .i64 x10, .slice p11 n11 c11], .int .i64 k] w (MkD lo hi k ((l0.map MdKey.M.nw).sum + (l1.map MdAuthority.M.nw).sum + (l2.map MdMethod.M.nw).sum + (l5.map MdCert.M.nw).sum + (l6.map Ek.mInt.nw).sum + (l7.map MdArchive.M.nw).sum + (l8.map Ek.mInt.nw).sum + (l9.map Ek.mInt.nw).sum + (l11.map Ek.mInt.nw).sum) w) := by
  have HX := Lib.hid (Bx.new w 60 #[.slice p0 n0 c0, .slice p1 n1 c1, .slice p2 n2 c2, .int .i64 x3, .int .i64 x4, .slice p5 n5 c5, .slice p6 n6 c6, .slice p7 n7 c7, .slice p8 n8 c8, .slice p9 n9 c9, .int .i64 x10, .slice p11 n11 c11])
  have HM : Hid (Mk lo hi w (w.alloc (.cells #[.slice p0 n0 c0, .slice p1 n1 c1, .slice p2 n2 c2, .int .i64 x3, .int .i64 x4, .slice p5 n5 c5, .slice p6 n6 c6, .slice p7 n7 c7, .slice p8 n8 c8, .slice p9 n9 c9, .int .i64 x10, .slice p11 n11 c11] 60))) := Lib.hid (Mk.ofBelow (Dz.box1 w _))
  have HHI := Lib.hid hhi
  have HT := Lib.hid hm
  have H0 := Lib.hid (h0.below (Dz.box1 w (.cells #[.slice p0 n0 c0, .slice p1 n1 c1, .slice p2 n2 c2, .int .i64 x3, .int .i64 x4, .slice p5 n5 c5, .slice p6 n6 c6, .slice p7 n7 c7, .slice p8 n8 c8, .slice p9 n9 c9, .int .i64 x10, .slice p11 n11 c11] 60)))
  have H1 := Lib.hid (h1.below (Dz.box1 w (.cells #[.slice p0 n0 c0, .slice p1 n1 c1, .slice p2 n2 c2, .int .i64 x3, .int .i64 x4, .slice p5 n5 c5, .slice p6 n6 c6, .slice p7 n7 c7, .slice p8 n8 c8, .slice p9 n9 c9, .int .i64 x10, .slice p11 n11 c11] 60)))
  have H2 := Lib.hid (h2.below (Dz.box1 w (.cells #[.slice p0 n0 c0, .slice p1 n1 c1, .slice p2 n2 c2, .int .i64 x3, .int .i64 x4, .slice p5 n5 c5, .slice p6 n6 c6, .slice p7 n7 c7, .slice p8 n8 c8, .slice p9 n9 c9, .int .i64 x10, .slice p11 n11 c11] 60)))
  have H5 := Lib.hid (h5.below (Dz.box1 w (.cells #[.slice p0 n0 c0, .slice p1 n1 c1, .slice p2 n2 c2, .int .i64 x3, .int .i64 x4, .slice p5 n5 c5, .slice p6 n6 c6, .slice p7 n7 c7, .slice p8 n8 c8, .slice p9 n9 c9, .int .i64 x10, .slice p11 n11 c11] 60)))
  have H6 := Lib.hid (h6.below (Dz.box1 w (.cells #[.slice p0 n0 c0, .slice p1 n1 c1, .slice p2 n2 c2, .int .i64 x3, .int .i64 x4, .slice p5 n5 c5, .slice p6 n6 c6, .slice p7 n7 c7, .slice p8 n8 c8, .slice p9 n9 c9, .int .i64 x10, .slice p11 n11 c11] 60)))
  have H7 := Lib.hid (h7.below (Dz.box1 w (.cells #[.slice p0 n0 c0, .slice p1 n1 c1, .slice p2 n2 c2, .int .i64 x3, .int .i64 x4, .slice p5 n5 c5, .slice p6 n6 c6, .slice p7 n7 c7, .slice p8 n8 c8, .slice p9 n9 c9, .int .i64 x10, .slice p11 n11 c11] 60)))
  have H8 := Lib.hid (h8.below (Dz.box1 w (.cells #[.slice p0 n0 c0, .slice p1 n1 c1, .slice p2 n2 c2, .int .i64 x3, .int .i64 x4, .slice p5 n5 c5, .slice p6 n6 c6, .slice p7 n7 c7, .slice p8 n8 c8, .slice p9 n9 c9, .int .i64 x10, .slice p11 n11 c11] 60)))
  have H9 := Lib.hid (h9.below (Dz.box1 w (.cells #[.slice p0 n0 c0, .slice p1 n1 c1, .slice p2 n2 c2, .int .i64 x3, .int .i64 x4, .slice p5 n5 c5, .slice p6 n6 c6, .slice p7 n7 c7, .slice p8 n8 c8, .slice p9 n9 c9, .int .i64 x10, .slice p11 n11 c11] 60)))
  have H11 := Lib.hid (h11.below (Dz.box1 w (.cells #[.slice p0 n0 c0, .slice p1 n1 c1, .slice p2 n2 c2, .int .i64 x3, .int .i64 x4, .slice p5 n5 c5, .slice p6 n6 c6, .slice p7 n7 c7, .slice p8 n8 c8, .slice p9 n9 c9, .int .i64 x10, .slice p11 n11 c11] 60)))
  clear hm hhi h0 h1 h2 h5 h6 h7 h8 h9 h11
  go_enter Tryz.func23, Tryz.ntmps23
  obtain ⟨u0, u1, u2, u3, u4, u5, u6, u7, u8, u9, u10, u11⟩ := DpWorld.bxc HX.out
  go_wp2_with fail
  refine (MdFrame.mark_any lo hi _ _ _ _ _ _ _ _ _ _ _ _ _ _ (k) _ (Nat.le_trans HHI.out HM.out.size) H0.out H1.out H2.out (by omega) (by have h0 := HT.out; omega)).mono ?_
  rintro e w1 ⟨y1, rfl, hy1, hy2, hm⟩
  have HB1 : Hid (y1 ≤ k + ((l0.map MdKey.M.nw).sum + (l1.map MdAuthority.M.nw).sum + (l2.map MdMethod.M.nw).sum : Nat)) := Lib.hid hy2
  replace HX := Lib.hid (hm.bx HX.out (Or.inl HHI.out))
  obtain ⟨l5_1, h_, he_⟩ := RRd.mk MdCert.M H5.out hm
  have HE5 : Hid (l5_1.map MdCert.M.nw = l5.map MdCert.M.nw) := Lib.hid (he_)
  replace H5 := Lib.hid h_
  clear h_ he_
  obtain ⟨l6_1, h_, he_⟩ := RRd.mk Ek.mInt H6.out hm
  have HE6 : Hid (l6_1.map Ek.mInt.nw = l6.map Ek.mInt.nw) := Lib.hid (he_)
  replace H6 := Lib.hid h_
  clear h_ he_
  obtain ⟨l7_1, h_, he_⟩ := RRd.mk MdArchive.M H7.out hm
  have HE7 : Hid (l7_1.map MdArchive.M.nw = l7.map MdArchive.M.nw) := Lib.hid (he_)
  replace H7 := Lib.hid h_
  clear h_ he_
  obtain ⟨l8_1, h_, he_⟩ := RRd.mk Ek.mInt H8.out hm
  have HE8 : Hid (l8_1.map Ek.mInt.nw = l8.map Ek.mInt.nw) := Lib.hid (he_)
  replace H8 := Lib.hid h_
  clear h_ he_
  obtain ⟨l9_1, h_, he_⟩ := RRd.mk Ek.mInt H9.out hm
  have HE9 : Hid (l9_1.map Ek.mInt.nw = l9.map Ek.mInt.nw) := Lib.hid (he_)
  replace H9 := Lib.hid h_
  clear h_ he_
  obtain ⟨l11_1, h_, he_⟩ := RRd.mk Ek.mInt H11.out hm
  have HE11 : Hid (l11_1.map Ek.mInt.nw = l11.map Ek.mInt.nw) := Lib.hid (he_)
  replace H11 := Lib.hid h_
  clear h_ he_
  replace HM := Lib.hid (HM.out.trans hm)
  clear hm hy2 u0 u1 u2 u3 u4 u5 u6 u7 u8 u9 u10 u11
  obtain ⟨u0, u1, u2, u3, u4, u5, u6, u7, u8, u9, u10, u11⟩ := DpWorld.bxc HX.out
  go_wp2_with fail
  refine (MdCert.markS_any lo hi _ _ _ _ (y1) _ H5.out (by omega) (by rw [HE5.out]; have h0 := HT.out; have g1 := HB1.out; omega)).mono ?_
  rintro e w2 ⟨y2, rfl, hy2, hy2, hm⟩
  rw [HE5.out] at hy2
  have HB2 : Hid (y2 ≤ y1 + ((l5.map MdCert.M.nw).sum : Nat)) := Lib.hid hy2
  replace HX := Lib.hid (hm.bx HX.out (Or.inl HHI.out))
  obtain ⟨l6_2, h_, he_⟩ := RRd.mk Ek.mInt H6.out hm
  replace HE6 : Hid (l6_2.map Ek.mInt.nw = l6.map Ek.mInt.nw) := Lib.hid (he_.trans HE6.out)
  replace H6 := Lib.hid h_
  clear h_ he_
  obtain ⟨l7_2, h_, he_⟩ := RRd.mk MdArchive.M H7.out hm
  replace HE7 : Hid (l7_2.map MdArchive.M.nw = l7.map MdArchive.M.nw) := Lib.hid (he_.trans HE7.out)
  replace H7 := Lib.hid h_
  clear h_ he_
  obtain ⟨l8_2, h_, he_⟩ := RRd.mk Ek.mInt H8.out hm
  replace HE8 : Hid (l8_2.map Ek.mInt.nw = l8.map Ek.mInt.nw) := Lib.hid (he_.trans HE8.out)
  replace H8 := Lib.hid h_
  clear h_ he_
  obtain ⟨l9_2, h_, he_⟩ := RRd.mk Ek.mInt H9.out hm
  replace HE9 : Hid (l9_2.map Ek.mInt.nw = l9.map Ek.mInt.nw) := Lib.hid (he_.trans HE9.out)
  replace H9 := Lib.hid h_
  clear h_ he_
  obtain ⟨l11_2, h_, he_⟩ := RRd.mk Ek.mInt H11.out hm
  replace HE11 : Hid (l11_2.map Ek.mInt.nw = l11.map Ek.mInt.nw) := Lib.hid (he_.trans HE11.out)
  replace H11 := Lib.hid h_
  clear h_ he_
  replace HM := Lib.hid (HM.out.trans hm)
  clear hm hy2 u0 u1 u2 u3 u4 u5 u6 u7 u8 u9 u10 u11
  obtain ⟨u0, u1, u2, u3, u4, u5, u6, u7, u8, u9, u10, u11⟩ := DpWorld.bxc HX.out
  go_wp2_with fail
  refine (MdI.markS_any lo hi _ _ _ _ (y2) _ H6.out (by omega) (by rw [HE6.out]; have h0 := HT.out; have g1 := HB1.out; have g2 := HB2.out; omega)).mono ?_
  rintro e w3 ⟨y3, rfl, hy3, hy2, hm⟩
  rw [HE6.out] at hy2
  have HB3 : Hid (y3 ≤ y2 + ((l6.map Ek.mInt.nw).sum : Nat)) := Lib.hid hy2
  replace HX := Lib.hid (hm.bx HX.out (Or.inl HHI.out))
  obtain ⟨l7_3, h_, he_⟩ := RRd.mk MdArchive.M H7.out hm
  replace HE7 : Hid (l7_3.map MdArchive.M.nw = l7.map MdArchive.M.nw) := Lib.hid (he_.trans HE7.out)
  replace H7 := Lib.hid h_
  clear h_ he_
  obtain ⟨l8_3, h_, he_⟩ := RRd.mk Ek.mInt H8.out hm
  replace HE8 : Hid (l8_3.map Ek.mInt.nw = l8.map Ek.mInt.nw) := Lib.hid (he_.trans HE8.out)
  replace H8 := Lib.hid h_
  clear h_ he_
  obtain ⟨l9_3, h_, he_⟩ := RRd.mk Ek.mInt H9.out hm
  replace HE9 : Hid (l9_3.map Ek.mInt.nw = l9.map Ek.mInt.nw) := Lib.hid (he_.trans HE9.out)
  replace H9 := Lib.hid h_
  clear h_ he_
  obtain ⟨l11_3, h_, he_⟩ := RRd.mk Ek.mInt H11.out hm
  replace HE11 : Hid (l11_3.map Ek.mInt.nw = l11.map Ek.mInt.nw) := Lib.hid (he_.trans HE11.out)
  replace H11 := Lib.hid h_
  clear h_ he_
  replace HM := Lib.hid (HM.out.trans hm)
  clear hm hy2 u0 u1 u2 u3 u4 u5 u6 u7 u8 u9 u10 u11
  obtain ⟨u0, u1, u2, u3, u4, u5, u6, u7, u8, u9, u10, u11⟩ := DpWorld.bxc HX.out
  go_wp2_with fail
  refine (MdArchive.markS_any lo hi _ _ _ _ (y3) _ H7.out (by omega) (by rw [HE7.out]; have h0 := HT.out; have g1 := HB1.out; have g2 := HB2.out; have g3 := HB3.out; omega)).mono ?_
  rintro e w4 ⟨y4, rfl, hy4, hy2, hm⟩
  rw [HE7.out] at hy2
  have HB4 : Hid (y4 ≤ y3 + ((l7.map MdArchive.M.nw).sum : Nat)) := Lib.hid hy2
  replace HX := Lib.hid (hm.bx HX.out (Or.inl HHI.out))
  obtain ⟨l8_4, h_, he_⟩ := RRd.mk Ek.mInt H8.out hm
  replace HE8 : Hid (l8_4.map Ek.mInt.nw = l8.map Ek.mInt.nw) := Lib.hid (he_.trans HE8.out)
  replace H8 := Lib.hid h_
  clear h_ he_
  obtain ⟨l9_4, h_, he_⟩ := RRd.mk Ek.mInt H9.out hm
  replace HE9 : Hid (l9_4.map Ek.mInt.nw = l9.map Ek.mInt.nw) := Lib.hid (he_.trans HE9.out)
  replace H9 := Lib.hid h_
  clear h_ he_
  obtain ⟨l11_4, h_, he_⟩ := RRd.mk Ek.mInt H11.out hm
  replace HE11 : Hid (l11_4.map Ek.mInt.nw = l11.map Ek.mInt.nw) := Lib.hid (he_.trans HE11.out)
  replace H11 := Lib.hid h_
  clear h_ he_
  replace HM := Lib.hid (HM.out.trans hm)
  clear hm hy2 u0 u1 u2 u3 u4 u5 u6 u7 u8 u9 u10 u11
  obtain ⟨u0, u1, u2, u3, u4, u5, u6, u7, u8, u9, u10, u11⟩ := DpWorld.bxc HX.out
  go_wp2_with fail
  refine (MdI.markS_any lo hi _ _ _ _ (y4) _ H8.out (by omega) (by rw [HE8.out]; have h0 := HT.out; have g1 := HB1.out; have g2 := HB2.out; have g3 := HB3.out; have g4 := HB4.out; omega)).mono ?_
  rintro e w5 ⟨y5, rfl, hy5, hy2, hm⟩
  rw [HE8.out] at hy2
  have HB5 : Hid (y5 ≤ y4 + ((l8.map Ek.mInt.nw).sum : Nat)) := Lib.hid hy2
  replace HX := Lib.hid (hm.bx HX.out (Or.inl HHI.out))
  obtain ⟨l9_5, h_, he_⟩ := RRd.mk Ek.mInt H9.out hm
  replace HE9 : Hid (l9_5.map Ek.mInt.nw = l9.map Ek.mInt.nw) := Lib.hid (he_.trans HE9.out)
  replace H9 := Lib.hid h_
  clear h_ he_
  obtain ⟨l11_5, h_, he_⟩ := RRd.mk Ek.mInt H11.out hm
  replace HE11 : Hid (l11_5.map Ek.mInt.nw = l11.map Ek.mInt.nw) := Lib.hid (he_.trans HE11.out)
  replace H11 := Lib.hid h_
  clear h_ he_
  replace HM := Lib.hid (HM.out.trans hm)
  clear hm hy2 u0 u1 u2 u3 u4 u5 u6 u7 u8 u9 u10 u11
  obtain ⟨u0, u1, u2, u3, u4, u5, u6, u7, u8, u9, u10, u11⟩ := DpWorld.bxc HX.out
  go_wp2_with fail
  refine (MdI.markS_any lo hi _ _ _ _ (y5) _ H9.out (by omega) (by rw [HE9.out]; have h0 := HT.out; have g1 := HB1.out; have g2 := HB2.out; have g3 := HB3.out; have g4 := HB4.out; have g5 := HB5.out; omega)).mono ?_
  rintro e w6 ⟨y6, rfl, hy6, hy2, hm⟩
  rw [HE9.out] at hy2
  have HB6 : Hid (y6 ≤ y5 + ((l9.map Ek.mInt.nw).sum : Nat)) := Lib.hid hy2
  replace HX := Lib.hid (hm.bx HX.out (Or.inl HHI.out))
  obtain ⟨l11_6, h_, he_⟩ := RRd.mk Ek.mInt H11.out hm
  replace HE11 : Hid (l11_6.map Ek.mInt.nw = l11.map Ek.mInt.nw) := Lib.hid (he_.trans HE11.out)
  replace H11 := Lib.hid h_
  clear h_ he_
  replace HM := Lib.hid (HM.out.trans hm)
  clear hm hy2 u0 u1 u2 u3 u4 u5 u6 u7 u8 u9 u10 u11
  obtain ⟨u0, u1, u2, u3, u4, u5, u6, u7, u8, u9, u10, u11⟩ := DpWorld.bxc HX.out
  go_wp2_with fail
  refine (MdI.markS_any lo hi _ _ _ _ (y6) _ H11.out (by omega) (by rw [HE11.out]; have h0 := HT.out; have g1 := HB1.out; have g2 := HB2.out; have g3 := HB3.out; have g4 := HB4.out; have g5 := HB5.out; have g6 := HB6.out; omega)).mono ?_
  rintro e w7 ⟨y7, rfl, hy7, hy2, hm⟩
  rw [HE11.out] at hy2
  have HB7 : Hid (y7 ≤ y6 + ((l11.map Ek.mInt.nw).sum : Nat)) := Lib.hid hy2
  replace HX := Lib.hid (hm.bx HX.out (Or.inl HHI.out))
  replace HM := Lib.hid (HM.out.trans hm)
  clear hm hy2 u0 u1 u2 u3 u4 u5 u6 u7 u8 u9 u10 u11
  go_wp2_with fail
  go_ret
  exact ⟨y7, rfl, by omega, by have g1 := HB1.out; have g2 := HB2.out; have g3 := HB3.out; have g4 := HB4.out; have g5 := HB5.out; have g6 := HB6.out; have g7 := HB7.out; omega, HM.out⟩
end Go.Proofs.YtpjckbdljbpliaaGreat.MdWorld
