/- Marks over Strand, by value and in slices, in memory that may be written. -/
import Derived.Test.YtjaholcmaafenaaEk
import Derived.Test.YtjaholcmaafenaaDpStrand
import Derived.Test.YtjaholcmaafenaaMdPiece
import Derived.Test.YtjaholcmaafenaaMdRenewal
import Derived.LoopTactic
import Derived.Outline
namespace Go.Proofs.Ytjaholcmaafenaa.MdStrand
open Go.ChangeShapes Go.WideShapes Go.ChangeAt Go.RowKit Sl St Ed Ek
def M : Ek.MkE DpStrand.E := (Ek.mPair (Ek.mSl MdPiece.M (by show 3 ≤ 16; omega)) (Ek.mSl MdRenewal.M (by show 5 ≤ 16; omega)))
set_option maxRecDepth 100000 in
set_option maxHeartbeats 8000000 in
theorem markS_any (lo hi : Nat) (p : Option Addr) (n c : Nat) (xs : List DpStrand.A) (k : Int) (w : World) (hr : RRd DpStrand.E lo hi w p n xs) (hk : 1 ≤ k) (hm : k + ((xs.map M.nw).sum : Nat) ≤ 1000000000) : Calls Try.prog 93 #[.slice p n c, .int .i64 k] w (MkD lo hi k (xs.map M.nw).sum w) := by
  have HR := Lib.hid hr
  have hle := hr.le
  have HM := Lib.hid hm
  have HLEN := Lib.hid hr.len
  clear hr hm
  go_enter Try.func93, Try.ntmps93
  go_wp2_with fail
  go_loopw [1, 5] (fun x i wr => ∃ (j : Nat) (y : Int), j ≤ n ∧ i = .int .i64 j ∧ x = .int .i64 y ∧ k ≤ y ∧ Hid (y ≤ k + (nwt M xs j : Nat)) ∧ Hid (Mk lo hi w wr)) (fun _ i _ => n - (intOf i).toNat)
  case atStart => exact ⟨0, k, Nat.zero_le _, rfl, rfl, Int.le_refl _, Lib.hid (by rw [nwt_zero]; omega), Lib.hid (Mk.refl _ _ _)⟩
  case round =>
    obtain ⟨j, y, hj, rfl, rfl, hky, HY, HK⟩ := hrel
    by_cases hlt : j < n
    · obtain ⟨xs', hr', he⟩ := RRd.mk M HR.out HK.out
      obtain ⟨b, o, x, cs, rfl, hS, hbw, hx, hc, hrd⟩ := RdD.at_ hr' hlt
      obtain ⟨l0, l1⟩ := x
      obtain ⟨p0, n0, c0, p1, n1, c1, rfl, h0, h1⟩ := DpStrand.ex hrd
      have hnw : M.nw (l0, l1) = ((l0.map MdPiece.M.nw).sum + ((l1.map MdRenewal.M.nw).sum)) := rfl
      have hnx := nwt_next (M := M) he hx
      rw [hnw] at hnx
      have hal := nwt_le (M := M) (xs := xs) (j + 1)
      have HNX : Hid (nwt M xs (j + 1) = nwt M xs j + ((l0.map MdPiece.M.nw).sum + ((l1.map MdRenewal.M.nw).sum))) := Lib.hid hnx
      have HTOP : Hid (y + (((l0.map MdPiece.M.nw).sum + ((l1.map MdRenewal.M.nw).sum)) : Nat) ≤ 1000000000) := Lib.hid (by have h1 := HY.out; have h2 := HM.out; omega)
      have HU0 : Hid (wr.cell? ⟨b, o + j * 2, none⟩ = some (.slice p0 n0 c0)) := Lib.hid (hc 0 _ rfl)
      have HU1 : Hid (wr.cell? ⟨b, o + j * 2 + 1, none⟩ = some (.slice p1 n1 c1)) := Lib.hid (hc 1 _ rfl)
      have Gh0 := Lib.hid h0
      have Gh1 := Lib.hid h1
      have HS := Lib.hid hS
      have HBW := Lib.hid hbw
      clear hnw hnx hal hc hx he hS hbw hrd h0 h1
      have i1 : (0 : Int) ≤ (j : Int) := by omega
      have i2 : (j : Int) < (n : Int) := by omega
      have u0 := HU0.out
      have HW : Hid (Mk lo hi w wr) := Lib.hid HK.out
      have HWb : Hid (Mk lo hi wr wr) := Lib.hid (Mk.refl lo hi wr)
      obtain ⟨la, ha, hea⟩ := RRd.mk MdPiece.M (show RRd DpPiece.E lo hi wr p0 n0 l0 from Gh0.out) HWb.out
      have HA := Lib.hid ha
      have HSM : Hid ((la.map MdPiece.M.nw).sum = (l0.map MdPiece.M.nw).sum) := Lib.hid (by rw [hea])
      clear ha hea
      go_wp2_with fail
      refine (MdPiece.markS_any lo hi _ _ _ la (y) _ HA.out (by omega) (by rw [HSM.out]; have h0 := HTOP.out; omega)).mono ?_
      rintro e w2 ⟨y2, rfl, hy1, hy2, hm⟩
      rw [HSM.out] at hy2
      have HB2 : Hid (y2 ≤ y + ((l0.map MdPiece.M.nw).sum : Nat)) := Lib.hid hy2
      have HK2 := Lib.hid (HW.out.trans hm)
      have HMb := Lib.hid (HWb.out.trans hm)
      clear u0
      clear HW HWb HA HSM hm hy2
      obtain ⟨v_, e_, kd_⟩ := HMb.out.cell b _ _ HBW.out HU1.out
      obtain rfl := kd_.slice
      replace HU1 := Lib.hid e_
      clear e_ kd_
      obtain ⟨l1_3, h_, he_⟩ := RRd.mk MdRenewal.M (show RRd DpRenewal.E lo hi wr p1 n1 l1 from Gh1.out) HMb.out
      have HE1 : Hid (l1_3.map MdRenewal.M.nw = l1.map MdRenewal.M.nw) := Lib.hid (he_)
      replace Gh1 := Lib.hid h_
      clear h_ he_
      replace HS := Lib.hid (HS.out.mk HBW.out HMb.out)
      replace HBW := Lib.hid (Nat.lt_of_lt_of_le HBW.out HMb.out.size)
      clear HMb
      have u1 := HU1.out
      have HW : Hid (Mk lo hi w w2) := Lib.hid HK2.out
      have HWb : Hid (Mk lo hi w2 w2) := Lib.hid (Mk.refl lo hi w2)
      obtain ⟨la, ha, hea⟩ := RRd.mk MdRenewal.M (show RRd DpRenewal.E lo hi w2 p1 n1 l1_3 from Gh1.out) HWb.out
      have HA := Lib.hid ha
      have HSM : Hid ((la.map MdRenewal.M.nw).sum = (l1.map MdRenewal.M.nw).sum) := Lib.hid (by rw [hea, HE1.out])
      clear ha hea
      go_wp2_with fail
      refine (MdRenewal.markS_any lo hi _ _ _ la (y2) _ HA.out (by omega) (by rw [HSM.out]; have h0 := HTOP.out; have g2 := HB2.out; omega)).mono ?_
      rintro e w3 ⟨y3, rfl, hy1, hy2, hm⟩
      rw [HSM.out] at hy2
      have HB3 : Hid (y3 ≤ y2 + ((l1.map MdRenewal.M.nw).sum : Nat)) := Lib.hid hy2
      have HK3 := Lib.hid (HW.out.trans hm)
      have HMb := Lib.hid (HWb.out.trans hm)
      clear u1
      clear HW HWb HA HSM hm hy2
      replace HS := Lib.hid (HS.out.mk HBW.out HMb.out)
      replace HBW := Lib.hid (Nat.lt_of_lt_of_le HBW.out HMb.out.size)
      clear HMb
      go_wp2_with fail
      go_roundw
      case rel => exact ⟨j + 1, y3, by omega, by go_num, rfl, by omega, Lib.hid (by have h1 := HY.out; have h2 := HNX.out; have g2 := HB2.out; have g3 := HB3.out; omega), Lib.hid HK3.out⟩
      case measure => simp [intOf]; omega
    · obtain rfl : j = n := by omega
      have HE : Hid (y ≤ k + ((xs.map M.nw).sum : Nat)) := Lib.hid (by have h := HY.out; rw [nwt_all HLEN.out] at h; exact h)
      go_wp2_with fail
      go_ret
      exact ⟨y, rfl, hky, HE.out, HK.out⟩
set_option maxRecDepth 100000 in
set_option maxHeartbeats 4000000 in
theorem mark_any (lo hi : Nat) (l0 : List DpPiece.A) (p0 : Option Addr) (n0 c0 : Nat) (l1 : List DpRenewal.A) (p1 : Option Addr) (n1 c1 : Nat) (k : Int) (w : World) (hhi : hi ≤ w.heap.size) (h0 : RRd DpPiece.E lo hi w p0 n0 l0) (h1 : RRd DpRenewal.E lo hi w p1 n1 l1) (hk : 1 ≤ k) (hm : k + ((l0.map MdPiece.M.nw).sum + (l1.map MdRenewal.M.nw).sum : Nat) ≤ 1000000000) : Calls Try.prog 19 #[.agg #[.slice p0 n0 c0, .slice p1 n1 c1], .int .i64 k] w (MkD lo hi k ((l0.map MdPiece.M.nw).sum + (l1.map MdRenewal.M.nw).sum) w) := by
  have HX := Lib.hid (Bx.new w 36 #[.slice p0 n0 c0, .slice p1 n1 c1])
  have HM : Hid (Mk lo hi w (w.alloc (.cells #[.slice p0 n0 c0, .slice p1 n1 c1] 36))) := Lib.hid (Mk.ofBelow (Dz.box1 w _))
  have HHI := Lib.hid hhi
  have HT := Lib.hid hm
  have H0 := Lib.hid (h0.below (Dz.box1 w (.cells #[.slice p0 n0 c0, .slice p1 n1 c1] 36)))
  have H1 := Lib.hid (h1.below (Dz.box1 w (.cells #[.slice p0 n0 c0, .slice p1 n1 c1] 36)))
  clear hm hhi h0 h1
  go_enter Try.func19, Try.ntmps19
  obtain ⟨u0, u1⟩ := DpStrand.bxc HX.out
  go_wp2_with fail
  refine (MdPiece.markS_any lo hi _ _ _ _ (k) _ H0.out (by omega) (by have h0 := HT.out; omega)).mono ?_
  rintro e w1 ⟨y1, rfl, hy1, hy2, hm⟩
  have HB1 : Hid (y1 ≤ k + ((l0.map MdPiece.M.nw).sum : Nat)) := Lib.hid hy2
  replace HX := Lib.hid (hm.bx HX.out (Or.inl HHI.out))
  obtain ⟨l1_1, h_, he_⟩ := RRd.mk MdRenewal.M H1.out hm
  have HE1 : Hid (l1_1.map MdRenewal.M.nw = l1.map MdRenewal.M.nw) := Lib.hid (he_)
  replace H1 := Lib.hid h_
  clear h_ he_
  replace HM := Lib.hid (HM.out.trans hm)
  clear hm hy2 u0 u1
  obtain ⟨u0, u1⟩ := DpStrand.bxc HX.out
  go_wp2_with fail
  refine (MdRenewal.markS_any lo hi _ _ _ _ (y1) _ H1.out (by omega) (by rw [HE1.out]; have h0 := HT.out; have g1 := HB1.out; omega)).mono ?_
  rintro e w2 ⟨y2, rfl, hy2, hy2, hm⟩
  rw [HE1.out] at hy2
  have HB2 : Hid (y2 ≤ y1 + ((l1.map MdRenewal.M.nw).sum : Nat)) := Lib.hid hy2
  replace HX := Lib.hid (hm.bx HX.out (Or.inl HHI.out))
  replace HM := Lib.hid (HM.out.trans hm)
  clear hm hy2 u0 u1
  go_wp2_with fail
  go_ret
  exact ⟨y2, rfl, by omega, by have g1 := HB1.out; have g2 := HB2.out; omega, HM.out⟩
end Go.Proofs.Ytjaholcmaafenaa.MdStrand
