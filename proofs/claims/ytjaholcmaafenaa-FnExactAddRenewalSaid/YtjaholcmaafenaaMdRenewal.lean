/- Marks over Renewal, by value and in slices, in memory that may be written. -/
import Derived.Test.YtjaholcmaafenaaEk
import Derived.Test.YtjaholcmaafenaaDpRenewal
import Derived.Test.YtjaholcmaafenaaMdA
import Derived.LoopTactic
import Derived.Outline
namespace Go.Proofs.Ytjaholcmaafenaa.MdRenewal
open Go.ChangeShapes Go.WideShapes Go.ChangeAt Go.RowKit Sl St Ed Ek
def M : Ek.MkE DpRenewal.E := (Ek.mPair Ek.mInt (Ek.mPair Ek.mInt (Ek.mPair Ek.mInt (Ek.mPair (Ek.mSl MdStep.M (by show 2 ≤ 16; omega)) (Ek.mSl MdStamp.M (by show 5 ≤ 16; omega))))))
set_option maxRecDepth 100000 in
set_option maxHeartbeats 8000000 in
theorem markS_any (lo hi : Nat) (p : Option Addr) (n c : Nat) (xs : List DpRenewal.A) (k : Int) (w : World) (hr : RRd DpRenewal.E lo hi w p n xs) (hk : 1 ≤ k) (hm : k + ((xs.map M.nw).sum : Nat) ≤ 1000000000) : Calls Try.prog 77 #[.slice p n c, .int .i64 k] w (MkD lo hi k (xs.map M.nw).sum w) := by
  have HR := Lib.hid hr
  have hle := hr.le
  have HM := Lib.hid hm
  have HLEN := Lib.hid hr.len
  clear hr hm
  go_enter Try.func77, Try.ntmps77
  go_wp2_with fail
  go_loopw [1, 5] (fun x i wr => ∃ (j : Nat) (y : Int), j ≤ n ∧ i = .int .i64 j ∧ x = .int .i64 y ∧ k ≤ y ∧ Hid (y ≤ k + (nwt M xs j : Nat)) ∧ Hid (Mk lo hi w wr)) (fun _ i _ => n - (intOf i).toNat)
  case atStart => exact ⟨0, k, Nat.zero_le _, rfl, rfl, Int.le_refl _, Lib.hid (by rw [nwt_zero]; omega), Lib.hid (Mk.refl _ _ _)⟩
  case round =>
    obtain ⟨j, y, hj, rfl, rfl, hky, HY, HK⟩ := hrel
    by_cases hlt : j < n
    · obtain ⟨xs', hr', he⟩ := RRd.mk M HR.out HK.out
      obtain ⟨b, o, x, cs, rfl, hS, hbw, hx, hc, hrd⟩ := RdD.at_ hr' hlt
      obtain ⟨x0, x1, x2, l3, l4⟩ := x
      obtain ⟨p3, n3, c3, p4, n4, c4, rfl, b0, b1, b2, h3, h4⟩ := DpRenewal.ex hrd
      have hnw : M.nw (x0, x1, x2, l3, l4) = (1 + (1 + (1 + ((l3.map MdStep.M.nw).sum + ((l4.map MdStamp.M.nw).sum))))) := rfl
      have hnx := nwt_next (M := M) he hx
      rw [hnw] at hnx
      have hal := nwt_le (M := M) (xs := xs) (j + 1)
      have HNX : Hid (nwt M xs (j + 1) = nwt M xs j + (1 + (1 + (1 + ((l3.map MdStep.M.nw).sum + ((l4.map MdStamp.M.nw).sum)))))) := Lib.hid hnx
      have HTOP : Hid (y + ((1 + (1 + (1 + ((l3.map MdStep.M.nw).sum + ((l4.map MdStamp.M.nw).sum))))) : Nat) ≤ 1000000000) := Lib.hid (by have h1 := HY.out; have h2 := HM.out; omega)
      have HU0 : Hid (wr.cell? ⟨b, o + j * 5, none⟩ = some (.int .i64 x0)) := Lib.hid (hc 0 _ rfl)
      have HU1 : Hid (wr.cell? ⟨b, o + j * 5 + 1, none⟩ = some (.int .i64 x1)) := Lib.hid (hc 1 _ rfl)
      have HU2 : Hid (wr.cell? ⟨b, o + j * 5 + 2, none⟩ = some (.int .i64 x2)) := Lib.hid (hc 2 _ rfl)
      have HU3 : Hid (wr.cell? ⟨b, o + j * 5 + 3, none⟩ = some (.slice p3 n3 c3)) := Lib.hid (hc 3 _ rfl)
      have HU4 : Hid (wr.cell? ⟨b, o + j * 5 + 4, none⟩ = some (.slice p4 n4 c4)) := Lib.hid (hc 4 _ rfl)
      have Gb0 := Lib.hid b0
      have Gb1 := Lib.hid b1
      have Gb2 := Lib.hid b2
      have Gh3 := Lib.hid h3
      have Gh4 := Lib.hid h4
      have HS := Lib.hid hS
      have HBW := Lib.hid hbw
      clear hnw hnx hal hc hx he hS hbw hrd b0 b1 b2 h3 h4
      have i1 : (0 : Int) ≤ (j : Int) := by omega
      have i2 : (j : Int) < (n : Int) := by omega
      have u0 := HU0.out
      have f0 : wr.frozen? ⟨b, o + j * 5, none⟩ = false := HS.out.2.2 _
      have u1 := HU1.out
      have f1 : wr.frozen? ⟨b, o + j * 5 + 1, none⟩ = false := HS.out.2.2 _
      have u2 := HU2.out
      have f2 : wr.frozen? ⟨b, o + j * 5 + 2, none⟩ = false := HS.out.2.2 _
      have u3 := HU3.out
      have hq : 0 ≤ y := by omega
      have hq2 : y + 3 ≤ 9223372036854775000 := by have h0 := HTOP.out; omega
      have HW : Hid (Mk lo hi w (((wr.setCell ⟨b, o + j * 5, none⟩ (.int .i64 y)).setCell ⟨b, o + j * 5 + 1, none⟩ (.int .i64 (y + 1))).setCell ⟨b, o + j * 5 + 2, none⟩ (.int .i64 (y + 1 + 1)))) := Lib.hid (((HK.out.set HS.out.1 HS.out.2.1 HU0.out (Kd.ofInt (by unfold Ed.InI; have h := HTOP.out; omega))).set HS.out.1 HS.out.2.1 (cell_far HU1.out (by omega)) (Kd.ofInt (by unfold Ed.InI; have h := HTOP.out; omega))).set HS.out.1 HS.out.2.1 (cell_far (cell_far HU2.out (by omega)) (by omega)) (Kd.ofInt (by unfold Ed.InI; have h := HTOP.out; omega)))
      have HWb : Hid (Mk lo hi wr (((wr.setCell ⟨b, o + j * 5, none⟩ (.int .i64 y)).setCell ⟨b, o + j * 5 + 1, none⟩ (.int .i64 (y + 1))).setCell ⟨b, o + j * 5 + 2, none⟩ (.int .i64 (y + 1 + 1)))) := Lib.hid ((((Mk.refl lo hi wr).set HS.out.1 HS.out.2.1 HU0.out (Kd.ofInt (by unfold Ed.InI; have h := HTOP.out; omega))).set HS.out.1 HS.out.2.1 (cell_far HU1.out (by omega)) (Kd.ofInt (by unfold Ed.InI; have h := HTOP.out; omega))).set HS.out.1 HS.out.2.1 (cell_far (cell_far HU2.out (by omega)) (by omega)) (Kd.ofInt (by unfold Ed.InI; have h := HTOP.out; omega)))
      obtain ⟨la, ha, hea⟩ := RRd.mk MdStep.M (show RRd (flat SlStep.E SlStep.InR) lo hi wr p3 n3 l3 from Gh3.out) HWb.out
      have HA := Lib.hid ha
      have HSM : Hid ((la.map MdStep.M.nw).sum = (l3.map MdStep.M.nw).sum) := Lib.hid (by rw [hea])
      clear ha hea
      go_wp2_with fail
      refine (MdStep.markS_any lo hi _ _ _ la (y + 1 + 1 + 1) _ HA.out (by omega) (by rw [HSM.out]; have h0 := HTOP.out; omega)).mono ?_
      rintro e w2 ⟨y2, rfl, hy1, hy2, hm⟩
      rw [HSM.out] at hy2
      have HB2 : Hid (y2 ≤ y + 1 + 1 + 1 + ((l3.map MdStep.M.nw).sum : Nat)) := Lib.hid hy2
      have HK2 := Lib.hid (HW.out.trans hm)
      have HMb := Lib.hid (HWb.out.trans hm)
      clear u0 f0 u1 f1 u2 f2 hq hq2 u3
      clear HW HWb HA HSM hm hy2
      obtain ⟨v_, e_, kd_⟩ := HMb.out.cell b _ _ HBW.out HU4.out
      obtain rfl := kd_.slice
      replace HU4 := Lib.hid e_
      clear e_ kd_
      obtain ⟨l4_3, h_, he_⟩ := RRd.mk MdStamp.M (show RRd (flat SlStamp.E SlStamp.InR) lo hi wr p4 n4 l4 from Gh4.out) HMb.out
      have HE4 : Hid (l4_3.map MdStamp.M.nw = l4.map MdStamp.M.nw) := Lib.hid (he_)
      replace Gh4 := Lib.hid h_
      clear h_ he_
      replace HS := Lib.hid (HS.out.mk HBW.out HMb.out)
      replace HBW := Lib.hid (Nat.lt_of_lt_of_le HBW.out HMb.out.size)
      clear HMb
      have u4 := HU4.out
      have HW : Hid (Mk lo hi w w2) := Lib.hid HK2.out
      have HWb : Hid (Mk lo hi w2 w2) := Lib.hid (Mk.refl lo hi w2)
      obtain ⟨la, ha, hea⟩ := RRd.mk MdStamp.M (show RRd (flat SlStamp.E SlStamp.InR) lo hi w2 p4 n4 l4_3 from Gh4.out) HWb.out
      have HA := Lib.hid ha
      have HSM : Hid ((la.map MdStamp.M.nw).sum = (l4.map MdStamp.M.nw).sum) := Lib.hid (by rw [hea, HE4.out])
      clear ha hea
      go_wp2_with fail
      refine (MdStamp.markS_any lo hi _ _ _ la (y2) _ HA.out (by omega) (by rw [HSM.out]; have h0 := HTOP.out; have g2 := HB2.out; omega)).mono ?_
      rintro e w3 ⟨y3, rfl, hy1, hy2, hm⟩
      rw [HSM.out] at hy2
      have HB3 : Hid (y3 ≤ y2 + ((l4.map MdStamp.M.nw).sum : Nat)) := Lib.hid hy2
      have HK3 := Lib.hid (HW.out.trans hm)
      have HMb := Lib.hid (HWb.out.trans hm)
      clear u4
      clear HW HWb HA HSM hm hy2
      replace HS := Lib.hid (HS.out.mk HBW.out HMb.out)
      replace HBW := Lib.hid (Nat.lt_of_lt_of_le HBW.out HMb.out.size)
      clear HMb
      go_wp2_with fail
      go_roundw
      case rel => exact ⟨j + 1, y3, by omega, by go_num, rfl, by omega, Lib.hid (by have h1 := HY.out; have h2 := HNX.out; have g2 := HB2.out; have g3 := HB3.out; omega), Lib.hid HK3.out⟩
      case measure => simp [intOf]; omega
    · obtain rfl : j = n := by omega
      have HE : Hid (y ≤ k + ((xs.map M.nw).sum : Nat)) := Lib.hid (by have h := HY.out; rw [nwt_all HLEN.out] at h; exact h)
      go_wp2_with fail
      go_ret
      exact ⟨y, rfl, hky, HE.out, HK.out⟩
set_option maxRecDepth 100000 in
set_option maxHeartbeats 4000000 in
theorem mark_any (lo hi : Nat) (x0 : Int) (x1 : Int) (x2 : Int) (l3 : List (Int × Bool)) (p3 : Option Addr) (n3 c3 : Nat) (l4 : List (Int × Int × Int × Int × Int)) (p4 : Option Addr) (n4 c4 : Nat) (k : Int) (w : World) (hhi : hi ≤ w.heap.size) (h3 : RRd (flat SlStep.E SlStep.InR) lo hi w p3 n3 l3) (h4 : RRd (flat SlStamp.E SlStamp.InR) lo hi w p4 n4 l4) (hk : 1 ≤ k) (hm : k + ((l3.map MdStep.M.nw).sum + (l4.map MdStamp.M.nw).sum : Nat) ≤ 1000000000) : Calls Try.prog 62 #[.agg #[.int .i64 x0, .int .i64 x1, .int .i64 x2, .slice p3 n3 c3, .slice p4 n4 c4], .int .i64 k] w (MkD lo hi k ((l3.map MdStep.M.nw).sum + (l4.map MdStamp.M.nw).sum) w) := by
  have HX := Lib.hid (Bx.new w 110 #[.int .i64 x0, .int .i64 x1, .int .i64 x2, .slice p3 n3 c3, .slice p4 n4 c4])
  have HM : Hid (Mk lo hi w (w.alloc (.cells #[.int .i64 x0, .int .i64 x1, .int .i64 x2, .slice p3 n3 c3, .slice p4 n4 c4] 110))) := Lib.hid (Mk.ofBelow (Dz.box1 w _))
  have HHI := Lib.hid hhi
  have HT := Lib.hid hm
  have H3 := Lib.hid (h3.below (Dz.box1 w (.cells #[.int .i64 x0, .int .i64 x1, .int .i64 x2, .slice p3 n3 c3, .slice p4 n4 c4] 110)))
  have H4 := Lib.hid (h4.below (Dz.box1 w (.cells #[.int .i64 x0, .int .i64 x1, .int .i64 x2, .slice p3 n3 c3, .slice p4 n4 c4] 110)))
  clear hm hhi h3 h4
  go_enter Try.func62, Try.ntmps62
  obtain ⟨u0, u1, u2, u3, u4⟩ := DpRenewal.bxc HX.out
  go_wp2_with fail
  refine (MdStep.markS_any lo hi _ _ _ _ (k) _ H3.out (by omega) (by have h0 := HT.out; omega)).mono ?_
  rintro e w1 ⟨y1, rfl, hy1, hy2, hm⟩
  have HB1 : Hid (y1 ≤ k + ((l3.map MdStep.M.nw).sum : Nat)) := Lib.hid hy2
  replace HX := Lib.hid (hm.bx HX.out (Or.inl HHI.out))
  obtain ⟨l4_1, h_, he_⟩ := RRd.mk MdStamp.M H4.out hm
  have HE4 : Hid (l4_1.map MdStamp.M.nw = l4.map MdStamp.M.nw) := Lib.hid (he_)
  replace H4 := Lib.hid h_
  clear h_ he_
  replace HM := Lib.hid (HM.out.trans hm)
  clear hm hy2 u0 u1 u2 u3 u4
  obtain ⟨u0, u1, u2, u3, u4⟩ := DpRenewal.bxc HX.out
  go_wp2_with fail
  refine (MdStamp.markS_any lo hi _ _ _ _ (y1) _ H4.out (by omega) (by rw [HE4.out]; have h0 := HT.out; have g1 := HB1.out; omega)).mono ?_
  rintro e w2 ⟨y2, rfl, hy2, hy2, hm⟩
  rw [HE4.out] at hy2
  have HB2 : Hid (y2 ≤ y1 + ((l4.map MdStamp.M.nw).sum : Nat)) := Lib.hid hy2
  replace HX := Lib.hid (hm.bx HX.out (Or.inl HHI.out))
  replace HM := Lib.hid (HM.out.trans hm)
  clear hm hy2 u0 u1 u2 u3 u4
  go_wp2_with fail
  go_ret
  exact ⟨y2, rfl, by omega, by have g1 := HB1.out; have g2 := HB2.out; omega, HM.out⟩
end Go.Proofs.Ytjaholcmaafenaa.MdRenewal
