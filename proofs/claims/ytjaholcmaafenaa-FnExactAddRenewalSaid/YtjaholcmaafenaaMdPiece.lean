/- Marks over Piece, by value and in slices, in memory that may be written. -/
import Derived.Test.YtjaholcmaafenaaEk
import Derived.Test.YtjaholcmaafenaaDpPiece
import Derived.Test.YtjaholcmaafenaaMdA
import Derived.LoopTactic
import Derived.Outline
namespace Go.Proofs.Ytjaholcmaafenaa.MdPiece
open Go.ChangeShapes Go.WideShapes Go.ChangeAt Go.RowKit Sl St Ed Ek
def M : Ek.MkE DpPiece.E := (Ek.mPair Ek.mInt (Ek.mPair (Ek.mSl Ek.mInt (by show 1 ≤ 16; omega)) Ek.mInt))
set_option maxRecDepth 100000 in
set_option maxHeartbeats 8000000 in
theorem markS_any (lo hi : Nat) (p : Option Addr) (n c : Nat) (xs : List DpPiece.A) (k : Int) (w : World) (hr : RRd DpPiece.E lo hi w p n xs) (hk : 1 ≤ k) (hm : k + ((xs.map M.nw).sum : Nat) ≤ 1000000000) : Calls Try.prog 76 #[.slice p n c, .int .i64 k] w (MkD lo hi k (xs.map M.nw).sum w) := by
  have HR := Lib.hid hr
  have hle := hr.le
  have HM := Lib.hid hm
  have HLEN := Lib.hid hr.len
  clear hr hm
  go_enter Try.func76, Try.ntmps76
  go_wp2_with fail
  go_loopw [1, 5] (fun x i wr => ∃ (j : Nat) (y : Int), j ≤ n ∧ i = .int .i64 j ∧ x = .int .i64 y ∧ k ≤ y ∧ Hid (y ≤ k + (nwt M xs j : Nat)) ∧ Hid (Mk lo hi w wr)) (fun _ i _ => n - (intOf i).toNat)
  case atStart => exact ⟨0, k, Nat.zero_le _, rfl, rfl, Int.le_refl _, Lib.hid (by rw [nwt_zero]; omega), Lib.hid (Mk.refl _ _ _)⟩
  case round =>
    obtain ⟨j, y, hj, rfl, rfl, hky, HY, HK⟩ := hrel
    by_cases hlt : j < n
    · obtain ⟨xs', hr', he⟩ := RRd.mk M HR.out HK.out
      obtain ⟨b, o, x, cs, rfl, hS, hbw, hx, hc, hrd⟩ := RdD.at_ hr' hlt
      obtain ⟨x0, l1, x2⟩ := x
      obtain ⟨p1, n1, c1, rfl, b0, h1, b2⟩ := DpPiece.ex hrd
      have hnw : M.nw (x0, l1, x2) = (1 + ((l1.map Ek.mInt.nw).sum + (1))) := rfl
      have hnx := nwt_next (M := M) he hx
      rw [hnw] at hnx
      have hal := nwt_le (M := M) (xs := xs) (j + 1)
      have HNX : Hid (nwt M xs (j + 1) = nwt M xs j + (1 + ((l1.map Ek.mInt.nw).sum + (1)))) := Lib.hid hnx
      have HTOP : Hid (y + ((1 + ((l1.map Ek.mInt.nw).sum + (1))) : Nat) ≤ 1000000000) := Lib.hid (by have h1 := HY.out; have h2 := HM.out; omega)
      have HU0 : Hid (wr.cell? ⟨b, o + j * 3, none⟩ = some (.int .i64 x0)) := Lib.hid (hc 0 _ rfl)
      have HU1 : Hid (wr.cell? ⟨b, o + j * 3 + 1, none⟩ = some (.slice p1 n1 c1)) := Lib.hid (hc 1 _ rfl)
      have HU2 : Hid (wr.cell? ⟨b, o + j * 3 + 2, none⟩ = some (.int .i64 x2)) := Lib.hid (hc 2 _ rfl)
      have Gb0 := Lib.hid b0
      have Gh1 := Lib.hid h1
      have Gb2 := Lib.hid b2
      have HS := Lib.hid hS
      have HBW := Lib.hid hbw
      clear hnw hnx hal hc hx he hS hbw hrd b0 h1 b2
      have i1 : (0 : Int) ≤ (j : Int) := by omega
      have i2 : (j : Int) < (n : Int) := by omega
      have u0 := HU0.out
      have f0 : wr.frozen? ⟨b, o + j * 3, none⟩ = false := HS.out.2.2 _
      have u1 := HU1.out
      have hq : 0 ≤ y := by omega
      have hq2 : y + 1 ≤ 9223372036854775000 := by have h0 := HTOP.out; omega
      have HW : Hid (Mk lo hi w (wr.setCell ⟨b, o + j * 3, none⟩ (.int .i64 y))) := Lib.hid (HK.out.set HS.out.1 HS.out.2.1 HU0.out (Kd.ofInt (by unfold Ed.InI; have h := HTOP.out; omega)))
      have HWb : Hid (Mk lo hi wr (wr.setCell ⟨b, o + j * 3, none⟩ (.int .i64 y))) := Lib.hid ((Mk.refl lo hi wr).set HS.out.1 HS.out.2.1 HU0.out (Kd.ofInt (by unfold Ed.InI; have h := HTOP.out; omega)))
      obtain ⟨la, ha, hea⟩ := RRd.mk Ek.mInt (show RRd int lo hi wr p1 n1 l1 from Gh1.out) HWb.out
      have HA := Lib.hid ha
      have HSM : Hid ((la.map Ek.mInt.nw).sum = (l1.map Ek.mInt.nw).sum) := Lib.hid (by rw [hea])
      clear ha hea
      go_wp2_with fail
      refine (MdI.markS_any lo hi _ _ _ la (y + 1) _ HA.out (by omega) (by rw [HSM.out]; have h0 := HTOP.out; omega)).mono ?_
      rintro e w2 ⟨y2, rfl, hy1, hy2, hm⟩
      rw [HSM.out] at hy2
      have HB2 : Hid (y2 ≤ y + 1 + ((l1.map Ek.mInt.nw).sum : Nat)) := Lib.hid hy2
      have HK2 := Lib.hid (HW.out.trans hm)
      have HMb := Lib.hid (HWb.out.trans hm)
      clear u0 f0 hq hq2 u1
      clear HW HWb HA HSM hm hy2
      obtain ⟨v_, e_, kd_⟩ := HMb.out.cell b _ _ HBW.out HU2.out
      obtain ⟨z2_2, rfl, hz_⟩ := kd_.int Gb2.out
      have HZ2 := Lib.hid hz_
      replace HU2 := Lib.hid e_
      clear e_ kd_ hz_
      replace HS := Lib.hid (HS.out.mk HBW.out HMb.out)
      replace HBW := Lib.hid (Nat.lt_of_lt_of_le HBW.out HMb.out.size)
      clear HMb
      have u2 := HU2.out
      have f2 : w2.frozen? ⟨b, o + j * 3 + 2, none⟩ = false := HS.out.2.2 _
      have hq : 0 ≤ y2 := by omega
      have hq2 : y2 + 1 ≤ 9223372036854775000 := by have h0 := HTOP.out; have g2 := HB2.out; omega
      go_wp2_with fail
      go_roundw
      case rel => exact ⟨j + 1, y2 + 1, by omega, by go_num, rfl, by omega, Lib.hid (by have h1 := HY.out; have h2 := HNX.out; have g2 := HB2.out; omega), Lib.hid (HK2.out.set HS.out.1 HS.out.2.1 HU2.out (Kd.ofInt (by unfold Ed.InI; have h := HTOP.out; have g2 := HB2.out; omega)))⟩
      case measure => simp [intOf]; omega
    · obtain rfl : j = n := by omega
      have HE : Hid (y ≤ k + ((xs.map M.nw).sum : Nat)) := Lib.hid (by have h := HY.out; rw [nwt_all HLEN.out] at h; exact h)
      go_wp2_with fail
      go_ret
      exact ⟨y, rfl, hky, HE.out, HK.out⟩
set_option maxRecDepth 100000 in
set_option maxHeartbeats 4000000 in
theorem mark_any (lo hi : Nat) (x0 : Int) (l1 : List Int) (p1 : Option Addr) (n1 c1 : Nat) (x2 : Int) (k : Int) (w : World) (hhi : hi ≤ w.heap.size) (h1 : RRd int lo hi w p1 n1 l1) (hk : 1 ≤ k) (hm : k + ((l1.map Ek.mInt.nw).sum : Nat) ≤ 1000000000) : Calls Try.prog 55 #[.agg #[.int .i64 x0, .slice p1 n1 c1, .int .i64 x2], .int .i64 k] w (MkD lo hi k ((l1.map Ek.mInt.nw).sum) w) := by
  have HX := Lib.hid (Bx.new w 97 #[.int .i64 x0, .slice p1 n1 c1, .int .i64 x2])
  have HM : Hid (Mk lo hi w (w.alloc (.cells #[.int .i64 x0, .slice p1 n1 c1, .int .i64 x2] 97))) := Lib.hid (Mk.ofBelow (Dz.box1 w _))
  have HHI := Lib.hid hhi
  have HT := Lib.hid hm
  have H1 := Lib.hid (h1.below (Dz.box1 w (.cells #[.int .i64 x0, .slice p1 n1 c1, .int .i64 x2] 97)))
  clear hm hhi h1
  go_enter Try.func55, Try.ntmps55
  obtain ⟨u0, u1, u2⟩ := DpPiece.bxc HX.out
  go_wp2_with fail
  refine (MdI.markS_any lo hi _ _ _ _ (k) _ H1.out (by omega) (by have h0 := HT.out; omega)).mono ?_
  rintro e w1 ⟨y1, rfl, hy1, hy2, hm⟩
  have HB1 : Hid (y1 ≤ k + ((l1.map Ek.mInt.nw).sum : Nat)) := Lib.hid hy2
  replace HX := Lib.hid (hm.bx HX.out (Or.inl HHI.out))
  replace HM := Lib.hid (HM.out.trans hm)
  clear hm hy2 u0 u1 u2
  go_wp2_with fail
  go_ret
  exact ⟨y1, rfl, by omega, by have g1 := HB1.out; omega, HM.out⟩
end Go.Proofs.Ytjaholcmaafenaa.MdPiece
