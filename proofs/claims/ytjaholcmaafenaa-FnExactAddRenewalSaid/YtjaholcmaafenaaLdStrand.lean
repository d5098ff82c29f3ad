/- Leaves of Strand: marks, written and found again. -/
import Derived.Test.YtjaholcmaafenaaLf
import Derived.Test.YtjaholcmaafenaaDz
import Derived.Test.YtjaholcmaafenaaDpStrand
import Derived.Test.YtjaholcmaafenaaMdStrand
import Derived.Test.YtjaholcmaafenaaLdPiece
import Derived.Test.YtjaholcmaafenaaLdRenewal
import Derived.LoopTactic
import Derived.Outline
namespace Go.Proofs.Ytjaholcmaafenaa.LdStrand
open Go.ChangeShapes Go.WideShapes Go.ChangeAt Go.RowKit Sl St Ed Ek Lf
def L : Ent LF := (lpair (lsl LdPiece.L) (lsl LdRenewal.L))
theorem lk : LkE DpStrand.E MdStrand.M L := (lk_pair (lk_sl LdPiece.lk (by show 3 ≤ 16; omega)) (lk_sl LdRenewal.lk (by show 5 ≤ 16; omega)))
theorem exL {S : Nat → Prop} {w : World} {cs : List Value} {f : LF} (h : L.rd S w cs f) : ∃ (p0 : Option Addr) (n0 c0 : Nat) (fs0 : List LF) (p1 : Option Addr) (n1 c1 : Nat) (fs1 : List LF), cs = [.slice p0 n0 c0, .slice p1 n1 c1] ∧ RdD LdPiece.L S w p0 n0 fs0 ∧ RdD LdRenewal.L S w p1 n1 fs1 ∧ ∀ b o, f b o = ((lvs p0 LdPiece.L.C fs0) ++ (lvs p1 LdRenewal.L.C fs1)) := by
  obtain ⟨_, _, _, _, rfl, ⟨p0, n0, c0, fs0, rfl, _, h0, rfl⟩, ⟨p1, n1, c1, fs1, rfl, _, h1, rfl⟩, rfl⟩ := h
  refine ⟨p0, n0, c0, fs0, p1, n1, c1, fs1, rfl, h0, h1, fun b o => ?_⟩
  rfl
set_option maxRecDepth 100000 in
set_option maxHeartbeats 8000000 in
theorem markS_any (lo hi : Nat) (p : Option Addr) (n c : Nat) (fs : List LF) (k : Int) (m : Nat) (w : World) (hr : RRd L lo hi w p n fs) (hlen : (lvs p L.C fs).length = m) (hk : 1 ≤ k) (hm : k + (m : Nat) ≤ 1000000000) (hnd : (ads (lvs p L.C fs)).Nodup) : Calls Try.prog 93 #[.slice p n c, .int .i64 k] w fun e w' => e = .returned (.int .i64 (k + (m : Nat))) ∧ MkL lo hi k (lvs p L.C fs) w w' := by
  have HR := Lib.hid hr
  have hle := hr.le
  have HM := Lib.hid hm
  have HND := Lib.hid hnd
  have HTL := Lib.hid hlen
  have HLEN := Lib.hid hr.len
  clear hr hm hnd hlen
  go_enter Try.func93, Try.ntmps93
  go_wp2_with fail
  go_loopw [1, 5] (fun x i wr => ∃ (j : Nat) (y : Int), j ≤ n ∧ i = .int .i64 j ∧ x = .int .i64 y ∧ k ≤ y ∧ Hid (y = k + ((lvs p L.C (fs.take j)).length : Nat)) ∧ Hid (MkL lo hi k (lvs p L.C (fs.take j)) w wr)) (fun _ i _ => n - (intOf i).toNat)
  case atStart => exact ⟨0, k, Nat.zero_le _, rfl, rfl, Int.le_refl _, Lib.hid (by rw [List.take_zero, lvs_nil]; simp), Lib.hid (by rw [List.take_zero, lvs_nil]; exact MkL.refl)⟩
  case round =>
    obtain ⟨j, y, hj, rfl, rfl, hky, HY, HK⟩ := hrel
    by_cases hlt : j < n
    · obtain ⟨b, o, f, cs, rfl, hS, hbw, hx, hc, hrd⟩ := RdD.at_ HR.out hlt
      obtain ⟨p0, n0, c0, fs0, p1, n1, c1, fs1, rfl, h0, h1, hf⟩ := exL hrd
      have Hh0 := Lib.hid h0
      have Hh1 := Lib.hid h1
      clear h0 h1
      have HC0 : Hid (w.cell? ⟨b, o + j * 2, none⟩ = some (.slice p0 n0 c0)) := Lib.hid (hc 0 _ rfl)
      have HC1 : Hid (w.cell? ⟨b, o + j * 2 + 1, none⟩ = some (.slice p1 n1 c1)) := Lib.hid (hc 1 _ rfl)
      obtain ⟨m0, hm0⟩ : ∃ m, (lvs p0 LdPiece.L.C fs0).length = m := ⟨_, rfl⟩
      have HM0 := Lib.hid hm0
      clear hm0
      obtain ⟨m1, hm1⟩ : ∃ m, (lvs p1 LdRenewal.L.C fs1).length = m := ⟨_, rfl⟩
      have HM1 := Lib.hid hm1
      clear hm1
      obtain ⟨P, hP⟩ : ∃ P, lv b L.C o (fs.take j) = P := ⟨_, rfl⟩
      have HTK : Hid (lvs (some ⟨b, o, none⟩) L.C (fs.take (j + 1)) = ((P ++ (lvs p0 LdPiece.L.C fs0)) ++ (lvs p1 LdRenewal.L.C fs1))) := Lib.hid (by show lv b L.C o (fs.take (j + 1)) = _; rw [lv_take hx, hP, hf]; simp only [List.append_assoc]; first | done | rfl)
      obtain ⟨Z, hZ⟩ := lv_split (b := b) (o := o) (C := L.C) hx
      rw [← lv_take hx, show lv b L.C o (fs.take (j + 1)) = ((P ++ (lvs p0 LdPiece.L.C fs0)) ++ (lvs p1 LdRenewal.L.C fs1)) from HTK.out] at hZ
      have HN : Hid ((ads ((P ++ (lvs p0 LdPiece.L.C fs0)) ++ (lvs p1 LdRenewal.L.C fs1))).Nodup) := Lib.hid (nd_pre (Y := Z) (by have h := HND.out; rw [lvs_some, hZ] at h; exact h))
      have HTOP : Hid (k + (P.length + (m0 + m1) : Nat) ≤ 1000000000) := Lib.hid (by have h := HTL.out; rw [lvs_some, hZ] at h; simp only [List.length_append] at h; have qM0 := HM0.out; have qM1 := HM1.out; have h2 := HM.out; omega)
      have HZ : Hid (y = k + (P.length : Nat)) := Lib.hid (by have h := HY.out; rw [lvs_some, hP] at h; exact h)
      replace HK : Hid (MkL lo hi k P w wr) := Lib.hid (by have h := HK.out; rw [lvs_some, hP] at h; exact h)
      have HS := Lib.hid hS
      have HBW := Lib.hid hbw
      clear hc hx hP hZ hS hbw hf
      have i1 : (0 : Int) ≤ (j : Int) := by omega
      have i2 : (j : Int) < (n : Int) := by omega
      obtain ⟨v_, e_, kd_⟩ := HK.out.mm.cell b _ _ HBW.out HC0.out
      obtain rfl := kd_.slice
      have HU0 := Lib.hid e_
      have u0 := HU0.out
      clear e_ kd_
      have hq : 0 ≤ y := by omega
      have hq2 : y + 1 ≤ 9223372036854775000 := by have h0 := HTOP.out; have hZ := HZ.out; omega
      have HW : Hid (MkL lo hi k P w wr) := Lib.hid HK.out
      have HA := Lib.hid (RRd.pk LdPiece.lk.pk (show RRd LdPiece.L lo hi w p0 n0 fs0 from Hh0.out) HW.out.mm)
      go_wp2_with fail
      refine (LdPiece.markS_any lo hi _ _ _ _ (y) m0 _ HA.out HM0.out (by omega) (by have h0 := HTOP.out; have hZ := HZ.out; omega) (nd_right (nd_pre HN.out))).mono ?_
      rintro e w2 ⟨rfl, hm⟩
      have HK2 : Hid (MkL lo hi k (P ++ (lvs p0 LdPiece.L.C fs0)) w w2) := Lib.hid (HW.out.trans hm (show y = _ from (by have qM0 := HM0.out; have qM1 := HM1.out; have hZ := HZ.out; (try simp only [List.length_append]); omega)) (nd_pre HN.out))
      have HZ2 : Hid (y + (m0 : Nat) = k + (P.length + (m0) : Nat)) := Lib.hid (by have hZ := HZ.out; omega)
      clear hq hq2  u0
      clear HW HA hm
      obtain ⟨y2, hy2⟩ : ∃ z, y + (m0 : Int) = z := ⟨_, rfl⟩
      rw [hy2] at HZ2
      rw [hy2]
      have g2 : k ≤ y2 := by omega
      clear hy2
      obtain ⟨v_, e_, kd_⟩ := HK2.out.mm.cell b _ _ HBW.out HC1.out
      obtain rfl := kd_.slice
      have HU1 := Lib.hid e_
      have u1 := HU1.out
      clear e_ kd_
      have hq : 0 ≤ y2 := by omega
      have hq2 : y2 + 1 ≤ 9223372036854775000 := by have h0 := HTOP.out; have hZ := HZ2.out; omega
      have HW : Hid (MkL lo hi k (P ++ (lvs p0 LdPiece.L.C fs0)) w w2) := Lib.hid HK2.out
      have HA := Lib.hid (RRd.pk LdRenewal.lk.pk (show RRd LdRenewal.L lo hi w p1 n1 fs1 from Hh1.out) HW.out.mm)
      go_wp2_with fail
      refine (LdRenewal.markS_any lo hi _ _ _ _ (y2) m1 _ HA.out HM1.out (by omega) (by have h0 := HTOP.out; have hZ := HZ2.out; omega) (nd_right HN.out)).mono ?_
      rintro e w3 ⟨rfl, hm⟩
      have HK3 : Hid (MkL lo hi k ((P ++ (lvs p0 LdPiece.L.C fs0)) ++ (lvs p1 LdRenewal.L.C fs1)) w w3) := Lib.hid (HW.out.trans hm (show y2 = _ from (by have qM0 := HM0.out; have qM1 := HM1.out; have hZ := HZ2.out; (try simp only [List.length_append]); omega)) HN.out)
      have HZ3 : Hid (y2 + (m1 : Nat) = k + (P.length + (m0 + m1) : Nat)) := Lib.hid (by have hZ := HZ2.out; omega)
      clear hq hq2  u1
      clear HW HA hm
      obtain ⟨y3, hy3⟩ : ∃ z, y2 + (m1 : Int) = z := ⟨_, rfl⟩
      rw [hy3] at HZ3
      rw [hy3]
      have g3 : k ≤ y3 := by omega
      clear hy3
      have hq : 0 ≤ y3 := by omega
      have hq2 : y3 + 1 ≤ 9223372036854775000 := by have h0 := HTOP.out; have hZ := HZ3.out; omega
      go_wp2_with fail
      go_roundw
      case rel => exact ⟨j + 1, y3, by omega, by go_num, rfl, by omega, Lib.hid (by rw [HTK.out]; have qM0 := HM0.out; have qM1 := HM1.out; have hZ := HZ3.out; simp only [List.length_append]; omega), Lib.hid (by rw [HTK.out]; exact HK3.out)⟩
      case measure => simp [intOf]; omega
    · obtain rfl : j = n := by omega
      have ht : fs.take j = fs := List.take_of_length_le (by rw [HLEN.out]; exact Nat.le_refl _)
      have HE : Hid (MkL lo hi k (lvs p L.C fs) w wr) := Lib.hid (by have h := HK.out; rw [ht] at h; exact h)
      have HV : Hid (Value.int .i64 y = .int .i64 (k + (m : Nat))) := Lib.hid (by have h := HY.out; rw [ht, HTL.out] at h; rw [h])
      clear ht
      go_wp2_with fail
      go_ret
      exact ⟨by rw [HV.out]; first | done | rfl, HE.out⟩
set_option maxRecDepth 100000 in
set_option maxHeartbeats 8000000 in
theorem heldS_any (p : Option Addr) (n c : Nat) (fs : List LF) {S : Nat → Prop} (k : Int) (m : Nat) (w : World) (hr : RdD L S w p n fs) (hlen : (lvs p L.C fs).length = m) (hk : 1 ≤ k) (hm : k + (m : Nat) ≤ 1000000000) (hd : Hd k (lvs p L.C fs) w) : Calls Try.prog 102 #[.slice p n c, .int .i64 k] w fun e w' => e = .returned (.int .i64 (k + (m : Nat))) ∧ Below w.heap.size w w' := by
  have HR := Lib.hid hr
  have hle := hr.le
  have HM := Lib.hid hm
  have HHD := Lib.hid hd
  have HTL := Lib.hid hlen
  have HLEN := Lib.hid hr.len
  clear hr hm hd hlen
  go_enter Try.func102, Try.ntmps102
  go_wp2_with fail
  go_loopw [1, 5] (fun x i wr => ∃ (j : Nat) (y : Int), j ≤ n ∧ i = .int .i64 j ∧ x = .int .i64 y ∧ k ≤ y ∧ Hid (y = k + ((lvs p L.C (fs.take j)).length : Nat)) ∧ Hid (Below w.heap.size w wr)) (fun _ i _ => n - (intOf i).toNat)
  case atStart => exact ⟨0, k, Nat.zero_le _, rfl, rfl, Int.le_refl _, Lib.hid (by rw [List.take_zero, lvs_nil]; simp), Lib.hid (Below.refl _ _)⟩
  case round =>
    obtain ⟨j, y, hj, rfl, rfl, hky, HY, HB⟩ := hrel
    by_cases hlt : j < n
    · obtain ⟨b, o, f, cs, rfl, _, hbw, hx, hc, hrd⟩ := RdD.at_ HR.out hlt
      obtain ⟨p0, n0, c0, fs0, p1, n1, c1, fs1, rfl, h0, h1, hf⟩ := exL hrd
      have Hh0 := Lib.hid h0
      have Hh1 := Lib.hid h1
      clear h0 h1
      have HC0 : Hid (w.cell? ⟨b, o + j * 2, none⟩ = some (.slice p0 n0 c0)) := Lib.hid (hc 0 _ rfl)
      have HC1 : Hid (w.cell? ⟨b, o + j * 2 + 1, none⟩ = some (.slice p1 n1 c1)) := Lib.hid (hc 1 _ rfl)
      obtain ⟨m0, hm0⟩ : ∃ m, (lvs p0 LdPiece.L.C fs0).length = m := ⟨_, rfl⟩
      have HM0 := Lib.hid hm0
      clear hm0
      obtain ⟨m1, hm1⟩ : ∃ m, (lvs p1 LdRenewal.L.C fs1).length = m := ⟨_, rfl⟩
      have HM1 := Lib.hid hm1
      clear hm1
      obtain ⟨P, hP⟩ : ∃ P, lv b L.C o (fs.take j) = P := ⟨_, rfl⟩
      have HTK : Hid (lvs (some ⟨b, o, none⟩) L.C (fs.take (j + 1)) = ((P ++ (lvs p0 LdPiece.L.C fs0)) ++ (lvs p1 LdRenewal.L.C fs1))) := Lib.hid (by show lv b L.C o (fs.take (j + 1)) = _; rw [lv_take hx, hP, hf]; simp only [List.append_assoc]; first | done | rfl)
      obtain ⟨Z, hZ⟩ := lv_split (b := b) (o := o) (C := L.C) hx
      rw [← lv_take hx, show lv b L.C o (fs.take (j + 1)) = ((P ++ (lvs p0 LdPiece.L.C fs0)) ++ (lvs p1 LdRenewal.L.C fs1)) from HTK.out] at hZ
      have HD : Hid (Hd k ((P ++ (lvs p0 LdPiece.L.C fs0)) ++ (lvs p1 LdRenewal.L.C fs1)) w) := Lib.hid (Hd.left (Y := Z) (by have h := HHD.out; rw [lvs_some, hZ] at h; exact h))
      have HTOP : Hid (k + (P.length + (m0 + m1) : Nat) ≤ 1000000000) := Lib.hid (by have h := HTL.out; rw [lvs_some, hZ] at h; simp only [List.length_append] at h; have qM0 := HM0.out; have qM1 := HM1.out; have h2 := HM.out; omega)
      have HZ : Hid (y = k + (P.length : Nat)) := Lib.hid (by have h := HY.out; rw [lvs_some, hP] at h; exact h)
      have HBW := Lib.hid hbw
      clear hc hx hP hZ hbw hf
      have i1 : (0 : Int) ≤ (j : Int) := by omega
      have i2 : (j : Int) < (n : Int) := by omega
      have u0 := (HB.out.cell (p := ⟨b, o + j * 2, none⟩) HBW.out).trans HC0.out
      have hq : 0 ≤ y := by omega
      have hq2 : y + 1 ≤ 9223372036854775000 := by have h0 := HTOP.out; have hZ := HZ.out; omega
      have HA := Lib.hid (Hh0.out.below HB.out)
      have HE0 := Lib.hid ((Hd.right (y := y) (Hd.left HD.out) (by have qM0 := HM0.out; have qM1 := HM1.out; have hZ := HZ.out; (try simp only [List.length_append]); omega)).below HB.out)
      go_wp2_with fail
      refine (LdPiece.heldS_any _ _ _ _ (y) m0 _ HA.out HM0.out (by omega) (by have h0 := HTOP.out; have hZ := HZ.out; omega) HE0.out).mono ?_
      rintro e w2 ⟨rfl, hb⟩
      have HB2 := Lib.hid (below_on HB.out hb)
      have HZ2 : Hid (y + (m0 : Nat) = k + (P.length + (m0) : Nat)) := Lib.hid (by have hZ := HZ.out; omega)
      clear hq hq2 hb HA HE0  u0
      obtain ⟨y2, hy2⟩ : ∃ z, y + (m0 : Int) = z := ⟨_, rfl⟩
      rw [hy2] at HZ2
      rw [hy2]
      have g2 : k ≤ y2 := by omega
      clear hy2
      have u1 := (HB2.out.cell (p := ⟨b, o + j * 2 + 1, none⟩) HBW.out).trans HC1.out
      have hq : 0 ≤ y2 := by omega
      have hq2 : y2 + 1 ≤ 9223372036854775000 := by have h0 := HTOP.out; have hZ := HZ2.out; omega
      have HA := Lib.hid (Hh1.out.below HB2.out)
      have HE1 := Lib.hid ((Hd.right (y := y2) HD.out (by have qM0 := HM0.out; have qM1 := HM1.out; have hZ := HZ2.out; (try simp only [List.length_append]); omega)).below HB2.out)
      go_wp2_with fail
      refine (LdRenewal.heldS_any _ _ _ _ (y2) m1 _ HA.out HM1.out (by omega) (by have h0 := HTOP.out; have hZ := HZ2.out; omega) HE1.out).mono ?_
      rintro e w3 ⟨rfl, hb⟩
      have HB3 := Lib.hid (below_on HB2.out hb)
      have HZ3 : Hid (y2 + (m1 : Nat) = k + (P.length + (m0 + m1) : Nat)) := Lib.hid (by have hZ := HZ2.out; omega)
      clear hq hq2 hb HA HE1  u1
      obtain ⟨y3, hy3⟩ : ∃ z, y2 + (m1 : Int) = z := ⟨_, rfl⟩
      rw [hy3] at HZ3
      rw [hy3]
      have g3 : k ≤ y3 := by omega
      clear hy3
      have hq : 0 ≤ y3 := by omega
      have hq2 : y3 + 1 ≤ 9223372036854775000 := by have h0 := HTOP.out; have hZ := HZ3.out; omega
      go_wp2_with fail
      go_roundw
      case rel => exact ⟨j + 1, y3, by omega, by go_num, rfl, by omega, Lib.hid (by rw [HTK.out]; have qM0 := HM0.out; have qM1 := HM1.out; have hZ := HZ3.out; simp only [List.length_append]; omega), HB3⟩
      case measure => simp [intOf]; omega
    · obtain rfl : j = n := by omega
      have ht : fs.take j = fs := List.take_of_length_le (by rw [HLEN.out]; exact Nat.le_refl _)
      have HV : Hid (Value.int .i64 y = .int .i64 (k + (m : Nat))) := Lib.hid (by have h := HY.out; rw [ht, HTL.out] at h; rw [h])
      clear ht
      go_wp2_with fail
      go_ret
      exact ⟨by rw [HV.out]; first | done | rfl, HB.out⟩
set_option maxRecDepth 100000 in
set_option maxHeartbeats 4000000 in
theorem mark_any (lo hi : Nat) (p0 : Option Addr) (n0 c0 : Nat) (fs0 : List LF) (m0 : Nat) (p1 : Option Addr) (n1 c1 : Nat) (fs1 : List LF) (m1 : Nat) (k : Int) (w : World) (hhi : hi ≤ w.heap.size) (h0 : RRd LdPiece.L lo hi w p0 n0 fs0) (e0 : ((lvs p0 LdPiece.L.C fs0)).length = m0) (h1 : RRd LdRenewal.L lo hi w p1 n1 fs1) (e1 : ((lvs p1 LdRenewal.L.C fs1)).length = m1) (hk : 1 ≤ k) (hm : k + ((m0 + m1) : Nat) ≤ 1000000000) (hnd : (ads ((lvs p0 LdPiece.L.C fs0) ++ (lvs p1 LdRenewal.L.C fs1))).Nodup) : Calls Try.prog 19 #[.agg #[.slice p0 n0 c0, .slice p1 n1 c1], .int .i64 k] w fun e w' => e = .returned (.int .i64 (k + ((m0 + m1) : Nat))) ∧ MkL lo hi k ((lvs p0 LdPiece.L.C fs0) ++ (lvs p1 LdRenewal.L.C fs1)) w w' := by
  have HX := Lib.hid (Bx.new w 36 #[.slice p0 n0 c0, .slice p1 n1 c1])
  have HT := Lib.hid hm
  have HHI := Lib.hid hhi
  have HND := Lib.hid hnd
  have HQ : Hid (MkL lo hi k [] w (w.alloc (.cells #[.slice p0 n0 c0, .slice p1 n1 c1] 36))) := Lib.hid (MkL.ofBelow (Dz.box1 w _))
  have H0 := Lib.hid h0
  have HM0 := Lib.hid e0
  have H1 := Lib.hid h1
  have HM1 := Lib.hid e1
  clear hm hhi hnd h0 e0 h1 e1
  go_enter Try.func19, Try.ntmps19
  have HY0 : Hid (k = k + (0 : Nat)) := Lib.hid (by omega)
  obtain ⟨u0, u1⟩ := DpStrand.bxc HX.out
  go_wp2_with fail
  refine (LdPiece.markS_any lo hi _ _ _ _ (k) m0 _ (RRd.pk LdPiece.lk.pk H0.out HQ.out.mm) HM0.out (by omega) (by have h0 := HT.out; have h := HY0.out; omega) (nd_pre HND.out)).mono ?_
  rintro e w1 ⟨rfl, hm⟩
  have HQ1 : Hid (MkL lo hi k (lvs p0 LdPiece.L.C fs0) w w1) := Lib.hid (HQ.out.trans0 hm)
  replace HX := Lib.hid (hm.mm.bx HX.out (Or.inl HHI.out))
  replace HQ := HQ1
  clear HQ1
  obtain ⟨y1, hy1⟩ : ∃ z, k + ((m0 : Nat) : Int) = z := ⟨_, rfl⟩
  have HY1 : Hid (y1 = k + (m0 : Nat)) := Lib.hid (by have h := HY0.out; omega)
  rw [hy1]
  have g1 : k ≤ y1 := by omega
  clear hm hy1 u0 u1
  obtain ⟨u0, u1⟩ := DpStrand.bxc HX.out
  go_wp2_with fail
  refine (LdRenewal.markS_any lo hi _ _ _ _ (y1) m1 _ (RRd.pk LdRenewal.lk.pk H1.out HQ.out.mm) HM1.out (by omega) (by have h0 := HT.out; have h := HY1.out; omega) (nd_right HND.out)).mono ?_
  rintro e w2 ⟨rfl, hm⟩
  have HQ2 : Hid (MkL lo hi k ((lvs p0 LdPiece.L.C fs0) ++ (lvs p1 LdRenewal.L.C fs1)) w w2) := Lib.hid (HQ.out.trans hm (show y1 = _ from (by have qM0 := HM0.out; have qM1 := HM1.out; have h := HY1.out; (try simp only [List.length_append, List.length_nil]); omega)) HND.out)
  replace HX := Lib.hid (hm.mm.bx HX.out (Or.inl HHI.out))
  replace HQ := HQ2
  clear HQ2
  obtain ⟨y2, hy2⟩ : ∃ z, y1 + ((m1 : Nat) : Int) = z := ⟨_, rfl⟩
  have HY2 : Hid (y2 = k + (m0 + m1 : Nat)) := Lib.hid (by have h := HY1.out; omega)
  rw [hy2]
  have g2 : k ≤ y2 := by omega
  clear hm hy2 u0 u1
  have HV : Hid (Value.int .i64 y2 = .int .i64 (k + ((m0 + m1) : Nat))) := Lib.hid (by have h := HY2.out; rw [show y2 = k + ((m0 + m1) : Nat) by omega])
  go_wp2_with fail
  go_ret
  exact ⟨by rw [HV.out]; first | done | rfl, HQ.out⟩
set_option maxRecDepth 100000 in
set_option maxHeartbeats 4000000 in
theorem held_any (p0 : Option Addr) (n0 c0 : Nat) (fs0 : List LF) (m0 : Nat) (p1 : Option Addr) (n1 c1 : Nat) (fs1 : List LF) (m1 : Nat) {S : Nat → Prop} (k : Int) (w : World) (h0 : RdD LdPiece.L S w p0 n0 fs0) (e0 : ((lvs p0 LdPiece.L.C fs0)).length = m0) (h1 : RdD LdRenewal.L S w p1 n1 fs1) (e1 : ((lvs p1 LdRenewal.L.C fs1)).length = m1) (hk : 1 ≤ k) (hm : k + ((m0 + m1) : Nat) ≤ 1000000000) (hd : Hd k ((lvs p0 LdPiece.L.C fs0) ++ (lvs p1 LdRenewal.L.C fs1)) w) : Calls Try.prog 56 #[.agg #[.slice p0 n0 c0, .slice p1 n1 c1], .int .i64 k] w fun e w' => e = .returned (.int .i64 (k + ((m0 + m1) : Nat))) ∧ Below w.heap.size w w' := by
  have HX := Lib.hid (Bx.new w 36 #[.slice p0 n0 c0, .slice p1 n1 c1])
  have HT := Lib.hid hm
  have HD := Lib.hid hd
  have HB : Hid (Below w.heap.size w (w.alloc (.cells #[.slice p0 n0 c0, .slice p1 n1 c1] 36))) := Lib.hid (Dz.box1 w _)
  have H0 := Lib.hid h0
  have HM0 := Lib.hid e0
  have H1 := Lib.hid h1
  have HM1 := Lib.hid e1
  clear hm hd h0 e0 h1 e1
  go_enter Try.func56, Try.ntmps56
  have HY0 : Hid (k = k + (0 : Nat)) := Lib.hid (by omega)
  obtain ⟨u0, u1⟩ := DpStrand.bxc HX.out
  go_wp2_with fail
  refine (LdPiece.heldS_any _ _ _ _ (k) m0 _ (H0.out.below HB.out) HM0.out (by omega) (by have h0 := HT.out; have h := HY0.out; omega) ((Hd.left HD.out).below HB.out)).mono ?_
  rintro e w1 ⟨rfl, hm⟩
  replace HX := Lib.hid (HX.out.below hm)
  replace HB := Lib.hid (below_on HB.out hm)
  obtain ⟨y1, hy1⟩ : ∃ z, k + ((m0 : Nat) : Int) = z := ⟨_, rfl⟩
  have HY1 : Hid (y1 = k + (m0 : Nat)) := Lib.hid (by have h := HY0.out; omega)
  rw [hy1]
  have g1 : k ≤ y1 := by omega
  clear hm hy1 u0 u1
  obtain ⟨u0, u1⟩ := DpStrand.bxc HX.out
  go_wp2_with fail
  refine (LdRenewal.heldS_any _ _ _ _ (y1) m1 _ (H1.out.below HB.out) HM1.out (by omega) (by have h0 := HT.out; have h := HY1.out; omega) ((Hd.right (y := y1) HD.out (by have qM0 := HM0.out; have qM1 := HM1.out; have h := HY1.out; (try simp only [List.length_append, List.length_nil]); omega)).below HB.out)).mono ?_
  rintro e w2 ⟨rfl, hm⟩
  replace HX := Lib.hid (HX.out.below hm)
  replace HB := Lib.hid (below_on HB.out hm)
  obtain ⟨y2, hy2⟩ : ∃ z, y1 + ((m1 : Nat) : Int) = z := ⟨_, rfl⟩
  have HY2 : Hid (y2 = k + (m0 + m1 : Nat)) := Lib.hid (by have h := HY1.out; omega)
  rw [hy2]
  have g2 : k ≤ y2 := by omega
  clear hm hy2 u0 u1
  have HV : Hid (Value.int .i64 y2 = .int .i64 (k + ((m0 + m1) : Nat))) := Lib.hid (by have h := HY2.out; rw [show y2 = k + ((m0 + m1) : Nat) by omega])
  have hge : (0 : Int) ≤ y2 := by omega
  go_wp2_with fail
  go_ret
  exact ⟨by rw [HV.out]; first | done | rfl, HB.out⟩
end Go.Proofs.Ytjaholcmaafenaa.LdStrand
