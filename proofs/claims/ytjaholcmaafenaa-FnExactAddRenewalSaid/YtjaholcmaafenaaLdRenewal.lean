/- Leaves of Renewal: marks, written and found again. -/
import Derived.Test.YtjaholcmaafenaaLf
import Derived.Test.YtjaholcmaafenaaDz
import Derived.Test.YtjaholcmaafenaaDpRenewal
import Derived.Test.YtjaholcmaafenaaMdRenewal
import Derived.Test.YtjaholcmaafenaaLdA
import Derived.LoopTactic
import Derived.Outline
namespace Go.Proofs.Ytjaholcmaafenaa.LdRenewal
open Go.ChangeShapes Go.WideShapes Go.ChangeAt Go.RowKit Sl St Ed Ek Lf
def L : Ent LF := (lpair lint (lpair lint (lpair lint (lpair (lsl LdStep.L) (lsl LdStamp.L)))))
theorem lk : LkE DpRenewal.E MdRenewal.M L := (lk_pair lk_int (lk_pair lk_int (lk_pair lk_int (lk_pair (lk_sl LdStep.lk (by show 2 ≤ 16; omega)) (lk_sl LdStamp.lk (by show 5 ≤ 16; omega))))))
theorem exL {S : Nat → Prop} {w : World} {cs : List Value} {f : LF} (h : L.rd S w cs f) : ∃ (x0 : Int) (x1 : Int) (x2 : Int) (p3 : Option Addr) (n3 c3 : Nat) (fs3 : List LF) (p4 : Option Addr) (n4 c4 : Nat) (fs4 : List LF), cs = [.int .i64 x0, .int .i64 x1, .int .i64 x2, .slice p3 n3 c3, .slice p4 n4 c4] ∧ InI x0 ∧ InI x1 ∧ InI x2 ∧ RdD LdStep.L S w p3 n3 fs3 ∧ RdD LdStamp.L S w p4 n4 fs4 ∧ ∀ b o, f b o = (((([(b, o, mI)] ++ [(b, o + 1, mI)]) ++ [(b, o + 2, mI)]) ++ (lvs p3 LdStep.L.C fs3)) ++ (lvs p4 LdStamp.L.C fs4)) := by
  obtain ⟨_, _, _, _, rfl, ⟨⟨x0, rfl, b0⟩, rfl⟩, ⟨_, _, _, _, rfl, ⟨⟨x1, rfl, b1⟩, rfl⟩, ⟨_, _, _, _, rfl, ⟨⟨x2, rfl, b2⟩, rfl⟩, ⟨_, _, _, _, rfl, ⟨p3, n3, c3, fs3, rfl, _, h3, rfl⟩, ⟨p4, n4, c4, fs4, rfl, _, h4, rfl⟩, rfl⟩, rfl⟩, rfl⟩, rfl⟩ := h
  refine ⟨x0, x1, x2, p3, n3, c3, fs3, p4, n4, c4, fs4, rfl, b0, b1, b2, h3, h4, fun b o => ?_⟩
  simp only [List.append_assoc]
  rfl
set_option maxRecDepth 100000 in
set_option maxHeartbeats 8000000 in
theorem markS_any (lo hi : Nat) (p : Option Addr) (n c : Nat) (fs : List LF) (k : Int) (m : Nat) (w : World) (hr : RRd L lo hi w p n fs) (hlen : (lvs p L.C fs).length = m) (hk : 1 ≤ k) (hm : k + (m : Nat) ≤ 1000000000) (hnd : (ads (lvs p L.C fs)).Nodup) : Calls Try.prog 77 #[.slice p n c, .int .i64 k] w fun e w' => e = .returned (.int .i64 (k + (m : Nat))) ∧ MkL lo hi k (lvs p L.C fs) w w' := by
  have HR := Lib.hid hr
  have hle := hr.le
  have HM := Lib.hid hm
  have HND := Lib.hid hnd
  have HTL := Lib.hid hlen
  have HLEN := Lib.hid hr.len
  clear hr hm hnd hlen
  go_enter Try.func77, Try.ntmps77
  go_wp2_with fail
  go_loopw [1, 5] (fun x i wr => ∃ (j : Nat) (y : Int), j ≤ n ∧ i = .int .i64 j ∧ x = .int .i64 y ∧ k ≤ y ∧ Hid (y = k + ((lvs p L.C (fs.take j)).length : Nat)) ∧ Hid (MkL lo hi k (lvs p L.C (fs.take j)) w wr)) (fun _ i _ => n - (intOf i).toNat)
  case atStart => exact ⟨0, k, Nat.zero_le _, rfl, rfl, Int.le_refl _, Lib.hid (by rw [List.take_zero, lvs_nil]; simp), Lib.hid (by rw [List.take_zero, lvs_nil]; exact MkL.refl)⟩
  case round =>
    obtain ⟨j, y, hj, rfl, rfl, hky, HY, HK⟩ := hrel
    by_cases hlt : j < n
    · obtain ⟨b, o, f, cs, rfl, hS, hbw, hx, hc, hrd⟩ := RdD.at_ HR.out hlt
      obtain ⟨x0, x1, x2, p3, n3, c3, fs3, p4, n4, c4, fs4, rfl, b0, b1, b2, h3, h4, hf⟩ := exL hrd
      have Hb0 := Lib.hid b0
      have Hb1 := Lib.hid b1
      have Hb2 := Lib.hid b2
      have Hh3 := Lib.hid h3
      have Hh4 := Lib.hid h4
      clear b0 b1 b2 h3 h4
      have HC0 : Hid (w.cell? ⟨b, o + j * 5, none⟩ = some (.int .i64 x0)) := Lib.hid (hc 0 _ rfl)
      have HC1 : Hid (w.cell? ⟨b, o + j * 5 + 1, none⟩ = some (.int .i64 x1)) := Lib.hid (hc 1 _ rfl)
      have HC2 : Hid (w.cell? ⟨b, o + j * 5 + 2, none⟩ = some (.int .i64 x2)) := Lib.hid (hc 2 _ rfl)
      have HC3 : Hid (w.cell? ⟨b, o + j * 5 + 3, none⟩ = some (.slice p3 n3 c3)) := Lib.hid (hc 3 _ rfl)
      have HC4 : Hid (w.cell? ⟨b, o + j * 5 + 4, none⟩ = some (.slice p4 n4 c4)) := Lib.hid (hc 4 _ rfl)
      obtain ⟨m3, hm3⟩ : ∃ m, (lvs p3 LdStep.L.C fs3).length = m := ⟨_, rfl⟩
      have HM3 := Lib.hid hm3
      clear hm3
      obtain ⟨m4, hm4⟩ : ∃ m, (lvs p4 LdStamp.L.C fs4).length = m := ⟨_, rfl⟩
      have HM4 := Lib.hid hm4
      clear hm4
      obtain ⟨P, hP⟩ : ∃ P, lv b L.C o (fs.take j) = P := ⟨_, rfl⟩
      have HTK : Hid (lvs (some ⟨b, o, none⟩) L.C (fs.take (j + 1)) = (((((P ++ [(b, o + j * 5, mI)]) ++ [(b, o + j * 5 + 1, mI)]) ++ [(b, o + j * 5 + 2, mI)]) ++ (lvs p3 LdStep.L.C fs3)) ++ (lvs p4 LdStamp.L.C fs4))) := Lib.hid (by show lv b L.C o (fs.take (j + 1)) = _; rw [lv_take hx, hP, hf]; simp only [List.append_assoc]; first | done | rfl)
      obtain ⟨Z, hZ⟩ := lv_split (b := b) (o := o) (C := L.C) hx
      rw [← lv_take hx, show lv b L.C o (fs.take (j + 1)) = (((((P ++ [(b, o + j * 5, mI)]) ++ [(b, o + j * 5 + 1, mI)]) ++ [(b, o + j * 5 + 2, mI)]) ++ (lvs p3 LdStep.L.C fs3)) ++ (lvs p4 LdStamp.L.C fs4)) from HTK.out] at hZ
      have HN : Hid ((ads (((((P ++ [(b, o + j * 5, mI)]) ++ [(b, o + j * 5 + 1, mI)]) ++ [(b, o + j * 5 + 2, mI)]) ++ (lvs p3 LdStep.L.C fs3)) ++ (lvs p4 LdStamp.L.C fs4))).Nodup) := Lib.hid (nd_pre (Y := Z) (by have h := HND.out; rw [lvs_some, hZ] at h; exact h))
      have HTOP : Hid (k + (P.length + (1 + 1 + 1 + m3 + m4) : Nat) ≤ 1000000000) := Lib.hid (by have h := HTL.out; rw [lvs_some, hZ] at h; simp only [List.length_append, List.length_singleton] at h; have qM3 := HM3.out; have qM4 := HM4.out; have h2 := HM.out; omega)
      have HZ : Hid (y = k + (P.length : Nat)) := Lib.hid (by have h := HY.out; rw [lvs_some, hP] at h; exact h)
      replace HK : Hid (MkL lo hi k P w wr) := Lib.hid (by have h := HK.out; rw [lvs_some, hP] at h; exact h)
      have HS := Lib.hid hS
      have HBW := Lib.hid hbw
      clear hc hx hP hZ hS hbw hf
      have i1 : (0 : Int) ≤ (j : Int) := by omega
      have i2 : (j : Int) < (n : Int) := by omega
      obtain ⟨v_, e_, kd_⟩ := HK.out.mm.cell b _ _ HBW.out HC0.out
      obtain ⟨z0, rfl, _⟩ := kd_.int Hb0.out
      have HU0 := Lib.hid e_
      have u0 := HU0.out
      clear e_ kd_
      have f0 : wr.frozen? ⟨b, o + j * 5, none⟩ = false := (HK.out.mm.froz b _ HBW.out).trans (HS.out.2.2 _)
      obtain ⟨v_, e_, kd_⟩ := HK.out.mm.cell b _ _ HBW.out HC1.out
      obtain ⟨z1, rfl, _⟩ := kd_.int Hb1.out
      have HU1 := Lib.hid e_
      have u1 := HU1.out
      clear e_ kd_
      have f1 : wr.frozen? ⟨b, o + j * 5 + 1, none⟩ = false := (HK.out.mm.froz b _ HBW.out).trans (HS.out.2.2 _)
      obtain ⟨v_, e_, kd_⟩ := HK.out.mm.cell b _ _ HBW.out HC2.out
      obtain ⟨z2, rfl, _⟩ := kd_.int Hb2.out
      have HU2 := Lib.hid e_
      have u2 := HU2.out
      clear e_ kd_
      have f2 : wr.frozen? ⟨b, o + j * 5 + 2, none⟩ = false := (HK.out.mm.froz b _ HBW.out).trans (HS.out.2.2 _)
      obtain ⟨v_, e_, kd_⟩ := HK.out.mm.cell b _ _ HBW.out HC3.out
      obtain rfl := kd_.slice
      have HU3 := Lib.hid e_
      have u3 := HU3.out
      clear e_ kd_
      have hq : 0 ≤ y := by omega
      have hq2 : y + 4 ≤ 9223372036854775000 := by have h0 := HTOP.out; have hZ := HZ.out; omega
      have HW : Hid (MkL lo hi k (((P ++ [(b, o + j * 5, mI)]) ++ [(b, o + j * 5 + 1, mI)]) ++ [(b, o + j * 5 + 2, mI)]) w (((wr.setCell ⟨b, o + j * 5, none⟩ (.int .i64 (y))).setCell ⟨b, o + j * 5 + 1, none⟩ (.int .i64 (y + 1))).setCell ⟨b, o + j * 5 + 2, none⟩ (.int .i64 (y + 1 + 1)))) := Lib.hid (((HK.out.set mI HS.out.1 HS.out.2.1 HU0.out (Kd.ofInt (by unfold Ed.InI; have h := HTOP.out; have hZ := HZ.out; omega)) (congrArg (Value.int .i64) (show y = _ from (by have qM3 := HM3.out; have qM4 := HM4.out; have hZ := HZ.out; (try simp only [List.length_append, List.length_singleton]); omega))) (nd_pre (nd_pre (nd_pre (nd_pre HN.out))))).set mI HS.out.1 HS.out.2.1 (cell_far HU1.out (by omega)) (Kd.ofInt (by unfold Ed.InI; have h := HTOP.out; have hZ := HZ.out; omega)) (congrArg (Value.int .i64) (show y + 1 = _ from (by have qM3 := HM3.out; have qM4 := HM4.out; have hZ := HZ.out; (try simp only [List.length_append, List.length_singleton]); omega))) (nd_pre (nd_pre (nd_pre HN.out)))).set mI HS.out.1 HS.out.2.1 (cell_far (cell_far HU2.out (by omega)) (by omega)) (Kd.ofInt (by unfold Ed.InI; have h := HTOP.out; have hZ := HZ.out; omega)) (congrArg (Value.int .i64) (show y + 1 + 1 = _ from (by have qM3 := HM3.out; have qM4 := HM4.out; have hZ := HZ.out; (try simp only [List.length_append, List.length_singleton]); omega))) (nd_pre (nd_pre HN.out)))
      have HA := Lib.hid (RRd.pk LdStep.lk.pk (show RRd LdStep.L lo hi w p3 n3 fs3 from Hh3.out) HW.out.mm)
      go_wp2_with fail
      refine (LdStep.markS_any lo hi _ _ _ _ (y + 1 + 1 + 1) m3 _ HA.out HM3.out (by omega) (by have h0 := HTOP.out; have hZ := HZ.out; omega) (nd_right (nd_pre HN.out))).mono ?_
      rintro e w2 ⟨rfl, hm⟩
      have HK2 : Hid (MkL lo hi k ((((P ++ [(b, o + j * 5, mI)]) ++ [(b, o + j * 5 + 1, mI)]) ++ [(b, o + j * 5 + 2, mI)]) ++ (lvs p3 LdStep.L.C fs3)) w w2) := Lib.hid (HW.out.trans hm (show y + 1 + 1 + 1 = _ from (by have qM3 := HM3.out; have qM4 := HM4.out; have hZ := HZ.out; (try simp only [List.length_append, List.length_singleton]); omega)) (nd_pre HN.out))
      have HZ2 : Hid (y + 1 + 1 + 1 + (m3 : Nat) = k + (P.length + (1 + 1 + 1 + m3) : Nat)) := Lib.hid (by have hZ := HZ.out; omega)
      clear hq hq2 u0 f0 u1 f1 u2 f2 u3
      clear HW HA hm
      obtain ⟨y2, hy2⟩ : ∃ z, y + 1 + 1 + 1 + (m3 : Int) = z := ⟨_, rfl⟩
      rw [hy2] at HZ2
      rw [hy2]
      have g2 : k ≤ y2 := by omega
      clear hy2
      obtain ⟨v_, e_, kd_⟩ := HK2.out.mm.cell b _ _ HBW.out HC4.out
      obtain rfl := kd_.slice
      have HU4 := Lib.hid e_
      have u4 := HU4.out
      clear e_ kd_
      have hq : 0 ≤ y2 := by omega
      have hq2 : y2 + 1 ≤ 9223372036854775000 := by have h0 := HTOP.out; have hZ := HZ2.out; omega
      have HW : Hid (MkL lo hi k ((((P ++ [(b, o + j * 5, mI)]) ++ [(b, o + j * 5 + 1, mI)]) ++ [(b, o + j * 5 + 2, mI)]) ++ (lvs p3 LdStep.L.C fs3)) w w2) := Lib.hid HK2.out
      have HA := Lib.hid (RRd.pk LdStamp.lk.pk (show RRd LdStamp.L lo hi w p4 n4 fs4 from Hh4.out) HW.out.mm)
      go_wp2_with fail
      refine (LdStamp.markS_any lo hi _ _ _ _ (y2) m4 _ HA.out HM4.out (by omega) (by have h0 := HTOP.out; have hZ := HZ2.out; omega) (nd_right HN.out)).mono ?_
      rintro e w3 ⟨rfl, hm⟩
      have HK3 : Hid (MkL lo hi k (((((P ++ [(b, o + j * 5, mI)]) ++ [(b, o + j * 5 + 1, mI)]) ++ [(b, o + j * 5 + 2, mI)]) ++ (lvs p3 LdStep.L.C fs3)) ++ (lvs p4 LdStamp.L.C fs4)) w w3) := Lib.hid (HW.out.trans hm (show y2 = _ from (by have qM3 := HM3.out; have qM4 := HM4.out; have hZ := HZ2.out; (try simp only [List.length_append, List.length_singleton]); omega)) HN.out)
      have HZ3 : Hid (y2 + (m4 : Nat) = k + (P.length + (1 + 1 + 1 + m3 + m4) : Nat)) := Lib.hid (by have hZ := HZ2.out; omega)
      clear hq hq2  u4
      clear HW HA hm
      obtain ⟨y3, hy3⟩ : ∃ z, y2 + (m4 : Int) = z := ⟨_, rfl⟩
      rw [hy3] at HZ3
      rw [hy3]
      have g3 : k ≤ y3 := by omega
      clear hy3
      have hq : 0 ≤ y3 := by omega
      have hq2 : y3 + 1 ≤ 9223372036854775000 := by have h0 := HTOP.out; have hZ := HZ3.out; omega
      go_wp2_with fail
      go_roundw
      case rel => exact ⟨j + 1, y3, by omega, by go_num, rfl, by omega, Lib.hid (by rw [HTK.out]; have qM3 := HM3.out; have qM4 := HM4.out; have hZ := HZ3.out; simp only [List.length_append, List.length_singleton]; omega), Lib.hid (by rw [HTK.out]; exact HK3.out)⟩
      case measure => simp [intOf]; omega
    · obtain rfl : j = n := by omega
      have ht : fs.take j = fs := List.take_of_length_le (by rw [HLEN.out]; exact Nat.le_refl _)
      have HE : Hid (MkL lo hi k (lvs p L.C fs) w wr) := Lib.hid (by have h := HK.out; rw [ht] at h; exact h)
      have HV : Hid (Value.int .i64 y = .int .i64 (k + (m : Nat))) := Lib.hid (by have h := HY.out; rw [ht, HTL.out] at h; rw [h])
      clear ht
      go_wp2_with fail
      go_ret
      exact ⟨by rw [HV.out]; first | done | rfl, HE.out⟩
set_option maxRecDepth 100000 in
set_option maxHeartbeats 8000000 in
theorem heldS_any (p : Option Addr) (n c : Nat) (fs : List LF) {S : Nat → Prop} (k : Int) (m : Nat) (w : World) (hr : RdD L S w p n fs) (hlen : (lvs p L.C fs).length = m) (hk : 1 ≤ k) (hm : k + (m : Nat) ≤ 1000000000) (hd : Hd k (lvs p L.C fs) w) : Calls Try.prog 109 #[.slice p n c, .int .i64 k] w fun e w' => e = .returned (.int .i64 (k + (m : Nat))) ∧ Below w.heap.size w w' := by
  have HR := Lib.hid hr
  have hle := hr.le
  have HM := Lib.hid hm
  have HHD := Lib.hid hd
  have HTL := Lib.hid hlen
  have HLEN := Lib.hid hr.len
  clear hr hm hd hlen
  go_enter Try.func109, Try.ntmps109
  go_wp2_with fail
  go_loopw [1, 5] (fun x i wr => ∃ (j : Nat) (y : Int), j ≤ n ∧ i = .int .i64 j ∧ x = .int .i64 y ∧ k ≤ y ∧ Hid (y = k + ((lvs p L.C (fs.take j)).length : Nat)) ∧ Hid (Below w.heap.size w wr)) (fun _ i _ => n - (intOf i).toNat)
  case atStart => exact ⟨0, k, Nat.zero_le _, rfl, rfl, Int.le_refl _, Lib.hid (by rw [List.take_zero, lvs_nil]; simp), Lib.hid (Below.refl _ _)⟩
  case round =>
    obtain ⟨j, y, hj, rfl, rfl, hky, HY, HB⟩ := hrel
    by_cases hlt : j < n
    · obtain ⟨b, o, f, cs, rfl, _, hbw, hx, hc, hrd⟩ := RdD.at_ HR.out hlt
      obtain ⟨x0, x1, x2, p3, n3, c3, fs3, p4, n4, c4, fs4, rfl, b0, b1, b2, h3, h4, hf⟩ := exL hrd
      have Hb0 := Lib.hid b0
      have Hb1 := Lib.hid b1
      have Hb2 := Lib.hid b2
      have Hh3 := Lib.hid h3
      have Hh4 := Lib.hid h4
      clear b0 b1 b2 h3 h4
      have HC0 : Hid (w.cell? ⟨b, o + j * 5, none⟩ = some (.int .i64 x0)) := Lib.hid (hc 0 _ rfl)
      have HC1 : Hid (w.cell? ⟨b, o + j * 5 + 1, none⟩ = some (.int .i64 x1)) := Lib.hid (hc 1 _ rfl)
      have HC2 : Hid (w.cell? ⟨b, o + j * 5 + 2, none⟩ = some (.int .i64 x2)) := Lib.hid (hc 2 _ rfl)
      have HC3 : Hid (w.cell? ⟨b, o + j * 5 + 3, none⟩ = some (.slice p3 n3 c3)) := Lib.hid (hc 3 _ rfl)
      have HC4 : Hid (w.cell? ⟨b, o + j * 5 + 4, none⟩ = some (.slice p4 n4 c4)) := Lib.hid (hc 4 _ rfl)
      obtain ⟨m3, hm3⟩ : ∃ m, (lvs p3 LdStep.L.C fs3).length = m := ⟨_, rfl⟩
      have HM3 := Lib.hid hm3
      clear hm3
      obtain ⟨m4, hm4⟩ : ∃ m, (lvs p4 LdStamp.L.C fs4).length = m := ⟨_, rfl⟩
      have HM4 := Lib.hid hm4
      clear hm4
      obtain ⟨P, hP⟩ : ∃ P, lv b L.C o (fs.take j) = P := ⟨_, rfl⟩
      have HTK : Hid (lvs (some ⟨b, o, none⟩) L.C (fs.take (j + 1)) = (((((P ++ [(b, o + j * 5, mI)]) ++ [(b, o + j * 5 + 1, mI)]) ++ [(b, o + j * 5 + 2, mI)]) ++ (lvs p3 LdStep.L.C fs3)) ++ (lvs p4 LdStamp.L.C fs4))) := Lib.hid (by show lv b L.C o (fs.take (j + 1)) = _; rw [lv_take hx, hP, hf]; simp only [List.append_assoc]; first | done | rfl)
      obtain ⟨Z, hZ⟩ := lv_split (b := b) (o := o) (C := L.C) hx
      rw [← lv_take hx, show lv b L.C o (fs.take (j + 1)) = (((((P ++ [(b, o + j * 5, mI)]) ++ [(b, o + j * 5 + 1, mI)]) ++ [(b, o + j * 5 + 2, mI)]) ++ (lvs p3 LdStep.L.C fs3)) ++ (lvs p4 LdStamp.L.C fs4)) from HTK.out] at hZ
      have HD : Hid (Hd k (((((P ++ [(b, o + j * 5, mI)]) ++ [(b, o + j * 5 + 1, mI)]) ++ [(b, o + j * 5 + 2, mI)]) ++ (lvs p3 LdStep.L.C fs3)) ++ (lvs p4 LdStamp.L.C fs4)) w) := Lib.hid (Hd.left (Y := Z) (by have h := HHD.out; rw [lvs_some, hZ] at h; exact h))
      have HTOP : Hid (k + (P.length + (1 + 1 + 1 + m3 + m4) : Nat) ≤ 1000000000) := Lib.hid (by have h := HTL.out; rw [lvs_some, hZ] at h; simp only [List.length_append, List.length_singleton] at h; have qM3 := HM3.out; have qM4 := HM4.out; have h2 := HM.out; omega)
      have HZ : Hid (y = k + (P.length : Nat)) := Lib.hid (by have h := HY.out; rw [lvs_some, hP] at h; exact h)
      have HBW := Lib.hid hbw
      clear hc hx hP hZ hbw hf
      have i1 : (0 : Int) ≤ (j : Int) := by omega
      have i2 : (j : Int) < (n : Int) := by omega
      have HV0 : Hid (w.cell? ⟨b, o + j * 5, none⟩ = some (mI (y))) := Lib.hid (Hd.one (Hd.right (y := y) (Hd.left (Hd.left (Hd.left (Hd.left HD.out)))) (by have qM3 := HM3.out; have qM4 := HM4.out; have hZ := HZ.out; (try simp only [List.length_append, List.length_singleton]); omega)))
      have u0 : wr.cell? ⟨b, o + j * 5, none⟩ = some (.int .i64 (y)) := (HB.out.cell (p := ⟨b, o + j * 5, none⟩) HBW.out).trans HV0.out
      have HV1 : Hid (w.cell? ⟨b, o + j * 5 + 1, none⟩ = some (mI (y + 1))) := Lib.hid (Hd.one (Hd.right (y := y + 1) (Hd.left (Hd.left (Hd.left HD.out))) (by have qM3 := HM3.out; have qM4 := HM4.out; have hZ := HZ.out; (try simp only [List.length_append, List.length_singleton]); omega)))
      have u1 : wr.cell? ⟨b, o + j * 5 + 1, none⟩ = some (.int .i64 (y + 1)) := (HB.out.cell (p := ⟨b, o + j * 5 + 1, none⟩) HBW.out).trans HV1.out
      have HV2 : Hid (w.cell? ⟨b, o + j * 5 + 2, none⟩ = some (mI (y + 1 + 1))) := Lib.hid (Hd.one (Hd.right (y := y + 1 + 1) (Hd.left (Hd.left HD.out)) (by have qM3 := HM3.out; have qM4 := HM4.out; have hZ := HZ.out; (try simp only [List.length_append, List.length_singleton]); omega)))
      have u2 : wr.cell? ⟨b, o + j * 5 + 2, none⟩ = some (.int .i64 (y + 1 + 1)) := (HB.out.cell (p := ⟨b, o + j * 5 + 2, none⟩) HBW.out).trans HV2.out
      have u3 := (HB.out.cell (p := ⟨b, o + j * 5 + 3, none⟩) HBW.out).trans HC3.out
      have hq : 0 ≤ y := by omega
      have hq2 : y + 4 ≤ 9223372036854775000 := by have h0 := HTOP.out; have hZ := HZ.out; omega
      have HA := Lib.hid (Hh3.out.below HB.out)
      have HE3 := Lib.hid ((Hd.right (y := y + 1 + 1 + 1) (Hd.left HD.out) (by have qM3 := HM3.out; have qM4 := HM4.out; have hZ := HZ.out; (try simp only [List.length_append, List.length_singleton]); omega)).below HB.out)
      go_wp2_with fail
      refine (LdStep.heldS_any _ _ _ _ (y + 1 + 1 + 1) m3 _ HA.out HM3.out (by omega) (by have h0 := HTOP.out; have hZ := HZ.out; omega) HE3.out).mono ?_
      rintro e w2 ⟨rfl, hb⟩
      have HB2 := Lib.hid (below_on HB.out hb)
      have HZ2 : Hid (y + 1 + 1 + 1 + (m3 : Nat) = k + (P.length + (1 + 1 + 1 + m3) : Nat)) := Lib.hid (by have hZ := HZ.out; omega)
      clear hq hq2 hb HA HE3 u0 u1 u2 u3
      obtain ⟨y2, hy2⟩ : ∃ z, y + 1 + 1 + 1 + (m3 : Int) = z := ⟨_, rfl⟩
      rw [hy2] at HZ2
      rw [hy2]
      have g2 : k ≤ y2 := by omega
      clear hy2
      have u4 := (HB2.out.cell (p := ⟨b, o + j * 5 + 4, none⟩) HBW.out).trans HC4.out
      have hq : 0 ≤ y2 := by omega
      have hq2 : y2 + 1 ≤ 9223372036854775000 := by have h0 := HTOP.out; have hZ := HZ2.out; omega
      have HA := Lib.hid (Hh4.out.below HB2.out)
      have HE4 := Lib.hid ((Hd.right (y := y2) HD.out (by have qM3 := HM3.out; have qM4 := HM4.out; have hZ := HZ2.out; (try simp only [List.length_append, List.length_singleton]); omega)).below HB2.out)
      go_wp2_with fail
      refine (LdStamp.heldS_any _ _ _ _ (y2) m4 _ HA.out HM4.out (by omega) (by have h0 := HTOP.out; have hZ := HZ2.out; omega) HE4.out).mono ?_
      rintro e w3 ⟨rfl, hb⟩
      have HB3 := Lib.hid (below_on HB2.out hb)
      have HZ3 : Hid (y2 + (m4 : Nat) = k + (P.length + (1 + 1 + 1 + m3 + m4) : Nat)) := Lib.hid (by have hZ := HZ2.out; omega)
      clear hq hq2 hb HA HE4  u4
      obtain ⟨y3, hy3⟩ : ∃ z, y2 + (m4 : Int) = z := ⟨_, rfl⟩
      rw [hy3] at HZ3
      rw [hy3]
      have g3 : k ≤ y3 := by omega
      clear hy3
      have hq : 0 ≤ y3 := by omega
      have hq2 : y3 + 1 ≤ 9223372036854775000 := by have h0 := HTOP.out; have hZ := HZ3.out; omega
      go_wp2_with fail
      go_roundw
      case rel => exact ⟨j + 1, y3, by omega, by go_num, rfl, by omega, Lib.hid (by rw [HTK.out]; have qM3 := HM3.out; have qM4 := HM4.out; have hZ := HZ3.out; simp only [List.length_append, List.length_singleton]; omega), HB3⟩
      case measure => simp [intOf]; omega
    · obtain rfl : j = n := by omega
      have ht : fs.take j = fs := List.take_of_length_le (by rw [HLEN.out]; exact Nat.le_refl _)
      have HV : Hid (Value.int .i64 y = .int .i64 (k + (m : Nat))) := Lib.hid (by have h := HY.out; rw [ht, HTL.out] at h; rw [h])
      clear ht
      go_wp2_with fail
      go_ret
      exact ⟨by rw [HV.out]; first | done | rfl, HB.out⟩
set_option maxRecDepth 100000 in
set_option maxHeartbeats 4000000 in
theorem mark_any (lo hi : Nat) (x0 : Int) (x1 : Int) (x2 : Int) (p3 : Option Addr) (n3 c3 : Nat) (fs3 : List LF) (m3 : Nat) (p4 : Option Addr) (n4 c4 : Nat) (fs4 : List LF) (m4 : Nat) (k : Int) (w : World) (hhi : hi ≤ w.heap.size) (h3 : RRd LdStep.L lo hi w p3 n3 fs3) (e3 : ((lvs p3 LdStep.L.C fs3)).length = m3) (h4 : RRd LdStamp.L lo hi w p4 n4 fs4) (e4 : ((lvs p4 LdStamp.L.C fs4)).length = m4) (hk : 1 ≤ k) (hm : k + ((m3 + m4) : Nat) ≤ 1000000000) (hnd : (ads ((lvs p3 LdStep.L.C fs3) ++ (lvs p4 LdStamp.L.C fs4))).Nodup) : Calls Try.prog 62 #[.agg #[.int .i64 x0, .int .i64 x1, .int .i64 x2, .slice p3 n3 c3, .slice p4 n4 c4], .int .i64 k] w fun e w' => e = .returned (.int .i64 (k + ((m3 + m4) : Nat))) ∧ MkL lo hi k ((lvs p3 LdStep.L.C fs3) ++ (lvs p4 LdStamp.L.C fs4)) w w' := by
  have HX := Lib.hid (Bx.new w 110 #[.int .i64 x0, .int .i64 x1, .int .i64 x2, .slice p3 n3 c3, .slice p4 n4 c4])
  have HT := Lib.hid hm
  have HHI := Lib.hid hhi
  have HND := Lib.hid hnd
  have HQ : Hid (MkL lo hi k [] w (w.alloc (.cells #[.int .i64 x0, .int .i64 x1, .int .i64 x2, .slice p3 n3 c3, .slice p4 n4 c4] 110))) := Lib.hid (MkL.ofBelow (Dz.box1 w _))
  have H3 := Lib.hid h3
  have HM3 := Lib.hid e3
  have H4 := Lib.hid h4
  have HM4 := Lib.hid e4
  clear hm hhi hnd h3 e3 h4 e4
  go_enter Try.func62, Try.ntmps62
  have HY0 : Hid (k = k + (0 : Nat)) := Lib.hid (by omega)
  obtain ⟨u0, u1, u2, u3, u4⟩ := DpRenewal.bxc HX.out
  go_wp2_with fail
  refine (LdStep.markS_any lo hi _ _ _ _ (k) m3 _ (RRd.pk LdStep.lk.pk H3.out HQ.out.mm) HM3.out (by omega) (by have h0 := HT.out; have h := HY0.out; omega) (nd_pre HND.out)).mono ?_
  rintro e w1 ⟨rfl, hm⟩
  have HQ1 : Hid (MkL lo hi k (lvs p3 LdStep.L.C fs3) w w1) := Lib.hid (HQ.out.trans0 hm)
  replace HX := Lib.hid (hm.mm.bx HX.out (Or.inl HHI.out))
  replace HQ := HQ1
  clear HQ1
  obtain ⟨y1, hy1⟩ : ∃ z, k + ((m3 : Nat) : Int) = z := ⟨_, rfl⟩
  have HY1 : Hid (y1 = k + (m3 : Nat)) := Lib.hid (by have h := HY0.out; omega)
  rw [hy1]
  have g1 : k ≤ y1 := by omega
  clear hm hy1 u0 u1 u2 u3 u4
  obtain ⟨u0, u1, u2, u3, u4⟩ := DpRenewal.bxc HX.out
  go_wp2_with fail
  refine (LdStamp.markS_any lo hi _ _ _ _ (y1) m4 _ (RRd.pk LdStamp.lk.pk H4.out HQ.out.mm) HM4.out (by omega) (by have h0 := HT.out; have h := HY1.out; omega) (nd_right HND.out)).mono ?_
  rintro e w2 ⟨rfl, hm⟩
  have HQ2 : Hid (MkL lo hi k ((lvs p3 LdStep.L.C fs3) ++ (lvs p4 LdStamp.L.C fs4)) w w2) := Lib.hid (HQ.out.trans hm (show y1 = _ from (by have qM3 := HM3.out; have qM4 := HM4.out; have h := HY1.out; (try simp only [List.length_append, List.length_nil]); omega)) HND.out)
  replace HX := Lib.hid (hm.mm.bx HX.out (Or.inl HHI.out))
  replace HQ := HQ2
  clear HQ2
  obtain ⟨y2, hy2⟩ : ∃ z, y1 + ((m4 : Nat) : Int) = z := ⟨_, rfl⟩
  have HY2 : Hid (y2 = k + (m3 + m4 : Nat)) := Lib.hid (by have h := HY1.out; omega)
  rw [hy2]
  have g2 : k ≤ y2 := by omega
  clear hm hy2 u0 u1 u2 u3 u4
  have HV : Hid (Value.int .i64 y2 = .int .i64 (k + ((m3 + m4) : Nat))) := Lib.hid (by have h := HY2.out; rw [show y2 = k + ((m3 + m4) : Nat) by omega])
  go_wp2_with fail
  go_ret
  exact ⟨by rw [HV.out]; first | done | rfl, HQ.out⟩
end Go.Proofs.Ytjaholcmaafenaa.LdRenewal
