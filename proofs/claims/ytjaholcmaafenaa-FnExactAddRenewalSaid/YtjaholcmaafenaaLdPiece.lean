/- Leaves of Piece: marks, written and found again. -/
import Derived.Test.YtjaholcmaafenaaLf
import Derived.Test.YtjaholcmaafenaaDz
import Derived.Test.YtjaholcmaafenaaDpPiece
import Derived.Test.YtjaholcmaafenaaMdPiece
import Derived.Test.YtjaholcmaafenaaLdA
import Derived.LoopTactic
import Derived.Outline
namespace Go.Proofs.Ytjaholcmaafenaa.LdPiece
open Go.ChangeShapes Go.WideShapes Go.ChangeAt Go.RowKit Sl St Ed Ek Lf
def L : Ent LF := (lpair lint (lpair (lsl lint) lint))
theorem lk : LkE DpPiece.E MdPiece.M L := (lk_pair lk_int (lk_pair (lk_sl lk_int (by show 1 ≤ 16; omega)) lk_int))
theorem exL {S : Nat → Prop} {w : World} {cs : List Value} {f : LF} (h : L.rd S w cs f) : ∃ (x0 : Int) (p1 : Option Addr) (n1 c1 : Nat) (fs1 : List LF) (x2 : Int), cs = [.int .i64 x0, .slice p1 n1 c1, .int .i64 x2] ∧ InI x0 ∧ RdD lint S w p1 n1 fs1 ∧ InI x2 ∧ ∀ b o, f b o = (([(b, o, mI)] ++ (lvs p1 lint.C fs1)) ++ [(b, o + 2, mI)]) := by
  obtain ⟨_, _, _, _, rfl, ⟨⟨x0, rfl, b0⟩, rfl⟩, ⟨_, _, _, _, rfl, ⟨p1, n1, c1, fs1, rfl, _, h1, rfl⟩, ⟨⟨x2, rfl, b2⟩, rfl⟩, rfl⟩, rfl⟩ := h
  refine ⟨x0, p1, n1, c1, fs1, x2, rfl, b0, h1, b2, fun b o => ?_⟩
  simp only [List.append_assoc]
  rfl
set_option maxRecDepth 100000 in
set_option maxHeartbeats 8000000 in
theorem markS_any (lo hi : Nat) (p : Option Addr) (n c : Nat) (fs : List LF) (k : Int) (m : Nat) (w : World) (hr : RRd L lo hi w p n fs) (hlen : (lvs p L.C fs).length = m) (hk : 1 ≤ k) (hm : k + (m : Nat) ≤ 1000000000) (hnd : (ads (lvs p L.C fs)).Nodup) : Calls Try.prog 76 #[.slice p n c, .int .i64 k] w fun e w' => e = .returned (.int .i64 (k + (m : Nat))) ∧ MkL lo hi k (lvs p L.C fs) w w' := by
  have HR := Lib.hid hr
  have hle := hr.le
  have HM := Lib.hid hm
  have HND := Lib.hid hnd
  have HTL := Lib.hid hlen
  have HLEN := Lib.hid hr.len
  clear hr hm hnd hlen
  go_enter Try.func76, Try.ntmps76
  go_wp2_with fail
  go_loopw [1, 5] (fun x i wr => ∃ (j : Nat) (y : Int), j ≤ n ∧ i = .int .i64 j ∧ x = .int .i64 y ∧ k ≤ y ∧ Hid (y = k + ((lvs p L.C (fs.take j)).length : Nat)) ∧ Hid (MkL lo hi k (lvs p L.C (fs.take j)) w wr)) (fun _ i _ => n - (intOf i).toNat)
  case atStart => exact ⟨0, k, Nat.zero_le _, rfl, rfl, Int.le_refl _, Lib.hid (by rw [List.take_zero, lvs_nil]; simp), Lib.hid (by rw [List.take_zero, lvs_nil]; exact MkL.refl)⟩
  case round =>
    obtain ⟨j, y, hj, rfl, rfl, hky, HY, HK⟩ := hrel
    by_cases hlt : j < n
    · obtain ⟨b, o, f, cs, rfl, hS, hbw, hx, hc, hrd⟩ := RdD.at_ HR.out hlt
      obtain ⟨x0, p1, n1, c1, fs1, x2, rfl, b0, h1, b2, hf⟩ := exL hrd
      have Hb0 := Lib.hid b0
      have Hh1 := Lib.hid h1
      have Hb2 := Lib.hid b2
      clear b0 h1 b2
      have HC0 : Hid (w.cell? ⟨b, o + j * 3, none⟩ = some (.int .i64 x0)) := Lib.hid (hc 0 _ rfl)
      have HC1 : Hid (w.cell? ⟨b, o + j * 3 + 1, none⟩ = some (.slice p1 n1 c1)) := Lib.hid (hc 1 _ rfl)
      have HC2 : Hid (w.cell? ⟨b, o + j * 3 + 2, none⟩ = some (.int .i64 x2)) := Lib.hid (hc 2 _ rfl)
      obtain ⟨m1, hm1⟩ : ∃ m, (lvs p1 lint.C fs1).length = m := ⟨_, rfl⟩
      have HM1 := Lib.hid hm1
      clear hm1
      obtain ⟨P, hP⟩ : ∃ P, lv b L.C o (fs.take j) = P := ⟨_, rfl⟩
      have HTK : Hid (lvs (some ⟨b, o, none⟩) L.C (fs.take (j + 1)) = (((P ++ [(b, o + j * 3, mI)]) ++ (lvs p1 lint.C fs1)) ++ [(b, o + j * 3 + 2, mI)])) := Lib.hid (by show lv b L.C o (fs.take (j + 1)) = _; rw [lv_take hx, hP, hf]; simp only [List.append_assoc]; first | done | rfl)
      obtain ⟨Z, hZ⟩ := lv_split (b := b) (o := o) (C := L.C) hx
      rw [← lv_take hx, show lv b L.C o (fs.take (j + 1)) = (((P ++ [(b, o + j * 3, mI)]) ++ (lvs p1 lint.C fs1)) ++ [(b, o + j * 3 + 2, mI)]) from HTK.out] at hZ
      have HN : Hid ((ads (((P ++ [(b, o + j * 3, mI)]) ++ (lvs p1 lint.C fs1)) ++ [(b, o + j * 3 + 2, mI)])).Nodup) := Lib.hid (nd_pre (Y := Z) (by have h := HND.out; rw [lvs_some, hZ] at h; exact h))
      have HTOP : Hid (k + (P.length + (1 + m1 + 1) : Nat) ≤ 1000000000) := Lib.hid (by have h := HTL.out; rw [lvs_some, hZ] at h; simp only [List.length_append, List.length_singleton] at h; have qM1 := HM1.out; have h2 := HM.out; omega)
      have HZ : Hid (y = k + (P.length : Nat)) := Lib.hid (by have h := HY.out; rw [lvs_some, hP] at h; exact h)
      replace HK : Hid (MkL lo hi k P w wr) := Lib.hid (by have h := HK.out; rw [lvs_some, hP] at h; exact h)
      have HS := Lib.hid hS
      have HBW := Lib.hid hbw
      clear hc hx hP hZ hS hbw hf
      have i1 : (0 : Int) ≤ (j : Int) := by omega
      have i2 : (j : Int) < (n : Int) := by omega
      obtain ⟨v_, e_, kd_⟩ := HK.out.mm.cell b _ _ HBW.out HC0.out
      obtain ⟨z0, rfl, _⟩ := kd_.int Hb0.out
      have HU0 := Lib.hid e_
      have u0 := HU0.out
      clear e_ kd_
      have f0 : wr.frozen? ⟨b, o + j * 3, none⟩ = false := (HK.out.mm.froz b _ HBW.out).trans (HS.out.2.2 _)
      obtain ⟨v_, e_, kd_⟩ := HK.out.mm.cell b _ _ HBW.out HC1.out
      obtain rfl := kd_.slice
      have HU1 := Lib.hid e_
      have u1 := HU1.out
      clear e_ kd_
      have hq : 0 ≤ y := by omega
      have hq2 : y + 2 ≤ 9223372036854775000 := by have h0 := HTOP.out; have hZ := HZ.out; omega
      have HW : Hid (MkL lo hi k (P ++ [(b, o + j * 3, mI)]) w (wr.setCell ⟨b, o + j * 3, none⟩ (.int .i64 (y)))) := Lib.hid (HK.out.set mI HS.out.1 HS.out.2.1 HU0.out (Kd.ofInt (by unfold Ed.InI; have h := HTOP.out; have hZ := HZ.out; omega)) (congrArg (Value.int .i64) (show y = _ from (by have qM1 := HM1.out; have hZ := HZ.out; (try simp only [List.length_append, List.length_singleton]); omega))) (nd_pre (nd_pre HN.out)))
      have HA := Lib.hid (RRd.pk lk_int.pk (show RRd lint lo hi w p1 n1 fs1 from Hh1.out) HW.out.mm)
      go_wp2_with fail
      refine (LdI.markS_any lo hi _ _ _ _ (y + 1) m1 _ HA.out HM1.out (by omega) (by have h0 := HTOP.out; have hZ := HZ.out; omega) (nd_right (nd_pre HN.out))).mono ?_
      rintro e w2 ⟨rfl, hm⟩
      have HK2 : Hid (MkL lo hi k ((P ++ [(b, o + j * 3, mI)]) ++ (lvs p1 lint.C fs1)) w w2) := Lib.hid (HW.out.trans hm (show y + 1 = _ from (by have qM1 := HM1.out; have hZ := HZ.out; (try simp only [List.length_append, List.length_singleton]); omega)) (nd_pre HN.out))
      have HZ2 : Hid (y + 1 + (m1 : Nat) = k + (P.length + (1 + m1) : Nat)) := Lib.hid (by have hZ := HZ.out; omega)
      clear hq hq2 u0 f0 u1
      clear HW HA hm
      obtain ⟨y2, hy2⟩ : ∃ z, y + 1 + (m1 : Int) = z := ⟨_, rfl⟩
      rw [hy2] at HZ2
      rw [hy2]
      have g2 : k ≤ y2 := by omega
      clear hy2
      obtain ⟨v_, e_, kd_⟩ := HK2.out.mm.cell b _ _ HBW.out HC2.out
      obtain ⟨z2, rfl, _⟩ := kd_.int Hb2.out
      have HU2 := Lib.hid e_
      have u2 := HU2.out
      clear e_ kd_
      have f2 : w2.frozen? ⟨b, o + j * 3 + 2, none⟩ = false := (HK2.out.mm.froz b _ HBW.out).trans (HS.out.2.2 _)
      have hq : 0 ≤ y2 := by omega
      have hq2 : y2 + 2 ≤ 9223372036854775000 := by have h0 := HTOP.out; have hZ := HZ2.out; omega
      go_wp2_with fail
      go_roundw
      case rel => exact ⟨j + 1, y2 + 1, by omega, by go_num, rfl, by omega, Lib.hid (by rw [HTK.out]; have qM1 := HM1.out; have hZ := HZ2.out; simp only [List.length_append, List.length_singleton]; omega), Lib.hid (by rw [HTK.out]; exact (HK2.out.set mI HS.out.1 HS.out.2.1 HU2.out (Kd.ofInt (by unfold Ed.InI; have h := HTOP.out; have hZ := HZ2.out; omega)) (congrArg (Value.int .i64) (show y2 = _ from (by have qM1 := HM1.out; have hZ := HZ2.out; (try simp only [List.length_append, List.length_singleton]); omega))) HN.out))⟩
      case measure => simp [intOf]; omega
    · obtain rfl : j = n := by omega
      have ht : fs.take j = fs := List.take_of_length_le (by rw [HLEN.out]; exact Nat.le_refl _)
      have HE : Hid (MkL lo hi k (lvs p L.C fs) w wr) := Lib.hid (by have h := HK.out; rw [ht] at h; exact h)
      have HV : Hid (Value.int .i64 y = .int .i64 (k + (m : Nat))) := Lib.hid (by have h := HY.out; rw [ht, HTL.out] at h; rw [h])
      clear ht
      go_wp2_with fail
      go_ret
      exact ⟨by rw [HV.out]; first | done | rfl, HE.out⟩
set_option maxRecDepth 100000 in
set_option maxHeartbeats 8000000 in
theorem heldS_any (p : Option Addr) (n c : Nat) (fs : List LF) {S : Nat → Prop} (k : Int) (m : Nat) (w : World) (hr : RdD L S w p n fs) (hlen : (lvs p L.C fs).length = m) (hk : 1 ≤ k) (hm : k + (m : Nat) ≤ 1000000000) (hd : Hd k (lvs p L.C fs) w) : Calls Try.prog 108 #[.slice p n c, .int .i64 k] w fun e w' => e = .returned (.int .i64 (k + (m : Nat))) ∧ Below w.heap.size w w' := by
  have HR := Lib.hid hr
  have hle := hr.le
  have HM := Lib.hid hm
  have HHD := Lib.hid hd
  have HTL := Lib.hid hlen
  have HLEN := Lib.hid hr.len
  clear hr hm hd hlen
  go_enter Try.func108, Try.ntmps108
  go_wp2_with fail
  go_loopw [1, 5] (fun x i wr => ∃ (j : Nat) (y : Int), j ≤ n ∧ i = .int .i64 j ∧ x = .int .i64 y ∧ k ≤ y ∧ Hid (y = k + ((lvs p L.C (fs.take j)).length : Nat)) ∧ Hid (Below w.heap.size w wr)) (fun _ i _ => n - (intOf i).toNat)
  case atStart => exact ⟨0, k, Nat.zero_le _, rfl, rfl, Int.le_refl _, Lib.hid (by rw [List.take_zero, lvs_nil]; simp), Lib.hid (Below.refl _ _)⟩
  case round =>
    obtain ⟨j, y, hj, rfl, rfl, hky, HY, HB⟩ := hrel
    by_cases hlt : j < n
    · obtain ⟨b, o, f, cs, rfl, _, hbw, hx, hc, hrd⟩ := RdD.at_ HR.out hlt
      obtain ⟨x0, p1, n1, c1, fs1, x2, rfl, b0, h1, b2, hf⟩ := exL hrd
      have Hb0 := Lib.hid b0
      have Hh1 := Lib.hid h1
      have Hb2 := Lib.hid b2
      clear b0 h1 b2
      have HC0 : Hid (w.cell? ⟨b, o + j * 3, none⟩ = some (.int .i64 x0)) := Lib.hid (hc 0 _ rfl)
      have HC1 : Hid (w.cell? ⟨b, o + j * 3 + 1, none⟩ = some (.slice p1 n1 c1)) := Lib.hid (hc 1 _ rfl)
      have HC2 : Hid (w.cell? ⟨b, o + j * 3 + 2, none⟩ = some (.int .i64 x2)) := Lib.hid (hc 2 _ rfl)
      obtain ⟨m1, hm1⟩ : ∃ m, (lvs p1 lint.C fs1).length = m := ⟨_, rfl⟩
      have HM1 := Lib.hid hm1
      clear hm1
      obtain ⟨P, hP⟩ : ∃ P, lv b L.C o (fs.take j) = P := ⟨_, rfl⟩
      have HTK : Hid (lvs (some ⟨b, o, none⟩) L.C (fs.take (j + 1)) = (((P ++ [(b, o + j * 3, mI)]) ++ (lvs p1 lint.C fs1)) ++ [(b, o + j * 3 + 2, mI)])) := Lib.hid (by show lv b L.C o (fs.take (j + 1)) = _; rw [lv_take hx, hP, hf]; simp only [List.append_assoc]; first | done | rfl)
      obtain ⟨Z, hZ⟩ := lv_split (b := b) (o := o) (C := L.C) hx
      rw [← lv_take hx, show lv b L.C o (fs.take (j + 1)) = (((P ++ [(b, o + j * 3, mI)]) ++ (lvs p1 lint.C fs1)) ++ [(b, o + j * 3 + 2, mI)]) from HTK.out] at hZ
      have HD : Hid (Hd k (((P ++ [(b, o + j * 3, mI)]) ++ (lvs p1 lint.C fs1)) ++ [(b, o + j * 3 + 2, mI)]) w) := Lib.hid (Hd.left (Y := Z) (by have h := HHD.out; rw [lvs_some, hZ] at h; exact h))
      have HTOP : Hid (k + (P.length + (1 + m1 + 1) : Nat) ≤ 1000000000) := Lib.hid (by have h := HTL.out; rw [lvs_some, hZ] at h; simp only [List.length_append, List.length_singleton] at h; have qM1 := HM1.out; have h2 := HM.out; omega)
      have HZ : Hid (y = k + (P.length : Nat)) := Lib.hid (by have h := HY.out; rw [lvs_some, hP] at h; exact h)
      have HBW := Lib.hid hbw
      clear hc hx hP hZ hbw hf
      have i1 : (0 : Int) ≤ (j : Int) := by omega
      have i2 : (j : Int) < (n : Int) := by omega
      have HV0 : Hid (w.cell? ⟨b, o + j * 3, none⟩ = some (mI (y))) := Lib.hid (Hd.one (Hd.right (y := y) (Hd.left (Hd.left HD.out)) (by have qM1 := HM1.out; have hZ := HZ.out; (try simp only [List.length_append, List.length_singleton]); omega)))
      have u0 : wr.cell? ⟨b, o + j * 3, none⟩ = some (.int .i64 (y)) := (HB.out.cell (p := ⟨b, o + j * 3, none⟩) HBW.out).trans HV0.out
      have u1 := (HB.out.cell (p := ⟨b, o + j * 3 + 1, none⟩) HBW.out).trans HC1.out
      have hq : 0 ≤ y := by omega
      have hq2 : y + 2 ≤ 9223372036854775000 := by have h0 := HTOP.out; have hZ := HZ.out; omega
      have HA := Lib.hid (Hh1.out.below HB.out)
      have HE1 := Lib.hid ((Hd.right (y := y + 1) (Hd.left HD.out) (by have qM1 := HM1.out; have hZ := HZ.out; (try simp only [List.length_append, List.length_singleton]); omega)).below HB.out)
      go_wp2_with fail
      refine (LdI.heldS_any _ _ _ _ (y + 1) m1 _ HA.out HM1.out (by omega) (by have h0 := HTOP.out; have hZ := HZ.out; omega) HE1.out).mono ?_
      rintro e w2 ⟨rfl, hb⟩
      have HB2 := Lib.hid (below_on HB.out hb)
      have HZ2 : Hid (y + 1 + (m1 : Nat) = k + (P.length + (1 + m1) : Nat)) := Lib.hid (by have hZ := HZ.out; omega)
      clear hq hq2 hb HA HE1 u0 u1
      obtain ⟨y2, hy2⟩ : ∃ z, y + 1 + (m1 : Int) = z := ⟨_, rfl⟩
      rw [hy2] at HZ2
      rw [hy2]
      have g2 : k ≤ y2 := by omega
      clear hy2
      have HV2 : Hid (w.cell? ⟨b, o + j * 3 + 2, none⟩ = some (mI (y2))) := Lib.hid (Hd.one (Hd.right (y := y2) HD.out (by have qM1 := HM1.out; have hZ := HZ2.out; (try simp only [List.length_append, List.length_singleton]); omega)))
      have u2 : w2.cell? ⟨b, o + j * 3 + 2, none⟩ = some (.int .i64 (y2)) := (HB2.out.cell (p := ⟨b, o + j * 3 + 2, none⟩) HBW.out).trans HV2.out
      have hq : 0 ≤ y2 := by omega
      have hq2 : y2 + 2 ≤ 9223372036854775000 := by have h0 := HTOP.out; have hZ := HZ2.out; omega
      go_wp2_with fail
      go_roundw
      case rel => exact ⟨j + 1, y2 + 1, by omega, by go_num, rfl, by omega, Lib.hid (by rw [HTK.out]; have qM1 := HM1.out; have hZ := HZ2.out; simp only [List.length_append, List.length_singleton]; omega), HB2⟩
      case measure => simp [intOf]; omega
    · obtain rfl : j = n := by omega
      have ht : fs.take j = fs := List.take_of_length_le (by rw [HLEN.out]; exact Nat.le_refl _)
      have HV : Hid (Value.int .i64 y = .int .i64 (k + (m : Nat))) := Lib.hid (by have h := HY.out; rw [ht, HTL.out] at h; rw [h])
      clear ht
      go_wp2_with fail
      go_ret
      exact ⟨by rw [HV.out]; first | done | rfl, HB.out⟩
set_option maxRecDepth 100000 in
set_option maxHeartbeats 4000000 in
theorem mark_any (lo hi : Nat) (x0 : Int) (p1 : Option Addr) (n1 c1 : Nat) (fs1 : List LF) (m1 : Nat) (x2 : Int) (k : Int) (w : World) (hhi : hi ≤ w.heap.size) (h1 : RRd lint lo hi w p1 n1 fs1) (e1 : ((lvs p1 lint.C fs1)).length = m1) (hk : 1 ≤ k) (hm : k + ((m1) : Nat) ≤ 1000000000) (hnd : (ads (lvs p1 lint.C fs1)).Nodup) : Calls Try.prog 55 #[.agg #[.int .i64 x0, .slice p1 n1 c1, .int .i64 x2], .int .i64 k] w fun e w' => e = .returned (.int .i64 (k + ((m1) : Nat))) ∧ MkL lo hi k (lvs p1 lint.C fs1) w w' := by
  have HX := Lib.hid (Bx.new w 97 #[.int .i64 x0, .slice p1 n1 c1, .int .i64 x2])
  have HT := Lib.hid hm
  have HHI := Lib.hid hhi
  have HND := Lib.hid hnd
  have HQ : Hid (MkL lo hi k [] w (w.alloc (.cells #[.int .i64 x0, .slice p1 n1 c1, .int .i64 x2] 97))) := Lib.hid (MkL.ofBelow (Dz.box1 w _))
  have H1 := Lib.hid h1
  have HM1 := Lib.hid e1
  clear hm hhi hnd h1 e1
  go_enter Try.func55, Try.ntmps55
  have HY0 : Hid (k = k + (0 : Nat)) := Lib.hid (by omega)
  obtain ⟨u0, u1, u2⟩ := DpPiece.bxc HX.out
  go_wp2_with fail
  refine (LdI.markS_any lo hi _ _ _ _ (k) m1 _ (RRd.pk lk_int.pk H1.out HQ.out.mm) HM1.out (by omega) (by have h0 := HT.out; have h := HY0.out; omega) HND.out).mono ?_
  rintro e w1 ⟨rfl, hm⟩
  have HQ1 : Hid (MkL lo hi k (lvs p1 lint.C fs1) w w1) := Lib.hid (HQ.out.trans0 hm)
  replace HX := Lib.hid (hm.mm.bx HX.out (Or.inl HHI.out))
  replace HQ := HQ1
  clear HQ1
  obtain ⟨y1, hy1⟩ : ∃ z, k + ((m1 : Nat) : Int) = z := ⟨_, rfl⟩
  have HY1 : Hid (y1 = k + (m1 : Nat)) := Lib.hid (by have h := HY0.out; omega)
  rw [hy1]
  have g1 : k ≤ y1 := by omega
  clear hm hy1 u0 u1 u2
  have HV : Hid (Value.int .i64 y1 = .int .i64 (k + ((m1) : Nat))) := Lib.hid (by have h := HY1.out; rw [show y1 = k + ((m1) : Nat) by omega])
  go_wp2_with fail
  go_ret
  exact ⟨by rw [HV.out]; first | done | rfl, HQ.out⟩
end Go.Proofs.Ytjaholcmaafenaa.LdPiece
