/- Leaves of numbers: marks, written and found again. Leaves of Step: marks, written and found again. Leaves of Stamp: marks, written and found again. -/
import Derived.Test.YtjaholcmaafenaaLf
import Derived.Test.YtjaholcmaafenaaDz
import Derived.Test.YtjaholcmaafenaaSlI
import Derived.LoopTactic
import Derived.Outline
import Derived.Test.YtjaholcmaafenaaSlStep
import Derived.Test.YtjaholcmaafenaaMdA
import Derived.Test.YtjaholcmaafenaaSlStamp
namespace Go.Proofs.Ytjaholcmaafenaa.LdI
open Go.ChangeShapes Go.WideShapes Go.ChangeAt Go.RowKit Sl St Ed Ek Lf
set_option maxRecDepth 100000 in
set_option maxHeartbeats 8000000 in
theorem markS_any (lo hi : Nat) (p : Option Addr) (n c : Nat) (fs : List LF) (k : Int) (m : Nat) (w : World) (hr : RRd lint lo hi w p n fs) (hlen : (lvs p lint.C fs).length = m) (hk : 1 ≤ k) (hm : k + (m : Nat) ≤ 1000000000) (hnd : (ads (lvs p lint.C fs)).Nodup) : Calls Try.prog 21 #[.slice p n c, .int .i64 k] w fun e w' => e = .returned (.int .i64 (k + (m : Nat))) ∧ MkL lo hi k (lvs p lint.C fs) w w' := by
  have HR := Lib.hid hr
  have hle := hr.le
  have HM := Lib.hid hm
  have HND := Lib.hid hnd
  have HTL := Lib.hid hlen
  have HLEN := Lib.hid hr.len
  clear hr hm hnd hlen
  go_enter Try.func21, Try.ntmps21
  go_wp2_with fail
  go_loopw [1, 5] (fun x i wr => ∃ (j : Nat) (y : Int), j ≤ n ∧ i = .int .i64 j ∧ x = .int .i64 y ∧ k ≤ y ∧ Hid (y = k + ((lvs p lint.C (fs.take j)).length : Nat)) ∧ Hid (MkL lo hi k (lvs p lint.C (fs.take j)) w wr)) (fun _ i _ => n - (intOf i).toNat)
  case atStart => exact ⟨0, k, Nat.zero_le _, rfl, rfl, Int.le_refl _, Lib.hid (by rw [List.take_zero, lvs_nil]; simp), Lib.hid (by rw [List.take_zero, lvs_nil]; exact MkL.refl)⟩
  case round =>
    obtain ⟨j, y, hj, rfl, rfl, hky, HY, HK⟩ := hrel
    by_cases hlt : j < n
    · obtain ⟨b, o, f, cs, rfl, hS, hbw, hx, hc, hrd⟩ := RdD.at_ HR.out hlt
      obtain ⟨⟨x0, rfl, b0⟩, rfl⟩ := hrd
      have Hb0 := Lib.hid b0
      clear b0
      have HC0 : Hid (w.cell? ⟨b, o + j, none⟩ = some (.int .i64 x0)) := Lib.hid (by have h := hc 0 _ rfl; rw [show o + j * (lint).C + 0 = o + j from by show o + j * 1 + 0 = _; omega] at h; exact h)
      obtain ⟨P, hP⟩ : ∃ P, lv b lint.C o (fs.take j) = P := ⟨_, rfl⟩
      have HTK : Hid (lvs (some ⟨b, o, none⟩) lint.C (fs.take (j + 1)) = (P ++ [(b, o + j, mI)])) := Lib.hid (by show lv b lint.C o (fs.take (j + 1)) = _; rw [lv_take hx, hP, show o + j * lint.C = o + j from by show o + j * 1 = _; omega])
      obtain ⟨Z, hZ⟩ := lv_split (b := b) (o := o) (C := lint.C) hx
      rw [← lv_take hx, show lv b lint.C o (fs.take (j + 1)) = (P ++ [(b, o + j, mI)]) from HTK.out] at hZ
      have HN : Hid ((ads (P ++ [(b, o + j, mI)])).Nodup) := Lib.hid (nd_pre (Y := Z) (by have h := HND.out; rw [lvs_some, hZ] at h; exact h))
      have HTOP : Hid (k + (P.length + (1) : Nat) ≤ 1000000000) := Lib.hid (by have h := HTL.out; rw [lvs_some, hZ] at h; simp only [List.length_append, List.length_singleton] at h; have h2 := HM.out; omega)
      have HZ : Hid (y = k + (P.length : Nat)) := Lib.hid (by have h := HY.out; rw [lvs_some, hP] at h; exact h)
      replace HK : Hid (MkL lo hi k P w wr) := Lib.hid (by have h := HK.out; rw [lvs_some, hP] at h; exact h)
      have HS := Lib.hid hS
      have HBW := Lib.hid hbw
      clear hc hx hP hZ hS hbw
      have i1 : (0 : Int) ≤ (j : Int) := by omega
      have i2 : (j : Int) < (n : Int) := by omega
      obtain ⟨v_, e_, kd_⟩ := HK.out.mm.cell b _ _ HBW.out HC0.out
      obtain ⟨z0, rfl, _⟩ := kd_.int Hb0.out
      have HU0 := Lib.hid e_
      have u0 := HU0.out
      clear e_ kd_
      have f0 : wr.frozen? ⟨b, o + j, none⟩ = false := (HK.out.mm.froz b _ HBW.out).trans (HS.out.2.2 _)
      have hq : 0 ≤ y := by omega
      have hq2 : y + 2 ≤ 9223372036854775000 := by have h0 := HTOP.out; have hZ := HZ.out; omega
      go_wp2_with fail
      go_roundw
      case rel => exact ⟨j + 1, y + 1, by omega, by go_num, rfl, by omega, Lib.hid (by rw [HTK.out]; have hZ := HZ.out; simp only [List.length_append, List.length_singleton]; omega), Lib.hid (by rw [HTK.out]; exact (HK.out.set mI HS.out.1 HS.out.2.1 HU0.out (Kd.ofInt (by unfold Ed.InI; have h := HTOP.out; have hZ := HZ.out; omega)) (congrArg (Value.int .i64) (show y = _ from (by have hZ := HZ.out; (try simp only [List.length_append, List.length_singleton]); omega))) HN.out))⟩
      case measure => simp [intOf]; omega
    · obtain rfl : j = n := by omega
      have ht : fs.take j = fs := List.take_of_length_le (by rw [HLEN.out]; exact Nat.le_refl _)
      have HE : Hid (MkL lo hi k (lvs p lint.C fs) w wr) := Lib.hid (by have h := HK.out; rw [ht] at h; exact h)
      have HV : Hid (Value.int .i64 y = .int .i64 (k + (m : Nat))) := Lib.hid (by have h := HY.out; rw [ht, HTL.out] at h; rw [h])
      clear ht
      go_wp2_with fail
      go_ret
      exact ⟨by rw [HV.out]; first | done | rfl, HE.out⟩
set_option maxRecDepth 100000 in
set_option maxHeartbeats 8000000 in
theorem heldS_any (p : Option Addr) (n c : Nat) (fs : List LF) {S : Nat → Prop} (k : Int) (m : Nat) (w : World) (hr : RdD lint S w p n fs) (hlen : (lvs p lint.C fs).length = m) (hk : 1 ≤ k) (hm : k + (m : Nat) ≤ 1000000000) (hd : Hd k (lvs p lint.C fs) w) : Calls Try.prog 22 #[.slice p n c, .int .i64 k] w fun e w' => e = .returned (.int .i64 (k + (m : Nat))) ∧ Below w.heap.size w w' := by
  have HR := Lib.hid hr
  have hle := hr.le
  have HM := Lib.hid hm
  have HHD := Lib.hid hd
  have HTL := Lib.hid hlen
  have HLEN := Lib.hid hr.len
  clear hr hm hd hlen
  go_enter Try.func22, Try.ntmps22
  go_wp2_with fail
  go_loopw [1, 5] (fun x i wr => ∃ (j : Nat) (y : Int), j ≤ n ∧ i = .int .i64 j ∧ x = .int .i64 y ∧ k ≤ y ∧ Hid (y = k + ((lvs p lint.C (fs.take j)).length : Nat)) ∧ Hid (Below w.heap.size w wr)) (fun _ i _ => n - (intOf i).toNat)
  case atStart => exact ⟨0, k, Nat.zero_le _, rfl, rfl, Int.le_refl _, Lib.hid (by rw [List.take_zero, lvs_nil]; simp), Lib.hid (Below.refl _ _)⟩
  case round =>
    obtain ⟨j, y, hj, rfl, rfl, hky, HY, HB⟩ := hrel
    by_cases hlt : j < n
    · obtain ⟨b, o, f, cs, rfl, _, hbw, hx, hc, hrd⟩ := RdD.at_ HR.out hlt
      obtain ⟨⟨x0, rfl, b0⟩, rfl⟩ := hrd
      have Hb0 := Lib.hid b0
      clear b0
      have HC0 : Hid (w.cell? ⟨b, o + j, none⟩ = some (.int .i64 x0)) := Lib.hid (by have h := hc 0 _ rfl; rw [show o + j * (lint).C + 0 = o + j from by show o + j * 1 + 0 = _; omega] at h; exact h)
      obtain ⟨P, hP⟩ : ∃ P, lv b lint.C o (fs.take j) = P := ⟨_, rfl⟩
      have HTK : Hid (lvs (some ⟨b, o, none⟩) lint.C (fs.take (j + 1)) = (P ++ [(b, o + j, mI)])) := Lib.hid (by show lv b lint.C o (fs.take (j + 1)) = _; rw [lv_take hx, hP, show o + j * lint.C = o + j from by show o + j * 1 = _; omega])
      obtain ⟨Z, hZ⟩ := lv_split (b := b) (o := o) (C := lint.C) hx
      rw [← lv_take hx, show lv b lint.C o (fs.take (j + 1)) = (P ++ [(b, o + j, mI)]) from HTK.out] at hZ
      have HD : Hid (Hd k (P ++ [(b, o + j, mI)]) w) := Lib.hid (Hd.left (Y := Z) (by have h := HHD.out; rw [lvs_some, hZ] at h; exact h))
      have HTOP : Hid (k + (P.length + (1) : Nat) ≤ 1000000000) := Lib.hid (by have h := HTL.out; rw [lvs_some, hZ] at h; simp only [List.length_append, List.length_singleton] at h; have h2 := HM.out; omega)
      have HZ : Hid (y = k + (P.length : Nat)) := Lib.hid (by have h := HY.out; rw [lvs_some, hP] at h; exact h)
      have HBW := Lib.hid hbw
      clear hc hx hP hZ hbw
      have i1 : (0 : Int) ≤ (j : Int) := by omega
      have i2 : (j : Int) < (n : Int) := by omega
      have HV0 : Hid (w.cell? ⟨b, o + j, none⟩ = some (mI (y))) := Lib.hid (Hd.one (Hd.right (y := y) HD.out (by have hZ := HZ.out; (try simp only [List.length_append, List.length_singleton]); omega)))
      have u0 : wr.cell? ⟨b, o + j, none⟩ = some (.int .i64 (y)) := (HB.out.cell (p := ⟨b, o + j, none⟩) HBW.out).trans HV0.out
      have hq : 0 ≤ y := by omega
      have hq2 : y + 2 ≤ 9223372036854775000 := by have h0 := HTOP.out; have hZ := HZ.out; omega
      go_wp2_with fail
      go_roundw
      case rel => exact ⟨j + 1, y + 1, by omega, by go_num, rfl, by omega, Lib.hid (by rw [HTK.out]; have hZ := HZ.out; simp only [List.length_append, List.length_singleton]; omega), HB⟩
      case measure => simp [intOf]; omega
    · obtain rfl : j = n := by omega
      have ht : fs.take j = fs := List.take_of_length_le (by rw [HLEN.out]; exact Nat.le_refl _)
      have HV : Hid (Value.int .i64 y = .int .i64 (k + (m : Nat))) := Lib.hid (by have h := HY.out; rw [ht, HTL.out] at h; rw [h])
      clear ht
      go_wp2_with fail
      go_ret
      exact ⟨by rw [HV.out]; first | done | rfl, HB.out⟩
end Go.Proofs.Ytjaholcmaafenaa.LdI

namespace Go.Proofs.Ytjaholcmaafenaa.LdStep
open Go.ChangeShapes Go.WideShapes Go.ChangeAt Go.RowKit Sl St Ed Ek Lf
def L : Ent LF := (lpair lint lbool)
theorem pk : Pk L := (pk_pair pk_int pk_bool)
theorem pl : Pl L := (pl_pair pl_int pl_bool)
def f0 : LF := fun b o => [(b, o, mI)] ++ ([(b, o + 1, mB)])
theorem flt : Flt L f0 := (flt_pair flt_int flt_bool)
theorem lk : LkE (flat SlStep.E SlStep.InR) MdStep.M L := lk_flat MdStep.pres rfl flt pk pl
theorem mkL (x : (Int × Bool)) (hx : SlStep.InR x) (S : Nat → Prop) (w : World) : L.rd S w (SlStep.E.of x) f0 := by
  obtain ⟨x0, x1⟩ := x
  have b0 : Ed.InI x0 := hx
  exact ⟨[.int .i64 x0], [.bool x1], _, _, rfl, ⟨⟨x0, rfl, b0⟩, rfl⟩, ⟨⟨x1, rfl⟩, rfl⟩, rfl⟩
theorem exL {S : Nat → Prop} {w : World} {cs : List Value} {f : LF} (h : L.rd S w cs f) : ∃ (x0 : Int) (x1 : Bool), cs = [.int .i64 x0, .bool x1] ∧ InI x0 ∧ ∀ b o, f b o = ([(b, o, mI)] ++ [(b, o + 1, mB)]) := by
  obtain ⟨_, _, _, _, rfl, ⟨⟨x0, rfl, b0⟩, rfl⟩, ⟨⟨x1, rfl⟩, rfl⟩, rfl⟩ := h
  refine ⟨x0, x1, rfl, b0, fun b o => ?_⟩
  rfl
set_option maxRecDepth 100000 in
set_option maxHeartbeats 8000000 in
theorem markS_any (lo hi : Nat) (p : Option Addr) (n c : Nat) (fs : List LF) (k : Int) (m : Nat) (w : World) (hr : RRd L lo hi w p n fs) (hlen : (lvs p L.C fs).length = m) (hk : 1 ≤ k) (hm : k + (m : Nat) ≤ 1000000000) (hnd : (ads (lvs p L.C fs)).Nodup) : Calls Try.prog 117 #[.slice p n c, .int .i64 k] w fun e w' => e = .returned (.int .i64 (k + (m : Nat))) ∧ MkL lo hi k (lvs p L.C fs) w w' := by
  have HR := Lib.hid hr
  have hle := hr.le
  have HM := Lib.hid hm
  have HND := Lib.hid hnd
  have HTL := Lib.hid hlen
  have HLEN := Lib.hid hr.len
  clear hr hm hnd hlen
  go_enter Try.func117, Try.ntmps117
  go_wp2_with fail
  go_loopw [1, 5] (fun x i wr => ∃ (j : Nat) (y : Int), j ≤ n ∧ i = .int .i64 j ∧ x = .int .i64 y ∧ k ≤ y ∧ Hid (y = k + ((lvs p L.C (fs.take j)).length : Nat)) ∧ Hid (MkL lo hi k (lvs p L.C (fs.take j)) w wr)) (fun _ i _ => n - (intOf i).toNat)
  case atStart => exact ⟨0, k, Nat.zero_le _, rfl, rfl, Int.le_refl _, Lib.hid (by rw [List.take_zero, lvs_nil]; simp), Lib.hid (by rw [List.take_zero, lvs_nil]; exact MkL.refl)⟩
  case round =>
    obtain ⟨j, y, hj, rfl, rfl, hky, HY, HK⟩ := hrel
    by_cases hlt : j < n
    · obtain ⟨b, o, f, cs, rfl, hS, hbw, hx, hc, hrd⟩ := RdD.at_ HR.out hlt
      obtain ⟨x0, x1, rfl, b0, hf⟩ := exL hrd
      have Hb0 := Lib.hid b0
      clear b0
      have HC0 : Hid (w.cell? ⟨b, o + j * 2, none⟩ = some (.int .i64 x0)) := Lib.hid (hc 0 _ rfl)
      have HC1 : Hid (w.cell? ⟨b, o + j * 2 + 1, none⟩ = some (.bool x1)) := Lib.hid (hc 1 _ rfl)
      obtain ⟨P, hP⟩ : ∃ P, lv b L.C o (fs.take j) = P := ⟨_, rfl⟩
      have HTK : Hid (lvs (some ⟨b, o, none⟩) L.C (fs.take (j + 1)) = ((P ++ [(b, o + j * 2, mI)]) ++ [(b, o + j * 2 + 1, mB)])) := Lib.hid (by show lv b L.C o (fs.take (j + 1)) = _; rw [lv_take hx, hP, hf]; simp only [List.append_assoc]; first | done | rfl)
      obtain ⟨Z, hZ⟩ := lv_split (b := b) (o := o) (C := L.C) hx
      rw [← lv_take hx, show lv b L.C o (fs.take (j + 1)) = ((P ++ [(b, o + j * 2, mI)]) ++ [(b, o + j * 2 + 1, mB)]) from HTK.out] at hZ
      have HN : Hid ((ads ((P ++ [(b, o + j * 2, mI)]) ++ [(b, o + j * 2 + 1, mB)])).Nodup) := Lib.hid (nd_pre (Y := Z) (by have h := HND.out; rw [lvs_some, hZ] at h; exact h))
      have HTOP : Hid (k + (P.length + (1 + 1) : Nat) ≤ 1000000000) := Lib.hid (by have h := HTL.out; rw [lvs_some, hZ] at h; simp only [List.length_append, List.length_singleton] at h; have h2 := HM.out; omega)
      have HZ : Hid (y = k + (P.length : Nat)) := Lib.hid (by have h := HY.out; rw [lvs_some, hP] at h; exact h)
      replace HK : Hid (MkL lo hi k P w wr) := Lib.hid (by have h := HK.out; rw [lvs_some, hP] at h; exact h)
      have HS := Lib.hid hS
      have HBW := Lib.hid hbw
      clear hc hx hP hZ hS hbw hf
      have i1 : (0 : Int) ≤ (j : Int) := by omega
      have i2 : (j : Int) < (n : Int) := by omega
      obtain ⟨yq, rfl⟩ : ∃ q : Nat, y = (q : Int) := ⟨y.toNat, by omega⟩
      obtain ⟨v_, e_, kd_⟩ := HK.out.mm.cell b _ _ HBW.out HC0.out
      obtain ⟨z0, rfl, _⟩ := kd_.int Hb0.out
      have HU0 := Lib.hid e_
      have u0 := HU0.out
      clear e_ kd_
      have f0 : wr.frozen? ⟨b, o + j * 2, none⟩ = false := (HK.out.mm.froz b _ HBW.out).trans (HS.out.2.2 _)
      obtain ⟨v_, e_, kd_⟩ := HK.out.mm.cell b _ _ HBW.out HC1.out
      obtain ⟨z1, rfl⟩ := kd_.bool
      have HU1 := Lib.hid e_
      have u1 := HU1.out
      clear e_ kd_
      have f1 : wr.frozen? ⟨b, o + j * 2 + 1, none⟩ = false := (HK.out.mm.froz b _ HBW.out).trans (HS.out.2.2 _)
      have hq : 0 ≤ (yq : Int) := by omega
      have hq2 : (yq : Int) + 3 ≤ 9223372036854775000 := by have h0 := HTOP.out; have hZ := HZ.out; omega
      go_wp2_with fail
      go_roundw
      case rel => exact ⟨j + 1, (yq : Int) + 1 + 1, by omega, by go_num, rfl, by omega, Lib.hid (by rw [HTK.out]; have hZ := HZ.out; simp only [List.length_append, List.length_singleton]; omega), Lib.hid (by rw [HTK.out]; exact ((HK.out.set mI HS.out.1 HS.out.2.1 HU0.out (Kd.ofInt (by unfold Ed.InI; have h := HTOP.out; have hZ := HZ.out; omega)) (congrArg (Value.int .i64) (show (yq : Int) = _ from (by have hZ := HZ.out; (try simp only [List.length_append, List.length_singleton]); omega))) (nd_pre HN.out)).set mB HS.out.1 HS.out.2.1 (cell_far HU1.out (by omega)) Kd.ofBool (by rw [show k + (((P ++ [(b, o + j * 2, mI)])).length : Nat) = (yq : Int) + 1 from (by have hZ := HZ.out; (try simp only [List.length_append, List.length_singleton]); omega)]; first | rfl | (unfold mB; simp)) HN.out))⟩
      case measure => simp [intOf]; omega
    · obtain rfl : j = n := by omega
      have ht : fs.take j = fs := List.take_of_length_le (by rw [HLEN.out]; exact Nat.le_refl _)
      have HE : Hid (MkL lo hi k (lvs p L.C fs) w wr) := Lib.hid (by have h := HK.out; rw [ht] at h; exact h)
      have HV : Hid (Value.int .i64 y = .int .i64 (k + (m : Nat))) := Lib.hid (by have h := HY.out; rw [ht, HTL.out] at h; rw [h])
      clear ht
      go_wp2_with fail
      go_ret
      exact ⟨by rw [HV.out]; first | done | rfl, HE.out⟩
set_option maxRecDepth 100000 in
set_option maxHeartbeats 8000000 in
theorem heldS_any (p : Option Addr) (n c : Nat) (fs : List LF) {S : Nat → Prop} (k : Int) (m : Nat) (w : World) (hr : RdD L S w p n fs) (hlen : (lvs p L.C fs).length = m) (hk : 1 ≤ k) (hm : k + (m : Nat) ≤ 1000000000) (hd : Hd k (lvs p L.C fs) w) : Calls Try.prog 132 #[.slice p n c, .int .i64 k] w fun e w' => e = .returned (.int .i64 (k + (m : Nat))) ∧ Below w.heap.size w w' := by
  have HR := Lib.hid hr
  have hle := hr.le
  have HM := Lib.hid hm
  have HHD := Lib.hid hd
  have HTL := Lib.hid hlen
  have HLEN := Lib.hid hr.len
  clear hr hm hd hlen
  go_enter Try.func132, Try.ntmps132
  go_wp2_with fail
  go_loopw [1, 5] (fun x i wr => ∃ (j : Nat) (y : Int), j ≤ n ∧ i = .int .i64 j ∧ x = .int .i64 y ∧ k ≤ y ∧ Hid (y = k + ((lvs p L.C (fs.take j)).length : Nat)) ∧ Hid (Below w.heap.size w wr)) (fun _ i _ => n - (intOf i).toNat)
  case atStart => exact ⟨0, k, Nat.zero_le _, rfl, rfl, Int.le_refl _, Lib.hid (by rw [List.take_zero, lvs_nil]; simp), Lib.hid (Below.refl _ _)⟩
  case round =>
    obtain ⟨j, y, hj, rfl, rfl, hky, HY, HB⟩ := hrel
    by_cases hlt : j < n
    · obtain ⟨b, o, f, cs, rfl, _, hbw, hx, hc, hrd⟩ := RdD.at_ HR.out hlt
      obtain ⟨x0, x1, rfl, b0, hf⟩ := exL hrd
      have Hb0 := Lib.hid b0
      clear b0
      have HC0 : Hid (w.cell? ⟨b, o + j * 2, none⟩ = some (.int .i64 x0)) := Lib.hid (hc 0 _ rfl)
      have HC1 : Hid (w.cell? ⟨b, o + j * 2 + 1, none⟩ = some (.bool x1)) := Lib.hid (hc 1 _ rfl)
      obtain ⟨P, hP⟩ : ∃ P, lv b L.C o (fs.take j) = P := ⟨_, rfl⟩
      have HTK : Hid (lvs (some ⟨b, o, none⟩) L.C (fs.take (j + 1)) = ((P ++ [(b, o + j * 2, mI)]) ++ [(b, o + j * 2 + 1, mB)])) := Lib.hid (by show lv b L.C o (fs.take (j + 1)) = _; rw [lv_take hx, hP, hf]; simp only [List.append_assoc]; first | done | rfl)
      obtain ⟨Z, hZ⟩ := lv_split (b := b) (o := o) (C := L.C) hx
      rw [← lv_take hx, show lv b L.C o (fs.take (j + 1)) = ((P ++ [(b, o + j * 2, mI)]) ++ [(b, o + j * 2 + 1, mB)]) from HTK.out] at hZ
      have HD : Hid (Hd k ((P ++ [(b, o + j * 2, mI)]) ++ [(b, o + j * 2 + 1, mB)]) w) := Lib.hid (Hd.left (Y := Z) (by have h := HHD.out; rw [lvs_some, hZ] at h; exact h))
      have HTOP : Hid (k + (P.length + (1 + 1) : Nat) ≤ 1000000000) := Lib.hid (by have h := HTL.out; rw [lvs_some, hZ] at h; simp only [List.length_append, List.length_singleton] at h; have h2 := HM.out; omega)
      have HZ : Hid (y = k + (P.length : Nat)) := Lib.hid (by have h := HY.out; rw [lvs_some, hP] at h; exact h)
      have HBW := Lib.hid hbw
      clear hc hx hP hZ hbw hf
      have i1 : (0 : Int) ≤ (j : Int) := by omega
      have i2 : (j : Int) < (n : Int) := by omega
      obtain ⟨yq, rfl⟩ : ∃ q : Nat, y = (q : Int) := ⟨y.toNat, by omega⟩
      have HV0 : Hid (w.cell? ⟨b, o + j * 2, none⟩ = some (mI ((yq : Int)))) := Lib.hid (Hd.one (Hd.right (y := (yq : Int)) (Hd.left HD.out) (by have hZ := HZ.out; (try simp only [List.length_append, List.length_singleton]); omega)))
      have u0 : wr.cell? ⟨b, o + j * 2, none⟩ = some (.int .i64 ((yq : Int))) := (HB.out.cell (p := ⟨b, o + j * 2, none⟩) HBW.out).trans HV0.out
      have HV1 : Hid (w.cell? ⟨b, o + j * 2 + 1, none⟩ = some (mB ((yq : Int) + 1))) := Lib.hid (Hd.one (Hd.right (y := (yq : Int) + 1) HD.out (by have hZ := HZ.out; (try simp only [List.length_append, List.length_singleton]); omega)))
      have u1 : wr.cell? ⟨b, o + j * 2 + 1, none⟩ = some (.bool (((yq : Int) + 1) % 3 == 0)) := (HB.out.cell (p := ⟨b, o + j * 2 + 1, none⟩) HBW.out).trans HV1.out
      have hq : 0 ≤ (yq : Int) := by omega
      have hq2 : (yq : Int) + 3 ≤ 9223372036854775000 := by have h0 := HTOP.out; have hZ := HZ.out; omega
      go_wp2_with fail
      go_roundw
      case rel => exact ⟨j + 1, (yq : Int) + 1 + 1, by omega, by go_num, rfl, by omega, Lib.hid (by rw [HTK.out]; have hZ := HZ.out; simp only [List.length_append, List.length_singleton]; omega), HB⟩
      case measure => simp [intOf]; omega
    · obtain rfl : j = n := by omega
      have ht : fs.take j = fs := List.take_of_length_le (by rw [HLEN.out]; exact Nat.le_refl _)
      have HV : Hid (Value.int .i64 y = .int .i64 (k + (m : Nat))) := Lib.hid (by have h := HY.out; rw [ht, HTL.out] at h; rw [h])
      clear ht
      go_wp2_with fail
      go_ret
      exact ⟨by rw [HV.out]; first | done | rfl, HB.out⟩
end Go.Proofs.Ytjaholcmaafenaa.LdStep

namespace Go.Proofs.Ytjaholcmaafenaa.LdStamp
open Go.ChangeShapes Go.WideShapes Go.ChangeAt Go.RowKit Sl St Ed Ek Lf
def L : Ent LF := (lpair lint (lpair lint (lpair lint (lpair lint lint))))
theorem pk : Pk L := (pk_pair pk_int (pk_pair pk_int (pk_pair pk_int (pk_pair pk_int pk_int))))
theorem pl : Pl L := (pl_pair pl_int (pl_pair pl_int (pl_pair pl_int (pl_pair pl_int pl_int))))
def f0 : LF := fun b o => [(b, o, mI)] ++ ([(b, o + 1, mI)] ++ ([(b, o + 1 + 1, mI)] ++ ([(b, o + 1 + 1 + 1, mI)] ++ ([(b, o + 1 + 1 + 1 + 1, mI)]))))
theorem flt : Flt L f0 := (flt_pair flt_int (flt_pair flt_int (flt_pair flt_int (flt_pair flt_int flt_int))))
theorem lk : LkE (flat SlStamp.E SlStamp.InR) MdStamp.M L := lk_flat MdStamp.pres rfl flt pk pl
theorem mkL (x : (Int × Int × Int × Int × Int)) (hx : SlStamp.InR x) (S : Nat → Prop) (w : World) : L.rd S w (SlStamp.E.of x) f0 := by
  obtain ⟨x0, x1, x2, x3, x4⟩ := x
  obtain ⟨b0, b1, b2, b3, b4⟩ := hx
  exact ⟨[.int .i64 x0], [.int .i64 x1, .int .i64 x2, .int .i64 x3, .int .i64 x4], _, _, rfl, ⟨⟨x0, rfl, b0⟩, rfl⟩, ⟨[.int .i64 x1], [.int .i64 x2, .int .i64 x3, .int .i64 x4], _, _, rfl, ⟨⟨x1, rfl, b1⟩, rfl⟩, ⟨[.int .i64 x2], [.int .i64 x3, .int .i64 x4], _, _, rfl, ⟨⟨x2, rfl, b2⟩, rfl⟩, ⟨[.int .i64 x3], [.int .i64 x4], _, _, rfl, ⟨⟨x3, rfl, b3⟩, rfl⟩, ⟨⟨x4, rfl, b4⟩, rfl⟩, rfl⟩, rfl⟩, rfl⟩, rfl⟩
theorem exL {S : Nat → Prop} {w : World} {cs : List Value} {f : LF} (h : L.rd S w cs f) : ∃ (x0 : Int) (x1 : Int) (x2 : Int) (x3 : Int) (x4 : Int), cs = [.int .i64 x0, .int .i64 x1, .int .i64 x2, .int .i64 x3, .int .i64 x4] ∧ InI x0 ∧ InI x1 ∧ InI x2 ∧ InI x3 ∧ InI x4 ∧ ∀ b o, f b o = (((([(b, o, mI)] ++ [(b, o + 1, mI)]) ++ [(b, o + 2, mI)]) ++ [(b, o + 3, mI)]) ++ [(b, o + 4, mI)]) := by
  obtain ⟨_, _, _, _, rfl, ⟨⟨x0, rfl, b0⟩, rfl⟩, ⟨_, _, _, _, rfl, ⟨⟨x1, rfl, b1⟩, rfl⟩, ⟨_, _, _, _, rfl, ⟨⟨x2, rfl, b2⟩, rfl⟩, ⟨_, _, _, _, rfl, ⟨⟨x3, rfl, b3⟩, rfl⟩, ⟨⟨x4, rfl, b4⟩, rfl⟩, rfl⟩, rfl⟩, rfl⟩, rfl⟩ := h
  refine ⟨x0, x1, x2, x3, x4, rfl, b0, b1, b2, b3, b4, fun b o => ?_⟩
  simp only [List.append_assoc]
  rfl
set_option maxRecDepth 100000 in
set_option maxHeartbeats 8000000 in
theorem markS_any (lo hi : Nat) (p : Option Addr) (n c : Nat) (fs : List LF) (k : Int) (m : Nat) (w : World) (hr : RRd L lo hi w p n fs) (hlen : (lvs p L.C fs).length = m) (hk : 1 ≤ k) (hm : k + (m : Nat) ≤ 1000000000) (hnd : (ads (lvs p L.C fs)).Nodup) : Calls Try.prog 41 #[.slice p n c, .int .i64 k] w fun e w' => e = .returned (.int .i64 (k + (m : Nat))) ∧ MkL lo hi k (lvs p L.C fs) w w' := by
  have HR := Lib.hid hr
  have hle := hr.le
  have HM := Lib.hid hm
  have HND := Lib.hid hnd
  have HTL := Lib.hid hlen
  have HLEN := Lib.hid hr.len
  clear hr hm hnd hlen
  go_enter Try.func41, Try.ntmps41
  go_wp2_with fail
  go_loopw [1, 5] (fun x i wr => ∃ (j : Nat) (y : Int), j ≤ n ∧ i = .int .i64 j ∧ x = .int .i64 y ∧ k ≤ y ∧ Hid (y = k + ((lvs p L.C (fs.take j)).length : Nat)) ∧ Hid (MkL lo hi k (lvs p L.C (fs.take j)) w wr)) (fun _ i _ => n - (intOf i).toNat)
  case atStart => exact ⟨0, k, Nat.zero_le _, rfl, rfl, Int.le_refl _, Lib.hid (by rw [List.take_zero, lvs_nil]; simp), Lib.hid (by rw [List.take_zero, lvs_nil]; exact MkL.refl)⟩
  case round =>
    obtain ⟨j, y, hj, rfl, rfl, hky, HY, HK⟩ := hrel
    by_cases hlt : j < n
    · obtain ⟨b, o, f, cs, rfl, hS, hbw, hx, hc, hrd⟩ := RdD.at_ HR.out hlt
      obtain ⟨x0, x1, x2, x3, x4, rfl, b0, b1, b2, b3, b4, hf⟩ := exL hrd
      have Hb0 := Lib.hid b0
      have Hb1 := Lib.hid b1
      have Hb2 := Lib.hid b2
      have Hb3 := Lib.hid b3
      have Hb4 := Lib.hid b4
      clear b0 b1 b2 b3 b4
      have HC0 : Hid (w.cell? ⟨b, o + j * 5, none⟩ = some (.int .i64 x0)) := Lib.hid (hc 0 _ rfl)
      have HC1 : Hid (w.cell? ⟨b, o + j * 5 + 1, none⟩ = some (.int .i64 x1)) := Lib.hid (hc 1 _ rfl)
      have HC2 : Hid (w.cell? ⟨b, o + j * 5 + 2, none⟩ = some (.int .i64 x2)) := Lib.hid (hc 2 _ rfl)
      have HC3 : Hid (w.cell? ⟨b, o + j * 5 + 3, none⟩ = some (.int .i64 x3)) := Lib.hid (hc 3 _ rfl)
      have HC4 : Hid (w.cell? ⟨b, o + j * 5 + 4, none⟩ = some (.int .i64 x4)) := Lib.hid (hc 4 _ rfl)
      obtain ⟨P, hP⟩ : ∃ P, lv b L.C o (fs.take j) = P := ⟨_, rfl⟩
      have HTK : Hid (lvs (some ⟨b, o, none⟩) L.C (fs.take (j + 1)) = (((((P ++ [(b, o + j * 5, mI)]) ++ [(b, o + j * 5 + 1, mI)]) ++ [(b, o + j * 5 + 2, mI)]) ++ [(b, o + j * 5 + 3, mI)]) ++ [(b, o + j * 5 + 4, mI)])) := Lib.hid (by show lv b L.C o (fs.take (j + 1)) = _; rw [lv_take hx, hP, hf]; simp only [List.append_assoc]; first | done | rfl)
      obtain ⟨Z, hZ⟩ := lv_split (b := b) (o := o) (C := L.C) hx
      rw [← lv_take hx, show lv b L.C o (fs.take (j + 1)) = (((((P ++ [(b, o + j * 5, mI)]) ++ [(b, o + j * 5 + 1, mI)]) ++ [(b, o + j * 5 + 2, mI)]) ++ [(b, o + j * 5 + 3, mI)]) ++ [(b, o + j * 5 + 4, mI)]) from HTK.out] at hZ
      have HN : Hid ((ads (((((P ++ [(b, o + j * 5, mI)]) ++ [(b, o + j * 5 + 1, mI)]) ++ [(b, o + j * 5 + 2, mI)]) ++ [(b, o + j * 5 + 3, mI)]) ++ [(b, o + j * 5 + 4, mI)])).Nodup) := Lib.hid (nd_pre (Y := Z) (by have h := HND.out; rw [lvs_some, hZ] at h; exact h))
      have HTOP : Hid (k + (P.length + (1 + 1 + 1 + 1 + 1) : Nat) ≤ 1000000000) := Lib.hid (by have h := HTL.out; rw [lvs_some, hZ] at h; simp only [List.length_append, List.length_singleton] at h; have h2 := HM.out; omega)
      have HZ : Hid (y = k + (P.length : Nat)) := Lib.hid (by have h := HY.out; rw [lvs_some, hP] at h; exact h)
      replace HK : Hid (MkL lo hi k P w wr) := Lib.hid (by have h := HK.out; rw [lvs_some, hP] at h; exact h)
      have HS := Lib.hid hS
      have HBW := Lib.hid hbw
      clear hc hx hP hZ hS hbw hf
      have i1 : (0 : Int) ≤ (j : Int) := by omega
      have i2 : (j : Int) < (n : Int) := by omega
      obtain ⟨v_, e_, kd_⟩ := HK.out.mm.cell b _ _ HBW.out HC0.out
      obtain ⟨z0, rfl, _⟩ := kd_.int Hb0.out
      have HU0 := Lib.hid e_
      have u0 := HU0.out
      clear e_ kd_
      have f0 : wr.frozen? ⟨b, o + j * 5, none⟩ = false := (HK.out.mm.froz b _ HBW.out).trans (HS.out.2.2 _)
      obtain ⟨v_, e_, kd_⟩ := HK.out.mm.cell b _ _ HBW.out HC1.out
      obtain ⟨z1, rfl, _⟩ := kd_.int Hb1.out
      have HU1 := Lib.hid e_
      have u1 := HU1.out
      clear e_ kd_
      have f1 : wr.frozen? ⟨b, o + j * 5 + 1, none⟩ = false := (HK.out.mm.froz b _ HBW.out).trans (HS.out.2.2 _)
      obtain ⟨v_, e_, kd_⟩ := HK.out.mm.cell b _ _ HBW.out HC2.out
      obtain ⟨z2, rfl, _⟩ := kd_.int Hb2.out
      have HU2 := Lib.hid e_
      have u2 := HU2.out
      clear e_ kd_
      have f2 : wr.frozen? ⟨b, o + j * 5 + 2, none⟩ = false := (HK.out.mm.froz b _ HBW.out).trans (HS.out.2.2 _)
      obtain ⟨v_, e_, kd_⟩ := HK.out.mm.cell b _ _ HBW.out HC3.out
      obtain ⟨z3, rfl, _⟩ := kd_.int Hb3.out
      have HU3 := Lib.hid e_
      have u3 := HU3.out
      clear e_ kd_
      have f3 : wr.frozen? ⟨b, o + j * 5 + 3, none⟩ = false := (HK.out.mm.froz b _ HBW.out).trans (HS.out.2.2 _)
      obtain ⟨v_, e_, kd_⟩ := HK.out.mm.cell b _ _ HBW.out HC4.out
      obtain ⟨z4, rfl, _⟩ := kd_.int Hb4.out
      have HU4 := Lib.hid e_
      have u4 := HU4.out
      clear e_ kd_
      have f4 : wr.frozen? ⟨b, o + j * 5 + 4, none⟩ = false := (HK.out.mm.froz b _ HBW.out).trans (HS.out.2.2 _)
      have hq : 0 ≤ y := by omega
      have hq2 : y + 6 ≤ 9223372036854775000 := by have h0 := HTOP.out; have hZ := HZ.out; omega
      go_wp2_with fail
      go_roundw
      case rel => exact ⟨j + 1, y + 1 + 1 + 1 + 1 + 1, by omega, by go_num, rfl, by omega, Lib.hid (by rw [HTK.out]; have hZ := HZ.out; simp only [List.length_append, List.length_singleton]; omega), Lib.hid (by rw [HTK.out]; exact (((((HK.out.set mI HS.out.1 HS.out.2.1 HU0.out (Kd.ofInt (by unfold Ed.InI; have h := HTOP.out; have hZ := HZ.out; omega)) (congrArg (Value.int .i64) (show y = _ from (by have hZ := HZ.out; (try simp only [List.length_append, List.length_singleton]); omega))) (nd_pre (nd_pre (nd_pre (nd_pre HN.out))))).set mI HS.out.1 HS.out.2.1 (cell_far HU1.out (by omega)) (Kd.ofInt (by unfold Ed.InI; have h := HTOP.out; have hZ := HZ.out; omega)) (congrArg (Value.int .i64) (show y + 1 = _ from (by have hZ := HZ.out; (try simp only [List.length_append, List.length_singleton]); omega))) (nd_pre (nd_pre (nd_pre HN.out)))).set mI HS.out.1 HS.out.2.1 (cell_far (cell_far HU2.out (by omega)) (by omega)) (Kd.ofInt (by unfold Ed.InI; have h := HTOP.out; have hZ := HZ.out; omega)) (congrArg (Value.int .i64) (show y + 1 + 1 = _ from (by have hZ := HZ.out; (try simp only [List.length_append, List.length_singleton]); omega))) (nd_pre (nd_pre HN.out))).set mI HS.out.1 HS.out.2.1 (cell_far (cell_far (cell_far HU3.out (by omega)) (by omega)) (by omega)) (Kd.ofInt (by unfold Ed.InI; have h := HTOP.out; have hZ := HZ.out; omega)) (congrArg (Value.int .i64) (show y + 1 + 1 + 1 = _ from (by have hZ := HZ.out; (try simp only [List.length_append, List.length_singleton]); omega))) (nd_pre HN.out)).set mI HS.out.1 HS.out.2.1 (cell_far (cell_far (cell_far (cell_far HU4.out (by omega)) (by omega)) (by omega)) (by omega)) (Kd.ofInt (by unfold Ed.InI; have h := HTOP.out; have hZ := HZ.out; omega)) (congrArg (Value.int .i64) (show y + 1 + 1 + 1 + 1 = _ from (by have hZ := HZ.out; (try simp only [List.length_append, List.length_singleton]); omega))) HN.out))⟩
      case measure => simp [intOf]; omega
    · obtain rfl : j = n := by omega
      have ht : fs.take j = fs := List.take_of_length_le (by rw [HLEN.out]; exact Nat.le_refl _)
      have HE : Hid (MkL lo hi k (lvs p L.C fs) w wr) := Lib.hid (by have h := HK.out; rw [ht] at h; exact h)
      have HV : Hid (Value.int .i64 y = .int .i64 (k + (m : Nat))) := Lib.hid (by have h := HY.out; rw [ht, HTL.out] at h; rw [h])
      clear ht
      go_wp2_with fail
      go_ret
      exact ⟨by rw [HV.out]; first | done | rfl, HE.out⟩
set_option maxRecDepth 100000 in
set_option maxHeartbeats 8000000 in
theorem heldS_any (p : Option Addr) (n c : Nat) (fs : List LF) {S : Nat → Prop} (k : Int) (m : Nat) (w : World) (hr : RdD L S w p n fs) (hlen : (lvs p L.C fs).length = m) (hk : 1 ≤ k) (hm : k + (m : Nat) ≤ 1000000000) (hd : Hd k (lvs p L.C fs) w) : Calls Try.prog 42 #[.slice p n c, .int .i64 k] w fun e w' => e = .returned (.int .i64 (k + (m : Nat))) ∧ Below w.heap.size w w' := by
  have HR := Lib.hid hr
  have hle := hr.le
  have HM := Lib.hid hm
  have HHD := Lib.hid hd
  have HTL := Lib.hid hlen
  have HLEN := Lib.hid hr.len
  clear hr hm hd hlen
  go_enter Try.func42, Try.ntmps42
  go_wp2_with fail
  go_loopw [1, 5] (fun x i wr => ∃ (j : Nat) (y : Int), j ≤ n ∧ i = .int .i64 j ∧ x = .int .i64 y ∧ k ≤ y ∧ Hid (y = k + ((lvs p L.C (fs.take j)).length : Nat)) ∧ Hid (Below w.heap.size w wr)) (fun _ i _ => n - (intOf i).toNat)
  case atStart => exact ⟨0, k, Nat.zero_le _, rfl, rfl, Int.le_refl _, Lib.hid (by rw [List.take_zero, lvs_nil]; simp), Lib.hid (Below.refl _ _)⟩
  case round =>
    obtain ⟨j, y, hj, rfl, rfl, hky, HY, HB⟩ := hrel
    by_cases hlt : j < n
    · obtain ⟨b, o, f, cs, rfl, _, hbw, hx, hc, hrd⟩ := RdD.at_ HR.out hlt
      obtain ⟨x0, x1, x2, x3, x4, rfl, b0, b1, b2, b3, b4, hf⟩ := exL hrd
      have Hb0 := Lib.hid b0
      have Hb1 := Lib.hid b1
      have Hb2 := Lib.hid b2
      have Hb3 := Lib.hid b3
      have Hb4 := Lib.hid b4
      clear b0 b1 b2 b3 b4
      have HC0 : Hid (w.cell? ⟨b, o + j * 5, none⟩ = some (.int .i64 x0)) := Lib.hid (hc 0 _ rfl)
      have HC1 : Hid (w.cell? ⟨b, o + j * 5 + 1, none⟩ = some (.int .i64 x1)) := Lib.hid (hc 1 _ rfl)
      have HC2 : Hid (w.cell? ⟨b, o + j * 5 + 2, none⟩ = some (.int .i64 x2)) := Lib.hid (hc 2 _ rfl)
      have HC3 : Hid (w.cell? ⟨b, o + j * 5 + 3, none⟩ = some (.int .i64 x3)) := Lib.hid (hc 3 _ rfl)
      have HC4 : Hid (w.cell? ⟨b, o + j * 5 + 4, none⟩ = some (.int .i64 x4)) := Lib.hid (hc 4 _ rfl)
      obtain ⟨P, hP⟩ : ∃ P, lv b L.C o (fs.take j) = P := ⟨_, rfl⟩
      have HTK : Hid (lvs (some ⟨b, o, none⟩) L.C (fs.take (j + 1)) = (((((P ++ [(b, o + j * 5, mI)]) ++ [(b, o + j * 5 + 1, mI)]) ++ [(b, o + j * 5 + 2, mI)]) ++ [(b, o + j * 5 + 3, mI)]) ++ [(b, o + j * 5 + 4, mI)])) := Lib.hid (by show lv b L.C o (fs.take (j + 1)) = _; rw [lv_take hx, hP, hf]; simp only [List.append_assoc]; first | done | rfl)
      obtain ⟨Z, hZ⟩ := lv_split (b := b) (o := o) (C := L.C) hx
      rw [← lv_take hx, show lv b L.C o (fs.take (j + 1)) = (((((P ++ [(b, o + j * 5, mI)]) ++ [(b, o + j * 5 + 1, mI)]) ++ [(b, o + j * 5 + 2, mI)]) ++ [(b, o + j * 5 + 3, mI)]) ++ [(b, o + j * 5 + 4, mI)]) from HTK.out] at hZ
      have HD : Hid (Hd k (((((P ++ [(b, o + j * 5, mI)]) ++ [(b, o + j * 5 + 1, mI)]) ++ [(b, o + j * 5 + 2, mI)]) ++ [(b, o + j * 5 + 3, mI)]) ++ [(b, o + j * 5 + 4, mI)]) w) := Lib.hid (Hd.left (Y := Z) (by have h := HHD.out; rw [lvs_some, hZ] at h; exact h))
      have HTOP : Hid (k + (P.length + (1 + 1 + 1 + 1 + 1) : Nat) ≤ 1000000000) := Lib.hid (by have h := HTL.out; rw [lvs_some, hZ] at h; simp only [List.length_append, List.length_singleton] at h; have h2 := HM.out; omega)
      have HZ : Hid (y = k + (P.length : Nat)) := Lib.hid (by have h := HY.out; rw [lvs_some, hP] at h; exact h)
      have HBW := Lib.hid hbw
      clear hc hx hP hZ hbw hf
      have i1 : (0 : Int) ≤ (j : Int) := by omega
      have i2 : (j : Int) < (n : Int) := by omega
      have HV0 : Hid (w.cell? ⟨b, o + j * 5, none⟩ = some (mI (y))) := Lib.hid (Hd.one (Hd.right (y := y) (Hd.left (Hd.left (Hd.left (Hd.left HD.out)))) (by have hZ := HZ.out; (try simp only [List.length_append, List.length_singleton]); omega)))
      have u0 : wr.cell? ⟨b, o + j * 5, none⟩ = some (.int .i64 (y)) := (HB.out.cell (p := ⟨b, o + j * 5, none⟩) HBW.out).trans HV0.out
      have HV1 : Hid (w.cell? ⟨b, o + j * 5 + 1, none⟩ = some (mI (y + 1))) := Lib.hid (Hd.one (Hd.right (y := y + 1) (Hd.left (Hd.left (Hd.left HD.out))) (by have hZ := HZ.out; (try simp only [List.length_append, List.length_singleton]); omega)))
      have u1 : wr.cell? ⟨b, o + j * 5 + 1, none⟩ = some (.int .i64 (y + 1)) := (HB.out.cell (p := ⟨b, o + j * 5 + 1, none⟩) HBW.out).trans HV1.out
      have HV2 : Hid (w.cell? ⟨b, o + j * 5 + 2, none⟩ = some (mI (y + 1 + 1))) := Lib.hid (Hd.one (Hd.right (y := y + 1 + 1) (Hd.left (Hd.left HD.out)) (by have hZ := HZ.out; (try simp only [List.length_append, List.length_singleton]); omega)))
      have u2 : wr.cell? ⟨b, o + j * 5 + 2, none⟩ = some (.int .i64 (y + 1 + 1)) := (HB.out.cell (p := ⟨b, o + j * 5 + 2, none⟩) HBW.out).trans HV2.out
      have HV3 : Hid (w.cell? ⟨b, o + j * 5 + 3, none⟩ = some (mI (y + 1 + 1 + 1))) := Lib.hid (Hd.one (Hd.right (y := y + 1 + 1 + 1) (Hd.left HD.out) (by have hZ := HZ.out; (try simp only [List.length_append, List.length_singleton]); omega)))
      have u3 : wr.cell? ⟨b, o + j * 5 + 3, none⟩ = some (.int .i64 (y + 1 + 1 + 1)) := (HB.out.cell (p := ⟨b, o + j * 5 + 3, none⟩) HBW.out).trans HV3.out
      have HV4 : Hid (w.cell? ⟨b, o + j * 5 + 4, none⟩ = some (mI (y + 1 + 1 + 1 + 1))) := Lib.hid (Hd.one (Hd.right (y := y + 1 + 1 + 1 + 1) HD.out (by have hZ := HZ.out; (try simp only [List.length_append, List.length_singleton]); omega)))
      have u4 : wr.cell? ⟨b, o + j * 5 + 4, none⟩ = some (.int .i64 (y + 1 + 1 + 1 + 1)) := (HB.out.cell (p := ⟨b, o + j * 5 + 4, none⟩) HBW.out).trans HV4.out
      have hq : 0 ≤ y := by omega
      have hq2 : y + 6 ≤ 9223372036854775000 := by have h0 := HTOP.out; have hZ := HZ.out; omega
      go_wp2_with fail
      go_roundw
      case rel => exact ⟨j + 1, y + 1 + 1 + 1 + 1 + 1, by omega, by go_num, rfl, by omega, Lib.hid (by rw [HTK.out]; have hZ := HZ.out; simp only [List.length_append, List.length_singleton]; omega), HB⟩
      case measure => simp [intOf]; omega
    · obtain rfl : j = n := by omega
      have ht : fs.take j = fs := List.take_of_length_le (by rw [HLEN.out]; exact Nat.le_refl _)
      have HV : Hid (Value.int .i64 y = .int .i64 (k + (m : Nat))) := Lib.hid (by have h := HY.out; rw [ht, HTL.out] at h; rw [h])
      clear ht
      go_wp2_with fail
      go_ret
      exact ⟨by rw [HV.out]; first | done | rfl, HB.out⟩
end Go.Proofs.Ytjaholcmaafenaa.LdStamp
