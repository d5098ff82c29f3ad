/- What a piece was made from: statementOf, in the program. -/
import Derived.Test.YtpjckbdljbpliaaPr0
import Derived.Test.YtpjckbdljbpliaaDpPiece
import Derived.Test.YtpjckbdljbpliaaKp
import Derived.Test.YtpjckbdljbpliaaPmCert
import Derived.Test.YtpjckbdljbpliaaPmStatus
import Derived.Test.YtpjckbdljbpliaaPmStamp
import Derived.Test.YtpjckbdljbpliaaPmSignature
import Derived.Test.YtpjckbdljbpliaaMjA
import Derived.Test.YtpjckbdljbpliaaQt
import Derived.Deep.QuietTactic
import Derived.BigQuiet
import Derived.Deep.RegionHeld3
import Derived.RegionTactic
import Derived.Outline
import Derived.Test.YtpjckbdljbpliaaPr1
namespace Go.Proofs.Ytpjckbdljbpliaa.Prs
open Go.ChangeShapes Go.WideShapes Go.ChangeAt Go.RowKit Sl St Ed Dz Kd Pr0 Pr1
set_option maxRecDepth 100000 in
set_option maxHeartbeats 8000000 in
theorem stmt_any (k : Int) (p : Option Addr) (n c : Nat) (m : Int) (zs : List Int) (hm : InI m) (w : World) (hr : Rd .i64 w p n zs) : Calls Try.prog 70 #[.agg #[.int .i64 k, .slice p n c, .int .i64 m]] w (Val (soV k zs m) w) := by
  have hl := hr.len
  have HIN := Lib.hid (in_of hr)
  have HMI : Hid (-9223372036854775808 ≤ m ∧ m ≤ 9223372036854775807) := Lib.hid hm
  have hbx := box1 w (.cells #[.int .i64 k, .slice p n c, .int .i64 m] 75)
  have HBV := Lib.hid hbx
  have HX := Lib.hid (Bx.new w 75 #[.int .i64 k, .slice p n c, .int .i64 m])
  have HR := Lib.hid ((RdD.ofInts (S := fun _ => True) hr (fun _ _ _ _ => trivial)).below hbx)
  clear hbx hr hm
  obtain ⟨v0, v1, v2⟩ := DpPiece.bxc HX.out
  rcases kd_cases zs hl with ⟨-, -, hk⟩ | ⟨-, -, hk⟩ | ⟨-, -, hk⟩ | ⟨-, -, hk⟩ | ⟨-, -, hk⟩ | hk
  all_goals clear hl
  · have HV : Hid (rdV k zs m = .iface 37 (.agg #[.int .i64 (zs.getD 1 0), .int .i64 (zs.getD 2 0), .int .i64 (zs.getD 3 0), .int .i64 (zs.getD 4 0), .int .i64 (zs.getD 5 0), .int .i64 (zs.getD 6 0), .int .i64 m])) := Lib.hid (rd_Cert hk)
    have HO : Hid (ownOf k zs = (zs.getD 6 0)) := Lib.hid (own_Cert hk)
    have HT := Lib.hid hk
    clear hk
    go_enter Try.func70, Try.ntmps70
    go_wp2_with fail
    generalize (w.alloc (.cells #[.int .i64 k, .slice p n c, .int .i64 m] 75)) = V at HBV HX HR ⊢
    refine (read_any k _ _ _ m zs V HR.out.ints).mono ?_
    rintro e w1 ⟨rfl, hb⟩
    rw [HV.out]
    have HB1 := Lib.hid hb
    have HX1 := Lib.hid (HX.out.below hb)
    clear hb v0 v1 v2
    by_cases ho : (zs.getD 6 0) = k
    · skip
      have HS : Hid (soV k zs m = .iface 37 (.agg #[.int .i64 (zs.getD 1 0), .int .i64 (zs.getD 2 0), .int .i64 (zs.getD 3 0), .int .i64 (zs.getD 4 0), .int .i64 (zs.getD 5 0), .int .i64 (zs.getD 6 0), .int .i64 m])) := Lib.hid (by rw [so_own (by rw [HO.out]; exact ho) (by rw [HT.out]; decide), HV.out])
      have HI1 : Hid (-9223372036854775808 ≤ zs.getD 1 0 ∧ zs.getD 1 0 ≤ 9223372036854775807) := Lib.hid (HIN.out 1)
      have HI2 : Hid (-9223372036854775808 ≤ zs.getD 2 0 ∧ zs.getD 2 0 ≤ 9223372036854775807) := Lib.hid (HIN.out 2)
      have HI3 : Hid (-9223372036854775808 ≤ zs.getD 3 0 ∧ zs.getD 3 0 ≤ 9223372036854775807) := Lib.hid (HIN.out 3)
      have HI4 : Hid (-9223372036854775808 ≤ zs.getD 4 0 ∧ zs.getD 4 0 ≤ 9223372036854775807) := Lib.hid (HIN.out 4)
      have HI5 : Hid (-9223372036854775808 ≤ zs.getD 5 0 ∧ zs.getD 5 0 ≤ 9223372036854775807) := Lib.hid (HIN.out 5)
      have HI6 : Hid (-9223372036854775808 ≤ zs.getD 6 0 ∧ zs.getD 6 0 ≤ 9223372036854775807) := Lib.hid (HIN.out 6)
      clear HO HV HIN
      generalize zs.getD 1 0 = z1 at HS HI1 ho ⊢
      generalize zs.getD 2 0 = z2 at HS HI2 ho ⊢
      generalize zs.getD 3 0 = z3 at HS HI3 ho ⊢
      generalize zs.getD 4 0 = z4 at HS HI4 ho ⊢
      generalize zs.getD 5 0 = z5 at HS HI5 ho ⊢
      generalize zs.getD 6 0 = z6 at HS HI6 ho ⊢
      obtain rfl : k = z6 := ho.symm
      have hm := meth_Cert z1 z2 z3 z4 z5 k m
      have he := eq_Cert (.agg #[.int .i64 z1, .int .i64 z2, .int .i64 z3, .int .i64 z4, .int .i64 z5, .int .i64 k, .int .i64 m])
      have HBd := Lib.hid (below_drewN HB1.out 1)
      have HXd := Lib.hid HX1.out.drew1
      have e1 : (k != k) = false := by simp
      have e2 : (k == k) = true := by simp
      go_wp2_with fail
      go_region_held3 (fun w' => w'.cell? ⟨w.heap.size, 0, none⟩ = some (.int .i64 k) ∧ w'.cell? ⟨w.heap.size, 1, none⟩ = some (.slice p n c) ∧ w'.cell? ⟨w.heap.size, 2, none⟩ = some (.int .i64 m)) (first | exact DpPiece.bxc HX2.out | exact DpPiece.bxc HXd.out | go_keep) (first | (go_at_call 123; (with_reducible refine (PmCert.cert_any z1 z2 z3 z4 z5 k m _ HI1.out HI2.out HI3.out HI4.out HI5.out HI6.out HMI.out).mono ?_); rintro e w2 ⟨p2, n2, c2, d2, rfl, _, hb⟩; have HB2 := Lib.hid (below_on HBd.out hb); have HX2 := Lib.hid (HXd.out.below hb); have hpk := pieceKey k m p2 n2 c2; clear hb) | fail)
      all_goals
        go_wp2_with fail
        go_ret
        exact val_of (by rw [HS.out]; first | done | rfl) (below_on HBV.out HB2.out)
    · skip
      have HS : Hid (soV k zs m = .nilIface) := Lib.hid (so_none (tag_other (by rw [HO.out]; exact ho)))
      have HI1 : Hid (-9223372036854775808 ≤ zs.getD 1 0 ∧ zs.getD 1 0 ≤ 9223372036854775807) := Lib.hid (HIN.out 1)
      have HI2 : Hid (-9223372036854775808 ≤ zs.getD 2 0 ∧ zs.getD 2 0 ≤ 9223372036854775807) := Lib.hid (HIN.out 2)
      have HI3 : Hid (-9223372036854775808 ≤ zs.getD 3 0 ∧ zs.getD 3 0 ≤ 9223372036854775807) := Lib.hid (HIN.out 3)
      have HI4 : Hid (-9223372036854775808 ≤ zs.getD 4 0 ∧ zs.getD 4 0 ≤ 9223372036854775807) := Lib.hid (HIN.out 4)
      have HI5 : Hid (-9223372036854775808 ≤ zs.getD 5 0 ∧ zs.getD 5 0 ≤ 9223372036854775807) := Lib.hid (HIN.out 5)
      have HI6 : Hid (-9223372036854775808 ≤ zs.getD 6 0 ∧ zs.getD 6 0 ≤ 9223372036854775807) := Lib.hid (HIN.out 6)
      clear HO HV HIN
      generalize zs.getD 1 0 = z1 at HS HI1 ho ⊢
      generalize zs.getD 2 0 = z2 at HS HI2 ho ⊢
      generalize zs.getD 3 0 = z3 at HS HI3 ho ⊢
      generalize zs.getD 4 0 = z4 at HS HI4 ho ⊢
      generalize zs.getD 5 0 = z5 at HS HI5 ho ⊢
      generalize zs.getD 6 0 = z6 at HS HI6 ho ⊢
      have hm := meth_Cert z1 z2 z3 z4 z5 z6 m
      have he := eq_Cert (.agg #[.int .i64 z1, .int .i64 z2, .int .i64 z3, .int .i64 z4, .int .i64 z5, .int .i64 z6, .int .i64 m])
      have HBd := Lib.hid (below_drewN HB1.out 1)
      have HXd := Lib.hid HX1.out.drew1
      have e1 : (z6 != k) = true := bne_iff_ne.2 ho
      have e2 : (z6 == k) = false := beq_eq_false_iff_ne.2 ho
      clear ho
      go_wp2_with fail
      go_region_held3 (fun w' => w'.cell? ⟨w.heap.size, 0, none⟩ = some (.int .i64 k) ∧ w'.cell? ⟨w.heap.size, 1, none⟩ = some (.slice p n c) ∧ w'.cell? ⟨w.heap.size, 2, none⟩ = some (.int .i64 m)) (first | exact DpPiece.bxc HX2.out | exact DpPiece.bxc HXd.out | go_keep) (first | (go_at_call 123; (with_reducible refine (PmCert.cert_any z1 z2 z3 z4 z5 z6 m _ HI1.out HI2.out HI3.out HI4.out HI5.out HI6.out HMI.out).mono ?_); rintro e w2 ⟨p2, n2, c2, d2, rfl, _, hb⟩; have HB2 := Lib.hid (below_on HBd.out hb); have HX2 := Lib.hid (HXd.out.below hb); have hpk := pieceKey z6 m p2 n2 c2; clear hb) | fail)
      all_goals
        go_wp2_with fail
        go_ret
        exact val_of (by rw [HS.out]; first | done | rfl) (below_on HBV.out HB2.out)
  · have HV : Hid (rdV k zs m = .iface 80 (.agg #[.int .i64 (zs.getD 1 0), .int .i64 (zs.getD 2 0), .int .i64 (zs.getD 3 0), .int .i64 (zs.getD 4 0), .int .i64 m])) := Lib.hid (rd_Status hk)
    have HO : Hid (ownOf k zs = (zs.getD 4 0)) := Lib.hid (own_Status hk)
    have HT := Lib.hid hk
    clear hk
    go_enter Try.func70, Try.ntmps70
    go_wp2_with fail
    generalize (w.alloc (.cells #[.int .i64 k, .slice p n c, .int .i64 m] 75)) = V at HBV HX HR ⊢
    refine (read_any k _ _ _ m zs V HR.out.ints).mono ?_
    rintro e w1 ⟨rfl, hb⟩
    rw [HV.out]
    have HB1 := Lib.hid hb
    have HX1 := Lib.hid (HX.out.below hb)
    clear hb v0 v1 v2
    by_cases ho : (zs.getD 4 0) = k
    · skip
      have HS : Hid (soV k zs m = .iface 80 (.agg #[.int .i64 (zs.getD 1 0), .int .i64 (zs.getD 2 0), .int .i64 (zs.getD 3 0), .int .i64 (zs.getD 4 0), .int .i64 m])) := Lib.hid (by rw [so_own (by rw [HO.out]; exact ho) (by rw [HT.out]; decide), HV.out])
      have HI1 : Hid (-9223372036854775808 ≤ zs.getD 1 0 ∧ zs.getD 1 0 ≤ 9223372036854775807) := Lib.hid (HIN.out 1)
      have HI2 : Hid (-9223372036854775808 ≤ zs.getD 2 0 ∧ zs.getD 2 0 ≤ 9223372036854775807) := Lib.hid (HIN.out 2)
      have HI3 : Hid (-9223372036854775808 ≤ zs.getD 3 0 ∧ zs.getD 3 0 ≤ 9223372036854775807) := Lib.hid (HIN.out 3)
      have HI4 : Hid (-9223372036854775808 ≤ zs.getD 4 0 ∧ zs.getD 4 0 ≤ 9223372036854775807) := Lib.hid (HIN.out 4)
      clear HO HV HIN
      generalize zs.getD 1 0 = z1 at HS HI1 ho ⊢
      generalize zs.getD 2 0 = z2 at HS HI2 ho ⊢
      generalize zs.getD 3 0 = z3 at HS HI3 ho ⊢
      generalize zs.getD 4 0 = z4 at HS HI4 ho ⊢
      obtain rfl : k = z4 := ho.symm
      have hm := meth_Status z1 z2 z3 k m
      have he := eq_Status (.agg #[.int .i64 z1, .int .i64 z2, .int .i64 z3, .int .i64 k, .int .i64 m])
      have HBd := Lib.hid (below_drewN HB1.out 1)
      have HXd := Lib.hid HX1.out.drew1
      have e1 : (k != k) = false := by simp
      have e2 : (k == k) = true := by simp
      go_wp2_with fail
      go_region_held3 (fun w' => w'.cell? ⟨w.heap.size, 0, none⟩ = some (.int .i64 k) ∧ w'.cell? ⟨w.heap.size, 1, none⟩ = some (.slice p n c) ∧ w'.cell? ⟨w.heap.size, 2, none⟩ = some (.int .i64 m)) (first | exact DpPiece.bxc HX2.out | exact DpPiece.bxc HXd.out | go_keep) (first | (go_at_call 132; (with_reducible refine (PmStatus.status_any z1 z2 z3 k m _ HI1.out HI2.out HI3.out HI4.out HMI.out).mono ?_); rintro e w2 ⟨p2, n2, c2, d2, rfl, _, hb⟩; have HB2 := Lib.hid (below_on HBd.out hb); have HX2 := Lib.hid (HXd.out.below hb); have hpk := pieceKey k m p2 n2 c2; clear hb) | fail)
      all_goals
        go_wp2_with fail
        go_ret
        exact val_of (by rw [HS.out]; first | done | rfl) (below_on HBV.out HB2.out)
    · skip
      have HS : Hid (soV k zs m = .nilIface) := Lib.hid (so_none (tag_other (by rw [HO.out]; exact ho)))
      have HI1 : Hid (-9223372036854775808 ≤ zs.getD 1 0 ∧ zs.getD 1 0 ≤ 9223372036854775807) := Lib.hid (HIN.out 1)
      have HI2 : Hid (-9223372036854775808 ≤ zs.getD 2 0 ∧ zs.getD 2 0 ≤ 9223372036854775807) := Lib.hid (HIN.out 2)
      have HI3 : Hid (-9223372036854775808 ≤ zs.getD 3 0 ∧ zs.getD 3 0 ≤ 9223372036854775807) := Lib.hid (HIN.out 3)
      have HI4 : Hid (-9223372036854775808 ≤ zs.getD 4 0 ∧ zs.getD 4 0 ≤ 9223372036854775807) := Lib.hid (HIN.out 4)
      clear HO HV HIN
      generalize zs.getD 1 0 = z1 at HS HI1 ho ⊢
      generalize zs.getD 2 0 = z2 at HS HI2 ho ⊢
      generalize zs.getD 3 0 = z3 at HS HI3 ho ⊢
      generalize zs.getD 4 0 = z4 at HS HI4 ho ⊢
      have hm := meth_Status z1 z2 z3 z4 m
      have he := eq_Status (.agg #[.int .i64 z1, .int .i64 z2, .int .i64 z3, .int .i64 z4, .int .i64 m])
      have HBd := Lib.hid (below_drewN HB1.out 1)
      have HXd := Lib.hid HX1.out.drew1
      have e1 : (z4 != k) = true := bne_iff_ne.2 ho
      have e2 : (z4 == k) = false := beq_eq_false_iff_ne.2 ho
      clear ho
      go_wp2_with fail
      go_region_held3 (fun w' => w'.cell? ⟨w.heap.size, 0, none⟩ = some (.int .i64 k) ∧ w'.cell? ⟨w.heap.size, 1, none⟩ = some (.slice p n c) ∧ w'.cell? ⟨w.heap.size, 2, none⟩ = some (.int .i64 m)) (first | exact DpPiece.bxc HX2.out | exact DpPiece.bxc HXd.out | go_keep) (first | (go_at_call 132; (with_reducible refine (PmStatus.status_any z1 z2 z3 z4 m _ HI1.out HI2.out HI3.out HI4.out HMI.out).mono ?_); rintro e w2 ⟨p2, n2, c2, d2, rfl, _, hb⟩; have HB2 := Lib.hid (below_on HBd.out hb); have HX2 := Lib.hid (HXd.out.below hb); have hpk := pieceKey z4 m p2 n2 c2; clear hb) | fail)
      all_goals
        go_wp2_with fail
        go_ret
        exact val_of (by rw [HS.out]; first | done | rfl) (below_on HBV.out HB2.out)
  · have HV : Hid (rdV k zs m = .iface 162 (.agg #[.int .i64 (zs.getD 1 0), .int .i64 (zs.getD 2 0), .int .i64 (zs.getD 3 0), .int .i64 (zs.getD 4 0), .int .i64 m, .int .i64 k])) := Lib.hid (rd_Stamp hk)
    have HO : Hid (ownOf k zs = k) := Lib.hid (own_Stamp hk)
    have HT := Lib.hid hk
    clear hk
    go_enter Try.func70, Try.ntmps70
    go_wp2_with fail
    generalize (w.alloc (.cells #[.int .i64 k, .slice p n c, .int .i64 m] 75)) = V at HBV HX HR ⊢
    refine (read_any k _ _ _ m zs V HR.out.ints).mono ?_
    rintro e w1 ⟨rfl, hb⟩
    rw [HV.out]
    have HB1 := Lib.hid hb
    have HX1 := Lib.hid (HX.out.below hb)
    clear hb v0 v1 v2
    have HS : Hid (soV k zs m = .iface 162 (.agg #[.int .i64 (zs.getD 1 0), .int .i64 (zs.getD 2 0), .int .i64 (zs.getD 3 0), .int .i64 (zs.getD 4 0), .int .i64 m, .int .i64 k])) := Lib.hid (by rw [so_own (by rw [HO.out]) (by rw [HT.out]; decide), HV.out])
    have HI1 : Hid (-9223372036854775808 ≤ zs.getD 1 0 ∧ zs.getD 1 0 ≤ 9223372036854775807) := Lib.hid (HIN.out 1)
    have HI2 : Hid (-9223372036854775808 ≤ zs.getD 2 0 ∧ zs.getD 2 0 ≤ 9223372036854775807) := Lib.hid (HIN.out 2)
    have HI3 : Hid (-9223372036854775808 ≤ zs.getD 3 0 ∧ zs.getD 3 0 ≤ 9223372036854775807) := Lib.hid (HIN.out 3)
    have HI4 : Hid (-9223372036854775808 ≤ zs.getD 4 0 ∧ zs.getD 4 0 ≤ 9223372036854775807) := Lib.hid (HIN.out 4)
    clear HO HV HIN
    generalize zs.getD 1 0 = z1 at HS HI1 ⊢
    generalize zs.getD 2 0 = z2 at HS HI2 ⊢
    generalize zs.getD 3 0 = z3 at HS HI3 ⊢
    generalize zs.getD 4 0 = z4 at HS HI4 ⊢
    have hm := meth_Stamp z1 z2 z3 z4 m k
    have he := eq_Stamp (.agg #[.int .i64 z1, .int .i64 z2, .int .i64 z3, .int .i64 z4, .int .i64 m, .int .i64 k])
    have HBd := Lib.hid (below_drewN HB1.out 1)
    have HXd := Lib.hid HX1.out.drew1
    have e1 : (k != k) = false := by simp
    have e2 : (k == k) = true := by simp
    go_wp2_with fail
    go_region_held3 (fun w' => w'.cell? ⟨w.heap.size, 0, none⟩ = some (.int .i64 k) ∧ w'.cell? ⟨w.heap.size, 1, none⟩ = some (.slice p n c) ∧ w'.cell? ⟨w.heap.size, 2, none⟩ = some (.int .i64 m)) (first | exact DpPiece.bxc HX2.out | exact DpPiece.bxc HXd.out | go_keep) (first | (go_at_call 134; (with_reducible refine (PmStamp.stamp_any k z1 z2 z3 z4 m _ HI1.out HI2.out HI3.out HI4.out HMI.out).mono ?_); rintro e w2 ⟨p2, n2, c2, d2, rfl, _, hb⟩; have HB2 := Lib.hid (below_on HBd.out hb); have HX2 := Lib.hid (HXd.out.below hb); have hpk := pieceKey k m p2 n2 c2; clear hb) | fail)
    all_goals
      go_wp2_with fail
      go_ret
      exact val_of (by rw [HS.out]; first | done | rfl) (below_on HBV.out HB2.out)
  · have HV : Hid (rdV k zs m = .iface 56 (.agg #[.int .i64 (zs.getD 1 0), .int .i64 (zs.getD 2 0), .int .i64 (zs.getD 3 0), .int .i64 (zs.getD 4 0), .int .i64 (zs.getD 5 0), .int .i64 (zs.getD 6 0), .int .i64 (zs.getD 7 0), .int .i64 (zs.getD 8 0), .int .i64 m])) := Lib.hid (rd_Sign hk)
    have HO : Hid (ownOf k zs = (zs.getD 1 0)) := Lib.hid (own_Sign hk)
    have HT := Lib.hid hk
    clear hk
    go_enter Try.func70, Try.ntmps70
    go_wp2_with fail
    generalize (w.alloc (.cells #[.int .i64 k, .slice p n c, .int .i64 m] 75)) = V at HBV HX HR ⊢
    refine (read_any k _ _ _ m zs V HR.out.ints).mono ?_
    rintro e w1 ⟨rfl, hb⟩
    rw [HV.out]
    have HB1 := Lib.hid hb
    have HX1 := Lib.hid (HX.out.below hb)
    clear hb v0 v1 v2
    by_cases ho : (zs.getD 1 0) = k
    · skip
      have HS : Hid (soV k zs m = .iface 56 (.agg #[.int .i64 (zs.getD 1 0), .int .i64 (zs.getD 2 0), .int .i64 (zs.getD 3 0), .int .i64 (zs.getD 4 0), .int .i64 (zs.getD 5 0), .int .i64 (zs.getD 6 0), .int .i64 (zs.getD 7 0), .int .i64 (zs.getD 8 0), .int .i64 m])) := Lib.hid (by rw [so_own (by rw [HO.out]; exact ho) (by rw [HT.out]; decide), HV.out])
      have HI1 : Hid (-9223372036854775808 ≤ zs.getD 1 0 ∧ zs.getD 1 0 ≤ 9223372036854775807) := Lib.hid (HIN.out 1)
      have HI2 : Hid (-9223372036854775808 ≤ zs.getD 2 0 ∧ zs.getD 2 0 ≤ 9223372036854775807) := Lib.hid (HIN.out 2)
      have HI3 : Hid (-9223372036854775808 ≤ zs.getD 3 0 ∧ zs.getD 3 0 ≤ 9223372036854775807) := Lib.hid (HIN.out 3)
      have HI4 : Hid (-9223372036854775808 ≤ zs.getD 4 0 ∧ zs.getD 4 0 ≤ 9223372036854775807) := Lib.hid (HIN.out 4)
      have HI5 : Hid (-9223372036854775808 ≤ zs.getD 5 0 ∧ zs.getD 5 0 ≤ 9223372036854775807) := Lib.hid (HIN.out 5)
      have HI6 : Hid (-9223372036854775808 ≤ zs.getD 6 0 ∧ zs.getD 6 0 ≤ 9223372036854775807) := Lib.hid (HIN.out 6)
      have HI7 : Hid (-9223372036854775808 ≤ zs.getD 7 0 ∧ zs.getD 7 0 ≤ 9223372036854775807) := Lib.hid (HIN.out 7)
      have HI8 : Hid (-9223372036854775808 ≤ zs.getD 8 0 ∧ zs.getD 8 0 ≤ 9223372036854775807) := Lib.hid (HIN.out 8)
      clear HO HV HIN
      generalize zs.getD 1 0 = z1 at HS HI1 ho ⊢
      generalize zs.getD 2 0 = z2 at HS HI2 ho ⊢
      generalize zs.getD 3 0 = z3 at HS HI3 ho ⊢
      generalize zs.getD 4 0 = z4 at HS HI4 ho ⊢
      generalize zs.getD 5 0 = z5 at HS HI5 ho ⊢
      generalize zs.getD 6 0 = z6 at HS HI6 ho ⊢
      generalize zs.getD 7 0 = z7 at HS HI7 ho ⊢
      generalize zs.getD 8 0 = z8 at HS HI8 ho ⊢
      obtain rfl : k = z1 := ho.symm
      have hm := meth_Sign k z2 z3 z4 z5 z6 z7 z8 m
      have he := eq_Sign (.agg #[.int .i64 k, .int .i64 z2, .int .i64 z3, .int .i64 z4, .int .i64 z5, .int .i64 z6, .int .i64 z7, .int .i64 z8, .int .i64 m])
      have HBd := Lib.hid (below_drewN HB1.out 1)
      have HXd := Lib.hid HX1.out.drew1
      have e1 : (k != k) = false := by simp
      have e2 : (k == k) = true := by simp
      go_wp2_with fail
      go_region_held3 (fun w' => w'.cell? ⟨w.heap.size, 0, none⟩ = some (.int .i64 k) ∧ w'.cell? ⟨w.heap.size, 1, none⟩ = some (.slice p n c) ∧ w'.cell? ⟨w.heap.size, 2, none⟩ = some (.int .i64 m)) (first | exact DpPiece.bxc HX2.out | exact DpPiece.bxc HXd.out | go_keep) (first | (go_at_call 126; (with_reducible refine (PmSignature.sign_any k z2 z3 z4 z5 z6 z7 z8 m _ HI1.out HI2.out HI3.out HI4.out HI5.out HI6.out HI7.out HI8.out HMI.out).mono ?_); rintro e w2 ⟨p2, n2, c2, d2, rfl, _, hb⟩; have HB2 := Lib.hid (below_on HBd.out hb); have HX2 := Lib.hid (HXd.out.below hb); have hpk := pieceKey k m p2 n2 c2; clear hb) | fail)
      all_goals
        go_wp2_with fail
        go_ret
        exact val_of (by rw [HS.out]; first | done | rfl) (below_on HBV.out HB2.out)
    · skip
      have HS : Hid (soV k zs m = .nilIface) := Lib.hid (so_none (tag_other (by rw [HO.out]; exact ho)))
      have HI1 : Hid (-9223372036854775808 ≤ zs.getD 1 0 ∧ zs.getD 1 0 ≤ 9223372036854775807) := Lib.hid (HIN.out 1)
      have HI2 : Hid (-9223372036854775808 ≤ zs.getD 2 0 ∧ zs.getD 2 0 ≤ 9223372036854775807) := Lib.hid (HIN.out 2)
      have HI3 : Hid (-9223372036854775808 ≤ zs.getD 3 0 ∧ zs.getD 3 0 ≤ 9223372036854775807) := Lib.hid (HIN.out 3)
      have HI4 : Hid (-9223372036854775808 ≤ zs.getD 4 0 ∧ zs.getD 4 0 ≤ 9223372036854775807) := Lib.hid (HIN.out 4)
      have HI5 : Hid (-9223372036854775808 ≤ zs.getD 5 0 ∧ zs.getD 5 0 ≤ 9223372036854775807) := Lib.hid (HIN.out 5)
      have HI6 : Hid (-9223372036854775808 ≤ zs.getD 6 0 ∧ zs.getD 6 0 ≤ 9223372036854775807) := Lib.hid (HIN.out 6)
      have HI7 : Hid (-9223372036854775808 ≤ zs.getD 7 0 ∧ zs.getD 7 0 ≤ 9223372036854775807) := Lib.hid (HIN.out 7)
      have HI8 : Hid (-9223372036854775808 ≤ zs.getD 8 0 ∧ zs.getD 8 0 ≤ 9223372036854775807) := Lib.hid (HIN.out 8)
      clear HO HV HIN
      generalize zs.getD 1 0 = z1 at HS HI1 ho ⊢
      generalize zs.getD 2 0 = z2 at HS HI2 ho ⊢
      generalize zs.getD 3 0 = z3 at HS HI3 ho ⊢
      generalize zs.getD 4 0 = z4 at HS HI4 ho ⊢
      generalize zs.getD 5 0 = z5 at HS HI5 ho ⊢
      generalize zs.getD 6 0 = z6 at HS HI6 ho ⊢
      generalize zs.getD 7 0 = z7 at HS HI7 ho ⊢
      generalize zs.getD 8 0 = z8 at HS HI8 ho ⊢
      have hm := meth_Sign z1 z2 z3 z4 z5 z6 z7 z8 m
      have he := eq_Sign (.agg #[.int .i64 z1, .int .i64 z2, .int .i64 z3, .int .i64 z4, .int .i64 z5, .int .i64 z6, .int .i64 z7, .int .i64 z8, .int .i64 m])
      have HBd := Lib.hid (below_drewN HB1.out 1)
      have HXd := Lib.hid HX1.out.drew1
      have e1 : (z1 != k) = true := bne_iff_ne.2 ho
      have e2 : (z1 == k) = false := beq_eq_false_iff_ne.2 ho
      clear ho
      go_wp2_with fail
      go_region_held3 (fun w' => w'.cell? ⟨w.heap.size, 0, none⟩ = some (.int .i64 k) ∧ w'.cell? ⟨w.heap.size, 1, none⟩ = some (.slice p n c) ∧ w'.cell? ⟨w.heap.size, 2, none⟩ = some (.int .i64 m)) (first | exact DpPiece.bxc HX2.out | exact DpPiece.bxc HXd.out | go_keep) (first | (go_at_call 126; (with_reducible refine (PmSignature.sign_any z1 z2 z3 z4 z5 z6 z7 z8 m _ HI1.out HI2.out HI3.out HI4.out HI5.out HI6.out HI7.out HI8.out HMI.out).mono ?_); rintro e w2 ⟨p2, n2, c2, d2, rfl, _, hb⟩; have HB2 := Lib.hid (below_on HBd.out hb); have HX2 := Lib.hid (HXd.out.below hb); have hpk := pieceKey z1 m p2 n2 c2; clear hb) | fail)
      all_goals
        go_wp2_with fail
        go_ret
        exact val_of (by rw [HS.out]; first | done | rfl) (below_on HBV.out HB2.out)
  · have HV : Hid (rdV k zs m = .iface 72 (.agg #[.int .i64 (zs.getD 1 0), .int .i64 (zs.getD 2 0), .int .i64 (zs.getD 3 0), .int .i64 (zs.getD 4 0), .int .i64 (zs.getD 5 0), .int .i64 m])) := Lib.hid (rd_Mandate hk)
    have HO : Hid (ownOf k zs = (zs.getD 5 0)) := Lib.hid (own_Mandate hk)
    have HT := Lib.hid hk
    clear hk
    go_enter Try.func70, Try.ntmps70
    go_wp2_with fail
    generalize (w.alloc (.cells #[.int .i64 k, .slice p n c, .int .i64 m] 75)) = V at HBV HX HR ⊢
    refine (read_any k _ _ _ m zs V HR.out.ints).mono ?_
    rintro e w1 ⟨rfl, hb⟩
    rw [HV.out]
    have HB1 := Lib.hid hb
    have HX1 := Lib.hid (HX.out.below hb)
    clear hb v0 v1 v2
    by_cases ho : (zs.getD 5 0) = k
    · skip
      have HS : Hid (soV k zs m = .iface 72 (.agg #[.int .i64 (zs.getD 1 0), .int .i64 (zs.getD 2 0), .int .i64 (zs.getD 3 0), .int .i64 (zs.getD 4 0), .int .i64 (zs.getD 5 0), .int .i64 m])) := Lib.hid (by rw [so_own (by rw [HO.out]; exact ho) (by rw [HT.out]; decide), HV.out])
      have HI1 : Hid (-9223372036854775808 ≤ zs.getD 1 0 ∧ zs.getD 1 0 ≤ 9223372036854775807) := Lib.hid (HIN.out 1)
      have HI2 : Hid (-9223372036854775808 ≤ zs.getD 2 0 ∧ zs.getD 2 0 ≤ 9223372036854775807) := Lib.hid (HIN.out 2)
      have HI3 : Hid (-9223372036854775808 ≤ zs.getD 3 0 ∧ zs.getD 3 0 ≤ 9223372036854775807) := Lib.hid (HIN.out 3)
      have HI4 : Hid (-9223372036854775808 ≤ zs.getD 4 0 ∧ zs.getD 4 0 ≤ 9223372036854775807) := Lib.hid (HIN.out 4)
      have HI5 : Hid (-9223372036854775808 ≤ zs.getD 5 0 ∧ zs.getD 5 0 ≤ 9223372036854775807) := Lib.hid (HIN.out 5)
      clear HO HV HIN
      generalize zs.getD 1 0 = z1 at HS HI1 ho ⊢
      generalize zs.getD 2 0 = z2 at HS HI2 ho ⊢
      generalize zs.getD 3 0 = z3 at HS HI3 ho ⊢
      generalize zs.getD 4 0 = z4 at HS HI4 ho ⊢
      generalize zs.getD 5 0 = z5 at HS HI5 ho ⊢
      obtain rfl : k = z5 := ho.symm
      have hm := meth_Mandate z1 z2 z3 z4 k m
      have he := eq_Mandate (.agg #[.int .i64 z1, .int .i64 z2, .int .i64 z3, .int .i64 z4, .int .i64 k, .int .i64 m])
      have HBd := Lib.hid (below_drewN HB1.out 1)
      have HXd := Lib.hid HX1.out.drew1
      have e1 : (k != k) = false := by simp
      have e2 : (k == k) = true := by simp
      go_wp2_with fail
      go_region_held3 (fun w' => w'.cell? ⟨w.heap.size, 0, none⟩ = some (.int .i64 k) ∧ w'.cell? ⟨w.heap.size, 1, none⟩ = some (.slice p n c) ∧ w'.cell? ⟨w.heap.size, 2, none⟩ = some (.int .i64 m)) (first | exact DpPiece.bxc HX2.out | exact DpPiece.bxc HXd.out | go_keep) (first | (go_at_call 130; (with_reducible refine (PmMandate.mandate_any z1 z2 z3 z4 k m _ HI1.out HI2.out HI3.out HI4.out HI5.out HMI.out).mono ?_); rintro e w2 ⟨p2, n2, c2, d2, rfl, _, hb⟩; have HB2 := Lib.hid (below_on HBd.out hb); have HX2 := Lib.hid (HXd.out.below hb); have hpk := pieceKey k m p2 n2 c2; clear hb) | fail)
      all_goals
        go_wp2_with fail
        go_ret
        exact val_of (by rw [HS.out]; first | done | rfl) (below_on HBV.out HB2.out)
    · skip
      have HS : Hid (soV k zs m = .nilIface) := Lib.hid (so_none (tag_other (by rw [HO.out]; exact ho)))
      have HI1 : Hid (-9223372036854775808 ≤ zs.getD 1 0 ∧ zs.getD 1 0 ≤ 9223372036854775807) := Lib.hid (HIN.out 1)
      have HI2 : Hid (-9223372036854775808 ≤ zs.getD 2 0 ∧ zs.getD 2 0 ≤ 9223372036854775807) := Lib.hid (HIN.out 2)
      have HI3 : Hid (-9223372036854775808 ≤ zs.getD 3 0 ∧ zs.getD 3 0 ≤ 9223372036854775807) := Lib.hid (HIN.out 3)
      have HI4 : Hid (-9223372036854775808 ≤ zs.getD 4 0 ∧ zs.getD 4 0 ≤ 9223372036854775807) := Lib.hid (HIN.out 4)
      have HI5 : Hid (-9223372036854775808 ≤ zs.getD 5 0 ∧ zs.getD 5 0 ≤ 9223372036854775807) := Lib.hid (HIN.out 5)
      clear HO HV HIN
      generalize zs.getD 1 0 = z1 at HS HI1 ho ⊢
      generalize zs.getD 2 0 = z2 at HS HI2 ho ⊢
      generalize zs.getD 3 0 = z3 at HS HI3 ho ⊢
      generalize zs.getD 4 0 = z4 at HS HI4 ho ⊢
      generalize zs.getD 5 0 = z5 at HS HI5 ho ⊢
      have hm := meth_Mandate z1 z2 z3 z4 z5 m
      have he := eq_Mandate (.agg #[.int .i64 z1, .int .i64 z2, .int .i64 z3, .int .i64 z4, .int .i64 z5, .int .i64 m])
      have HBd := Lib.hid (below_drewN HB1.out 1)
      have HXd := Lib.hid HX1.out.drew1
      have e1 : (z5 != k) = true := bne_iff_ne.2 ho
      have e2 : (z5 == k) = false := beq_eq_false_iff_ne.2 ho
      clear ho
      go_wp2_with fail
      go_region_held3 (fun w' => w'.cell? ⟨w.heap.size, 0, none⟩ = some (.int .i64 k) ∧ w'.cell? ⟨w.heap.size, 1, none⟩ = some (.slice p n c) ∧ w'.cell? ⟨w.heap.size, 2, none⟩ = some (.int .i64 m)) (first | exact DpPiece.bxc HX2.out | exact DpPiece.bxc HXd.out | go_keep) (first | (go_at_call 130; (with_reducible refine (PmMandate.mandate_any z1 z2 z3 z4 z5 m _ HI1.out HI2.out HI3.out HI4.out HI5.out HMI.out).mono ?_); rintro e w2 ⟨p2, n2, c2, d2, rfl, _, hb⟩; have HB2 := Lib.hid (below_on HBd.out hb); have HX2 := Lib.hid (HXd.out.below hb); have hpk := pieceKey z5 m p2 n2 c2; clear hb) | fail)
      all_goals
        go_wp2_with fail
        go_ret
        exact val_of (by rw [HS.out]; first | done | rfl) (below_on HBV.out HB2.out)
  · have HV : Hid (rdV k zs m = .nilIface) := Lib.hid (rd_none hk)
    have HS : Hid (soV k zs m = .nilIface) := Lib.hid (so_none (tag_none hk))
    clear hk
    go_enter Try.func70, Try.ntmps70
    go_wp2_with fail
    generalize (w.alloc (.cells #[.int .i64 k, .slice p n c, .int .i64 m] 75)) = V at HBV HX HR ⊢
    refine (read_any k _ _ _ m zs V HR.out.ints).mono ?_
    rintro e w1 ⟨rfl, hb⟩
    rw [HV.out]
    have HB1 := Lib.hid hb
    have HX1 := Lib.hid (HX.out.below hb)
    clear hb v0 v1 v2
    have he := nilNil
    go_wp2_with fail
    refine Qt.region (Qt.Keeps (w1)) (by kernel_rfl) (by kernel_rfl) (Qt.Keeps.drew _) ?_
    repeat (first
      | go_big_quiet_skip
      | (go_big_quiet_want
         refine Qt.val (v := ?_) (fun w hw => ?_) ?_
         rotate_left
         · go_simp
           rfl
         simp only [Act.put, List.setIfInBounds_toArray, List.set_cons_zero, List.set_cons_succ]
         go_big_quiet_on))
    refine wpQuiet_nil ?_
    intro w2 hw2
    have HB2 := Lib.hid (below_on HB1.out hw2)
    clear hw2
    go_wp2_with fail
    go_ret
    exact val_of (by rw [HS.out]; first | done | rfl) (below_on HBV.out HB2.out)
end Go.Proofs.Ytpjckbdljbpliaa.Prs
