/- What a piece was made from: readStatement, statementOf, in the program. -/
import Derived.Test.YtpjckbdljbpliaaPr0
import Derived.Test.YtpjckbdljbpliaaDpPiece
import Derived.Test.YtpjckbdljbpliaaKp
import Derived.Test.YtpjckbdljbpliaaPmCert
import Derived.Test.YtpjckbdljbpliaaPmStatus
import Derived.Test.YtpjckbdljbpliaaPmStamp
import Derived.Test.YtpjckbdljbpliaaPmSignature
import Derived.Test.YtpjckbdljbpliaaMjA
import Derived.Test.YtpjckbdljbpliaaQt
import Derived.Deep.QuietTactic
import Derived.BigQuiet
import Derived.Deep.RegionHeld3
import Derived.RegionTactic
import Derived.Outline
namespace Go.Proofs.Ytpjckbdljbpliaa.Pr1
open Go.ChangeShapes Go.WideShapes Go.ChangeAt Go.RowKit Sl St Ed Dz Kd Pr0
set_option maxRecDepth 100000 in
set_option maxHeartbeats 8000000 in
theorem read_any (k : Int) (p : Option Addr) (n c : Nat) (m : Int) (zs : List Int) (w : World) (hr : Rd .i64 w p n zs) : Calls Try.prog 88 #[.agg #[.int .i64 k, .slice p n c, .int .i64 m]] w (Val (rdV k zs m) w) := by
  have hl := hr.len
  rcases kd_cases zs hl with ⟨rfl, hz, hk⟩ | ⟨rfl, hz, hk⟩ | ⟨rfl, hz, hk⟩ | ⟨rfl, hz, hk⟩ | ⟨rfl, hz, hk⟩ | hk
  · have HV : Hid (rdV k zs m = .iface 37 (.agg #[.int .i64 (zs.getD 1 0), .int .i64 (zs.getD 2 0), .int .i64 (zs.getD 3 0), .int .i64 (zs.getD 4 0), .int .i64 (zs.getD 5 0), .int .i64 (zs.getD 6 0), .int .i64 m])) := Lib.hid (rd_Cert hk)
    have HK : Hid (kind 7 (zs.getD 0 0) = 101) := Lib.hid ((kd_of hl).trans hk)
    obtain ⟨b, o, rfl, hb, hc⟩ := cells_of hr (by decide)
    have HC := Lib.hid hc
    have HBb := Lib.hid hb
    have hbx := box1 w (.cells #[.int .i64 k, .slice (some ⟨b, o, none⟩) 7 c, .int .i64 m] 75)
    have HBV := Lib.hid hbx
    have HX := Lib.hid (Bx.new w 75 #[.int .i64 k, .slice (some ⟨b, o, none⟩) 7 c, .int .i64 m])
    have HR := Lib.hid ((RdD.ofInts (S := fun _ => True) hr (fun _ _ _ _ => trivial)).below hbx)
    clear hbx hr hl hz hk hb hc
    obtain ⟨v0, v1, v2⟩ := DpPiece.bxc HX.out
    go_enter Try.func88, Try.ntmps88
    go_wp2_with fail
    generalize (w.alloc (.cells #[.int .i64 k, .slice (some ⟨b, o, none⟩) 7 c, .int .i64 m] 75)) = V at HBV HX HR ⊢
    refine (Kp.kind_any k _ _ _ m zs V HR.out.ints).mono ?_
    rintro e w1 ⟨rfl, hb⟩
    rw [HK.out]
    have HB1 := Lib.hid (below_on HBV.out hb)
    have HX1 := Lib.hid (HX.out.below hb)
    clear hb v0 v1 v2
    obtain ⟨v0, v1, v2⟩ := DpPiece.bxc HX1.out
    have c1 := (HB1.out.cell (p := ⟨b, o + 1, none⟩) HBb.out).trans (HC.out 1 (by decide))
    have c2 := (HB1.out.cell (p := ⟨b, o + 2, none⟩) HBb.out).trans (HC.out 2 (by decide))
    have c3 := (HB1.out.cell (p := ⟨b, o + 3, none⟩) HBb.out).trans (HC.out 3 (by decide))
    have c4 := (HB1.out.cell (p := ⟨b, o + 4, none⟩) HBb.out).trans (HC.out 4 (by decide))
    have c5 := (HB1.out.cell (p := ⟨b, o + 5, none⟩) HBb.out).trans (HC.out 5 (by decide))
    have c6 := (HB1.out.cell (p := ⟨b, o + 6, none⟩) HBb.out).trans (HC.out 6 (by decide))
    generalize zs.getD 1 0 = z1 at c1 HV
    generalize zs.getD 2 0 = z2 at c2 HV
    generalize zs.getD 3 0 = z3 at c3 HV
    generalize zs.getD 4 0 = z4 at c4 HV
    generalize zs.getD 5 0 = z5 at c5 HV
    generalize zs.getD 6 0 = z6 at c6 HV
    clear HK HC
    go_wp2_with fail
    go_quiet (fail)
    go_wp2_with fail
    go_ret
    exact val_of (by rw [HV.out]; first | done | rfl) (below_drewN HB1.out _)
  · have HV : Hid (rdV k zs m = .iface 80 (.agg #[.int .i64 (zs.getD 1 0), .int .i64 (zs.getD 2 0), .int .i64 (zs.getD 3 0), .int .i64 (zs.getD 4 0), .int .i64 m])) := Lib.hid (rd_Status hk)
    have HK : Hid (kind 5 (zs.getD 0 0) = 102) := Lib.hid ((kd_of hl).trans hk)
    obtain ⟨b, o, rfl, hb, hc⟩ := cells_of hr (by decide)
    have HC := Lib.hid hc
    have HBb := Lib.hid hb
    have hbx := box1 w (.cells #[.int .i64 k, .slice (some ⟨b, o, none⟩) 5 c, .int .i64 m] 75)
    have HBV := Lib.hid hbx
    have HX := Lib.hid (Bx.new w 75 #[.int .i64 k, .slice (some ⟨b, o, none⟩) 5 c, .int .i64 m])
    have HR := Lib.hid ((RdD.ofInts (S := fun _ => True) hr (fun _ _ _ _ => trivial)).below hbx)
    clear hbx hr hl hz hk hb hc
    obtain ⟨v0, v1, v2⟩ := DpPiece.bxc HX.out
    go_enter Try.func88, Try.ntmps88
    go_wp2_with fail
    generalize (w.alloc (.cells #[.int .i64 k, .slice (some ⟨b, o, none⟩) 5 c, .int .i64 m] 75)) = V at HBV HX HR ⊢
    refine (Kp.kind_any k _ _ _ m zs V HR.out.ints).mono ?_
    rintro e w1 ⟨rfl, hb⟩
    rw [HK.out]
    have HB1 := Lib.hid (below_on HBV.out hb)
    have HX1 := Lib.hid (HX.out.below hb)
    clear hb v0 v1 v2
    obtain ⟨v0, v1, v2⟩ := DpPiece.bxc HX1.out
    have c1 := (HB1.out.cell (p := ⟨b, o + 1, none⟩) HBb.out).trans (HC.out 1 (by decide))
    have c2 := (HB1.out.cell (p := ⟨b, o + 2, none⟩) HBb.out).trans (HC.out 2 (by decide))
    have c3 := (HB1.out.cell (p := ⟨b, o + 3, none⟩) HBb.out).trans (HC.out 3 (by decide))
    have c4 := (HB1.out.cell (p := ⟨b, o + 4, none⟩) HBb.out).trans (HC.out 4 (by decide))
    generalize zs.getD 1 0 = z1 at c1 HV
    generalize zs.getD 2 0 = z2 at c2 HV
    generalize zs.getD 3 0 = z3 at c3 HV
    generalize zs.getD 4 0 = z4 at c4 HV
    clear HK HC
    go_wp2_with fail
    go_quiet (fail)
    go_wp2_with fail
    go_ret
    exact val_of (by rw [HV.out]; first | done | rfl) (below_drewN HB1.out _)
  · have HV : Hid (rdV k zs m = .iface 162 (.agg #[.int .i64 (zs.getD 1 0), .int .i64 (zs.getD 2 0), .int .i64 (zs.getD 3 0), .int .i64 (zs.getD 4 0), .int .i64 m, .int .i64 k])) := Lib.hid (rd_Stamp hk)
    have HK : Hid (kind 5 (zs.getD 0 0) = 103) := Lib.hid ((kd_of hl).trans hk)
    obtain ⟨b, o, rfl, hb, hc⟩ := cells_of hr (by decide)
    have HC := Lib.hid hc
    have HBb := Lib.hid hb
    have hbx := box1 w (.cells #[.int .i64 k, .slice (some ⟨b, o, none⟩) 5 c, .int .i64 m] 75)
    have HBV := Lib.hid hbx
    have HX := Lib.hid (Bx.new w 75 #[.int .i64 k, .slice (some ⟨b, o, none⟩) 5 c, .int .i64 m])
    have HR := Lib.hid ((RdD.ofInts (S := fun _ => True) hr (fun _ _ _ _ => trivial)).below hbx)
    clear hbx hr hl hz hk hb hc
    obtain ⟨v0, v1, v2⟩ := DpPiece.bxc HX.out
    go_enter Try.func88, Try.ntmps88
    go_wp2_with fail
    generalize (w.alloc (.cells #[.int .i64 k, .slice (some ⟨b, o, none⟩) 5 c, .int .i64 m] 75)) = V at HBV HX HR ⊢
    refine (Kp.kind_any k _ _ _ m zs V HR.out.ints).mono ?_
    rintro e w1 ⟨rfl, hb⟩
    rw [HK.out]
    have HB1 := Lib.hid (below_on HBV.out hb)
    have HX1 := Lib.hid (HX.out.below hb)
    clear hb v0 v1 v2
    obtain ⟨v0, v1, v2⟩ := DpPiece.bxc HX1.out
    have c1 := (HB1.out.cell (p := ⟨b, o + 1, none⟩) HBb.out).trans (HC.out 1 (by decide))
    have c2 := (HB1.out.cell (p := ⟨b, o + 2, none⟩) HBb.out).trans (HC.out 2 (by decide))
    have c3 := (HB1.out.cell (p := ⟨b, o + 3, none⟩) HBb.out).trans (HC.out 3 (by decide))
    have c4 := (HB1.out.cell (p := ⟨b, o + 4, none⟩) HBb.out).trans (HC.out 4 (by decide))
    generalize zs.getD 1 0 = z1 at c1 HV
    generalize zs.getD 2 0 = z2 at c2 HV
    generalize zs.getD 3 0 = z3 at c3 HV
    generalize zs.getD 4 0 = z4 at c4 HV
    clear HK HC
    go_wp2_with fail
    go_quiet (fail)
    go_wp2_with fail
    go_ret
    exact val_of (by rw [HV.out]; first | done | rfl) (below_drewN HB1.out _)
  · have HV : Hid (rdV k zs m = .iface 56 (.agg #[.int .i64 (zs.getD 1 0), .int .i64 (zs.getD 2 0), .int .i64 (zs.getD 3 0), .int .i64 (zs.getD 4 0), .int .i64 (zs.getD 5 0), .int .i64 (zs.getD 6 0), .int .i64 (zs.getD 7 0), .int .i64 (zs.getD 8 0), .int .i64 m])) := Lib.hid (rd_Sign hk)
    have HK : Hid (kind 9 (zs.getD 0 0) = 104) := Lib.hid ((kd_of hl).trans hk)
    obtain ⟨b, o, rfl, hb, hc⟩ := cells_of hr (by decide)
    have HC := Lib.hid hc
    have HBb := Lib.hid hb
    have hbx := box1 w (.cells #[.int .i64 k, .slice (some ⟨b, o, none⟩) 9 c, .int .i64 m] 75)
    have HBV := Lib.hid hbx
    have HX := Lib.hid (Bx.new w 75 #[.int .i64 k, .slice (some ⟨b, o, none⟩) 9 c, .int .i64 m])
    have HR := Lib.hid ((RdD.ofInts (S := fun _ => True) hr (fun _ _ _ _ => trivial)).below hbx)
    clear hbx hr hl hz hk hb hc
    obtain ⟨v0, v1, v2⟩ := DpPiece.bxc HX.out
    go_enter Try.func88, Try.ntmps88
    go_wp2_with fail
    generalize (w.alloc (.cells #[.int .i64 k, .slice (some ⟨b, o, none⟩) 9 c, .int .i64 m] 75)) = V at HBV HX HR ⊢
    refine (Kp.kind_any k _ _ _ m zs V HR.out.ints).mono ?_
    rintro e w1 ⟨rfl, hb⟩
    rw [HK.out]
    have HB1 := Lib.hid (below_on HBV.out hb)
    have HX1 := Lib.hid (HX.out.below hb)
    clear hb v0 v1 v2
    obtain ⟨v0, v1, v2⟩ := DpPiece.bxc HX1.out
    have c1 := (HB1.out.cell (p := ⟨b, o + 1, none⟩) HBb.out).trans (HC.out 1 (by decide))
    have c2 := (HB1.out.cell (p := ⟨b, o + 2, none⟩) HBb.out).trans (HC.out 2 (by decide))
    have c3 := (HB1.out.cell (p := ⟨b, o + 3, none⟩) HBb.out).trans (HC.out 3 (by decide))
    have c4 := (HB1.out.cell (p := ⟨b, o + 4, none⟩) HBb.out).trans (HC.out 4 (by decide))
    have c5 := (HB1.out.cell (p := ⟨b, o + 5, none⟩) HBb.out).trans (HC.out 5 (by decide))
    have c6 := (HB1.out.cell (p := ⟨b, o + 6, none⟩) HBb.out).trans (HC.out 6 (by decide))
    have c7 := (HB1.out.cell (p := ⟨b, o + 7, none⟩) HBb.out).trans (HC.out 7 (by decide))
    have c8 := (HB1.out.cell (p := ⟨b, o + 8, none⟩) HBb.out).trans (HC.out 8 (by decide))
    generalize zs.getD 1 0 = z1 at c1 HV
    generalize zs.getD 2 0 = z2 at c2 HV
    generalize zs.getD 3 0 = z3 at c3 HV
    generalize zs.getD 4 0 = z4 at c4 HV
    generalize zs.getD 5 0 = z5 at c5 HV
    generalize zs.getD 6 0 = z6 at c6 HV
    generalize zs.getD 7 0 = z7 at c7 HV
    generalize zs.getD 8 0 = z8 at c8 HV
    clear HK HC
    go_wp2_with fail
    go_quiet (fail)
    go_wp2_with fail
    go_ret
    exact val_of (by rw [HV.out]; first | done | rfl) (below_drewN HB1.out _)
  · have HV : Hid (rdV k zs m = .iface 72 (.agg #[.int .i64 (zs.getD 1 0), .int .i64 (zs.getD 2 0), .int .i64 (zs.getD 3 0), .int .i64 (zs.getD 4 0), .int .i64 (zs.getD 5 0), .int .i64 m])) := Lib.hid (rd_Mandate hk)
    have HK : Hid (kind 6 (zs.getD 0 0) = 105) := Lib.hid ((kd_of hl).trans hk)
    obtain ⟨b, o, rfl, hb, hc⟩ := cells_of hr (by decide)
    have HC := Lib.hid hc
    have HBb := Lib.hid hb
    have hbx := box1 w (.cells #[.int .i64 k, .slice (some ⟨b, o, none⟩) 6 c, .int .i64 m] 75)
    have HBV := Lib.hid hbx
    have HX := Lib.hid (Bx.new w 75 #[.int .i64 k, .slice (some ⟨b, o, none⟩) 6 c, .int .i64 m])
    have HR := Lib.hid ((RdD.ofInts (S := fun _ => True) hr (fun _ _ _ _ => trivial)).below hbx)
    clear hbx hr hl hz hk hb hc
    obtain ⟨v0, v1, v2⟩ := DpPiece.bxc HX.out
    go_enter Try.func88, Try.ntmps88
    go_wp2_with fail
    generalize (w.alloc (.cells #[.int .i64 k, .slice (some ⟨b, o, none⟩) 6 c, .int .i64 m] 75)) = V at HBV HX HR ⊢
    refine (Kp.kind_any k _ _ _ m zs V HR.out.ints).mono ?_
    rintro e w1 ⟨rfl, hb⟩
    rw [HK.out]
    have HB1 := Lib.hid (below_on HBV.out hb)
    have HX1 := Lib.hid (HX.out.below hb)
    clear hb v0 v1 v2
    obtain ⟨v0, v1, v2⟩ := DpPiece.bxc HX1.out
    have c1 := (HB1.out.cell (p := ⟨b, o + 1, none⟩) HBb.out).trans (HC.out 1 (by decide))
    have c2 := (HB1.out.cell (p := ⟨b, o + 2, none⟩) HBb.out).trans (HC.out 2 (by decide))
    have c3 := (HB1.out.cell (p := ⟨b, o + 3, none⟩) HBb.out).trans (HC.out 3 (by decide))
    have c4 := (HB1.out.cell (p := ⟨b, o + 4, none⟩) HBb.out).trans (HC.out 4 (by decide))
    have c5 := (HB1.out.cell (p := ⟨b, o + 5, none⟩) HBb.out).trans (HC.out 5 (by decide))
    generalize zs.getD 1 0 = z1 at c1 HV
    generalize zs.getD 2 0 = z2 at c2 HV
    generalize zs.getD 3 0 = z3 at c3 HV
    generalize zs.getD 4 0 = z4 at c4 HV
    generalize zs.getD 5 0 = z5 at c5 HV
    clear HK HC
    go_wp2_with fail
    go_quiet (fail)
    go_wp2_with fail
    go_ret
    exact val_of (by rw [HV.out]; first | done | rfl) (below_drewN HB1.out _)
  · have HV : Hid (rdV k zs m = .nilIface) := Lib.hid (rd_none hk)
    have HK : Hid (kind n (zs.getD 0 0) = 0) := Lib.hid ((kd_of hl).trans hk)
    have hbx := box1 w (.cells #[.int .i64 k, .slice p n c, .int .i64 m] 75)
    have HBV := Lib.hid hbx
    have HX := Lib.hid (Bx.new w 75 #[.int .i64 k, .slice p n c, .int .i64 m])
    have HR := Lib.hid ((RdD.ofInts (S := fun _ => True) hr (fun _ _ _ _ => trivial)).below hbx)
    clear hbx hr hl hk
    obtain ⟨v0, v1, v2⟩ := DpPiece.bxc HX.out
    go_enter Try.func88, Try.ntmps88
    go_wp2_with fail
    generalize (w.alloc (.cells #[.int .i64 k, .slice p n c, .int .i64 m] 75)) = V at HBV HX HR ⊢
    refine (Kp.kind_any k _ _ _ m zs V HR.out.ints).mono ?_
    rintro e w1 ⟨rfl, hb⟩
    rw [HK.out]
    have HB1 := Lib.hid (below_on HBV.out hb)
    clear hb v0 v1 v2
    go_wp2_with fail
    go_ret
    exact val_of (by rw [HV.out]; first | done | rfl) HB1.out
end Go.Proofs.Ytpjckbdljbpliaa.Pr1
