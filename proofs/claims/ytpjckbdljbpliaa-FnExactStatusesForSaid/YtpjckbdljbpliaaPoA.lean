/- What a piece was made from: Status; in the program and in the reference. What a piece was made from, told by one function: Status; in the program and in the reference. -/
import Derived.Test.YtpjckbdljbpliaaPr0
import Derived.Test.YtpjckbdljbpliaaDpPiece
import Derived.Test.YtpjckbdljbpliaaKp
import Derived.Test.YtpjckbdljbpliaaPmCert
import Derived.Test.YtpjckbdljbpliaaPmStatus
import Derived.Test.YtpjckbdljbpliaaPmStamp
import Derived.Test.YtpjckbdljbpliaaPmSignature
import Derived.Test.YtpjckbdljbpliaaMjA
import Derived.Test.YtpjckbdljbpliaaQt
import Derived.Deep.QuietTactic
import Derived.BigQuiet
import Derived.Deep.RegionHeld3
import Derived.RegionTactic
import Derived.Outline
import Derived.Test.YtpjckbdljbpliaaPr1
import Derived.Test.YtpjckbdljbpliaaPrs
import Derived.Test.YtpjckbdljbpliaaKq
namespace Go.Proofs.Ytpjckbdljbpliaa.PrStatus
open Go.ChangeShapes Go.WideShapes Go.ChangeAt Go.RowKit Sl St Ed Dz Kd Pr0
set_option maxRecDepth 100000 in
set_option maxHeartbeats 4000000 in
theorem stated_yes (k : Int) (p : Option Addr) (n c : Nat) (m : Int) (zs : List Int) (hm : InI m) (w : World) (hr : Rd .i64 w p n zs) (ht : tag k zs = 102) : Calls Try.prog 58 #[.agg #[.int .i64 k, .slice p n c, .int .i64 m]] w (Val (.tuple #[.agg #[.int .i64 (zs.getD 1 0), .int .i64 (zs.getD 2 0), .int .i64 (zs.getD 3 0), .int .i64 (zs.getD 4 0), .int .i64 m], .bool true]) w) := by
  have hb : Below w.heap.size w ((w.alloc (.cells #[.int .i64 k, .slice p n c, .int .i64 m] 75)).alloc (.cells #[.int .i64 0, .int .i64 0, .int .i64 0, .int .i64 0, .int .i64 0] 80)) := (box1 w _).alloc (by simp) _
  have hx := (Bx.new w 75 #[.int .i64 k, .slice p n c, .int .i64 m]).alloc (.cells #[.int .i64 0, .int .i64 0, .int .i64 0, .int .i64 0, .int .i64 0] 80)
  have hz := Bx.new (w.alloc (.cells #[.int .i64 k, .slice p n c, .int .i64 m] 75)) 80 #[.int .i64 0, .int .i64 0, .int .i64 0, .int .i64 0, .int .i64 0]
  rw [World.size_alloc] at hz
  have HBV := Lib.hid hb
  have HX := Lib.hid hx
  have HZ := Lib.hid hz
  have HMI : Hid (InI m) := Lib.hid hm
  have HR := Lib.hid ((RdD.ofInts (S := fun _ => True) hr (fun _ _ _ _ => trivial)).below hb)
  clear hb hx hz hr hm
  obtain ⟨v0, v1, v2⟩ := DpPiece.bxc HX.out
  have HS : Hid (soV k zs m = .iface 80 (.agg #[.int .i64 (zs.getD 1 0), .int .i64 (zs.getD 2 0), .int .i64 (zs.getD 3 0), .int .i64 (zs.getD 4 0), .int .i64 m])) := Lib.hid (by rcases tag_cases k zs m with ⟨h, hs⟩ | ⟨h, hs⟩ | ⟨h, hs⟩ | ⟨h, hs⟩ | ⟨h, hs⟩ | ⟨h, hs⟩ <;> first | exact hs | (rw [ht] at h; exact absurd h (by decide)))
  clear ht
  generalize zs.getD 1 0 = z1 at HS ⊢
  generalize zs.getD 2 0 = z2 at HS ⊢
  generalize zs.getD 3 0 = z3 at HS ⊢
  generalize zs.getD 4 0 = z4 at HS ⊢
  go_enter Try.func58, Try.ntmps58
  go_wp2_with fail
  generalize ((w.alloc (.cells #[.int .i64 k, .slice p n c, .int .i64 m] 75)).alloc (.cells #[.int .i64 0, .int .i64 0, .int .i64 0, .int .i64 0, .int .i64 0] 80)) = V at HBV HX HZ HR ⊢
  refine (Prs.stmt_any k _ _ _ m zs HMI.out V HR.out.ints).mono ?_
  rintro e w2 ⟨rfl, hb⟩
  rw [HS.out]
  have HB2 := Lib.hid (below_on HBV.out hb)
  have HZ2 := Lib.hid (HZ.out.below hb)
  clear hb v0 v1 v2
  have ha := as_Status_Status (.agg #[.int .i64 z1, .int .i64 z2, .int .i64 z3, .int .i64 z4, .int .i64 m]) 
  have HZ3 := Lib.hid (HZ2.out.alloc (.cells #[.int .i64 z1, .int .i64 z2, .int .i64 z3, .int .i64 z4, .int .i64 m] 80))
  have HB3 := Lib.hid (HB2.out.alloc HB2.out.size (.cells #[.int .i64 z1, .int .i64 z2, .int .i64 z3, .int .i64 z4, .int .i64 m] 80))
  obtain ⟨q0, q1, q2, q3, q4⟩ : (w2.alloc (.cells #[.int .i64 z1, .int .i64 z2, .int .i64 z3, .int .i64 z4, .int .i64 m] 80)).cell? ⟨w.heap.size + 1, 0, none⟩ = some (.int .i64 0) ∧ (w2.alloc (.cells #[.int .i64 z1, .int .i64 z2, .int .i64 z3, .int .i64 z4, .int .i64 m] 80)).cell? ⟨w.heap.size + 1, 1, none⟩ = some (.int .i64 0) ∧ (w2.alloc (.cells #[.int .i64 z1, .int .i64 z2, .int .i64 z3, .int .i64 z4, .int .i64 m] 80)).cell? ⟨w.heap.size + 1, 2, none⟩ = some (.int .i64 0) ∧ (w2.alloc (.cells #[.int .i64 z1, .int .i64 z2, .int .i64 z3, .int .i64 z4, .int .i64 m] 80)).cell? ⟨w.heap.size + 1, 3, none⟩ = some (.int .i64 0) ∧ (w2.alloc (.cells #[.int .i64 z1, .int .i64 z2, .int .i64 z3, .int .i64 z4, .int .i64 m] 80)).cell? ⟨w.heap.size + 1, 4, none⟩ = some (.int .i64 0) := ⟨HZ3.out.cell rfl, HZ3.out.cell rfl, HZ3.out.cell rfl, HZ3.out.cell rfl, HZ3.out.cell rfl⟩
  have f0 := HZ3.out.free 0
  have f1 := HZ3.out.free 1
  have f2 := HZ3.out.free 2
  have f3 := HZ3.out.free 3
  have f4 := HZ3.out.free 4
  go_wp2_with fail
  exact bodyPost_ret (v := .tuple #[.agg #[.int .i64 z1, .int .i64 z2, .int .i64 z3, .int .i64 z4, .int .i64 m], .bool true]) (by simp [results, Try.results58, go_sem, q0, q1, q2, q3, q4]) rfl ⟨rfl, (((((HB3.out.setCell (p := ⟨w.heap.size + 1, 0, none⟩) (by simp) (.int .i64 z1)).setCell (p := ⟨w.heap.size + 1, 1, none⟩) (by simp) (.int .i64 z2)).setCell (p := ⟨w.heap.size + 1, 2, none⟩) (by simp) (.int .i64 z3)).setCell (p := ⟨w.heap.size + 1, 3, none⟩) (by simp) (.int .i64 z4)).setCell (p := ⟨w.heap.size + 1, 4, none⟩) (by simp) (.int .i64 m))⟩
set_option maxRecDepth 100000 in
set_option maxHeartbeats 4000000 in
theorem stated_no (k : Int) (p : Option Addr) (n c : Nat) (m : Int) (zs : List Int) (hm : InI m) (w : World) (hr : Rd .i64 w p n zs) (ht : ¬ tag k zs = 102) : Calls Try.prog 58 #[.agg #[.int .i64 k, .slice p n c, .int .i64 m]] w (Val (.tuple #[.agg #[.int .i64 0, .int .i64 0, .int .i64 0, .int .i64 0, .int .i64 0], .bool false]) w) := by
  have hb : Below w.heap.size w ((w.alloc (.cells #[.int .i64 k, .slice p n c, .int .i64 m] 75)).alloc (.cells #[.int .i64 0, .int .i64 0, .int .i64 0, .int .i64 0, .int .i64 0] 80)) := (box1 w _).alloc (by simp) _
  have hx := (Bx.new w 75 #[.int .i64 k, .slice p n c, .int .i64 m]).alloc (.cells #[.int .i64 0, .int .i64 0, .int .i64 0, .int .i64 0, .int .i64 0] 80)
  have hz := Bx.new (w.alloc (.cells #[.int .i64 k, .slice p n c, .int .i64 m] 75)) 80 #[.int .i64 0, .int .i64 0, .int .i64 0, .int .i64 0, .int .i64 0]
  rw [World.size_alloc] at hz
  have HBV := Lib.hid hb
  have HX := Lib.hid hx
  have HZ := Lib.hid hz
  have HMI : Hid (InI m) := Lib.hid hm
  have HR := Lib.hid ((RdD.ofInts (S := fun _ => True) hr (fun _ _ _ _ => trivial)).below hb)
  clear hb hx hz hr hm
  obtain ⟨v0, v1, v2⟩ := DpPiece.bxc HX.out
  rcases tag_cases k zs m with ⟨-, hs⟩ | ⟨-, hs⟩ | ⟨h, hs⟩ | ⟨-, hs⟩ | ⟨-, hs⟩ | ⟨-, hs⟩
  · have HS := Lib.hid hs
    clear hs ht
    go_enter Try.func58, Try.ntmps58
    go_wp2_with fail
    generalize ((w.alloc (.cells #[.int .i64 k, .slice p n c, .int .i64 m] 75)).alloc (.cells #[.int .i64 0, .int .i64 0, .int .i64 0, .int .i64 0, .int .i64 0] 80)) = V at HBV HX HZ HR ⊢
    refine (Prs.stmt_any k _ _ _ m zs HMI.out V HR.out.ints).mono ?_
    rintro e w2 ⟨rfl, hb⟩
    rw [HS.out]
    have HB2 := Lib.hid (below_on HBV.out hb)
    have HZ2 := Lib.hid (HZ.out.below hb)
    clear hb v0 v1 v2
    have ha := as_Status_nil
    have HZ3 := Lib.hid (HZ2.out.alloc (.cells #[.int .i64 0, .int .i64 0, .int .i64 0, .int .i64 0, .int .i64 0] 80))
    have HB3 := Lib.hid (HB2.out.alloc HB2.out.size (.cells #[.int .i64 0, .int .i64 0, .int .i64 0, .int .i64 0, .int .i64 0] 80))
    obtain ⟨q0, q1, q2, q3, q4⟩ : (w2.alloc (.cells #[.int .i64 0, .int .i64 0, .int .i64 0, .int .i64 0, .int .i64 0] 80)).cell? ⟨w.heap.size + 1, 0, none⟩ = some (.int .i64 0) ∧ (w2.alloc (.cells #[.int .i64 0, .int .i64 0, .int .i64 0, .int .i64 0, .int .i64 0] 80)).cell? ⟨w.heap.size + 1, 1, none⟩ = some (.int .i64 0) ∧ (w2.alloc (.cells #[.int .i64 0, .int .i64 0, .int .i64 0, .int .i64 0, .int .i64 0] 80)).cell? ⟨w.heap.size + 1, 2, none⟩ = some (.int .i64 0) ∧ (w2.alloc (.cells #[.int .i64 0, .int .i64 0, .int .i64 0, .int .i64 0, .int .i64 0] 80)).cell? ⟨w.heap.size + 1, 3, none⟩ = some (.int .i64 0) ∧ (w2.alloc (.cells #[.int .i64 0, .int .i64 0, .int .i64 0, .int .i64 0, .int .i64 0] 80)).cell? ⟨w.heap.size + 1, 4, none⟩ = some (.int .i64 0) := ⟨HZ3.out.cell rfl, HZ3.out.cell rfl, HZ3.out.cell rfl, HZ3.out.cell rfl, HZ3.out.cell rfl⟩
    have f0 := HZ3.out.free 0
    have f1 := HZ3.out.free 1
    have f2 := HZ3.out.free 2
    have f3 := HZ3.out.free 3
    have f4 := HZ3.out.free 4
    go_wp2_with fail
    exact bodyPost_ret (v := .tuple #[.agg #[.int .i64 0, .int .i64 0, .int .i64 0, .int .i64 0, .int .i64 0], .bool false]) (by simp [results, Try.results58, go_sem, q0, q1, q2, q3, q4]) rfl ⟨rfl, (((((HB3.out.setCell (p := ⟨w.heap.size + 1, 0, none⟩) (by simp) (.int .i64 0)).setCell (p := ⟨w.heap.size + 1, 1, none⟩) (by simp) (.int .i64 0)).setCell (p := ⟨w.heap.size + 1, 2, none⟩) (by simp) (.int .i64 0)).setCell (p := ⟨w.heap.size + 1, 3, none⟩) (by simp) (.int .i64 0)).setCell (p := ⟨w.heap.size + 1, 4, none⟩) (by simp) (.int .i64 0))⟩
  · have HS := Lib.hid hs
    clear hs ht
    generalize zs.getD 1 0 = z1 at HS
    generalize zs.getD 2 0 = z2 at HS
    generalize zs.getD 3 0 = z3 at HS
    generalize zs.getD 4 0 = z4 at HS
    generalize zs.getD 5 0 = z5 at HS
    generalize zs.getD 6 0 = z6 at HS
    go_enter Try.func58, Try.ntmps58
    go_wp2_with fail
    generalize ((w.alloc (.cells #[.int .i64 k, .slice p n c, .int .i64 m] 75)).alloc (.cells #[.int .i64 0, .int .i64 0, .int .i64 0, .int .i64 0, .int .i64 0] 80)) = V at HBV HX HZ HR ⊢
    refine (Prs.stmt_any k _ _ _ m zs HMI.out V HR.out.ints).mono ?_
    rintro e w2 ⟨rfl, hb⟩
    rw [HS.out]
    have HB2 := Lib.hid (below_on HBV.out hb)
    have HZ2 := Lib.hid (HZ.out.below hb)
    clear hb v0 v1 v2
    have ha := as_Status_Cert (.agg #[.int .i64 z1, .int .i64 z2, .int .i64 z3, .int .i64 z4, .int .i64 z5, .int .i64 z6, .int .i64 m])
    have HZ3 := Lib.hid (HZ2.out.alloc (.cells #[.int .i64 0, .int .i64 0, .int .i64 0, .int .i64 0, .int .i64 0] 80))
    have HB3 := Lib.hid (HB2.out.alloc HB2.out.size (.cells #[.int .i64 0, .int .i64 0, .int .i64 0, .int .i64 0, .int .i64 0] 80))
    obtain ⟨q0, q1, q2, q3, q4⟩ : (w2.alloc (.cells #[.int .i64 0, .int .i64 0, .int .i64 0, .int .i64 0, .int .i64 0] 80)).cell? ⟨w.heap.size + 1, 0, none⟩ = some (.int .i64 0) ∧ (w2.alloc (.cells #[.int .i64 0, .int .i64 0, .int .i64 0, .int .i64 0, .int .i64 0] 80)).cell? ⟨w.heap.size + 1, 1, none⟩ = some (.int .i64 0) ∧ (w2.alloc (.cells #[.int .i64 0, .int .i64 0, .int .i64 0, .int .i64 0, .int .i64 0] 80)).cell? ⟨w.heap.size + 1, 2, none⟩ = some (.int .i64 0) ∧ (w2.alloc (.cells #[.int .i64 0, .int .i64 0, .int .i64 0, .int .i64 0, .int .i64 0] 80)).cell? ⟨w.heap.size + 1, 3, none⟩ = some (.int .i64 0) ∧ (w2.alloc (.cells #[.int .i64 0, .int .i64 0, .int .i64 0, .int .i64 0, .int .i64 0] 80)).cell? ⟨w.heap.size + 1, 4, none⟩ = some (.int .i64 0) := ⟨HZ3.out.cell rfl, HZ3.out.cell rfl, HZ3.out.cell rfl, HZ3.out.cell rfl, HZ3.out.cell rfl⟩
    have f0 := HZ3.out.free 0
    have f1 := HZ3.out.free 1
    have f2 := HZ3.out.free 2
    have f3 := HZ3.out.free 3
    have f4 := HZ3.out.free 4
    go_wp2_with fail
    exact bodyPost_ret (v := .tuple #[.agg #[.int .i64 0, .int .i64 0, .int .i64 0, .int .i64 0, .int .i64 0], .bool false]) (by simp [results, Try.results58, go_sem, q0, q1, q2, q3, q4]) rfl ⟨rfl, (((((HB3.out.setCell (p := ⟨w.heap.size + 1, 0, none⟩) (by simp) (.int .i64 0)).setCell (p := ⟨w.heap.size + 1, 1, none⟩) (by simp) (.int .i64 0)).setCell (p := ⟨w.heap.size + 1, 2, none⟩) (by simp) (.int .i64 0)).setCell (p := ⟨w.heap.size + 1, 3, none⟩) (by simp) (.int .i64 0)).setCell (p := ⟨w.heap.size + 1, 4, none⟩) (by simp) (.int .i64 0))⟩
  · exact absurd h ht
  · have HS := Lib.hid hs
    clear hs ht
    generalize zs.getD 1 0 = z1 at HS
    generalize zs.getD 2 0 = z2 at HS
    generalize zs.getD 3 0 = z3 at HS
    generalize zs.getD 4 0 = z4 at HS
    go_enter Try.func58, Try.ntmps58
    go_wp2_with fail
    generalize ((w.alloc (.cells #[.int .i64 k, .slice p n c, .int .i64 m] 75)).alloc (.cells #[.int .i64 0, .int .i64 0, .int .i64 0, .int .i64 0, .int .i64 0] 80)) = V at HBV HX HZ HR ⊢
    refine (Prs.stmt_any k _ _ _ m zs HMI.out V HR.out.ints).mono ?_
    rintro e w2 ⟨rfl, hb⟩
    rw [HS.out]
    have HB2 := Lib.hid (below_on HBV.out hb)
    have HZ2 := Lib.hid (HZ.out.below hb)
    clear hb v0 v1 v2
    have ha := as_Status_Stamp (.agg #[.int .i64 z1, .int .i64 z2, .int .i64 z3, .int .i64 z4, .int .i64 m, .int .i64 k])
    have HZ3 := Lib.hid (HZ2.out.alloc (.cells #[.int .i64 0, .int .i64 0, .int .i64 0, .int .i64 0, .int .i64 0] 80))
    have HB3 := Lib.hid (HB2.out.alloc HB2.out.size (.cells #[.int .i64 0, .int .i64 0, .int .i64 0, .int .i64 0, .int .i64 0] 80))
    obtain ⟨q0, q1, q2, q3, q4⟩ : (w2.alloc (.cells #[.int .i64 0, .int .i64 0, .int .i64 0, .int .i64 0, .int .i64 0] 80)).cell? ⟨w.heap.size + 1, 0, none⟩ = some (.int .i64 0) ∧ (w2.alloc (.cells #[.int .i64 0, .int .i64 0, .int .i64 0, .int .i64 0, .int .i64 0] 80)).cell? ⟨w.heap.size + 1, 1, none⟩ = some (.int .i64 0) ∧ (w2.alloc (.cells #[.int .i64 0, .int .i64 0, .int .i64 0, .int .i64 0, .int .i64 0] 80)).cell? ⟨w.heap.size + 1, 2, none⟩ = some (.int .i64 0) ∧ (w2.alloc (.cells #[.int .i64 0, .int .i64 0, .int .i64 0, .int .i64 0, .int .i64 0] 80)).cell? ⟨w.heap.size + 1, 3, none⟩ = some (.int .i64 0) ∧ (w2.alloc (.cells #[.int .i64 0, .int .i64 0, .int .i64 0, .int .i64 0, .int .i64 0] 80)).cell? ⟨w.heap.size + 1, 4, none⟩ = some (.int .i64 0) := ⟨HZ3.out.cell rfl, HZ3.out.cell rfl, HZ3.out.cell rfl, HZ3.out.cell rfl, HZ3.out.cell rfl⟩
    have f0 := HZ3.out.free 0
    have f1 := HZ3.out.free 1
    have f2 := HZ3.out.free 2
    have f3 := HZ3.out.free 3
    have f4 := HZ3.out.free 4
    go_wp2_with fail
    exact bodyPost_ret (v := .tuple #[.agg #[.int .i64 0, .int .i64 0, .int .i64 0, .int .i64 0, .int .i64 0], .bool false]) (by simp [results, Try.results58, go_sem, q0, q1, q2, q3, q4]) rfl ⟨rfl, (((((HB3.out.setCell (p := ⟨w.heap.size + 1, 0, none⟩) (by simp) (.int .i64 0)).setCell (p := ⟨w.heap.size + 1, 1, none⟩) (by simp) (.int .i64 0)).setCell (p := ⟨w.heap.size + 1, 2, none⟩) (by simp) (.int .i64 0)).setCell (p := ⟨w.heap.size + 1, 3, none⟩) (by simp) (.int .i64 0)).setCell (p := ⟨w.heap.size + 1, 4, none⟩) (by simp) (.int .i64 0))⟩
  · have HS := Lib.hid hs
    clear hs ht
    generalize zs.getD 1 0 = z1 at HS
    generalize zs.getD 2 0 = z2 at HS
    generalize zs.getD 3 0 = z3 at HS
    generalize zs.getD 4 0 = z4 at HS
    generalize zs.getD 5 0 = z5 at HS
    generalize zs.getD 6 0 = z6 at HS
    generalize zs.getD 7 0 = z7 at HS
    generalize zs.getD 8 0 = z8 at HS
    go_enter Try.func58, Try.ntmps58
    go_wp2_with fail
    generalize ((w.alloc (.cells #[.int .i64 k, .slice p n c, .int .i64 m] 75)).alloc (.cells #[.int .i64 0, .int .i64 0, .int .i64 0, .int .i64 0, .int .i64 0] 80)) = V at HBV HX HZ HR ⊢
    refine (Prs.stmt_any k _ _ _ m zs HMI.out V HR.out.ints).mono ?_
    rintro e w2 ⟨rfl, hb⟩
    rw [HS.out]
    have HB2 := Lib.hid (below_on HBV.out hb)
    have HZ2 := Lib.hid (HZ.out.below hb)
    clear hb v0 v1 v2
    have ha := as_Status_Sign (.agg #[.int .i64 z1, .int .i64 z2, .int .i64 z3, .int .i64 z4, .int .i64 z5, .int .i64 z6, .int .i64 z7, .int .i64 z8, .int .i64 m])
    have HZ3 := Lib.hid (HZ2.out.alloc (.cells #[.int .i64 0, .int .i64 0, .int .i64 0, .int .i64 0, .int .i64 0] 80))
    have HB3 := Lib.hid (HB2.out.alloc HB2.out.size (.cells #[.int .i64 0, .int .i64 0, .int .i64 0, .int .i64 0, .int .i64 0] 80))
    obtain ⟨q0, q1, q2, q3, q4⟩ : (w2.alloc (.cells #[.int .i64 0, .int .i64 0, .int .i64 0, .int .i64 0, .int .i64 0] 80)).cell? ⟨w.heap.size + 1, 0, none⟩ = some (.int .i64 0) ∧ (w2.alloc (.cells #[.int .i64 0, .int .i64 0, .int .i64 0, .int .i64 0, .int .i64 0] 80)).cell? ⟨w.heap.size + 1, 1, none⟩ = some (.int .i64 0) ∧ (w2.alloc (.cells #[.int .i64 0, .int .i64 0, .int .i64 0, .int .i64 0, .int .i64 0] 80)).cell? ⟨w.heap.size + 1, 2, none⟩ = some (.int .i64 0) ∧ (w2.alloc (.cells #[.int .i64 0, .int .i64 0, .int .i64 0, .int .i64 0, .int .i64 0] 80)).cell? ⟨w.heap.size + 1, 3, none⟩ = some (.int .i64 0) ∧ (w2.alloc (.cells #[.int .i64 0, .int .i64 0, .int .i64 0, .int .i64 0, .int .i64 0] 80)).cell? ⟨w.heap.size + 1, 4, none⟩ = some (.int .i64 0) := ⟨HZ3.out.cell rfl, HZ3.out.cell rfl, HZ3.out.cell rfl, HZ3.out.cell rfl, HZ3.out.cell rfl⟩
    have f0 := HZ3.out.free 0
    have f1 := HZ3.out.free 1
    have f2 := HZ3.out.free 2
    have f3 := HZ3.out.free 3
    have f4 := HZ3.out.free 4
    go_wp2_with fail
    exact bodyPost_ret (v := .tuple #[.agg #[.int .i64 0, .int .i64 0, .int .i64 0, .int .i64 0, .int .i64 0], .bool false]) (by simp [results, Try.results58, go_sem, q0, q1, q2, q3, q4]) rfl ⟨rfl, (((((HB3.out.setCell (p := ⟨w.heap.size + 1, 0, none⟩) (by simp) (.int .i64 0)).setCell (p := ⟨w.heap.size + 1, 1, none⟩) (by simp) (.int .i64 0)).setCell (p := ⟨w.heap.size + 1, 2, none⟩) (by simp) (.int .i64 0)).setCell (p := ⟨w.heap.size + 1, 3, none⟩) (by simp) (.int .i64 0)).setCell (p := ⟨w.heap.size + 1, 4, none⟩) (by simp) (.int .i64 0))⟩
  · have HS := Lib.hid hs
    clear hs ht
    generalize zs.getD 1 0 = z1 at HS
    generalize zs.getD 2 0 = z2 at HS
    generalize zs.getD 3 0 = z3 at HS
    generalize zs.getD 4 0 = z4 at HS
    generalize zs.getD 5 0 = z5 at HS
    go_enter Try.func58, Try.ntmps58
    go_wp2_with fail
    generalize ((w.alloc (.cells #[.int .i64 k, .slice p n c, .int .i64 m] 75)).alloc (.cells #[.int .i64 0, .int .i64 0, .int .i64 0, .int .i64 0, .int .i64 0] 80)) = V at HBV HX HZ HR ⊢
    refine (Prs.stmt_any k _ _ _ m zs HMI.out V HR.out.ints).mono ?_
    rintro e w2 ⟨rfl, hb⟩
    rw [HS.out]
    have HB2 := Lib.hid (below_on HBV.out hb)
    have HZ2 := Lib.hid (HZ.out.below hb)
    clear hb v0 v1 v2
    have ha := as_Status_Mandate (.agg #[.int .i64 z1, .int .i64 z2, .int .i64 z3, .int .i64 z4, .int .i64 z5, .int .i64 m])
    have HZ3 := Lib.hid (HZ2.out.alloc (.cells #[.int .i64 0, .int .i64 0, .int .i64 0, .int .i64 0, .int .i64 0] 80))
    have HB3 := Lib.hid (HB2.out.alloc HB2.out.size (.cells #[.int .i64 0, .int .i64 0, .int .i64 0, .int .i64 0, .int .i64 0] 80))
    obtain ⟨q0, q1, q2, q3, q4⟩ : (w2.alloc (.cells #[.int .i64 0, .int .i64 0, .int .i64 0, .int .i64 0, .int .i64 0] 80)).cell? ⟨w.heap.size + 1, 0, none⟩ = some (.int .i64 0) ∧ (w2.alloc (.cells #[.int .i64 0, .int .i64 0, .int .i64 0, .int .i64 0, .int .i64 0] 80)).cell? ⟨w.heap.size + 1, 1, none⟩ = some (.int .i64 0) ∧ (w2.alloc (.cells #[.int .i64 0, .int .i64 0, .int .i64 0, .int .i64 0, .int .i64 0] 80)).cell? ⟨w.heap.size + 1, 2, none⟩ = some (.int .i64 0) ∧ (w2.alloc (.cells #[.int .i64 0, .int .i64 0, .int .i64 0, .int .i64 0, .int .i64 0] 80)).cell? ⟨w.heap.size + 1, 3, none⟩ = some (.int .i64 0) ∧ (w2.alloc (.cells #[.int .i64 0, .int .i64 0, .int .i64 0, .int .i64 0, .int .i64 0] 80)).cell? ⟨w.heap.size + 1, 4, none⟩ = some (.int .i64 0) := ⟨HZ3.out.cell rfl, HZ3.out.cell rfl, HZ3.out.cell rfl, HZ3.out.cell rfl, HZ3.out.cell rfl⟩
    have f0 := HZ3.out.free 0
    have f1 := HZ3.out.free 1
    have f2 := HZ3.out.free 2
    have f3 := HZ3.out.free 3
    have f4 := HZ3.out.free 4
    go_wp2_with fail
    exact bodyPost_ret (v := .tuple #[.agg #[.int .i64 0, .int .i64 0, .int .i64 0, .int .i64 0, .int .i64 0], .bool false]) (by simp [results, Try.results58, go_sem, q0, q1, q2, q3, q4]) rfl ⟨rfl, (((((HB3.out.setCell (p := ⟨w.heap.size + 1, 0, none⟩) (by simp) (.int .i64 0)).setCell (p := ⟨w.heap.size + 1, 1, none⟩) (by simp) (.int .i64 0)).setCell (p := ⟨w.heap.size + 1, 2, none⟩) (by simp) (.int .i64 0)).setCell (p := ⟨w.heap.size + 1, 3, none⟩) (by simp) (.int .i64 0)).setCell (p := ⟨w.heap.size + 1, 4, none⟩) (by simp) (.int .i64 0))⟩
end Go.Proofs.Ytpjckbdljbpliaa.PrStatus

namespace Go.Proofs.Ytpjckbdljbpliaa.PwStatus
open Go.ChangeShapes Go.WideShapes Go.ChangeAt Go.RowKit Sl St Ed Dz Kd Pr0
theorem drewB {W w : World} {B : Nat} (h : Below B W w) : Below B W w.drew := below_drewN h 1
set_option maxRecDepth 100000 in
set_option maxHeartbeats 4000000 in
theorem spec_yes (k : Int) (p : Option Addr) (n c : Nat) (m : Int) (zs : List Int) (w : World) (hr : Rd .i64 w p n zs) (ht : tag k zs = 102) : Calls Try.prog 36 #[.agg #[.int .i64 k, .slice p n c, .int .i64 m]] w (Val (.tuple #[.agg #[.int .i64 (zs.getD 1 0), .int .i64 (zs.getD 2 0), .int .i64 (zs.getD 3 0), .int .i64 (zs.getD 4 0), .int .i64 m], .bool true]) w) := by
  have hl := hr.len
  have hb : Below w.heap.size w ((w.alloc (.cells #[.int .i64 k, .slice p n c, .int .i64 m] 75)).alloc (.cells #[.int .i64 0, .int .i64 0, .int .i64 0, .int .i64 0, .int .i64 0] 80)) := (box1 w _).alloc (by simp) _
  have hx := (Bx.new w 75 #[.int .i64 k, .slice p n c, .int .i64 m]).alloc (.cells #[.int .i64 0, .int .i64 0, .int .i64 0, .int .i64 0, .int .i64 0] 80)
  have hz := Bx.new (w.alloc (.cells #[.int .i64 k, .slice p n c, .int .i64 m] 75)) 80 #[.int .i64 0, .int .i64 0, .int .i64 0, .int .i64 0, .int .i64 0]
  rw [World.size_alloc] at hz
  have HBV := Lib.hid hb
  have HX := Lib.hid hx
  have HZ := Lib.hid hz
  have HR := Lib.hid ((RdD.ofInts (S := fun _ => True) hr (fun _ _ _ _ => trivial)).below hb)
  have ho : ownOf k zs = k := by
    by_cases h : ownOf k zs = k
    · exact h
    · rw [tag_other h] at ht
      exact absurd ht (by decide)
  have hkd : kd zs = 102 := by rw [← tag_own ho]; exact ht
  obtain rfl : n = 5 := by
    rcases kd_cases zs hl with ⟨h, _, g⟩ | ⟨h, _, g⟩ | ⟨h, _, g⟩ | ⟨h, _, g⟩ | ⟨h, _, g⟩ | g <;> rw [hkd] at g <;> first | exact h | exact absurd g (by decide)
  have HK : Hid (kind 5 (zs.getD 0 0) = 102) := Lib.hid ((kd_of hl).trans hkd)
  rw [own_Status hkd] at ho
  have HRW := Lib.hid hr
  clear ht hkd hb hx hz hr hl
  skip
  obtain ⟨b, o, rfl, hbb, hc⟩ := cells_of HRW.out (by decide)
  have hne : ¬ b = w.heap.size + 1 := by omega
  have hne2 : ¬ w.heap.size + 1 = b := by omega
  have HCE := Lib.hid hc
  have HBb := Lib.hid hbb
  clear hc hbb
  obtain ⟨z1, hz1⟩ : ∃ z, zs.getD 1 0 = z := ⟨_, rfl⟩
  rw [hz1]
  have HZ_1 := Lib.hid hz1
  clear hz1
  obtain ⟨z2, hz2⟩ : ∃ z, zs.getD 2 0 = z := ⟨_, rfl⟩
  rw [hz2]
  have HZ_2 := Lib.hid hz2
  clear hz2
  obtain ⟨z3, hz3⟩ : ∃ z, zs.getD 3 0 = z := ⟨_, rfl⟩
  rw [hz3]
  have HZ_3 := Lib.hid hz3
  clear hz3
  obtain ⟨z4, hz4⟩ : ∃ z, zs.getD 4 0 = z := ⟨_, rfl⟩
  rw [hz4]
  have HZ_4 := Lib.hid hz4
  clear hz4
  have HCO := Lib.hid (HCE.out 4 (by decide))
  rw [ho] at HCO
  have e1 : (k != k) = false := by simp
  have e2 : (k == k) = true := by simp
  clear ho
  go_enter Try.func36, Try.ntmps36
  go_wp2_with fail
  generalize ((w.alloc (.cells #[.int .i64 k, .slice (some ⟨b, o, none⟩) 5 c, .int .i64 m] 75)).alloc (.cells #[.int .i64 0, .int .i64 0, .int .i64 0, .int .i64 0, .int .i64 0] 80)) = V at HBV HX HZ HR ⊢
  have HC : Hid (∀ w', Qt.Keeps (V) w' → w'.cell? ⟨w.heap.size, 0, none⟩ = some (.int .i64 k) ∧ w'.cell? ⟨w.heap.size, 1, none⟩ = some (.slice (some ⟨b, o, none⟩) 5 c) ∧ w'.cell? ⟨w.heap.size, 2, none⟩ = some (.int .i64 m) ∧ w'.cell? ⟨b, o + 4, none⟩ = some (.int .i64 k)) := Lib.hid fun w' hw => let h := DpPiece.bxc (HX.out.below hw); ⟨h.1, h.2.1, h.2.2, ((below_on HBV.out hw).cell (p := ⟨b, o + 4, none⟩) HBb.out).trans HCO.out⟩
  refine Qt.region (Qt.Keeps (V)) (by kernel_rfl) (by kernel_rfl) (Qt.Keeps.drew _) ?_
  repeat (first
    | go_big_quiet_skip
    | (go_big_quiet_want
       refine Qt.val (v := ?_) (fun w hw => ?_) ?_
       rotate_left
       · obtain ⟨v0, v1, v2, c0⟩ := HC.out w hw
         go_simp
         rfl
       simp only [Act.put, List.setIfInBounds_toArray, List.set_cons_zero, List.set_cons_succ]
       go_big_quiet_on)
    | (go_big_quiet_want
       refine Qt.call (v := .int .i64 102) (f := 55) (args := #[.agg #[.int .i64 k, .slice (some ⟨b, o, none⟩) 5 c, .int .i64 m]]) (fun w hw => ?_) (fun w hw => ?_) ?_
       · go_simp
       · refine (Kq.spec_kind_any k _ _ _ m zs _ (HR.out.below hw).ints).mono ?_
         rintro e w1 ⟨rfl, hb1⟩
         rw [HK.out]
         exact ⟨rfl, hw.then hb1⟩
       simp only [Act.put, List.setIfInBounds_toArray, List.set_cons_zero, List.set_cons_succ]
       go_big_quiet_on))
  refine wpQuiet_nil ?_
  intro w2 hw2
  have HB2 := Lib.hid (below_on HBV.out hw2)
  have HX2 := Lib.hid (HX.out.below hw2)
  have HZ2 := Lib.hid (HZ.out.below hw2)
  have HV2 := Lib.hid hw2
  clear hw2
  have c1 := (HB2.out.cell (p := ⟨b, o + 1, none⟩) HBb.out).trans (HCE.out 1 (by decide))
  have c2 := (HB2.out.cell (p := ⟨b, o + 2, none⟩) HBb.out).trans (HCE.out 2 (by decide))
  have c3 := (HB2.out.cell (p := ⟨b, o + 3, none⟩) HBb.out).trans (HCE.out 3 (by decide))
  have c4 := (HB2.out.cell (p := ⟨b, o + 4, none⟩) HBb.out).trans (HCE.out 4 (by decide))
  rw [HZ_1.out] at c1
  rw [HZ_2.out] at c2
  rw [HZ_3.out] at c3
  rw [HZ_4.out] at c4
  clear HK HCE HCO
  obtain ⟨v0, v1, v2⟩ := DpPiece.bxc HX2.out
  obtain ⟨q0, q1, q2, q3, q4⟩ : w2.cell? ⟨w.heap.size + 1, 0, none⟩ = some (.int .i64 0) ∧ w2.cell? ⟨w.heap.size + 1, 1, none⟩ = some (.int .i64 0) ∧ w2.cell? ⟨w.heap.size + 1, 2, none⟩ = some (.int .i64 0) ∧ w2.cell? ⟨w.heap.size + 1, 3, none⟩ = some (.int .i64 0) ∧ w2.cell? ⟨w.heap.size + 1, 4, none⟩ = some (.int .i64 0) := ⟨HZ2.out.cell rfl, HZ2.out.cell rfl, HZ2.out.cell rfl, HZ2.out.cell rfl, HZ2.out.cell rfl⟩
  have f0 := HZ2.out.free 0
  have f1 := HZ2.out.free 1
  have f2 := HZ2.out.free 2
  have f3 := HZ2.out.free 3
  have f4 := HZ2.out.free 4
  go_wp2_with fail
  go_region_held3 (fun w' => w'.cell? ⟨w.heap.size, 1, none⟩ = some (.slice (some ⟨b, o, none⟩) 5 c) ∧ w'.cell? ⟨w.heap.size, 2, none⟩ = some (.int .i64 m) ∧ w'.cell? ⟨b, o + 1, none⟩ = some (.int .i64 z1) ∧ w'.cell? ⟨b, o + 2, none⟩ = some (.int .i64 z2) ∧ w'.cell? ⟨b, o + 3, none⟩ = some (.int .i64 z3) ∧ w'.cell? ⟨b, o + 4, none⟩ = some (.int .i64 z4)) (first | go_keep) (fail)
  all_goals
    have HBC := HB2
    go_wp2_with fail
    exact bodyPost_ret (v := .tuple #[.agg #[.int .i64 z1, .int .i64 z2, .int .i64 z3, .int .i64 z4, .int .i64 m], .bool true]) (by simp [results, Try.results36, go_sem, q0, q1, q2, q3, q4]) rfl ⟨rfl, by first | with_reducible exact drewB (((((HBC.out.setCell (p := ⟨w.heap.size + 1, 0, none⟩) (by simp) (.int .i64 z1)).setCell (p := ⟨w.heap.size + 1, 1, none⟩) (by simp) (.int .i64 z2)).setCell (p := ⟨w.heap.size + 1, 2, none⟩) (by simp) (.int .i64 z3)).setCell (p := ⟨w.heap.size + 1, 3, none⟩) (by simp) (.int .i64 z4)).setCell (p := ⟨w.heap.size + 1, 4, none⟩) (by simp) (.int .i64 m)) | with_reducible exact HBC.out | exact drewB (((((HBC.out.setCell (p := ⟨w.heap.size + 1, 0, none⟩) (by simp) (.int .i64 z1)).setCell (p := ⟨w.heap.size + 1, 1, none⟩) (by simp) (.int .i64 z2)).setCell (p := ⟨w.heap.size + 1, 2, none⟩) (by simp) (.int .i64 z3)).setCell (p := ⟨w.heap.size + 1, 3, none⟩) (by simp) (.int .i64 z4)).setCell (p := ⟨w.heap.size + 1, 4, none⟩) (by simp) (.int .i64 m))⟩
set_option maxRecDepth 100000 in
set_option maxHeartbeats 4000000 in
theorem spec_no (k : Int) (p : Option Addr) (n c : Nat) (m : Int) (zs : List Int) (w : World) (hr : Rd .i64 w p n zs) (ht : ¬ tag k zs = 102) : Calls Try.prog 36 #[.agg #[.int .i64 k, .slice p n c, .int .i64 m]] w (Val (.tuple #[.agg #[.int .i64 0, .int .i64 0, .int .i64 0, .int .i64 0, .int .i64 0], .bool false]) w) := by
  have hl := hr.len
  have hb : Below w.heap.size w ((w.alloc (.cells #[.int .i64 k, .slice p n c, .int .i64 m] 75)).alloc (.cells #[.int .i64 0, .int .i64 0, .int .i64 0, .int .i64 0, .int .i64 0] 80)) := (box1 w _).alloc (by simp) _
  have hx := (Bx.new w 75 #[.int .i64 k, .slice p n c, .int .i64 m]).alloc (.cells #[.int .i64 0, .int .i64 0, .int .i64 0, .int .i64 0, .int .i64 0] 80)
  have hz := Bx.new (w.alloc (.cells #[.int .i64 k, .slice p n c, .int .i64 m] 75)) 80 #[.int .i64 0, .int .i64 0, .int .i64 0, .int .i64 0, .int .i64 0]
  rw [World.size_alloc] at hz
  have HBV := Lib.hid hb
  have HX := Lib.hid hx
  have HZ := Lib.hid hz
  have HR := Lib.hid ((RdD.ofInts (S := fun _ => True) hr (fun _ _ _ _ => trivial)).below hb)
  have HRW := Lib.hid hr
  clear hb hx hz hr
  by_cases hkd : kd zs = 102
  rotate_left
  · obtain ⟨κ, hκ⟩ : ∃ z, kind n (zs.getD 0 0) = z := ⟨_, rfl⟩
    have hne : ¬ κ = 102 := by rw [← hκ, kd_of hl]; exact hkd
    have HK := Lib.hid hκ
    have e1 : (κ != 102) = true := bne_iff_ne.2 hne
    have e2 : (κ == 102) = false := beq_eq_false_iff_ne.2 hne
    clear hκ hne hkd hl ht
    go_enter Try.func36, Try.ntmps36
    go_wp2_with fail
    generalize ((w.alloc (.cells #[.int .i64 k, .slice p n c, .int .i64 m] 75)).alloc (.cells #[.int .i64 0, .int .i64 0, .int .i64 0, .int .i64 0, .int .i64 0] 80)) = V at HBV HX HZ HR ⊢
    have HC : Hid (∀ w', Qt.Keeps (V) w' → w'.cell? ⟨w.heap.size, 0, none⟩ = some (.int .i64 k) ∧ w'.cell? ⟨w.heap.size, 1, none⟩ = some (.slice p n c) ∧ w'.cell? ⟨w.heap.size, 2, none⟩ = some (.int .i64 m)) := Lib.hid fun w' hw => DpPiece.bxc (HX.out.below hw)
    refine Qt.region (Qt.Keeps (V)) (by kernel_rfl) (by kernel_rfl) (Qt.Keeps.drew _) ?_
    repeat (first
      | go_big_quiet_skip
      | (go_big_quiet_want
         refine Qt.val (v := ?_) (fun w hw => ?_) ?_
         rotate_left
         · obtain ⟨v0, v1, v2⟩ := HC.out w hw
           go_simp
           rfl
         simp only [Act.put, List.setIfInBounds_toArray, List.set_cons_zero, List.set_cons_succ]
         go_big_quiet_on)
      | (go_big_quiet_want
         refine Qt.call (v := .int .i64 κ) (f := 55) (args := #[.agg #[.int .i64 k, .slice p n c, .int .i64 m]]) (fun w hw => ?_) (fun w hw => ?_) ?_
         · go_simp
         · refine (Kq.spec_kind_any k _ _ _ m zs _ (HR.out.below hw).ints).mono ?_
           rintro e w1 ⟨rfl, hb1⟩
           rw [HK.out]
           exact ⟨rfl, hw.then hb1⟩
         simp only [Act.put, List.setIfInBounds_toArray, List.set_cons_zero, List.set_cons_succ]
         go_big_quiet_on))
    refine wpQuiet_nil ?_
    intro w2 hw2
    have HB2 := Lib.hid (below_on HBV.out hw2)
    have HX2 := Lib.hid (HX.out.below hw2)
    have HZ2 := Lib.hid (HZ.out.below hw2)
    have HV2 := Lib.hid hw2
    clear hw2
    obtain ⟨q0, q1, q2, q3, q4⟩ : w2.cell? ⟨w.heap.size + 1, 0, none⟩ = some (.int .i64 0) ∧ w2.cell? ⟨w.heap.size + 1, 1, none⟩ = some (.int .i64 0) ∧ w2.cell? ⟨w.heap.size + 1, 2, none⟩ = some (.int .i64 0) ∧ w2.cell? ⟨w.heap.size + 1, 3, none⟩ = some (.int .i64 0) ∧ w2.cell? ⟨w.heap.size + 1, 4, none⟩ = some (.int .i64 0) := ⟨HZ2.out.cell rfl, HZ2.out.cell rfl, HZ2.out.cell rfl, HZ2.out.cell rfl, HZ2.out.cell rfl⟩
    have f0 := HZ2.out.free 0
    have f1 := HZ2.out.free 1
    have f2 := HZ2.out.free 2
    have f3 := HZ2.out.free 3
    have f4 := HZ2.out.free 4
    have HBC := HB2
    go_wp2_with fail
    exact bodyPost_ret (v := .tuple #[.agg #[.int .i64 0, .int .i64 0, .int .i64 0, .int .i64 0, .int .i64 0], .bool false]) (by simp [results, Try.results36, go_sem, q0, q1, q2, q3, q4]) rfl ⟨rfl, by first | with_reducible exact (((((HBC.out.setCell (p := ⟨w.heap.size + 1, 0, none⟩) (by simp) (.int .i64 0)).setCell (p := ⟨w.heap.size + 1, 1, none⟩) (by simp) (.int .i64 0)).setCell (p := ⟨w.heap.size + 1, 2, none⟩) (by simp) (.int .i64 0)).setCell (p := ⟨w.heap.size + 1, 3, none⟩) (by simp) (.int .i64 0)).setCell (p := ⟨w.heap.size + 1, 4, none⟩) (by simp) (.int .i64 0)) | with_reducible exact HBC.out | exact (((((HBC.out.setCell (p := ⟨w.heap.size + 1, 0, none⟩) (by simp) (.int .i64 0)).setCell (p := ⟨w.heap.size + 1, 1, none⟩) (by simp) (.int .i64 0)).setCell (p := ⟨w.heap.size + 1, 2, none⟩) (by simp) (.int .i64 0)).setCell (p := ⟨w.heap.size + 1, 3, none⟩) (by simp) (.int .i64 0)).setCell (p := ⟨w.heap.size + 1, 4, none⟩) (by simp) (.int .i64 0))⟩
  · have ho : ¬ zs.getD 4 0 = k := fun h => ht (by rw [tag_own (by rw [own_Status hkd]; exact h), hkd])
    obtain rfl : n = 5 := by
      rcases kd_cases zs hl with ⟨h, _, g⟩ | ⟨h, _, g⟩ | ⟨h, _, g⟩ | ⟨h, _, g⟩ | ⟨h, _, g⟩ | g <;> rw [hkd] at g <;> first | exact h | exact absurd g (by decide)
    have HK : Hid (kind 5 (zs.getD 0 0) = 102) := Lib.hid ((kd_of hl).trans hkd)
    clear ht hkd hl
    obtain ⟨b, o, rfl, hbb, hc⟩ := cells_of HRW.out (by decide)
    have hne : ¬ b = w.heap.size + 1 := by omega
    have hne2 : ¬ w.heap.size + 1 = b := by omega
    have HCE := Lib.hid hc
    have HBb := Lib.hid hbb
    clear hc hbb
    have HCO := Lib.hid (HCE.out 4 (by decide))
    generalize zs.getD 4 0 = zo at HCO ho
    have e1 : (zo != k) = true := bne_iff_ne.2 ho
    have e2 : (zo == k) = false := beq_eq_false_iff_ne.2 ho
    clear ho
    go_enter Try.func36, Try.ntmps36
    go_wp2_with fail
    generalize ((w.alloc (.cells #[.int .i64 k, .slice (some ⟨b, o, none⟩) 5 c, .int .i64 m] 75)).alloc (.cells #[.int .i64 0, .int .i64 0, .int .i64 0, .int .i64 0, .int .i64 0] 80)) = V at HBV HX HZ HR HCE HBb HCO ⊢
    have HC : Hid (∀ w', Qt.Keeps (V) w' → w'.cell? ⟨w.heap.size, 0, none⟩ = some (.int .i64 k) ∧ w'.cell? ⟨w.heap.size, 1, none⟩ = some (.slice (some ⟨b, o, none⟩) 5 c) ∧ w'.cell? ⟨w.heap.size, 2, none⟩ = some (.int .i64 m) ∧ w'.cell? ⟨b, o + 4, none⟩ = some (.int .i64 zo)) := Lib.hid fun w' hw => let h := DpPiece.bxc (HX.out.below hw); ⟨h.1, h.2.1, h.2.2, ((below_on HBV.out hw).cell (p := ⟨b, o + 4, none⟩) HBb.out).trans HCO.out⟩
    refine Qt.region (Qt.Keeps (V)) (by kernel_rfl) (by kernel_rfl) (Qt.Keeps.drew _) ?_
    repeat (first
      | go_big_quiet_skip
      | (go_big_quiet_want
         refine Qt.val (v := ?_) (fun w hw => ?_) ?_
         rotate_left
         · obtain ⟨v0, v1, v2, c0⟩ := HC.out w hw
           go_simp
           rfl
         simp only [Act.put, List.setIfInBounds_toArray, List.set_cons_zero, List.set_cons_succ]
         go_big_quiet_on)
      | (go_big_quiet_want
         refine Qt.call (v := .int .i64 102) (f := 55) (args := #[.agg #[.int .i64 k, .slice (some ⟨b, o, none⟩) 5 c, .int .i64 m]]) (fun w hw => ?_) (fun w hw => ?_) ?_
         · go_simp
         · refine (Kq.spec_kind_any k _ _ _ m zs _ (HR.out.below hw).ints).mono ?_
           rintro e w1 ⟨rfl, hb1⟩
           rw [HK.out]
           exact ⟨rfl, hw.then hb1⟩
         simp only [Act.put, List.setIfInBounds_toArray, List.set_cons_zero, List.set_cons_succ]
         go_big_quiet_on))
    refine wpQuiet_nil ?_
    intro w2 hw2
    have HB2 := Lib.hid (below_on HBV.out hw2)
    have HX2 := Lib.hid (HX.out.below hw2)
    have HZ2 := Lib.hid (HZ.out.below hw2)
    have HV2 := Lib.hid hw2
    clear hw2
    obtain ⟨q0, q1, q2, q3, q4⟩ : w2.cell? ⟨w.heap.size + 1, 0, none⟩ = some (.int .i64 0) ∧ w2.cell? ⟨w.heap.size + 1, 1, none⟩ = some (.int .i64 0) ∧ w2.cell? ⟨w.heap.size + 1, 2, none⟩ = some (.int .i64 0) ∧ w2.cell? ⟨w.heap.size + 1, 3, none⟩ = some (.int .i64 0) ∧ w2.cell? ⟨w.heap.size + 1, 4, none⟩ = some (.int .i64 0) := ⟨HZ2.out.cell rfl, HZ2.out.cell rfl, HZ2.out.cell rfl, HZ2.out.cell rfl, HZ2.out.cell rfl⟩
    have f0 := HZ2.out.free 0
    have f1 := HZ2.out.free 1
    have f2 := HZ2.out.free 2
    have f3 := HZ2.out.free 3
    have f4 := HZ2.out.free 4
    have HBC := HB2
    go_wp2_with fail
    exact bodyPost_ret (v := .tuple #[.agg #[.int .i64 0, .int .i64 0, .int .i64 0, .int .i64 0, .int .i64 0], .bool false]) (by simp [results, Try.results36, go_sem, q0, q1, q2, q3, q4]) rfl ⟨rfl, by first | with_reducible exact (((((HBC.out.setCell (p := ⟨w.heap.size + 1, 0, none⟩) (by simp) (.int .i64 0)).setCell (p := ⟨w.heap.size + 1, 1, none⟩) (by simp) (.int .i64 0)).setCell (p := ⟨w.heap.size + 1, 2, none⟩) (by simp) (.int .i64 0)).setCell (p := ⟨w.heap.size + 1, 3, none⟩) (by simp) (.int .i64 0)).setCell (p := ⟨w.heap.size + 1, 4, none⟩) (by simp) (.int .i64 0)) | with_reducible exact HBC.out | exact (((((HBC.out.setCell (p := ⟨w.heap.size + 1, 0, none⟩) (by simp) (.int .i64 0)).setCell (p := ⟨w.heap.size + 1, 1, none⟩) (by simp) (.int .i64 0)).setCell (p := ⟨w.heap.size + 1, 2, none⟩) (by simp) (.int .i64 0)).setCell (p := ⟨w.heap.size + 1, 3, none⟩) (by simp) (.int .i64 0)).setCell (p := ⟨w.heap.size + 1, 4, none⟩) (by simp) (.int .i64 0))⟩
end Go.Proofs.Ytpjckbdljbpliaa.PwStatus
namespace Go.Proofs.Ytpjckbdljbpliaa.PoStatus
open Go.ChangeShapes Go.WideShapes Go.ChangeAt Go.RowKit Sl St Ed Dz Kd Pr0 PrStatus
def out (k : Int) (zs : List Int) (m : Int) : (Int × Int × Int × Int × Int) × Bool := if tag k zs = 102 then (((zs.getD 1 0), (zs.getD 2 0), (zs.getD 3 0), (zs.getD 4 0), m), true) else ((0, 0, 0, 0, 0), false)
theorem spec_any (k : Int) (p : Option Addr) (n c : Nat) (m : Int) (zs : List Int) (y0 y1 y2 y3 y4 : Int) (b : Bool) (h : out k zs m = ((y0, y1, y2, y3, y4), b)) (w : World) (hr : Rd .i64 w p n zs) : Calls Try.prog 36 #[.agg #[.int .i64 k, .slice p n c, .int .i64 m]] w (Val (.tuple #[.agg #[.int .i64 y0, .int .i64 y1, .int .i64 y2, .int .i64 y3, .int .i64 y4], .bool b]) w) := by
  unfold out at h
  by_cases ht : tag k zs = 102
  · rw [if_pos ht] at h
    simp only [Prod.mk.injEq] at h
    obtain ⟨⟨rfl, rfl, rfl, rfl, rfl⟩, rfl⟩ := h
    exact PwStatus.spec_yes k p n c m zs w hr ht
  · rw [if_neg ht] at h
    simp only [Prod.mk.injEq] at h
    obtain ⟨⟨rfl, rfl, rfl, rfl, rfl⟩, rfl⟩ := h
    exact PwStatus.spec_no k p n c m zs w hr ht
end Go.Proofs.Ytpjckbdljbpliaa.PoStatus
