/- What a piece was made from: Status; in the program and in the reference. -/
import Derived.Test.YtgmoldianhkifaaPr0
import Derived.Test.YtgmoldianhkifaaDpPiece
import Derived.Test.YtgmoldianhkifaaKp
import Derived.Test.YtgmoldianhkifaaPmCert
import Derived.Test.YtgmoldianhkifaaPmStatus
import Derived.Test.YtgmoldianhkifaaPmStamp
import Derived.Test.YtgmoldianhkifaaPmSignature
import Derived.Test.YtgmoldianhkifaaPmMandate
import Derived.Test.YtgmoldianhkifaaQt
import Derived.Deep.QuietTactic
import Derived.BigQuiet
import Derived.Deep.RegionHeld3
import Derived.RegionTactic
import Derived.Outline
import Derived.Test.YtgmoldianhkifaaPr1
import Derived.Test.YtgmoldianhkifaaPrs
import Derived.Test.YtgmoldianhkifaaKq
namespace Go.Proofs.Ytgmoldianhkifaa.PrStatus
open Go.ChangeShapes Go.WideShapes Go.ChangeAt Go.RowKit Sl St Ed Dz Kd Pr0
set_option maxRecDepth 100000 in
set_option maxHeartbeats 4000000 in
theorem stated_yes (k : Int) (p : Option Addr) (n c : Nat) (m : Int) (zs : List Int) (hm : InI m) (w : World) (hr : Rd .i64 w p n zs) (ht : tag k zs = 102) : Calls Try.prog 60 #[.agg #[.int .i64 k, .slice p n c, .int .i64 m]] w (Val (.tuple #[.agg #[.int .i64 (zs.getD 1 0), .int .i64 (zs.getD 2 0), .int .i64 (zs.getD 3 0), .int .i64 (zs.getD 4 0), .int .i64 m], .bool true]) w) := by
  have hb : Below w.heap.size w ((w.alloc (.cells #[.int .i64 k, .slice p n c, .int .i64 m] 31)).alloc (.cells #[.int .i64 0, .int .i64 0, .int .i64 0, .int .i64 0, .int .i64 0] 43)) := (box1 w _).alloc (by simp) _
  have hx := (Bx.new w 31 #[.int .i64 k, .slice p n c, .int .i64 m]).alloc (.cells #[.int .i64 0, .int .i64 0, .int .i64 0, .int .i64 0, .int .i64 0] 43)
  have hz := Bx.new (w.alloc (.cells #[.int .i64 k, .slice p n c, .int .i64 m] 31)) 43 #[.int .i64 0, .int .i64 0, .int .i64 0, .int .i64 0, .int .i64 0]
  rw [World.size_alloc] at hz
  have HBV := Lib.hid hb
  have HX := Lib.hid hx
  have HZ := Lib.hid hz
  have HMI : Hid (InI m) := Lib.hid hm
  have HR := Lib.hid ((RdD.ofInts (S := fun _ => True) hr (fun _ _ _ _ => trivial)).below hb)
  clear hb hx hz hr hm
  obtain ⟨v0, v1, v2⟩ := DpPiece.bxc HX.out
  have HS : Hid (soV k zs m = .iface 43 (.agg #[.int .i64 (zs.getD 1 0), .int .i64 (zs.getD 2 0), .int .i64 (zs.getD 3 0), .int .i64 (zs.getD 4 0), .int .i64 m])) := Lib.hid (by rcases tag_cases k zs m with ⟨h, hs⟩ | ⟨h, hs⟩ | ⟨h, hs⟩ | ⟨h, hs⟩ | ⟨h, hs⟩ | ⟨h, hs⟩ <;> first | exact hs | (rw [ht] at h; exact absurd h (by decide)))
  clear ht
  generalize zs.getD 1 0 = z1 at HS ⊢
  generalize zs.getD 2 0 = z2 at HS ⊢
  generalize zs.getD 3 0 = z3 at HS ⊢
  generalize zs.getD 4 0 = z4 at HS ⊢
  go_enter Try.func60, Try.ntmps60
  go_wp2_with fail
  generalize ((w.alloc (.cells #[.int .i64 k, .slice p n c, .int .i64 m] 31)).alloc (.cells #[.int .i64 0, .int .i64 0, .int .i64 0, .int .i64 0, .int .i64 0] 43)) = V at HBV HX HZ HR ⊢
  refine (Prs.stmt_any k _ _ _ m zs HMI.out V HR.out.ints).mono ?_
  rintro e w2 ⟨rfl, hb⟩
  rw [HS.out]
  have HB2 := Lib.hid (below_on HBV.out hb)
  have HZ2 := Lib.hid (HZ.out.below hb)
  clear hb v0 v1 v2
  have ha := as_Status_Status (.agg #[.int .i64 z1, .int .i64 z2, .int .i64 z3, .int .i64 z4, .int .i64 m]) 
  have HZ3 := Lib.hid (HZ2.out.alloc (.cells #[.int .i64 z1, .int .i64 z2, .int .i64 z3, .int .i64 z4, .int .i64 m] 43))
  have HB3 := Lib.hid (HB2.out.alloc HB2.out.size (.cells #[.int .i64 z1, .int .i64 z2, .int .i64 z3, .int .i64 z4, .int .i64 m] 43))
  obtain ⟨q0, q1, q2, q3, q4⟩ : (w2.alloc (.cells #[.int .i64 z1, .int .i64 z2, .int .i64 z3, .int .i64 z4, .int .i64 m] 43)).cell? ⟨w.heap.size + 1, 0, none⟩ = some (.int .i64 0) ∧ (w2.alloc (.cells #[.int .i64 z1, .int .i64 z2, .int .i64 z3, .int .i64 z4, .int .i64 m] 43)).cell? ⟨w.heap.size + 1, 1, none⟩ = some (.int .i64 0) ∧ (w2.alloc (.cells #[.int .i64 z1, .int .i64 z2, .int .i64 z3, .int .i64 z4, .int .i64 m] 43)).cell? ⟨w.heap.size + 1, 2, none⟩ = some (.int .i64 0) ∧ (w2.alloc (.cells #[.int .i64 z1, .int .i64 z2, .int .i64 z3, .int .i64 z4, .int .i64 m] 43)).cell? ⟨w.heap.size + 1, 3, none⟩ = some (.int .i64 0) ∧ (w2.alloc (.cells #[.int .i64 z1, .int .i64 z2, .int .i64 z3, .int .i64 z4, .int .i64 m] 43)).cell? ⟨w.heap.size + 1, 4, none⟩ = some (.int .i64 0) := ⟨HZ3.out.cell rfl, HZ3.out.cell rfl, HZ3.out.cell rfl, HZ3.out.cell rfl, HZ3.out.cell rfl⟩
  have f0 := HZ3.out.free 0
  have f1 := HZ3.out.free 1
  have f2 := HZ3.out.free 2
  have f3 := HZ3.out.free 3
  have f4 := HZ3.out.free 4
  go_wp2_with fail
  exact bodyPost_ret (v := .tuple #[.agg #[.int .i64 z1, .int .i64 z2, .int .i64 z3, .int .i64 z4, .int .i64 m], .bool true]) (by simp [results, Try.results60, go_sem, q0, q1, q2, q3, q4]) rfl ⟨rfl, (((((HB3.out.setCell (p := ⟨w.heap.size + 1, 0, none⟩) (by simp) (.int .i64 z1)).setCell (p := ⟨w.heap.size + 1, 1, none⟩) (by simp) (.int .i64 z2)).setCell (p := ⟨w.heap.size + 1, 2, none⟩) (by simp) (.int .i64 z3)).setCell (p := ⟨w.heap.size + 1, 3, none⟩) (by simp) (.int .i64 z4)).setCell (p := ⟨w.heap.size + 1, 4, none⟩) (by simp) (.int .i64 m))⟩
set_option maxRecDepth 100000 in
set_option maxHeartbeats 4000000 in
theorem stated_no (k : Int) (p : Option Addr) (n c : Nat) (m : Int) (zs : List Int) (hm : InI m) (w : World) (hr : Rd .i64 w p n zs) (ht : ¬ tag k zs = 102) : Calls Try.prog 60 #[.agg #[.int .i64 k, .slice p n c, .int .i64 m]] w (Val (.tuple #[.agg #[.int .i64 0, .int .i64 0, .int .i64 0, .int .i64 0, .int .i64 0], .bool false]) w) := by
  have hb : Below w.heap.size w ((w.alloc (.cells #[.int .i64 k, .slice p n c, .int .i64 m] 31)).alloc (.cells #[.int .i64 0, .int .i64 0, .int .i64 0, .int .i64 0, .int .i64 0] 43)) := (box1 w _).alloc (by simp) _
  have hx := (Bx.new w 31 #[.int .i64 k, .slice p n c, .int .i64 m]).alloc (.cells #[.int .i64 0, .int .i64 0, .int .i64 0, .int .i64 0, .int .i64 0] 43)
  have hz := Bx.new (w.alloc (.cells #[.int .i64 k, .slice p n c, .int .i64 m] 31)) 43 #[.int .i64 0, .int .i64 0, .int .i64 0, .int .i64 0, .int .i64 0]
  rw [World.size_alloc] at hz
  have HBV := Lib.hid hb
  have HX := Lib.hid hx
  have HZ := Lib.hid hz
  have HMI : Hid (InI m) := Lib.hid hm
  have HR := Lib.hid ((RdD.ofInts (S := fun _ => True) hr (fun _ _ _ _ => trivial)).below hb)
  clear hb hx hz hr hm
  obtain ⟨v0, v1, v2⟩ := DpPiece.bxc HX.out
  rcases tag_cases k zs m with ⟨-, hs⟩ | ⟨-, hs⟩ | ⟨h, hs⟩ | ⟨-, hs⟩ | ⟨-, hs⟩ | ⟨-, hs⟩
  · have HS := Lib.hid hs
    clear hs ht
    go_enter Try.func60, Try.ntmps60
    go_wp2_with fail
    generalize ((w.alloc (.cells #[.int .i64 k, .slice p n c, .int .i64 m] 31)).alloc (.cells #[.int .i64 0, .int .i64 0, .int .i64 0, .int .i64 0, .int .i64 0] 43)) = V at HBV HX HZ HR ⊢
    refine (Prs.stmt_any k _ _ _ m zs HMI.out V HR.out.ints).mono ?_
    rintro e w2 ⟨rfl, hb⟩
    rw [HS.out]
    have HB2 := Lib.hid (below_on HBV.out hb)
    have HZ2 := Lib.hid (HZ.out.below hb)
    clear hb v0 v1 v2
    have ha := as_Status_nil
    have HZ3 := Lib.hid (HZ2.out.alloc (.cells #[.int .i64 0, .int .i64 0, .int .i64 0, .int .i64 0, .int .i64 0] 43))
    have HB3 := Lib.hid (HB2.out.alloc HB2.out.size (.cells #[.int .i64 0, .int .i64 0, .int .i64 0, .int .i64 0, .int .i64 0] 43))
    obtain ⟨q0, q1, q2, q3, q4⟩ : (w2.alloc (.cells #[.int .i64 0, .int .i64 0, .int .i64 0, .int .i64 0, .int .i64 0] 43)).cell? ⟨w.heap.size + 1, 0, none⟩ = some (.int .i64 0) ∧ (w2.alloc (.cells #[.int .i64 0, .int .i64 0, .int .i64 0, .int .i64 0, .int .i64 0] 43)).cell? ⟨w.heap.size + 1, 1, none⟩ = some (.int .i64 0) ∧ (w2.alloc (.cells #[.int .i64 0, .int .i64 0, .int .i64 0, .int .i64 0, .int .i64 0] 43)).cell? ⟨w.heap.size + 1, 2, none⟩ = some (.int .i64 0) ∧ (w2.alloc (.cells #[.int .i64 0, .int .i64 0, .int .i64 0, .int .i64 0, .int .i64 0] 43)).cell? ⟨w.heap.size + 1, 3, none⟩ = some (.int .i64 0) ∧ (w2.alloc (.cells #[.int .i64 0, .int .i64 0, .int .i64 0, .int .i64 0, .int .i64 0] 43)).cell? ⟨w.heap.size + 1, 4, none⟩ = some (.int .i64 0) := ⟨HZ3.out.cell rfl, HZ3.out.cell rfl, HZ3.out.cell rfl, HZ3.out.cell rfl, HZ3.out.cell rfl⟩
    have f0 := HZ3.out.free 0
    have f1 := HZ3.out.free 1
    have f2 := HZ3.out.free 2
    have f3 := HZ3.out.free 3
    have f4 := HZ3.out.free 4
    go_wp2_with fail
    exact bodyPost_ret (v := .tuple #[.agg #[.int .i64 0, .int .i64 0, .int .i64 0, .int .i64 0, .int .i64 0], .bool false]) (by simp [results, Try.results60, go_sem, q0, q1, q2, q3, q4]) rfl ⟨rfl, (((((HB3.out.setCell (p := ⟨w.heap.size + 1, 0, none⟩) (by simp) (.int .i64 0)).setCell (p := ⟨w.heap.size + 1, 1, none⟩) (by simp) (.int .i64 0)).setCell (p := ⟨w.heap.size + 1, 2, none⟩) (by simp) (.int .i64 0)).setCell (p := ⟨w.heap.size + 1, 3, none⟩) (by simp) (.int .i64 0)).setCell (p := ⟨w.heap.size + 1, 4, none⟩) (by simp) (.int .i64 0))⟩
  · have HS := Lib.hid hs
    clear hs ht
    generalize zs.getD 1 0 = z1 at HS
    generalize zs.getD 2 0 = z2 at HS
    generalize zs.getD 3 0 = z3 at HS
    generalize zs.getD 4 0 = z4 at HS
    generalize zs.getD 5 0 = z5 at HS
    generalize zs.getD 6 0 = z6 at HS
    go_enter Try.func60, Try.ntmps60
    go_wp2_with fail
    generalize ((w.alloc (.cells #[.int .i64 k, .slice p n c, .int .i64 m] 31)).alloc (.cells #[.int .i64 0, .int .i64 0, .int .i64 0, .int .i64 0, .int .i64 0] 43)) = V at HBV HX HZ HR ⊢
    refine (Prs.stmt_any k _ _ _ m zs HMI.out V HR.out.ints).mono ?_
    rintro e w2 ⟨rfl, hb⟩
    rw [HS.out]
    have HB2 := Lib.hid (below_on HBV.out hb)
    have HZ2 := Lib.hid (HZ.out.below hb)
    clear hb v0 v1 v2
    have ha := as_Status_Cert (.agg #[.int .i64 z1, .int .i64 z2, .int .i64 z3, .int .i64 z4, .int .i64 z5, .int .i64 z6, .int .i64 m])
    have HZ3 := Lib.hid (HZ2.out.alloc (.cells #[.int .i64 0, .int .i64 0, .int .i64 0, .int .i64 0, .int .i64 0] 43))
    have HB3 := Lib.hid (HB2.out.alloc HB2.out.size (.cells #[.int .i64 0, .int .i64 0, .int .i64 0, .int .i64 0, .int .i64 0] 43))
    obtain ⟨q0, q1, q2, q3, q4⟩ : (w2.alloc (.cells #[.int .i64 0, .int .i64 0, .int .i64 0, .int .i64 0, .int .i64 0] 43)).cell? ⟨w.heap.size + 1, 0, none⟩ = some (.int .i64 0) ∧ (w2.alloc (.cells #[.int .i64 0, .int .i64 0, .int .i64 0, .int .i64 0, .int .i64 0] 43)).cell? ⟨w.heap.size + 1, 1, none⟩ = some (.int .i64 0) ∧ (w2.alloc (.cells #[.int .i64 0, .int .i64 0, .int .i64 0, .int .i64 0, .int .i64 0] 43)).cell? ⟨w.heap.size + 1, 2, none⟩ = some (.int .i64 0) ∧ (w2.alloc (.cells #[.int .i64 0, .int .i64 0, .int .i64 0, .int .i64 0, .int .i64 0] 43)).cell? ⟨w.heap.size + 1, 3, none⟩ = some (.int .i64 0) ∧ (w2.alloc (.cells #[.int .i64 0, .int .i64 0, .int .i64 0, .int .i64 0, .int .i64 0] 43)).cell? ⟨w.heap.size + 1, 4, none⟩ = some (.int .i64 0) := ⟨HZ3.out.cell rfl, HZ3.out.cell rfl, HZ3.out.cell rfl, HZ3.out.cell rfl, HZ3.out.cell rfl⟩
    have f0 := HZ3.out.free 0
    have f1 := HZ3.out.free 1
    have f2 := HZ3.out.free 2
    have f3 := HZ3.out.free 3
    have f4 := HZ3.out.free 4
    go_wp2_with fail
    exact bodyPost_ret (v := .tuple #[.agg #[.int .i64 0, .int .i64 0, .int .i64 0, .int .i64 0, .int .i64 0], .bool false]) (by simp [results, Try.results60, go_sem, q0, q1, q2, q3, q4]) rfl ⟨rfl, (((((HB3.out.setCell (p := ⟨w.heap.size + 1, 0, none⟩) (by simp) (.int .i64 0)).setCell (p := ⟨w.heap.size + 1, 1, none⟩) (by simp) (.int .i64 0)).setCell (p := ⟨w.heap.size + 1, 2, none⟩) (by simp) (.int .i64 0)).setCell (p := ⟨w.heap.size + 1, 3, none⟩) (by simp) (.int .i64 0)).setCell (p := ⟨w.heap.size + 1, 4, none⟩) (by simp) (.int .i64 0))⟩
  · exact absurd h ht
  · have HS := Lib.hid hs
    clear hs ht
    generalize zs.getD 1 0 = z1 at HS
    generalize zs.getD 2 0 = z2 at HS
    generalize zs.getD 3 0 = z3 at HS
    generalize zs.getD 4 0 = z4 at HS
    go_enter Try.func60, Try.ntmps60
    go_wp2_with fail
    generalize ((w.alloc (.cells #[.int .i64 k, .slice p n c, .int .i64 m] 31)).alloc (.cells #[.int .i64 0, .int .i64 0, .int .i64 0, .int .i64 0, .int .i64 0] 43)) = V at HBV HX HZ HR ⊢
    refine (Prs.stmt_any k _ _ _ m zs HMI.out V HR.out.ints).mono ?_
    rintro e w2 ⟨rfl, hb⟩
    rw [HS.out]
    have HB2 := Lib.hid (below_on HBV.out hb)
    have HZ2 := Lib.hid (HZ.out.below hb)
    clear hb v0 v1 v2
    have ha := as_Status_Stamp (.agg #[.int .i64 z1, .int .i64 z2, .int .i64 z3, .int .i64 z4, .int .i64 m, .int .i64 k])
    have HZ3 := Lib.hid (HZ2.out.alloc (.cells #[.int .i64 0, .int .i64 0, .int .i64 0, .int .i64 0, .int .i64 0] 43))
    have HB3 := Lib.hid (HB2.out.alloc HB2.out.size (.cells #[.int .i64 0, .int .i64 0, .int .i64 0, .int .i64 0, .int .i64 0] 43))
    obtain ⟨q0, q1, q2, q3, q4⟩ : (w2.alloc (.cells #[.int .i64 0, .int .i64 0, .int .i64 0, .int .i64 0, .int .i64 0] 43)).cell? ⟨w.heap.size + 1, 0, none⟩ = some (.int .i64 0) ∧ (w2.alloc (.cells #[.int .i64 0, .int .i64 0, .int .i64 0, .int .i64 0, .int .i64 0] 43)).cell? ⟨w.heap.size + 1, 1, none⟩ = some (.int .i64 0) ∧ (w2.alloc (.cells #[.int .i64 0, .int .i64 0, .int .i64 0, .int .i64 0, .int .i64 0] 43)).cell? ⟨w.heap.size + 1, 2, none⟩ = some (.int .i64 0) ∧ (w2.alloc (.cells #[.int .i64 0, .int .i64 0, .int .i64 0, .int .i64 0, .int .i64 0] 43)).cell? ⟨w.heap.size + 1, 3, none⟩ = some (.int .i64 0) ∧ (w2.alloc (.cells #[.int .i64 0, .int .i64 0, .int .i64 0, .int .i64 0, .int .i64 0] 43)).cell? ⟨w.heap.size + 1, 4, none⟩ = some (.int .i64 0) := ⟨HZ3.out.cell rfl, HZ3.out.cell rfl, HZ3.out.cell rfl, HZ3.out.cell rfl, HZ3.out.cell rfl⟩
    have f0 := HZ3.out.free 0
    have f1 := HZ3.out.free 1
    have f2 := HZ3.out.free 2
    have f3 := HZ3.out.free 3
    have f4 := HZ3.out.free 4
    go_wp2_with fail
    exact bodyPost_ret (v := .tuple #[.agg #[.int .i64 0, .int .i64 0, .int .i64 0, .int .i64 0, .int .i64 0], .bool false]) (by simp [results, Try.results60, go_sem, q0, q1, q2, q3, q4]) rfl ⟨rfl, (((((HB3.out.setCell (p := ⟨w.heap.size + 1, 0, none⟩) (by simp) (.int .i64 0)).setCell (p := ⟨w.heap.size + 1, 1, none⟩) (by simp) (.int .i64 0)).setCell (p := ⟨w.heap.size + 1, 2, none⟩) (by simp) (.int .i64 0)).setCell (p := ⟨w.heap.size + 1, 3, none⟩) (by simp) (.int .i64 0)).setCell (p := ⟨w.heap.size + 1, 4, none⟩) (by simp) (.int .i64 0))⟩
  · have HS := Lib.hid hs
    clear hs ht
    generalize zs.getD 1 0 = z1 at HS
    generalize zs.getD 2 0 = z2 at HS
    generalize zs.getD 3 0 = z3 at HS
    generalize zs.getD 4 0 = z4 at HS
    generalize zs.getD 5 0 = z5 at HS
    generalize zs.getD 6 0 = z6 at HS
    generalize zs.getD 7 0 = z7 at HS
    generalize zs.getD 8 0 = z8 at HS
    go_enter Try.func60, Try.ntmps60
    go_wp2_with fail
    generalize ((w.alloc (.cells #[.int .i64 k, .slice p n c, .int .i64 m] 31)).alloc (.cells #[.int .i64 0, .int .i64 0, .int .i64 0, .int .i64 0, .int .i64 0] 43)) = V at HBV HX HZ HR ⊢
    refine (Prs.stmt_any k _ _ _ m zs HMI.out V HR.out.ints).mono ?_
    rintro e w2 ⟨rfl, hb⟩
    rw [HS.out]
    have HB2 := Lib.hid (below_on HBV.out hb)
    have HZ2 := Lib.hid (HZ.out.below hb)
    clear hb v0 v1 v2
    have ha := as_Status_Sign (.agg #[.int .i64 z1, .int .i64 z2, .int .i64 z3, .int .i64 z4, .int .i64 z5, .int .i64 z6, .int .i64 z7, .int .i64 z8, .int .i64 m])
    have HZ3 := Lib.hid (HZ2.out.alloc (.cells #[.int .i64 0, .int .i64 0, .int .i64 0, .int .i64 0, .int .i64 0] 43))
    have HB3 := Lib.hid (HB2.out.alloc HB2.out.size (.cells #[.int .i64 0, .int .i64 0, .int .i64 0, .int .i64 0, .int .i64 0] 43))
    obtain ⟨q0, q1, q2, q3, q4⟩ : (w2.alloc (.cells #[.int .i64 0, .int .i64 0, .int .i64 0, .int .i64 0, .int .i64 0] 43)).cell? ⟨w.heap.size + 1, 0, none⟩ = some (.int .i64 0) ∧ (w2.alloc (.cells #[.int .i64 0, .int .i64 0, .int .i64 0, .int .i64 0, .int .i64 0] 43)).cell? ⟨w.heap.size + 1, 1, none⟩ = some (.int .i64 0) ∧ (w2.alloc (.cells #[.int .i64 0, .int .i64 0, .int .i64 0, .int .i64 0, .int .i64 0] 43)).cell? ⟨w.heap.size + 1, 2, none⟩ = some (.int .i64 0) ∧ (w2.alloc (.cells #[.int .i64 0, .int .i64 0, .int .i64 0, .int .i64 0, .int .i64 0] 43)).cell? ⟨w.heap.size + 1, 3, none⟩ = some (.int .i64 0) ∧ (w2.alloc (.cells #[.int .i64 0, .int .i64 0, .int .i64 0, .int .i64 0, .int .i64 0] 43)).cell? ⟨w.heap.size + 1, 4, none⟩ = some (.int .i64 0) := ⟨HZ3.out.cell rfl, HZ3.out.cell rfl, HZ3.out.cell rfl, HZ3.out.cell rfl, HZ3.out.cell rfl⟩
    have f0 := HZ3.out.free 0
    have f1 := HZ3.out.free 1
    have f2 := HZ3.out.free 2
    have f3 := HZ3.out.free 3
    have f4 := HZ3.out.free 4
    go_wp2_with fail
    exact bodyPost_ret (v := .tuple #[.agg #[.int .i64 0, .int .i64 0, .int .i64 0, .int .i64 0, .int .i64 0], .bool false]) (by simp [results, Try.results60, go_sem, q0, q1, q2, q3, q4]) rfl ⟨rfl, (((((HB3.out.setCell (p := ⟨w.heap.size + 1, 0, none⟩) (by simp) (.int .i64 0)).setCell (p := ⟨w.heap.size + 1, 1, none⟩) (by simp) (.int .i64 0)).setCell (p := ⟨w.heap.size + 1, 2, none⟩) (by simp) (.int .i64 0)).setCell (p := ⟨w.heap.size + 1, 3, none⟩) (by simp) (.int .i64 0)).setCell (p := ⟨w.heap.size + 1, 4, none⟩) (by simp) (.int .i64 0))⟩
  · have HS := Lib.hid hs
    clear hs ht
    generalize zs.getD 1 0 = z1 at HS
    generalize zs.getD 2 0 = z2 at HS
    generalize zs.getD 3 0 = z3 at HS
    generalize zs.getD 4 0 = z4 at HS
    generalize zs.getD 5 0 = z5 at HS
    go_enter Try.func60, Try.ntmps60
    go_wp2_with fail
    generalize ((w.alloc (.cells #[.int .i64 k, .slice p n c, .int .i64 m] 31)).alloc (.cells #[.int .i64 0, .int .i64 0, .int .i64 0, .int .i64 0, .int .i64 0] 43)) = V at HBV HX HZ HR ⊢
    refine (Prs.stmt_any k _ _ _ m zs HMI.out V HR.out.ints).mono ?_
    rintro e w2 ⟨rfl, hb⟩
    rw [HS.out]
    have HB2 := Lib.hid (below_on HBV.out hb)
    have HZ2 := Lib.hid (HZ.out.below hb)
    clear hb v0 v1 v2
    have ha := as_Status_Mandate (.agg #[.int .i64 z1, .int .i64 z2, .int .i64 z3, .int .i64 z4, .int .i64 z5, .int .i64 m])
    have HZ3 := Lib.hid (HZ2.out.alloc (.cells #[.int .i64 0, .int .i64 0, .int .i64 0, .int .i64 0, .int .i64 0] 43))
    have HB3 := Lib.hid (HB2.out.alloc HB2.out.size (.cells #[.int .i64 0, .int .i64 0, .int .i64 0, .int .i64 0, .int .i64 0] 43))
    obtain ⟨q0, q1, q2, q3, q4⟩ : (w2.alloc (.cells #[.int .i64 0, .int .i64 0, .int .i64 0, .int .i64 0, .int .i64 0] 43)).cell? ⟨w.heap.size + 1, 0, none⟩ = some (.int .i64 0) ∧ (w2.alloc (.cells #[.int .i64 0, .int .i64 0, .int .i64 0, .int .i64 0, .int .i64 0] 43)).cell? ⟨w.heap.size + 1, 1, none⟩ = some (.int .i64 0) ∧ (w2.alloc (.cells #[.int .i64 0, .int .i64 0, .int .i64 0, .int .i64 0, .int .i64 0] 43)).cell? ⟨w.heap.size + 1, 2, none⟩ = some (.int .i64 0) ∧ (w2.alloc (.cells #[.int .i64 0, .int .i64 0, .int .i64 0, .int .i64 0, .int .i64 0] 43)).cell? ⟨w.heap.size + 1, 3, none⟩ = some (.int .i64 0) ∧ (w2.alloc (.cells #[.int .i64 0, .int .i64 0, .int .i64 0, .int .i64 0, .int .i64 0] 43)).cell? ⟨w.heap.size + 1, 4, none⟩ = some (.int .i64 0) := ⟨HZ3.out.cell rfl, HZ3.out.cell rfl, HZ3.out.cell rfl, HZ3.out.cell rfl, HZ3.out.cell rfl⟩
    have f0 := HZ3.out.free 0
    have f1 := HZ3.out.free 1
    have f2 := HZ3.out.free 2
    have f3 := HZ3.out.free 3
    have f4 := HZ3.out.free 4
    go_wp2_with fail
    exact bodyPost_ret (v := .tuple #[.agg #[.int .i64 0, .int .i64 0, .int .i64 0, .int .i64 0, .int .i64 0], .bool false]) (by simp [results, Try.results60, go_sem, q0, q1, q2, q3, q4]) rfl ⟨rfl, (((((HB3.out.setCell (p := ⟨w.heap.size + 1, 0, none⟩) (by simp) (.int .i64 0)).setCell (p := ⟨w.heap.size + 1, 1, none⟩) (by simp) (.int .i64 0)).setCell (p := ⟨w.heap.size + 1, 2, none⟩) (by simp) (.int .i64 0)).setCell (p := ⟨w.heap.size + 1, 3, none⟩) (by simp) (.int .i64 0)).setCell (p := ⟨w.heap.size + 1, 4, none⟩) (by simp) (.int .i64 0))⟩
end Go.Proofs.Ytgmoldianhkifaa.PrStatus
