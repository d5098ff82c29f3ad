/- What a piece was made from, told by one function: Cert; in the program and in the reference. What a piece was made from, told by one function: Status; in the program and in the reference. What a piece was made from, told by one function: Stamp; in the program and in the reference. What a piece was made from, told by one function: Sign; in the program and in the reference. What a piece was made from, told by one function: Mandate; in the program and in the reference. -/
import Derived.Test.YtgmoldianhkifaaPr0
import Derived.Test.YtgmoldianhkifaaDpPiece
import Derived.Test.YtgmoldianhkifaaKp
import Derived.Test.YtgmoldianhkifaaPmCert
import Derived.Test.YtgmoldianhkifaaPmStatus
import Derived.Test.YtgmoldianhkifaaPmStamp
import Derived.Test.YtgmoldianhkifaaPmSignature
import Derived.Test.YtgmoldianhkifaaPmMandate
import Derived.Test.YtgmoldianhkifaaQt
import Derived.Deep.QuietTactic
import Derived.BigQuiet
import Derived.Deep.RegionHeld3
import Derived.RegionTactic
import Derived.Outline
import Derived.Test.YtgmoldianhkifaaKq
import Derived.Test.YtgmoldianhkifaaPrCert
import Derived.Test.YtgmoldianhkifaaPrStatus
import Derived.Test.YtgmoldianhkifaaPrStamp
import Derived.Test.YtgmoldianhkifaaPrSign
import Derived.Test.YtgmoldianhkifaaPrMandate
namespace Go.Proofs.Ytgmoldianhkifaa.PwCert
open Go.ChangeShapes Go.WideShapes Go.ChangeAt Go.RowKit Sl St Ed Dz Kd Pr0
theorem drewB {W w : World} {B : Nat} (h : Below B W w) : Below B W w.drew := below_drewN h 1
set_option maxRecDepth 100000 in
set_option maxHeartbeats 4000000 in
theorem spec_yes (k : Int) (p : Option Addr) (n c : Nat) (m : Int) (zs : List Int) (w : World) (hr : Rd .i64 w p n zs) (ht : tag k zs = 101) : Calls Try.prog 19 #[.agg #[.int .i64 k, .slice p n c, .int .i64 m]] w (Val (.tuple #[.agg #[.int .i64 (zs.getD 1 0), .int .i64 (zs.getD 2 0), .int .i64 (zs.getD 3 0), .int .i64 (zs.getD 4 0), .int .i64 (zs.getD 5 0), .int .i64 (zs.getD 6 0), .int .i64 m], .bool true]) w) := by
  have hl := hr.len
  have hb : Below w.heap.size w ((w.alloc (.cells #[.int .i64 k, .slice p n c, .int .i64 m] 31)).alloc (.cells #[.int .i64 0, .int .i64 0, .int .i64 0, .int .i64 0, .int .i64 0, .int .i64 0, .int .i64 0] 37)) := (box1 w _).alloc (by simp) _
  have hx := (Bx.new w 31 #[.int .i64 k, .slice p n c, .int .i64 m]).alloc (.cells #[.int .i64 0, .int .i64 0, .int .i64 0, .int .i64 0, .int .i64 0, .int .i64 0, .int .i64 0] 37)
  have hz := Bx.new (w.alloc (.cells #[.int .i64 k, .slice p n c, .int .i64 m] 31)) 37 #[.int .i64 0, .int .i64 0, .int .i64 0, .int .i64 0, .int .i64 0, .int .i64 0, .int .i64 0]
  rw [World.size_alloc] at hz
  have HBV := Lib.hid hb
  have HX := Lib.hid hx
  have HZ := Lib.hid hz
  have HR := Lib.hid ((RdD.ofInts (S := fun _ => True) hr (fun _ _ _ _ => trivial)).below hb)
  have ho : ownOf k zs = k := by
    by_cases h : ownOf k zs = k
    · exact h
    · rw [tag_other h] at ht
      exact absurd ht (by decide)
  have hkd : kd zs = 101 := by rw [← tag_own ho]; exact ht
  obtain rfl : n = 7 := by
    rcases kd_cases zs hl with ⟨h, _, g⟩ | ⟨h, _, g⟩ | ⟨h, _, g⟩ | ⟨h, _, g⟩ | ⟨h, _, g⟩ | g <;> rw [hkd] at g <;> first | exact h | exact absurd g (by decide)
  have HK : Hid (kind 7 (zs.getD 0 0) = 101) := Lib.hid ((kd_of hl).trans hkd)
  rw [own_Cert hkd] at ho
  have HRW := Lib.hid hr
  clear ht hkd hb hx hz hr hl
  skip
  obtain ⟨b, o, rfl, hbb, hc⟩ := cells_of HRW.out (by decide)
  have hne : ¬ b = w.heap.size + 1 := by omega
  have hne2 : ¬ w.heap.size + 1 = b := by omega
  have HCE := Lib.hid hc
  have HBb := Lib.hid hbb
  clear hc hbb
  obtain ⟨z1, hz1⟩ : ∃ z, zs.getD 1 0 = z := ⟨_, rfl⟩
  rw [hz1]
  have HZ_1 := Lib.hid hz1
  clear hz1
  obtain ⟨z2, hz2⟩ : ∃ z, zs.getD 2 0 = z := ⟨_, rfl⟩
  rw [hz2]
  have HZ_2 := Lib.hid hz2
  clear hz2
  obtain ⟨z3, hz3⟩ : ∃ z, zs.getD 3 0 = z := ⟨_, rfl⟩
  rw [hz3]
  have HZ_3 := Lib.hid hz3
  clear hz3
  obtain ⟨z4, hz4⟩ : ∃ z, zs.getD 4 0 = z := ⟨_, rfl⟩
  rw [hz4]
  have HZ_4 := Lib.hid hz4
  clear hz4
  obtain ⟨z5, hz5⟩ : ∃ z, zs.getD 5 0 = z := ⟨_, rfl⟩
  rw [hz5]
  have HZ_5 := Lib.hid hz5
  clear hz5
  obtain ⟨z6, hz6⟩ : ∃ z, zs.getD 6 0 = z := ⟨_, rfl⟩
  rw [hz6]
  have HZ_6 := Lib.hid hz6
  clear hz6
  have HCO := Lib.hid (HCE.out 6 (by decide))
  rw [ho] at HCO
  have e1 : (k != k) = false := by simp
  have e2 : (k == k) = true := by simp
  clear ho
  go_enter Try.func19, Try.ntmps19
  go_wp2_with fail
  generalize ((w.alloc (.cells #[.int .i64 k, .slice (some ⟨b, o, none⟩) 7 c, .int .i64 m] 31)).alloc (.cells #[.int .i64 0, .int .i64 0, .int .i64 0, .int .i64 0, .int .i64 0, .int .i64 0, .int .i64 0] 37)) = V at HBV HX HZ HR ⊢
  have HC : Hid (∀ w', Qt.Keeps (V) w' → w'.cell? ⟨w.heap.size, 0, none⟩ = some (.int .i64 k) ∧ w'.cell? ⟨w.heap.size, 1, none⟩ = some (.slice (some ⟨b, o, none⟩) 7 c) ∧ w'.cell? ⟨w.heap.size, 2, none⟩ = some (.int .i64 m) ∧ w'.cell? ⟨b, o + 6, none⟩ = some (.int .i64 k)) := Lib.hid fun w' hw => let h := DpPiece.bxc (HX.out.below hw); ⟨h.1, h.2.1, h.2.2, ((below_on HBV.out hw).cell (p := ⟨b, o + 6, none⟩) HBb.out).trans HCO.out⟩
  refine Qt.region (Qt.Keeps (V)) (by kernel_rfl) (by kernel_rfl) (Qt.Keeps.drew _) ?_
  repeat (first
    | go_big_quiet_skip
    | (go_big_quiet_want
       refine Qt.val (v := ?_) (fun w hw => ?_) ?_
       rotate_left
       · obtain ⟨v0, v1, v2, c0⟩ := HC.out w hw
         go_simp
         rfl
       simp only [Act.put, List.setIfInBounds_toArray, List.set_cons_zero, List.set_cons_succ]
       go_big_quiet_on)
    | (go_big_quiet_want
       refine Qt.call (v := .int .i64 101) (f := 58) (args := #[.agg #[.int .i64 k, .slice (some ⟨b, o, none⟩) 7 c, .int .i64 m]]) (fun w hw => ?_) (fun w hw => ?_) ?_
       · go_simp
       · refine (Kq.spec_kind_any k _ _ _ m zs _ (HR.out.below hw).ints).mono ?_
         rintro e w1 ⟨rfl, hb1⟩
         rw [HK.out]
         exact ⟨rfl, hw.then hb1⟩
       simp only [Act.put, List.setIfInBounds_toArray, List.set_cons_zero, List.set_cons_succ]
       go_big_quiet_on))
  refine wpQuiet_nil ?_
  intro w2 hw2
  have HB2 := Lib.hid (below_on HBV.out hw2)
  have HX2 := Lib.hid (HX.out.below hw2)
  have HZ2 := Lib.hid (HZ.out.below hw2)
  have HV2 := Lib.hid hw2
  clear hw2
  have c1 := (HB2.out.cell (p := ⟨b, o + 1, none⟩) HBb.out).trans (HCE.out 1 (by decide))
  have c2 := (HB2.out.cell (p := ⟨b, o + 2, none⟩) HBb.out).trans (HCE.out 2 (by decide))
  have c3 := (HB2.out.cell (p := ⟨b, o + 3, none⟩) HBb.out).trans (HCE.out 3 (by decide))
  have c4 := (HB2.out.cell (p := ⟨b, o + 4, none⟩) HBb.out).trans (HCE.out 4 (by decide))
  have c5 := (HB2.out.cell (p := ⟨b, o + 5, none⟩) HBb.out).trans (HCE.out 5 (by decide))
  have c6 := (HB2.out.cell (p := ⟨b, o + 6, none⟩) HBb.out).trans (HCE.out 6 (by decide))
  rw [HZ_1.out] at c1
  rw [HZ_2.out] at c2
  rw [HZ_3.out] at c3
  rw [HZ_4.out] at c4
  rw [HZ_5.out] at c5
  rw [HZ_6.out] at c6
  clear HK HCE HCO
  obtain ⟨v0, v1, v2⟩ := DpPiece.bxc HX2.out
  obtain ⟨q0, q1, q2, q3, q4, q5, q6⟩ : w2.cell? ⟨w.heap.size + 1, 0, none⟩ = some (.int .i64 0) ∧ w2.cell? ⟨w.heap.size + 1, 1, none⟩ = some (.int .i64 0) ∧ w2.cell? ⟨w.heap.size + 1, 2, none⟩ = some (.int .i64 0) ∧ w2.cell? ⟨w.heap.size + 1, 3, none⟩ = some (.int .i64 0) ∧ w2.cell? ⟨w.heap.size + 1, 4, none⟩ = some (.int .i64 0) ∧ w2.cell? ⟨w.heap.size + 1, 5, none⟩ = some (.int .i64 0) ∧ w2.cell? ⟨w.heap.size + 1, 6, none⟩ = some (.int .i64 0) := ⟨HZ2.out.cell rfl, HZ2.out.cell rfl, HZ2.out.cell rfl, HZ2.out.cell rfl, HZ2.out.cell rfl, HZ2.out.cell rfl, HZ2.out.cell rfl⟩
  have f0 := HZ2.out.free 0
  have f1 := HZ2.out.free 1
  have f2 := HZ2.out.free 2
  have f3 := HZ2.out.free 3
  have f4 := HZ2.out.free 4
  have f5 := HZ2.out.free 5
  have f6 := HZ2.out.free 6
  go_wp2_with fail
  go_region_held3 (fun w' => w'.cell? ⟨w.heap.size, 1, none⟩ = some (.slice (some ⟨b, o, none⟩) 7 c) ∧ w'.cell? ⟨w.heap.size, 2, none⟩ = some (.int .i64 m) ∧ w'.cell? ⟨b, o + 1, none⟩ = some (.int .i64 z1) ∧ w'.cell? ⟨b, o + 2, none⟩ = some (.int .i64 z2) ∧ w'.cell? ⟨b, o + 3, none⟩ = some (.int .i64 z3) ∧ w'.cell? ⟨b, o + 4, none⟩ = some (.int .i64 z4) ∧ w'.cell? ⟨b, o + 5, none⟩ = some (.int .i64 z5) ∧ w'.cell? ⟨b, o + 6, none⟩ = some (.int .i64 z6)) (first | go_keep) (fail)
  all_goals
    have HBC := HB2
    go_wp2_with fail
    exact bodyPost_ret (v := .tuple #[.agg #[.int .i64 z1, .int .i64 z2, .int .i64 z3, .int .i64 z4, .int .i64 z5, .int .i64 z6, .int .i64 m], .bool true]) (by simp [results, Try.results19, go_sem, q0, q1, q2, q3, q4, q5, q6]) rfl ⟨rfl, by first | with_reducible exact drewB (((((((HBC.out.setCell (p := ⟨w.heap.size + 1, 0, none⟩) (by simp) (.int .i64 z1)).setCell (p := ⟨w.heap.size + 1, 1, none⟩) (by simp) (.int .i64 z2)).setCell (p := ⟨w.heap.size + 1, 2, none⟩) (by simp) (.int .i64 z3)).setCell (p := ⟨w.heap.size + 1, 3, none⟩) (by simp) (.int .i64 z4)).setCell (p := ⟨w.heap.size + 1, 4, none⟩) (by simp) (.int .i64 z5)).setCell (p := ⟨w.heap.size + 1, 5, none⟩) (by simp) (.int .i64 z6)).setCell (p := ⟨w.heap.size + 1, 6, none⟩) (by simp) (.int .i64 m)) | with_reducible exact HBC.out | exact drewB (((((((HBC.out.setCell (p := ⟨w.heap.size + 1, 0, none⟩) (by simp) (.int .i64 z1)).setCell (p := ⟨w.heap.size + 1, 1, none⟩) (by simp) (.int .i64 z2)).setCell (p := ⟨w.heap.size + 1, 2, none⟩) (by simp) (.int .i64 z3)).setCell (p := ⟨w.heap.size + 1, 3, none⟩) (by simp) (.int .i64 z4)).setCell (p := ⟨w.heap.size + 1, 4, none⟩) (by simp) (.int .i64 z5)).setCell (p := ⟨w.heap.size + 1, 5, none⟩) (by simp) (.int .i64 z6)).setCell (p := ⟨w.heap.size + 1, 6, none⟩) (by simp) (.int .i64 m))⟩
set_option maxRecDepth 100000 in
set_option maxHeartbeats 4000000 in
theorem spec_no (k : Int) (p : Option Addr) (n c : Nat) (m : Int) (zs : List Int) (w : World) (hr : Rd .i64 w p n zs) (ht : ¬ tag k zs = 101) : Calls Try.prog 19 #[.agg #[.int .i64 k, .slice p n c, .int .i64 m]] w (Val (.tuple #[.agg #[.int .i64 0, .int .i64 0, .int .i64 0, .int .i64 0, .int .i64 0, .int .i64 0, .int .i64 0], .bool false]) w) := by
  have hl := hr.len
  have hb : Below w.heap.size w ((w.alloc (.cells #[.int .i64 k, .slice p n c, .int .i64 m] 31)).alloc (.cells #[.int .i64 0, .int .i64 0, .int .i64 0, .int .i64 0, .int .i64 0, .int .i64 0, .int .i64 0] 37)) := (box1 w _).alloc (by simp) _
  have hx := (Bx.new w 31 #[.int .i64 k, .slice p n c, .int .i64 m]).alloc (.cells #[.int .i64 0, .int .i64 0, .int .i64 0, .int .i64 0, .int .i64 0, .int .i64 0, .int .i64 0] 37)
  have hz := Bx.new (w.alloc (.cells #[.int .i64 k, .slice p n c, .int .i64 m] 31)) 37 #[.int .i64 0, .int .i64 0, .int .i64 0, .int .i64 0, .int .i64 0, .int .i64 0, .int .i64 0]
  rw [World.size_alloc] at hz
  have HBV := Lib.hid hb
  have HX := Lib.hid hx
  have HZ := Lib.hid hz
  have HR := Lib.hid ((RdD.ofInts (S := fun _ => True) hr (fun _ _ _ _ => trivial)).below hb)
  have HRW := Lib.hid hr
  clear hb hx hz hr
  by_cases hkd : kd zs = 101
  rotate_left
  · obtain ⟨κ, hκ⟩ : ∃ z, kind n (zs.getD 0 0) = z := ⟨_, rfl⟩
    have hne : ¬ κ = 101 := by rw [← hκ, kd_of hl]; exact hkd
    have HK := Lib.hid hκ
    have e1 : (κ != 101) = true := bne_iff_ne.2 hne
    have e2 : (κ == 101) = false := beq_eq_false_iff_ne.2 hne
    clear hκ hne hkd hl ht
    go_enter Try.func19, Try.ntmps19
    go_wp2_with fail
    generalize ((w.alloc (.cells #[.int .i64 k, .slice p n c, .int .i64 m] 31)).alloc (.cells #[.int .i64 0, .int .i64 0, .int .i64 0, .int .i64 0, .int .i64 0, .int .i64 0, .int .i64 0] 37)) = V at HBV HX HZ HR ⊢
    have HC : Hid (∀ w', Qt.Keeps (V) w' → w'.cell? ⟨w.heap.size, 0, none⟩ = some (.int .i64 k) ∧ w'.cell? ⟨w.heap.size, 1, none⟩ = some (.slice p n c) ∧ w'.cell? ⟨w.heap.size, 2, none⟩ = some (.int .i64 m)) := Lib.hid fun w' hw => DpPiece.bxc (HX.out.below hw)
    refine Qt.region (Qt.Keeps (V)) (by kernel_rfl) (by kernel_rfl) (Qt.Keeps.drew _) ?_
    repeat (first
      | go_big_quiet_skip
      | (go_big_quiet_want
         refine Qt.val (v := ?_) (fun w hw => ?_) ?_
         rotate_left
         · obtain ⟨v0, v1, v2⟩ := HC.out w hw
           go_simp
           rfl
         simp only [Act.put, List.setIfInBounds_toArray, List.set_cons_zero, List.set_cons_succ]
         go_big_quiet_on)
      | (go_big_quiet_want
         refine Qt.call (v := .int .i64 κ) (f := 58) (args := #[.agg #[.int .i64 k, .slice p n c, .int .i64 m]]) (fun w hw => ?_) (fun w hw => ?_) ?_
         · go_simp
         · refine (Kq.spec_kind_any k _ _ _ m zs _ (HR.out.below hw).ints).mono ?_
           rintro e w1 ⟨rfl, hb1⟩
           rw [HK.out]
           exact ⟨rfl, hw.then hb1⟩
         simp only [Act.put, List.setIfInBounds_toArray, List.set_cons_zero, List.set_cons_succ]
         go_big_quiet_on))
    refine wpQuiet_nil ?_
    intro w2 hw2
    have HB2 := Lib.hid (below_on HBV.out hw2)
    have HX2 := Lib.hid (HX.out.below hw2)
    have HZ2 := Lib.hid (HZ.out.below hw2)
    have HV2 := Lib.hid hw2
    clear hw2
    obtain ⟨q0, q1, q2, q3, q4, q5, q6⟩ : w2.cell? ⟨w.heap.size + 1, 0, none⟩ = some (.int .i64 0) ∧ w2.cell? ⟨w.heap.size + 1, 1, none⟩ = some (.int .i64 0) ∧ w2.cell? ⟨w.heap.size + 1, 2, none⟩ = some (.int .i64 0) ∧ w2.cell? ⟨w.heap.size + 1, 3, none⟩ = some (.int .i64 0) ∧ w2.cell? ⟨w.heap.size + 1, 4, none⟩ = some (.int .i64 0) ∧ w2.cell? ⟨w.heap.size + 1, 5, none⟩ = some (.int .i64 0) ∧ w2.cell? ⟨w.heap.size + 1, 6, none⟩ = some (.int .i64 0) := ⟨HZ2.out.cell rfl, HZ2.out.cell rfl, HZ2.out.cell rfl, HZ2.out.cell rfl, HZ2.out.cell rfl, HZ2.out.cell rfl, HZ2.out.cell rfl⟩
    have f0 := HZ2.out.free 0
    have f1 := HZ2.out.free 1
    have f2 := HZ2.out.free 2
    have f3 := HZ2.out.free 3
    have f4 := HZ2.out.free 4
    have f5 := HZ2.out.free 5
    have f6 := HZ2.out.free 6
    have HBC := HB2
    go_wp2_with fail
    exact bodyPost_ret (v := .tuple #[.agg #[.int .i64 0, .int .i64 0, .int .i64 0, .int .i64 0, .int .i64 0, .int .i64 0, .int .i64 0], .bool false]) (by simp [results, Try.results19, go_sem, q0, q1, q2, q3, q4, q5, q6]) rfl ⟨rfl, by first | with_reducible exact (((((((HBC.out.setCell (p := ⟨w.heap.size + 1, 0, none⟩) (by simp) (.int .i64 0)).setCell (p := ⟨w.heap.size + 1, 1, none⟩) (by simp) (.int .i64 0)).setCell (p := ⟨w.heap.size + 1, 2, none⟩) (by simp) (.int .i64 0)).setCell (p := ⟨w.heap.size + 1, 3, none⟩) (by simp) (.int .i64 0)).setCell (p := ⟨w.heap.size + 1, 4, none⟩) (by simp) (.int .i64 0)).setCell (p := ⟨w.heap.size + 1, 5, none⟩) (by simp) (.int .i64 0)).setCell (p := ⟨w.heap.size + 1, 6, none⟩) (by simp) (.int .i64 0)) | with_reducible exact HBC.out | exact (((((((HBC.out.setCell (p := ⟨w.heap.size + 1, 0, none⟩) (by simp) (.int .i64 0)).setCell (p := ⟨w.heap.size + 1, 1, none⟩) (by simp) (.int .i64 0)).setCell (p := ⟨w.heap.size + 1, 2, none⟩) (by simp) (.int .i64 0)).setCell (p := ⟨w.heap.size + 1, 3, none⟩) (by simp) (.int .i64 0)).setCell (p := ⟨w.heap.size + 1, 4, none⟩) (by simp) (.int .i64 0)).setCell (p := ⟨w.heap.size + 1, 5, none⟩) (by simp) (.int .i64 0)).setCell (p := ⟨w.heap.size + 1, 6, none⟩) (by simp) (.int .i64 0))⟩
  · have ho : ¬ zs.getD 6 0 = k := fun h => ht (by rw [tag_own (by rw [own_Cert hkd]; exact h), hkd])
    obtain rfl : n = 7 := by
      rcases kd_cases zs hl with ⟨h, _, g⟩ | ⟨h, _, g⟩ | ⟨h, _, g⟩ | ⟨h, _, g⟩ | ⟨h, _, g⟩ | g <;> rw [hkd] at g <;> first | exact h | exact absurd g (by decide)
    have HK : Hid (kind 7 (zs.getD 0 0) = 101) := Lib.hid ((kd_of hl).trans hkd)
    clear ht hkd hl
    obtain ⟨b, o, rfl, hbb, hc⟩ := cells_of HRW.out (by decide)
    have hne : ¬ b = w.heap.size + 1 := by omega
    have hne2 : ¬ w.heap.size + 1 = b := by omega
    have HCE := Lib.hid hc
    have HBb := Lib.hid hbb
    clear hc hbb
    have HCO := Lib.hid (HCE.out 6 (by decide))
    generalize zs.getD 6 0 = zo at HCO ho
    have e1 : (zo != k) = true := bne_iff_ne.2 ho
    have e2 : (zo == k) = false := beq_eq_false_iff_ne.2 ho
    clear ho
    go_enter Try.func19, Try.ntmps19
    go_wp2_with fail
    generalize ((w.alloc (.cells #[.int .i64 k, .slice (some ⟨b, o, none⟩) 7 c, .int .i64 m] 31)).alloc (.cells #[.int .i64 0, .int .i64 0, .int .i64 0, .int .i64 0, .int .i64 0, .int .i64 0, .int .i64 0] 37)) = V at HBV HX HZ HR HCE HBb HCO ⊢
    have HC : Hid (∀ w', Qt.Keeps (V) w' → w'.cell? ⟨w.heap.size, 0, none⟩ = some (.int .i64 k) ∧ w'.cell? ⟨w.heap.size, 1, none⟩ = some (.slice (some ⟨b, o, none⟩) 7 c) ∧ w'.cell? ⟨w.heap.size, 2, none⟩ = some (.int .i64 m) ∧ w'.cell? ⟨b, o + 6, none⟩ = some (.int .i64 zo)) := Lib.hid fun w' hw => let h := DpPiece.bxc (HX.out.below hw); ⟨h.1, h.2.1, h.2.2, ((below_on HBV.out hw).cell (p := ⟨b, o + 6, none⟩) HBb.out).trans HCO.out⟩
    refine Qt.region (Qt.Keeps (V)) (by kernel_rfl) (by kernel_rfl) (Qt.Keeps.drew _) ?_
    repeat (first
      | go_big_quiet_skip
      | (go_big_quiet_want
         refine Qt.val (v := ?_) (fun w hw => ?_) ?_
         rotate_left
         · obtain ⟨v0, v1, v2, c0⟩ := HC.out w hw
           go_simp
           rfl
         simp only [Act.put, List.setIfInBounds_toArray, List.set_cons_zero, List.set_cons_succ]
         go_big_quiet_on)
      | (go_big_quiet_want
         refine Qt.call (v := .int .i64 101) (f := 58) (args := #[.agg #[.int .i64 k, .slice (some ⟨b, o, none⟩) 7 c, .int .i64 m]]) (fun w hw => ?_) (fun w hw => ?_) ?_
         · go_simp
         · refine (Kq.spec_kind_any k _ _ _ m zs _ (HR.out.below hw).ints).mono ?_
           rintro e w1 ⟨rfl, hb1⟩
           rw [HK.out]
           exact ⟨rfl, hw.then hb1⟩
         simp only [Act.put, List.setIfInBounds_toArray, List.set_cons_zero, List.set_cons_succ]
         go_big_quiet_on))
    refine wpQuiet_nil ?_
    intro w2 hw2
    have HB2 := Lib.hid (below_on HBV.out hw2)
    have HX2 := Lib.hid (HX.out.below hw2)
    have HZ2 := Lib.hid (HZ.out.below hw2)
    have HV2 := Lib.hid hw2
    clear hw2
    obtain ⟨q0, q1, q2, q3, q4, q5, q6⟩ : w2.cell? ⟨w.heap.size + 1, 0, none⟩ = some (.int .i64 0) ∧ w2.cell? ⟨w.heap.size + 1, 1, none⟩ = some (.int .i64 0) ∧ w2.cell? ⟨w.heap.size + 1, 2, none⟩ = some (.int .i64 0) ∧ w2.cell? ⟨w.heap.size + 1, 3, none⟩ = some (.int .i64 0) ∧ w2.cell? ⟨w.heap.size + 1, 4, none⟩ = some (.int .i64 0) ∧ w2.cell? ⟨w.heap.size + 1, 5, none⟩ = some (.int .i64 0) ∧ w2.cell? ⟨w.heap.size + 1, 6, none⟩ = some (.int .i64 0) := ⟨HZ2.out.cell rfl, HZ2.out.cell rfl, HZ2.out.cell rfl, HZ2.out.cell rfl, HZ2.out.cell rfl, HZ2.out.cell rfl, HZ2.out.cell rfl⟩
    have f0 := HZ2.out.free 0
    have f1 := HZ2.out.free 1
    have f2 := HZ2.out.free 2
    have f3 := HZ2.out.free 3
    have f4 := HZ2.out.free 4
    have f5 := HZ2.out.free 5
    have f6 := HZ2.out.free 6
    have HBC := HB2
    go_wp2_with fail
    exact bodyPost_ret (v := .tuple #[.agg #[.int .i64 0, .int .i64 0, .int .i64 0, .int .i64 0, .int .i64 0, .int .i64 0, .int .i64 0], .bool false]) (by simp [results, Try.results19, go_sem, q0, q1, q2, q3, q4, q5, q6]) rfl ⟨rfl, by first | with_reducible exact (((((((HBC.out.setCell (p := ⟨w.heap.size + 1, 0, none⟩) (by simp) (.int .i64 0)).setCell (p := ⟨w.heap.size + 1, 1, none⟩) (by simp) (.int .i64 0)).setCell (p := ⟨w.heap.size + 1, 2, none⟩) (by simp) (.int .i64 0)).setCell (p := ⟨w.heap.size + 1, 3, none⟩) (by simp) (.int .i64 0)).setCell (p := ⟨w.heap.size + 1, 4, none⟩) (by simp) (.int .i64 0)).setCell (p := ⟨w.heap.size + 1, 5, none⟩) (by simp) (.int .i64 0)).setCell (p := ⟨w.heap.size + 1, 6, none⟩) (by simp) (.int .i64 0)) | with_reducible exact HBC.out | exact (((((((HBC.out.setCell (p := ⟨w.heap.size + 1, 0, none⟩) (by simp) (.int .i64 0)).setCell (p := ⟨w.heap.size + 1, 1, none⟩) (by simp) (.int .i64 0)).setCell (p := ⟨w.heap.size + 1, 2, none⟩) (by simp) (.int .i64 0)).setCell (p := ⟨w.heap.size + 1, 3, none⟩) (by simp) (.int .i64 0)).setCell (p := ⟨w.heap.size + 1, 4, none⟩) (by simp) (.int .i64 0)).setCell (p := ⟨w.heap.size + 1, 5, none⟩) (by simp) (.int .i64 0)).setCell (p := ⟨w.heap.size + 1, 6, none⟩) (by simp) (.int .i64 0))⟩
end Go.Proofs.Ytgmoldianhkifaa.PwCert
namespace Go.Proofs.Ytgmoldianhkifaa.PoCert
open Go.ChangeShapes Go.WideShapes Go.ChangeAt Go.RowKit Sl St Ed Dz Kd Pr0 PrCert
set_option maxRecDepth 100000 in
set_option maxHeartbeats 4000000 in
theorem piece_yes (k : Int) (p : Option Addr) (n c : Nat) (m : Int) (zs : List Int) (hm : InI m) (w : World) (hr : Rd .i64 w p n zs) (ht : tag k zs = 101) : Calls Try.prog 20 #[.agg #[.int .i64 k, .slice p n c, .int .i64 m]] w (Val (.tuple #[.agg #[.int .i64 (zs.getD 1 0), .int .i64 (zs.getD 2 0), .int .i64 (zs.getD 3 0), .int .i64 (zs.getD 4 0), .int .i64 (zs.getD 5 0), .int .i64 (zs.getD 6 0), .int .i64 m], .bool true]) w) := by
  have hb : Below w.heap.size w ((w.alloc (.cells #[.int .i64 k, .slice p n c, .int .i64 m] 31)).alloc (.cells #[.int .i64 0, .int .i64 0, .int .i64 0, .int .i64 0, .int .i64 0, .int .i64 0, .int .i64 0] 37)) := (box1 w _).alloc (by simp) _
  have hx := (Bx.new w 31 #[.int .i64 k, .slice p n c, .int .i64 m]).alloc (.cells #[.int .i64 0, .int .i64 0, .int .i64 0, .int .i64 0, .int .i64 0, .int .i64 0, .int .i64 0] 37)
  have hz := Bx.new (w.alloc (.cells #[.int .i64 k, .slice p n c, .int .i64 m] 31)) 37 #[.int .i64 0, .int .i64 0, .int .i64 0, .int .i64 0, .int .i64 0, .int .i64 0, .int .i64 0]
  rw [World.size_alloc] at hz
  have HBV := Lib.hid hb
  have HX := Lib.hid hx
  have HZ := Lib.hid hz
  have HR := Lib.hid ((RdD.ofInts (S := fun _ => True) hr (fun _ _ _ _ => trivial)).below hb)
  clear hb hx hz hr
  obtain ⟨v0, v1, v2⟩ := DpPiece.bxc HX.out
  obtain ⟨z1, hz1⟩ : ∃ z, zs.getD 1 0 = z := ⟨_, rfl⟩
  rw [hz1]
  have HZ_1 := Lib.hid hz1
  clear hz1
  obtain ⟨z2, hz2⟩ : ∃ z, zs.getD 2 0 = z := ⟨_, rfl⟩
  rw [hz2]
  have HZ_2 := Lib.hid hz2
  clear hz2
  obtain ⟨z3, hz3⟩ : ∃ z, zs.getD 3 0 = z := ⟨_, rfl⟩
  rw [hz3]
  have HZ_3 := Lib.hid hz3
  clear hz3
  obtain ⟨z4, hz4⟩ : ∃ z, zs.getD 4 0 = z := ⟨_, rfl⟩
  rw [hz4]
  have HZ_4 := Lib.hid hz4
  clear hz4
  obtain ⟨z5, hz5⟩ : ∃ z, zs.getD 5 0 = z := ⟨_, rfl⟩
  rw [hz5]
  have HZ_5 := Lib.hid hz5
  clear hz5
  obtain ⟨z6, hz6⟩ : ∃ z, zs.getD 6 0 = z := ⟨_, rfl⟩
  rw [hz6]
  have HZ_6 := Lib.hid hz6
  clear hz6
  go_enter Try.func20, Try.ntmps20
  go_wp2_with fail
  generalize ((w.alloc (.cells #[.int .i64 k, .slice p n c, .int .i64 m] 31)).alloc (.cells #[.int .i64 0, .int .i64 0, .int .i64 0, .int .i64 0, .int .i64 0, .int .i64 0, .int .i64 0] 37)) = V at HBV HX HZ HR ⊢
  refine (stated_yes k _ _ _ m zs hm V HR.out.ints ht).mono ?_
  rintro e w2 ⟨rfl, hb⟩
  have HB2 := Lib.hid (below_on HBV.out hb)
  have HZ2 := Lib.hid (HZ.out.below hb)
  clear hb v0 v1 v2 ht
  rw [HZ_1.out, HZ_2.out, HZ_3.out, HZ_4.out, HZ_5.out, HZ_6.out]
  have HZ3 := HZ2
  have HB3 := HB2
  obtain ⟨q0, q1, q2, q3, q4, q5, q6⟩ : w2.cell? ⟨w.heap.size + 1, 0, none⟩ = some (.int .i64 0) ∧ w2.cell? ⟨w.heap.size + 1, 1, none⟩ = some (.int .i64 0) ∧ w2.cell? ⟨w.heap.size + 1, 2, none⟩ = some (.int .i64 0) ∧ w2.cell? ⟨w.heap.size + 1, 3, none⟩ = some (.int .i64 0) ∧ w2.cell? ⟨w.heap.size + 1, 4, none⟩ = some (.int .i64 0) ∧ w2.cell? ⟨w.heap.size + 1, 5, none⟩ = some (.int .i64 0) ∧ w2.cell? ⟨w.heap.size + 1, 6, none⟩ = some (.int .i64 0) := ⟨HZ3.out.cell rfl, HZ3.out.cell rfl, HZ3.out.cell rfl, HZ3.out.cell rfl, HZ3.out.cell rfl, HZ3.out.cell rfl, HZ3.out.cell rfl⟩
  have f0 := HZ3.out.free 0
  have f1 := HZ3.out.free 1
  have f2 := HZ3.out.free 2
  have f3 := HZ3.out.free 3
  have f4 := HZ3.out.free 4
  have f5 := HZ3.out.free 5
  have f6 := HZ3.out.free 6
  go_wp2_with fail
  exact bodyPost_ret (v := .tuple #[.agg #[.int .i64 z1, .int .i64 z2, .int .i64 z3, .int .i64 z4, .int .i64 z5, .int .i64 z6, .int .i64 m], .bool true]) (by simp [results, Try.results20, go_sem, q0, q1, q2, q3, q4, q5, q6]) rfl ⟨rfl, by first | with_reducible exact (((((((HB3.out.setCell (p := ⟨w.heap.size + 1, 0, none⟩) (by simp) (.int .i64 z1)).setCell (p := ⟨w.heap.size + 1, 1, none⟩) (by simp) (.int .i64 z2)).setCell (p := ⟨w.heap.size + 1, 2, none⟩) (by simp) (.int .i64 z3)).setCell (p := ⟨w.heap.size + 1, 3, none⟩) (by simp) (.int .i64 z4)).setCell (p := ⟨w.heap.size + 1, 4, none⟩) (by simp) (.int .i64 z5)).setCell (p := ⟨w.heap.size + 1, 5, none⟩) (by simp) (.int .i64 z6)).setCell (p := ⟨w.heap.size + 1, 6, none⟩) (by simp) (.int .i64 m)) | with_reducible exact HB3.out | exact (((((((HB3.out.setCell (p := ⟨w.heap.size + 1, 0, none⟩) (by simp) (.int .i64 z1)).setCell (p := ⟨w.heap.size + 1, 1, none⟩) (by simp) (.int .i64 z2)).setCell (p := ⟨w.heap.size + 1, 2, none⟩) (by simp) (.int .i64 z3)).setCell (p := ⟨w.heap.size + 1, 3, none⟩) (by simp) (.int .i64 z4)).setCell (p := ⟨w.heap.size + 1, 4, none⟩) (by simp) (.int .i64 z5)).setCell (p := ⟨w.heap.size + 1, 5, none⟩) (by simp) (.int .i64 z6)).setCell (p := ⟨w.heap.size + 1, 6, none⟩) (by simp) (.int .i64 m))⟩
set_option maxRecDepth 100000 in
set_option maxHeartbeats 4000000 in
theorem piece_no (k : Int) (p : Option Addr) (n c : Nat) (m : Int) (zs : List Int) (hm : InI m) (w : World) (hr : Rd .i64 w p n zs) (ht : ¬ tag k zs = 101) : Calls Try.prog 20 #[.agg #[.int .i64 k, .slice p n c, .int .i64 m]] w (Val (.tuple #[.agg #[.int .i64 0, .int .i64 0, .int .i64 0, .int .i64 0, .int .i64 0, .int .i64 0, .int .i64 0], .bool false]) w) := by
  have hb : Below w.heap.size w ((w.alloc (.cells #[.int .i64 k, .slice p n c, .int .i64 m] 31)).alloc (.cells #[.int .i64 0, .int .i64 0, .int .i64 0, .int .i64 0, .int .i64 0, .int .i64 0, .int .i64 0] 37)) := (box1 w _).alloc (by simp) _
  have hx := (Bx.new w 31 #[.int .i64 k, .slice p n c, .int .i64 m]).alloc (.cells #[.int .i64 0, .int .i64 0, .int .i64 0, .int .i64 0, .int .i64 0, .int .i64 0, .int .i64 0] 37)
  have hz := Bx.new (w.alloc (.cells #[.int .i64 k, .slice p n c, .int .i64 m] 31)) 37 #[.int .i64 0, .int .i64 0, .int .i64 0, .int .i64 0, .int .i64 0, .int .i64 0, .int .i64 0]
  rw [World.size_alloc] at hz
  have HBV := Lib.hid hb
  have HX := Lib.hid hx
  have HZ := Lib.hid hz
  have HR := Lib.hid ((RdD.ofInts (S := fun _ => True) hr (fun _ _ _ _ => trivial)).below hb)
  clear hb hx hz hr
  obtain ⟨v0, v1, v2⟩ := DpPiece.bxc HX.out
  go_enter Try.func20, Try.ntmps20
  go_wp2_with fail
  generalize ((w.alloc (.cells #[.int .i64 k, .slice p n c, .int .i64 m] 31)).alloc (.cells #[.int .i64 0, .int .i64 0, .int .i64 0, .int .i64 0, .int .i64 0, .int .i64 0, .int .i64 0] 37)) = V at HBV HX HZ HR ⊢
  refine (stated_no k _ _ _ m zs hm V HR.out.ints ht).mono ?_
  rintro e w2 ⟨rfl, hb⟩
  have HB2 := Lib.hid (below_on HBV.out hb)
  have HZ2 := Lib.hid (HZ.out.below hb)
  clear hb v0 v1 v2 ht
  have HZ3 := HZ2
  have HB3 := HB2
  obtain ⟨q0, q1, q2, q3, q4, q5, q6⟩ : w2.cell? ⟨w.heap.size + 1, 0, none⟩ = some (.int .i64 0) ∧ w2.cell? ⟨w.heap.size + 1, 1, none⟩ = some (.int .i64 0) ∧ w2.cell? ⟨w.heap.size + 1, 2, none⟩ = some (.int .i64 0) ∧ w2.cell? ⟨w.heap.size + 1, 3, none⟩ = some (.int .i64 0) ∧ w2.cell? ⟨w.heap.size + 1, 4, none⟩ = some (.int .i64 0) ∧ w2.cell? ⟨w.heap.size + 1, 5, none⟩ = some (.int .i64 0) ∧ w2.cell? ⟨w.heap.size + 1, 6, none⟩ = some (.int .i64 0) := ⟨HZ3.out.cell rfl, HZ3.out.cell rfl, HZ3.out.cell rfl, HZ3.out.cell rfl, HZ3.out.cell rfl, HZ3.out.cell rfl, HZ3.out.cell rfl⟩
  have f0 := HZ3.out.free 0
  have f1 := HZ3.out.free 1
  have f2 := HZ3.out.free 2
  have f3 := HZ3.out.free 3
  have f4 := HZ3.out.free 4
  have f5 := HZ3.out.free 5
  have f6 := HZ3.out.free 6
  go_wp2_with fail
  exact bodyPost_ret (v := .tuple #[.agg #[.int .i64 0, .int .i64 0, .int .i64 0, .int .i64 0, .int .i64 0, .int .i64 0, .int .i64 0], .bool false]) (by simp [results, Try.results20, go_sem, q0, q1, q2, q3, q4, q5, q6]) rfl ⟨rfl, by first | with_reducible exact (((((((HB3.out.setCell (p := ⟨w.heap.size + 1, 0, none⟩) (by simp) (.int .i64 0)).setCell (p := ⟨w.heap.size + 1, 1, none⟩) (by simp) (.int .i64 0)).setCell (p := ⟨w.heap.size + 1, 2, none⟩) (by simp) (.int .i64 0)).setCell (p := ⟨w.heap.size + 1, 3, none⟩) (by simp) (.int .i64 0)).setCell (p := ⟨w.heap.size + 1, 4, none⟩) (by simp) (.int .i64 0)).setCell (p := ⟨w.heap.size + 1, 5, none⟩) (by simp) (.int .i64 0)).setCell (p := ⟨w.heap.size + 1, 6, none⟩) (by simp) (.int .i64 0)) | with_reducible exact HB3.out | exact (((((((HB3.out.setCell (p := ⟨w.heap.size + 1, 0, none⟩) (by simp) (.int .i64 0)).setCell (p := ⟨w.heap.size + 1, 1, none⟩) (by simp) (.int .i64 0)).setCell (p := ⟨w.heap.size + 1, 2, none⟩) (by simp) (.int .i64 0)).setCell (p := ⟨w.heap.size + 1, 3, none⟩) (by simp) (.int .i64 0)).setCell (p := ⟨w.heap.size + 1, 4, none⟩) (by simp) (.int .i64 0)).setCell (p := ⟨w.heap.size + 1, 5, none⟩) (by simp) (.int .i64 0)).setCell (p := ⟨w.heap.size + 1, 6, none⟩) (by simp) (.int .i64 0))⟩
def out (k : Int) (zs : List Int) (m : Int) : (Int × Int × Int × Int × Int × Int × Int) × Bool := if tag k zs = 101 then (((zs.getD 1 0), (zs.getD 2 0), (zs.getD 3 0), (zs.getD 4 0), (zs.getD 5 0), (zs.getD 6 0), m), true) else ((0, 0, 0, 0, 0, 0, 0), false)
theorem piece_any (k : Int) (p : Option Addr) (n c : Nat) (m : Int) (zs : List Int) (y0 y1 y2 y3 y4 y5 y6 : Int) (b : Bool) (h : out k zs m = ((y0, y1, y2, y3, y4, y5, y6), b)) (hm : InI m) (w : World) (hr : Rd .i64 w p n zs) : Calls Try.prog 20 #[.agg #[.int .i64 k, .slice p n c, .int .i64 m]] w (Val (.tuple #[.agg #[.int .i64 y0, .int .i64 y1, .int .i64 y2, .int .i64 y3, .int .i64 y4, .int .i64 y5, .int .i64 y6], .bool b]) w) := by
  unfold out at h
  by_cases ht : tag k zs = 101
  · rw [if_pos ht] at h
    simp only [Prod.mk.injEq] at h
    obtain ⟨⟨rfl, rfl, rfl, rfl, rfl, rfl, rfl⟩, rfl⟩ := h
    exact piece_yes k p n c m zs hm w hr ht
  · rw [if_neg ht] at h
    simp only [Prod.mk.injEq] at h
    obtain ⟨⟨rfl, rfl, rfl, rfl, rfl, rfl, rfl⟩, rfl⟩ := h
    exact piece_no k p n c m zs hm w hr ht
theorem spec_any (k : Int) (p : Option Addr) (n c : Nat) (m : Int) (zs : List Int) (y0 y1 y2 y3 y4 y5 y6 : Int) (b : Bool) (h : out k zs m = ((y0, y1, y2, y3, y4, y5, y6), b)) (w : World) (hr : Rd .i64 w p n zs) : Calls Try.prog 19 #[.agg #[.int .i64 k, .slice p n c, .int .i64 m]] w (Val (.tuple #[.agg #[.int .i64 y0, .int .i64 y1, .int .i64 y2, .int .i64 y3, .int .i64 y4, .int .i64 y5, .int .i64 y6], .bool b]) w) := by
  unfold out at h
  by_cases ht : tag k zs = 101
  · rw [if_pos ht] at h
    simp only [Prod.mk.injEq] at h
    obtain ⟨⟨rfl, rfl, rfl, rfl, rfl, rfl, rfl⟩, rfl⟩ := h
    exact PwCert.spec_yes k p n c m zs w hr ht
  · rw [if_neg ht] at h
    simp only [Prod.mk.injEq] at h
    obtain ⟨⟨rfl, rfl, rfl, rfl, rfl, rfl, rfl⟩, rfl⟩ := h
    exact PwCert.spec_no k p n c m zs w hr ht
end Go.Proofs.Ytgmoldianhkifaa.PoCert

namespace Go.Proofs.Ytgmoldianhkifaa.PwStatus
open Go.ChangeShapes Go.WideShapes Go.ChangeAt Go.RowKit Sl St Ed Dz Kd Pr0
theorem drewB {W w : World} {B : Nat} (h : Below B W w) : Below B W w.drew := below_drewN h 1
set_option maxRecDepth 100000 in
set_option maxHeartbeats 4000000 in
theorem spec_yes (k : Int) (p : Option Addr) (n c : Nat) (m : Int) (zs : List Int) (w : World) (hr : Rd .i64 w p n zs) (ht : tag k zs = 102) : Calls Try.prog 22 #[.agg #[.int .i64 k, .slice p n c, .int .i64 m]] w (Val (.tuple #[.agg #[.int .i64 (zs.getD 1 0), .int .i64 (zs.getD 2 0), .int .i64 (zs.getD 3 0), .int .i64 (zs.getD 4 0), .int .i64 m], .bool true]) w) := by
  have hl := hr.len
  have hb : Below w.heap.size w ((w.alloc (.cells #[.int .i64 k, .slice p n c, .int .i64 m] 31)).alloc (.cells #[.int .i64 0, .int .i64 0, .int .i64 0, .int .i64 0, .int .i64 0] 43)) := (box1 w _).alloc (by simp) _
  have hx := (Bx.new w 31 #[.int .i64 k, .slice p n c, .int .i64 m]).alloc (.cells #[.int .i64 0, .int .i64 0, .int .i64 0, .int .i64 0, .int .i64 0] 43)
  have hz := Bx.new (w.alloc (.cells #[.int .i64 k, .slice p n c, .int .i64 m] 31)) 43 #[.int .i64 0, .int .i64 0, .int .i64 0, .int .i64 0, .int .i64 0]
  rw [World.size_alloc] at hz
  have HBV := Lib.hid hb
  have HX := Lib.hid hx
  have HZ := Lib.hid hz
  have HR := Lib.hid ((RdD.ofInts (S := fun _ => True) hr (fun _ _ _ _ => trivial)).below hb)
  have ho : ownOf k zs = k := by
    by_cases h : ownOf k zs = k
    · exact h
    · rw [tag_other h] at ht
      exact absurd ht (by decide)
  have hkd : kd zs = 102 := by rw [← tag_own ho]; exact ht
  obtain rfl : n = 5 := by
    rcases kd_cases zs hl with ⟨h, _, g⟩ | ⟨h, _, g⟩ | ⟨h, _, g⟩ | ⟨h, _, g⟩ | ⟨h, _, g⟩ | g <;> rw [hkd] at g <;> first | exact h | exact absurd g (by decide)
  have HK : Hid (kind 5 (zs.getD 0 0) = 102) := Lib.hid ((kd_of hl).trans hkd)
  rw [own_Status hkd] at ho
  have HRW := Lib.hid hr
  clear ht hkd hb hx hz hr hl
  skip
  obtain ⟨b, o, rfl, hbb, hc⟩ := cells_of HRW.out (by decide)
  have hne : ¬ b = w.heap.size + 1 := by omega
  have hne2 : ¬ w.heap.size + 1 = b := by omega
  have HCE := Lib.hid hc
  have HBb := Lib.hid hbb
  clear hc hbb
  obtain ⟨z1, hz1⟩ : ∃ z, zs.getD 1 0 = z := ⟨_, rfl⟩
  rw [hz1]
  have HZ_1 := Lib.hid hz1
  clear hz1
  obtain ⟨z2, hz2⟩ : ∃ z, zs.getD 2 0 = z := ⟨_, rfl⟩
  rw [hz2]
  have HZ_2 := Lib.hid hz2
  clear hz2
  obtain ⟨z3, hz3⟩ : ∃ z, zs.getD 3 0 = z := ⟨_, rfl⟩
  rw [hz3]
  have HZ_3 := Lib.hid hz3
  clear hz3
  obtain ⟨z4, hz4⟩ : ∃ z, zs.getD 4 0 = z := ⟨_, rfl⟩
  rw [hz4]
  have HZ_4 := Lib.hid hz4
  clear hz4
  have HCO := Lib.hid (HCE.out 4 (by decide))
  rw [ho] at HCO
  have e1 : (k != k) = false := by simp
  have e2 : (k == k) = true := by simp
  clear ho
  go_enter Try.func22, Try.ntmps22
  go_wp2_with fail
  generalize ((w.alloc (.cells #[.int .i64 k, .slice (some ⟨b, o, none⟩) 5 c, .int .i64 m] 31)).alloc (.cells #[.int .i64 0, .int .i64 0, .int .i64 0, .int .i64 0, .int .i64 0] 43)) = V at HBV HX HZ HR ⊢
  have HC : Hid (∀ w', Qt.Keeps (V) w' → w'.cell? ⟨w.heap.size, 0, none⟩ = some (.int .i64 k) ∧ w'.cell? ⟨w.heap.size, 1, none⟩ = some (.slice (some ⟨b, o, none⟩) 5 c) ∧ w'.cell? ⟨w.heap.size, 2, none⟩ = some (.int .i64 m) ∧ w'.cell? ⟨b, o + 4, none⟩ = some (.int .i64 k)) := Lib.hid fun w' hw => let h := DpPiece.bxc (HX.out.below hw); ⟨h.1, h.2.1, h.2.2, ((below_on HBV.out hw).cell (p := ⟨b, o + 4, none⟩) HBb.out).trans HCO.out⟩
  refine Qt.region (Qt.Keeps (V)) (by kernel_rfl) (by kernel_rfl) (Qt.Keeps.drew _) ?_
  repeat (first
    | go_big_quiet_skip
    | (go_big_quiet_want
       refine Qt.val (v := ?_) (fun w hw => ?_) ?_
       rotate_left
       · obtain ⟨v0, v1, v2, c0⟩ := HC.out w hw
         go_simp
         rfl
       simp only [Act.put, List.setIfInBounds_toArray, List.set_cons_zero, List.set_cons_succ]
       go_big_quiet_on)
    | (go_big_quiet_want
       refine Qt.call (v := .int .i64 102) (f := 58) (args := #[.agg #[.int .i64 k, .slice (some ⟨b, o, none⟩) 5 c, .int .i64 m]]) (fun w hw => ?_) (fun w hw => ?_) ?_
       · go_simp
       · refine (Kq.spec_kind_any k _ _ _ m zs _ (HR.out.below hw).ints).mono ?_
         rintro e w1 ⟨rfl, hb1⟩
         rw [HK.out]
         exact ⟨rfl, hw.then hb1⟩
       simp only [Act.put, List.setIfInBounds_toArray, List.set_cons_zero, List.set_cons_succ]
       go_big_quiet_on))
  refine wpQuiet_nil ?_
  intro w2 hw2
  have HB2 := Lib.hid (below_on HBV.out hw2)
  have HX2 := Lib.hid (HX.out.below hw2)
  have HZ2 := Lib.hid (HZ.out.below hw2)
  have HV2 := Lib.hid hw2
  clear hw2
  have c1 := (HB2.out.cell (p := ⟨b, o + 1, none⟩) HBb.out).trans (HCE.out 1 (by decide))
  have c2 := (HB2.out.cell (p := ⟨b, o + 2, none⟩) HBb.out).trans (HCE.out 2 (by decide))
  have c3 := (HB2.out.cell (p := ⟨b, o + 3, none⟩) HBb.out).trans (HCE.out 3 (by decide))
  have c4 := (HB2.out.cell (p := ⟨b, o + 4, none⟩) HBb.out).trans (HCE.out 4 (by decide))
  rw [HZ_1.out] at c1
  rw [HZ_2.out] at c2
  rw [HZ_3.out] at c3
  rw [HZ_4.out] at c4
  clear HK HCE HCO
  obtain ⟨v0, v1, v2⟩ := DpPiece.bxc HX2.out
  obtain ⟨q0, q1, q2, q3, q4⟩ : w2.cell? ⟨w.heap.size + 1, 0, none⟩ = some (.int .i64 0) ∧ w2.cell? ⟨w.heap.size + 1, 1, none⟩ = some (.int .i64 0) ∧ w2.cell? ⟨w.heap.size + 1, 2, none⟩ = some (.int .i64 0) ∧ w2.cell? ⟨w.heap.size + 1, 3, none⟩ = some (.int .i64 0) ∧ w2.cell? ⟨w.heap.size + 1, 4, none⟩ = some (.int .i64 0) := ⟨HZ2.out.cell rfl, HZ2.out.cell rfl, HZ2.out.cell rfl, HZ2.out.cell rfl, HZ2.out.cell rfl⟩
  have f0 := HZ2.out.free 0
  have f1 := HZ2.out.free 1
  have f2 := HZ2.out.free 2
  have f3 := HZ2.out.free 3
  have f4 := HZ2.out.free 4
  go_wp2_with fail
  go_region_held3 (fun w' => w'.cell? ⟨w.heap.size, 1, none⟩ = some (.slice (some ⟨b, o, none⟩) 5 c) ∧ w'.cell? ⟨w.heap.size, 2, none⟩ = some (.int .i64 m) ∧ w'.cell? ⟨b, o + 1, none⟩ = some (.int .i64 z1) ∧ w'.cell? ⟨b, o + 2, none⟩ = some (.int .i64 z2) ∧ w'.cell? ⟨b, o + 3, none⟩ = some (.int .i64 z3) ∧ w'.cell? ⟨b, o + 4, none⟩ = some (.int .i64 z4)) (first | go_keep) (fail)
  all_goals
    have HBC := HB2
    go_wp2_with fail
    exact bodyPost_ret (v := .tuple #[.agg #[.int .i64 z1, .int .i64 z2, .int .i64 z3, .int .i64 z4, .int .i64 m], .bool true]) (by simp [results, Try.results22, go_sem, q0, q1, q2, q3, q4]) rfl ⟨rfl, by first | with_reducible exact drewB (((((HBC.out.setCell (p := ⟨w.heap.size + 1, 0, none⟩) (by simp) (.int .i64 z1)).setCell (p := ⟨w.heap.size + 1, 1, none⟩) (by simp) (.int .i64 z2)).setCell (p := ⟨w.heap.size + 1, 2, none⟩) (by simp) (.int .i64 z3)).setCell (p := ⟨w.heap.size + 1, 3, none⟩) (by simp) (.int .i64 z4)).setCell (p := ⟨w.heap.size + 1, 4, none⟩) (by simp) (.int .i64 m)) | with_reducible exact HBC.out | exact drewB (((((HBC.out.setCell (p := ⟨w.heap.size + 1, 0, none⟩) (by simp) (.int .i64 z1)).setCell (p := ⟨w.heap.size + 1, 1, none⟩) (by simp) (.int .i64 z2)).setCell (p := ⟨w.heap.size + 1, 2, none⟩) (by simp) (.int .i64 z3)).setCell (p := ⟨w.heap.size + 1, 3, none⟩) (by simp) (.int .i64 z4)).setCell (p := ⟨w.heap.size + 1, 4, none⟩) (by simp) (.int .i64 m))⟩
set_option maxRecDepth 100000 in
set_option maxHeartbeats 4000000 in
theorem spec_no (k : Int) (p : Option Addr) (n c : Nat) (m : Int) (zs : List Int) (w : World) (hr : Rd .i64 w p n zs) (ht : ¬ tag k zs = 102) : Calls Try.prog 22 #[.agg #[.int .i64 k, .slice p n c, .int .i64 m]] w (Val (.tuple #[.agg #[.int .i64 0, .int .i64 0, .int .i64 0, .int .i64 0, .int .i64 0], .bool false]) w) := by
  have hl := hr.len
  have hb : Below w.heap.size w ((w.alloc (.cells #[.int .i64 k, .slice p n c, .int .i64 m] 31)).alloc (.cells #[.int .i64 0, .int .i64 0, .int .i64 0, .int .i64 0, .int .i64 0] 43)) := (box1 w _).alloc (by simp) _
  have hx := (Bx.new w 31 #[.int .i64 k, .slice p n c, .int .i64 m]).alloc (.cells #[.int .i64 0, .int .i64 0, .int .i64 0, .int .i64 0, .int .i64 0] 43)
  have hz := Bx.new (w.alloc (.cells #[.int .i64 k, .slice p n c, .int .i64 m] 31)) 43 #[.int .i64 0, .int .i64 0, .int .i64 0, .int .i64 0, .int .i64 0]
  rw [World.size_alloc] at hz
  have HBV := Lib.hid hb
  have HX := Lib.hid hx
  have HZ := Lib.hid hz
  have HR := Lib.hid ((RdD.ofInts (S := fun _ => True) hr (fun _ _ _ _ => trivial)).below hb)
  have HRW := Lib.hid hr
  clear hb hx hz hr
  by_cases hkd : kd zs = 102
  rotate_left
  · obtain ⟨κ, hκ⟩ : ∃ z, kind n (zs.getD 0 0) = z := ⟨_, rfl⟩
    have hne : ¬ κ = 102 := by rw [← hκ, kd_of hl]; exact hkd
    have HK := Lib.hid hκ
    have e1 : (κ != 102) = true := bne_iff_ne.2 hne
    have e2 : (κ == 102) = false := beq_eq_false_iff_ne.2 hne
    clear hκ hne hkd hl ht
    go_enter Try.func22, Try.ntmps22
    go_wp2_with fail
    generalize ((w.alloc (.cells #[.int .i64 k, .slice p n c, .int .i64 m] 31)).alloc (.cells #[.int .i64 0, .int .i64 0, .int .i64 0, .int .i64 0, .int .i64 0] 43)) = V at HBV HX HZ HR ⊢
    have HC : Hid (∀ w', Qt.Keeps (V) w' → w'.cell? ⟨w.heap.size, 0, none⟩ = some (.int .i64 k) ∧ w'.cell? ⟨w.heap.size, 1, none⟩ = some (.slice p n c) ∧ w'.cell? ⟨w.heap.size, 2, none⟩ = some (.int .i64 m)) := Lib.hid fun w' hw => DpPiece.bxc (HX.out.below hw)
    refine Qt.region (Qt.Keeps (V)) (by kernel_rfl) (by kernel_rfl) (Qt.Keeps.drew _) ?_
    repeat (first
      | go_big_quiet_skip
      | (go_big_quiet_want
         refine Qt.val (v := ?_) (fun w hw => ?_) ?_
         rotate_left
         · obtain ⟨v0, v1, v2⟩ := HC.out w hw
           go_simp
           rfl
         simp only [Act.put, List.setIfInBounds_toArray, List.set_cons_zero, List.set_cons_succ]
         go_big_quiet_on)
      | (go_big_quiet_want
         refine Qt.call (v := .int .i64 κ) (f := 58) (args := #[.agg #[.int .i64 k, .slice p n c, .int .i64 m]]) (fun w hw => ?_) (fun w hw => ?_) ?_
         · go_simp
         · refine (Kq.spec_kind_any k _ _ _ m zs _ (HR.out.below hw).ints).mono ?_
           rintro e w1 ⟨rfl, hb1⟩
           rw [HK.out]
           exact ⟨rfl, hw.then hb1⟩
         simp only [Act.put, List.setIfInBounds_toArray, List.set_cons_zero, List.set_cons_succ]
         go_big_quiet_on))
    refine wpQuiet_nil ?_
    intro w2 hw2
    have HB2 := Lib.hid (below_on HBV.out hw2)
    have HX2 := Lib.hid (HX.out.below hw2)
    have HZ2 := Lib.hid (HZ.out.below hw2)
    have HV2 := Lib.hid hw2
    clear hw2
    obtain ⟨q0, q1, q2, q3, q4⟩ : w2.cell? ⟨w.heap.size + 1, 0, none⟩ = some (.int .i64 0) ∧ w2.cell? ⟨w.heap.size + 1, 1, none⟩ = some (.int .i64 0) ∧ w2.cell? ⟨w.heap.size + 1, 2, none⟩ = some (.int .i64 0) ∧ w2.cell? ⟨w.heap.size + 1, 3, none⟩ = some (.int .i64 0) ∧ w2.cell? ⟨w.heap.size + 1, 4, none⟩ = some (.int .i64 0) := ⟨HZ2.out.cell rfl, HZ2.out.cell rfl, HZ2.out.cell rfl, HZ2.out.cell rfl, HZ2.out.cell rfl⟩
    have f0 := HZ2.out.free 0
    have f1 := HZ2.out.free 1
    have f2 := HZ2.out.free 2
    have f3 := HZ2.out.free 3
    have f4 := HZ2.out.free 4
    have HBC := HB2
    go_wp2_with fail
    exact bodyPost_ret (v := .tuple #[.agg #[.int .i64 0, .int .i64 0, .int .i64 0, .int .i64 0, .int .i64 0], .bool false]) (by simp [results, Try.results22, go_sem, q0, q1, q2, q3, q4]) rfl ⟨rfl, by first | with_reducible exact (((((HBC.out.setCell (p := ⟨w.heap.size + 1, 0, none⟩) (by simp) (.int .i64 0)).setCell (p := ⟨w.heap.size + 1, 1, none⟩) (by simp) (.int .i64 0)).setCell (p := ⟨w.heap.size + 1, 2, none⟩) (by simp) (.int .i64 0)).setCell (p := ⟨w.heap.size + 1, 3, none⟩) (by simp) (.int .i64 0)).setCell (p := ⟨w.heap.size + 1, 4, none⟩) (by simp) (.int .i64 0)) | with_reducible exact HBC.out | exact (((((HBC.out.setCell (p := ⟨w.heap.size + 1, 0, none⟩) (by simp) (.int .i64 0)).setCell (p := ⟨w.heap.size + 1, 1, none⟩) (by simp) (.int .i64 0)).setCell (p := ⟨w.heap.size + 1, 2, none⟩) (by simp) (.int .i64 0)).setCell (p := ⟨w.heap.size + 1, 3, none⟩) (by simp) (.int .i64 0)).setCell (p := ⟨w.heap.size + 1, 4, none⟩) (by simp) (.int .i64 0))⟩
  · have ho : ¬ zs.getD 4 0 = k := fun h => ht (by rw [tag_own (by rw [own_Status hkd]; exact h), hkd])
    obtain rfl : n = 5 := by
      rcases kd_cases zs hl with ⟨h, _, g⟩ | ⟨h, _, g⟩ | ⟨h, _, g⟩ | ⟨h, _, g⟩ | ⟨h, _, g⟩ | g <;> rw [hkd] at g <;> first | exact h | exact absurd g (by decide)
    have HK : Hid (kind 5 (zs.getD 0 0) = 102) := Lib.hid ((kd_of hl).trans hkd)
    clear ht hkd hl
    obtain ⟨b, o, rfl, hbb, hc⟩ := cells_of HRW.out (by decide)
    have hne : ¬ b = w.heap.size + 1 := by omega
    have hne2 : ¬ w.heap.size + 1 = b := by omega
    have HCE := Lib.hid hc
    have HBb := Lib.hid hbb
    clear hc hbb
    have HCO := Lib.hid (HCE.out 4 (by decide))
    generalize zs.getD 4 0 = zo at HCO ho
    have e1 : (zo != k) = true := bne_iff_ne.2 ho
    have e2 : (zo == k) = false := beq_eq_false_iff_ne.2 ho
    clear ho
    go_enter Try.func22, Try.ntmps22
    go_wp2_with fail
    generalize ((w.alloc (.cells #[.int .i64 k, .slice (some ⟨b, o, none⟩) 5 c, .int .i64 m] 31)).alloc (.cells #[.int .i64 0, .int .i64 0, .int .i64 0, .int .i64 0, .int .i64 0] 43)) = V at HBV HX HZ HR HCE HBb HCO ⊢
    have HC : Hid (∀ w', Qt.Keeps (V) w' → w'.cell? ⟨w.heap.size, 0, none⟩ = some (.int .i64 k) ∧ w'.cell? ⟨w.heap.size, 1, none⟩ = some (.slice (some ⟨b, o, none⟩) 5 c) ∧ w'.cell? ⟨w.heap.size, 2, none⟩ = some (.int .i64 m) ∧ w'.cell? ⟨b, o + 4, none⟩ = some (.int .i64 zo)) := Lib.hid fun w' hw => let h := DpPiece.bxc (HX.out.below hw); ⟨h.1, h.2.1, h.2.2, ((below_on HBV.out hw).cell (p := ⟨b, o + 4, none⟩) HBb.out).trans HCO.out⟩
    refine Qt.region (Qt.Keeps (V)) (by kernel_rfl) (by kernel_rfl) (Qt.Keeps.drew _) ?_
    repeat (first
      | go_big_quiet_skip
      | (go_big_quiet_want
         refine Qt.val (v := ?_) (fun w hw => ?_) ?_
         rotate_left
         · obtain ⟨v0, v1, v2, c0⟩ := HC.out w hw
           go_simp
           rfl
         simp only [Act.put, List.setIfInBounds_toArray, List.set_cons_zero, List.set_cons_succ]
         go_big_quiet_on)
      | (go_big_quiet_want
         refine Qt.call (v := .int .i64 102) (f := 58) (args := #[.agg #[.int .i64 k, .slice (some ⟨b, o, none⟩) 5 c, .int .i64 m]]) (fun w hw => ?_) (fun w hw => ?_) ?_
         · go_simp
         · refine (Kq.spec_kind_any k _ _ _ m zs _ (HR.out.below hw).ints).mono ?_
           rintro e w1 ⟨rfl, hb1⟩
           rw [HK.out]
           exact ⟨rfl, hw.then hb1⟩
         simp only [Act.put, List.setIfInBounds_toArray, List.set_cons_zero, List.set_cons_succ]
         go_big_quiet_on))
    refine wpQuiet_nil ?_
    intro w2 hw2
    have HB2 := Lib.hid (below_on HBV.out hw2)
    have HX2 := Lib.hid (HX.out.below hw2)
    have HZ2 := Lib.hid (HZ.out.below hw2)
    have HV2 := Lib.hid hw2
    clear hw2
    obtain ⟨q0, q1, q2, q3, q4⟩ : w2.cell? ⟨w.heap.size + 1, 0, none⟩ = some (.int .i64 0) ∧ w2.cell? ⟨w.heap.size + 1, 1, none⟩ = some (.int .i64 0) ∧ w2.cell? ⟨w.heap.size + 1, 2, none⟩ = some (.int .i64 0) ∧ w2.cell? ⟨w.heap.size + 1, 3, none⟩ = some (.int .i64 0) ∧ w2.cell? ⟨w.heap.size + 1, 4, none⟩ = some (.int .i64 0) := ⟨HZ2.out.cell rfl, HZ2.out.cell rfl, HZ2.out.cell rfl, HZ2.out.cell rfl, HZ2.out.cell rfl⟩
    have f0 := HZ2.out.free 0
    have f1 := HZ2.out.free 1
    have f2 := HZ2.out.free 2
    have f3 := HZ2.out.free 3
    have f4 := HZ2.out.free 4
    have HBC := HB2
    go_wp2_with fail
    exact bodyPost_ret (v := .tuple #[.agg #[.int .i64 0, .int .i64 0, .int .i64 0, .int .i64 0, .int .i64 0], .bool false]) (by simp [results, Try.results22, go_sem, q0, q1, q2, q3, q4]) rfl ⟨rfl, by first | with_reducible exact (((((HBC.out.setCell (p := ⟨w.heap.size + 1, 0, none⟩) (by simp) (.int .i64 0)).setCell (p := ⟨w.heap.size + 1, 1, none⟩) (by simp) (.int .i64 0)).setCell (p := ⟨w.heap.size + 1, 2, none⟩) (by simp) (.int .i64 0)).setCell (p := ⟨w.heap.size + 1, 3, none⟩) (by simp) (.int .i64 0)).setCell (p := ⟨w.heap.size + 1, 4, none⟩) (by simp) (.int .i64 0)) | with_reducible exact HBC.out | exact (((((HBC.out.setCell (p := ⟨w.heap.size + 1, 0, none⟩) (by simp) (.int .i64 0)).setCell (p := ⟨w.heap.size + 1, 1, none⟩) (by simp) (.int .i64 0)).setCell (p := ⟨w.heap.size + 1, 2, none⟩) (by simp) (.int .i64 0)).setCell (p := ⟨w.heap.size + 1, 3, none⟩) (by simp) (.int .i64 0)).setCell (p := ⟨w.heap.size + 1, 4, none⟩) (by simp) (.int .i64 0))⟩
end Go.Proofs.Ytgmoldianhkifaa.PwStatus
namespace Go.Proofs.Ytgmoldianhkifaa.PoStatus
open Go.ChangeShapes Go.WideShapes Go.ChangeAt Go.RowKit Sl St Ed Dz Kd Pr0 PrStatus
set_option maxRecDepth 100000 in
set_option maxHeartbeats 4000000 in
theorem piece_yes (k : Int) (p : Option Addr) (n c : Nat) (m : Int) (zs : List Int) (hm : InI m) (w : World) (hr : Rd .i64 w p n zs) (ht : tag k zs = 102) : Calls Try.prog 23 #[.agg #[.int .i64 k, .slice p n c, .int .i64 m]] w (Val (.tuple #[.agg #[.int .i64 (zs.getD 1 0), .int .i64 (zs.getD 2 0), .int .i64 (zs.getD 3 0), .int .i64 (zs.getD 4 0), .int .i64 m], .bool true]) w) := by
  have hb : Below w.heap.size w ((w.alloc (.cells #[.int .i64 k, .slice p n c, .int .i64 m] 31)).alloc (.cells #[.int .i64 0, .int .i64 0, .int .i64 0, .int .i64 0, .int .i64 0] 43)) := (box1 w _).alloc (by simp) _
  have hx := (Bx.new w 31 #[.int .i64 k, .slice p n c, .int .i64 m]).alloc (.cells #[.int .i64 0, .int .i64 0, .int .i64 0, .int .i64 0, .int .i64 0] 43)
  have hz := Bx.new (w.alloc (.cells #[.int .i64 k, .slice p n c, .int .i64 m] 31)) 43 #[.int .i64 0, .int .i64 0, .int .i64 0, .int .i64 0, .int .i64 0]
  rw [World.size_alloc] at hz
  have HBV := Lib.hid hb
  have HX := Lib.hid hx
  have HZ := Lib.hid hz
  have HR := Lib.hid ((RdD.ofInts (S := fun _ => True) hr (fun _ _ _ _ => trivial)).below hb)
  clear hb hx hz hr
  obtain ⟨v0, v1, v2⟩ := DpPiece.bxc HX.out
  obtain ⟨z1, hz1⟩ : ∃ z, zs.getD 1 0 = z := ⟨_, rfl⟩
  rw [hz1]
  have HZ_1 := Lib.hid hz1
  clear hz1
  obtain ⟨z2, hz2⟩ : ∃ z, zs.getD 2 0 = z := ⟨_, rfl⟩
  rw [hz2]
  have HZ_2 := Lib.hid hz2
  clear hz2
  obtain ⟨z3, hz3⟩ : ∃ z, zs.getD 3 0 = z := ⟨_, rfl⟩
  rw [hz3]
  have HZ_3 := Lib.hid hz3
  clear hz3
  obtain ⟨z4, hz4⟩ : ∃ z, zs.getD 4 0 = z := ⟨_, rfl⟩
  rw [hz4]
  have HZ_4 := Lib.hid hz4
  clear hz4
  go_enter Try.func23, Try.ntmps23
  go_wp2_with fail
  generalize ((w.alloc (.cells #[.int .i64 k, .slice p n c, .int .i64 m] 31)).alloc (.cells #[.int .i64 0, .int .i64 0, .int .i64 0, .int .i64 0, .int .i64 0] 43)) = V at HBV HX HZ HR ⊢
  refine (stated_yes k _ _ _ m zs hm V HR.out.ints ht).mono ?_
  rintro e w2 ⟨rfl, hb⟩
  have HB2 := Lib.hid (below_on HBV.out hb)
  have HZ2 := Lib.hid (HZ.out.below hb)
  clear hb v0 v1 v2 ht
  rw [HZ_1.out, HZ_2.out, HZ_3.out, HZ_4.out]
  have HZ3 := HZ2
  have HB3 := HB2
  obtain ⟨q0, q1, q2, q3, q4⟩ : w2.cell? ⟨w.heap.size + 1, 0, none⟩ = some (.int .i64 0) ∧ w2.cell? ⟨w.heap.size + 1, 1, none⟩ = some (.int .i64 0) ∧ w2.cell? ⟨w.heap.size + 1, 2, none⟩ = some (.int .i64 0) ∧ w2.cell? ⟨w.heap.size + 1, 3, none⟩ = some (.int .i64 0) ∧ w2.cell? ⟨w.heap.size + 1, 4, none⟩ = some (.int .i64 0) := ⟨HZ3.out.cell rfl, HZ3.out.cell rfl, HZ3.out.cell rfl, HZ3.out.cell rfl, HZ3.out.cell rfl⟩
  have f0 := HZ3.out.free 0
  have f1 := HZ3.out.free 1
  have f2 := HZ3.out.free 2
  have f3 := HZ3.out.free 3
  have f4 := HZ3.out.free 4
  go_wp2_with fail
  exact bodyPost_ret (v := .tuple #[.agg #[.int .i64 z1, .int .i64 z2, .int .i64 z3, .int .i64 z4, .int .i64 m], .bool true]) (by simp [results, Try.results23, go_sem, q0, q1, q2, q3, q4]) rfl ⟨rfl, by first | with_reducible exact (((((HB3.out.setCell (p := ⟨w.heap.size + 1, 0, none⟩) (by simp) (.int .i64 z1)).setCell (p := ⟨w.heap.size + 1, 1, none⟩) (by simp) (.int .i64 z2)).setCell (p := ⟨w.heap.size + 1, 2, none⟩) (by simp) (.int .i64 z3)).setCell (p := ⟨w.heap.size + 1, 3, none⟩) (by simp) (.int .i64 z4)).setCell (p := ⟨w.heap.size + 1, 4, none⟩) (by simp) (.int .i64 m)) | with_reducible exact HB3.out | exact (((((HB3.out.setCell (p := ⟨w.heap.size + 1, 0, none⟩) (by simp) (.int .i64 z1)).setCell (p := ⟨w.heap.size + 1, 1, none⟩) (by simp) (.int .i64 z2)).setCell (p := ⟨w.heap.size + 1, 2, none⟩) (by simp) (.int .i64 z3)).setCell (p := ⟨w.heap.size + 1, 3, none⟩) (by simp) (.int .i64 z4)).setCell (p := ⟨w.heap.size + 1, 4, none⟩) (by simp) (.int .i64 m))⟩
set_option maxRecDepth 100000 in
set_option maxHeartbeats 4000000 in
theorem piece_no (k : Int) (p : Option Addr) (n c : Nat) (m : Int) (zs : List Int) (hm : InI m) (w : World) (hr : Rd .i64 w p n zs) (ht : ¬ tag k zs = 102) : Calls Try.prog 23 #[.agg #[.int .i64 k, .slice p n c, .int .i64 m]] w (Val (.tuple #[.agg #[.int .i64 0, .int .i64 0, .int .i64 0, .int .i64 0, .int .i64 0], .bool false]) w) := by
  have hb : Below w.heap.size w ((w.alloc (.cells #[.int .i64 k, .slice p n c, .int .i64 m] 31)).alloc (.cells #[.int .i64 0, .int .i64 0, .int .i64 0, .int .i64 0, .int .i64 0] 43)) := (box1 w _).alloc (by simp) _
  have hx := (Bx.new w 31 #[.int .i64 k, .slice p n c, .int .i64 m]).alloc (.cells #[.int .i64 0, .int .i64 0, .int .i64 0, .int .i64 0, .int .i64 0] 43)
  have hz := Bx.new (w.alloc (.cells #[.int .i64 k, .slice p n c, .int .i64 m] 31)) 43 #[.int .i64 0, .int .i64 0, .int .i64 0, .int .i64 0, .int .i64 0]
  rw [World.size_alloc] at hz
  have HBV := Lib.hid hb
  have HX := Lib.hid hx
  have HZ := Lib.hid hz
  have HR := Lib.hid ((RdD.ofInts (S := fun _ => True) hr (fun _ _ _ _ => trivial)).below hb)
  clear hb hx hz hr
  obtain ⟨v0, v1, v2⟩ := DpPiece.bxc HX.out
  go_enter Try.func23, Try.ntmps23
  go_wp2_with fail
  generalize ((w.alloc (.cells #[.int .i64 k, .slice p n c, .int .i64 m] 31)).alloc (.cells #[.int .i64 0, .int .i64 0, .int .i64 0, .int .i64 0, .int .i64 0] 43)) = V at HBV HX HZ HR ⊢
  refine (stated_no k _ _ _ m zs hm V HR.out.ints ht).mono ?_
  rintro e w2 ⟨rfl, hb⟩
  have HB2 := Lib.hid (below_on HBV.out hb)
  have HZ2 := Lib.hid (HZ.out.below hb)
  clear hb v0 v1 v2 ht
  have HZ3 := HZ2
  have HB3 := HB2
  obtain ⟨q0, q1, q2, q3, q4⟩ : w2.cell? ⟨w.heap.size + 1, 0, none⟩ = some (.int .i64 0) ∧ w2.cell? ⟨w.heap.size + 1, 1, none⟩ = some (.int .i64 0) ∧ w2.cell? ⟨w.heap.size + 1, 2, none⟩ = some (.int .i64 0) ∧ w2.cell? ⟨w.heap.size + 1, 3, none⟩ = some (.int .i64 0) ∧ w2.cell? ⟨w.heap.size + 1, 4, none⟩ = some (.int .i64 0) := ⟨HZ3.out.cell rfl, HZ3.out.cell rfl, HZ3.out.cell rfl, HZ3.out.cell rfl, HZ3.out.cell rfl⟩
  have f0 := HZ3.out.free 0
  have f1 := HZ3.out.free 1
  have f2 := HZ3.out.free 2
  have f3 := HZ3.out.free 3
  have f4 := HZ3.out.free 4
  go_wp2_with fail
  exact bodyPost_ret (v := .tuple #[.agg #[.int .i64 0, .int .i64 0, .int .i64 0, .int .i64 0, .int .i64 0], .bool false]) (by simp [results, Try.results23, go_sem, q0, q1, q2, q3, q4]) rfl ⟨rfl, by first | with_reducible exact (((((HB3.out.setCell (p := ⟨w.heap.size + 1, 0, none⟩) (by simp) (.int .i64 0)).setCell (p := ⟨w.heap.size + 1, 1, none⟩) (by simp) (.int .i64 0)).setCell (p := ⟨w.heap.size + 1, 2, none⟩) (by simp) (.int .i64 0)).setCell (p := ⟨w.heap.size + 1, 3, none⟩) (by simp) (.int .i64 0)).setCell (p := ⟨w.heap.size + 1, 4, none⟩) (by simp) (.int .i64 0)) | with_reducible exact HB3.out | exact (((((HB3.out.setCell (p := ⟨w.heap.size + 1, 0, none⟩) (by simp) (.int .i64 0)).setCell (p := ⟨w.heap.size + 1, 1, none⟩) (by simp) (.int .i64 0)).setCell (p := ⟨w.heap.size + 1, 2, none⟩) (by simp) (.int .i64 0)).setCell (p := ⟨w.heap.size + 1, 3, none⟩) (by simp) (.int .i64 0)).setCell (p := ⟨w.heap.size + 1, 4, none⟩) (by simp) (.int .i64 0))⟩
def out (k : Int) (zs : List Int) (m : Int) : (Int × Int × Int × Int × Int) × Bool := if tag k zs = 102 then (((zs.getD 1 0), (zs.getD 2 0), (zs.getD 3 0), (zs.getD 4 0), m), true) else ((0, 0, 0, 0, 0), false)
theorem piece_any (k : Int) (p : Option Addr) (n c : Nat) (m : Int) (zs : List Int) (y0 y1 y2 y3 y4 : Int) (b : Bool) (h : out k zs m = ((y0, y1, y2, y3, y4), b)) (hm : InI m) (w : World) (hr : Rd .i64 w p n zs) : Calls Try.prog 23 #[.agg #[.int .i64 k, .slice p n c, .int .i64 m]] w (Val (.tuple #[.agg #[.int .i64 y0, .int .i64 y1, .int .i64 y2, .int .i64 y3, .int .i64 y4], .bool b]) w) := by
  unfold out at h
  by_cases ht : tag k zs = 102
  · rw [if_pos ht] at h
    simp only [Prod.mk.injEq] at h
    obtain ⟨⟨rfl, rfl, rfl, rfl, rfl⟩, rfl⟩ := h
    exact piece_yes k p n c m zs hm w hr ht
  · rw [if_neg ht] at h
    simp only [Prod.mk.injEq] at h
    obtain ⟨⟨rfl, rfl, rfl, rfl, rfl⟩, rfl⟩ := h
    exact piece_no k p n c m zs hm w hr ht
theorem spec_any (k : Int) (p : Option Addr) (n c : Nat) (m : Int) (zs : List Int) (y0 y1 y2 y3 y4 : Int) (b : Bool) (h : out k zs m = ((y0, y1, y2, y3, y4), b)) (w : World) (hr : Rd .i64 w p n zs) : Calls Try.prog 22 #[.agg #[.int .i64 k, .slice p n c, .int .i64 m]] w (Val (.tuple #[.agg #[.int .i64 y0, .int .i64 y1, .int .i64 y2, .int .i64 y3, .int .i64 y4], .bool b]) w) := by
  unfold out at h
  by_cases ht : tag k zs = 102
  · rw [if_pos ht] at h
    simp only [Prod.mk.injEq] at h
    obtain ⟨⟨rfl, rfl, rfl, rfl, rfl⟩, rfl⟩ := h
    exact PwStatus.spec_yes k p n c m zs w hr ht
  · rw [if_neg ht] at h
    simp only [Prod.mk.injEq] at h
    obtain ⟨⟨rfl, rfl, rfl, rfl, rfl⟩, rfl⟩ := h
    exact PwStatus.spec_no k p n c m zs w hr ht
end Go.Proofs.Ytgmoldianhkifaa.PoStatus

namespace Go.Proofs.Ytgmoldianhkifaa.PwStamp
open Go.ChangeShapes Go.WideShapes Go.ChangeAt Go.RowKit Sl St Ed Dz Kd Pr0
theorem drewB {W w : World} {B : Nat} (h : Below B W w) : Below B W w.drew := below_drewN h 1
set_option maxRecDepth 100000 in
set_option maxHeartbeats 4000000 in
theorem spec_yes (k : Int) (p : Option Addr) (n c : Nat) (m : Int) (zs : List Int) (w : World) (hr : Rd .i64 w p n zs) (ht : tag k zs = 103) : Calls Try.prog 25 #[.agg #[.int .i64 k, .slice p n c, .int .i64 m]] w (Val (.tuple #[.agg #[.int .i64 (zs.getD 1 0), .int .i64 (zs.getD 2 0), .int .i64 (zs.getD 3 0), .int .i64 (zs.getD 4 0), .int .i64 m], .bool true]) w) := by
  have hl := hr.len
  have hb : Below w.heap.size w ((w.alloc (.cells #[.int .i64 k, .slice p n c, .int .i64 m] 31)).alloc (.cells #[.int .i64 0, .int .i64 0, .int .i64 0, .int .i64 0, .int .i64 0] 48)) := (box1 w _).alloc (by simp) _
  have hx := (Bx.new w 31 #[.int .i64 k, .slice p n c, .int .i64 m]).alloc (.cells #[.int .i64 0, .int .i64 0, .int .i64 0, .int .i64 0, .int .i64 0] 48)
  have hz := Bx.new (w.alloc (.cells #[.int .i64 k, .slice p n c, .int .i64 m] 31)) 48 #[.int .i64 0, .int .i64 0, .int .i64 0, .int .i64 0, .int .i64 0]
  rw [World.size_alloc] at hz
  have HBV := Lib.hid hb
  have HX := Lib.hid hx
  have HZ := Lib.hid hz
  have HR := Lib.hid ((RdD.ofInts (S := fun _ => True) hr (fun _ _ _ _ => trivial)).below hb)
  have ho : ownOf k zs = k := by
    by_cases h : ownOf k zs = k
    · exact h
    · rw [tag_other h] at ht
      exact absurd ht (by decide)
  have hkd : kd zs = 103 := by rw [← tag_own ho]; exact ht
  obtain rfl : n = 5 := by
    rcases kd_cases zs hl with ⟨h, _, g⟩ | ⟨h, _, g⟩ | ⟨h, _, g⟩ | ⟨h, _, g⟩ | ⟨h, _, g⟩ | g <;> rw [hkd] at g <;> first | exact h | exact absurd g (by decide)
  have HK : Hid (kind 5 (zs.getD 0 0) = 103) := Lib.hid ((kd_of hl).trans hkd)
  rw [own_Stamp hkd] at ho
  have HRW := Lib.hid hr
  clear ht hkd hb hx hz hr hl
  skip
  obtain ⟨b, o, rfl, hbb, hc⟩ := cells_of HRW.out (by decide)
  have hne : ¬ b = w.heap.size + 1 := by omega
  have hne2 : ¬ w.heap.size + 1 = b := by omega
  have HCE := Lib.hid hc
  have HBb := Lib.hid hbb
  clear hc hbb
  obtain ⟨z1, hz1⟩ : ∃ z, zs.getD 1 0 = z := ⟨_, rfl⟩
  rw [hz1]
  have HZ_1 := Lib.hid hz1
  clear hz1
  obtain ⟨z2, hz2⟩ : ∃ z, zs.getD 2 0 = z := ⟨_, rfl⟩
  rw [hz2]
  have HZ_2 := Lib.hid hz2
  clear hz2
  obtain ⟨z3, hz3⟩ : ∃ z, zs.getD 3 0 = z := ⟨_, rfl⟩
  rw [hz3]
  have HZ_3 := Lib.hid hz3
  clear hz3
  obtain ⟨z4, hz4⟩ : ∃ z, zs.getD 4 0 = z := ⟨_, rfl⟩
  rw [hz4]
  have HZ_4 := Lib.hid hz4
  clear hz4
  have e1 : ((103 : Int) != 103) = false := by decide
  go_enter Try.func25, Try.ntmps25
  obtain ⟨v0, v1, v2⟩ := DpPiece.bxc HX.out
  go_wp2_with fail
  generalize ((w.alloc (.cells #[.int .i64 k, .slice (some ⟨b, o, none⟩) 5 c, .int .i64 m] 31)).alloc (.cells #[.int .i64 0, .int .i64 0, .int .i64 0, .int .i64 0, .int .i64 0] 48)) = V at HBV HX HZ HR ⊢
  refine (Kq.spec_kind_any k _ _ _ m zs V HR.out.ints).mono ?_
  rintro e w2 ⟨rfl, hb⟩
  rw [HK.out]
  have HB2 := Lib.hid (below_on HBV.out hb)
  have HX2 := Lib.hid (HX.out.below hb)
  have HZ2 := Lib.hid (HZ.out.below hb)
  have HV2 := Lib.hid hb
  clear hb v0 v1 v2
  have c1 := (HB2.out.cell (p := ⟨b, o + 1, none⟩) HBb.out).trans (HCE.out 1 (by decide))
  have c2 := (HB2.out.cell (p := ⟨b, o + 2, none⟩) HBb.out).trans (HCE.out 2 (by decide))
  have c3 := (HB2.out.cell (p := ⟨b, o + 3, none⟩) HBb.out).trans (HCE.out 3 (by decide))
  have c4 := (HB2.out.cell (p := ⟨b, o + 4, none⟩) HBb.out).trans (HCE.out 4 (by decide))
  rw [HZ_1.out] at c1
  rw [HZ_2.out] at c2
  rw [HZ_3.out] at c3
  rw [HZ_4.out] at c4
  clear HK HCE
  obtain ⟨v0, v1, v2⟩ := DpPiece.bxc HX2.out
  obtain ⟨q0, q1, q2, q3, q4⟩ : w2.cell? ⟨w.heap.size + 1, 0, none⟩ = some (.int .i64 0) ∧ w2.cell? ⟨w.heap.size + 1, 1, none⟩ = some (.int .i64 0) ∧ w2.cell? ⟨w.heap.size + 1, 2, none⟩ = some (.int .i64 0) ∧ w2.cell? ⟨w.heap.size + 1, 3, none⟩ = some (.int .i64 0) ∧ w2.cell? ⟨w.heap.size + 1, 4, none⟩ = some (.int .i64 0) := ⟨HZ2.out.cell rfl, HZ2.out.cell rfl, HZ2.out.cell rfl, HZ2.out.cell rfl, HZ2.out.cell rfl⟩
  have f0 := HZ2.out.free 0
  have f1 := HZ2.out.free 1
  have f2 := HZ2.out.free 2
  have f3 := HZ2.out.free 3
  have f4 := HZ2.out.free 4
  go_wp2_with fail
  go_region_held3 (fun w' => w'.cell? ⟨w.heap.size, 1, none⟩ = some (.slice (some ⟨b, o, none⟩) 5 c) ∧ w'.cell? ⟨w.heap.size, 2, none⟩ = some (.int .i64 m) ∧ w'.cell? ⟨b, o + 1, none⟩ = some (.int .i64 z1) ∧ w'.cell? ⟨b, o + 2, none⟩ = some (.int .i64 z2) ∧ w'.cell? ⟨b, o + 3, none⟩ = some (.int .i64 z3) ∧ w'.cell? ⟨b, o + 4, none⟩ = some (.int .i64 z4)) (first | go_keep) (fail)
  all_goals
    have HBC := HB2
    go_wp2_with fail
    exact bodyPost_ret (v := .tuple #[.agg #[.int .i64 z1, .int .i64 z2, .int .i64 z3, .int .i64 z4, .int .i64 m], .bool true]) (by simp [results, Try.results25, go_sem, q0, q1, q2, q3, q4]) rfl ⟨rfl, by first | with_reducible exact drewB (((((HBC.out.setCell (p := ⟨w.heap.size + 1, 0, none⟩) (by simp) (.int .i64 z1)).setCell (p := ⟨w.heap.size + 1, 1, none⟩) (by simp) (.int .i64 z2)).setCell (p := ⟨w.heap.size + 1, 2, none⟩) (by simp) (.int .i64 z3)).setCell (p := ⟨w.heap.size + 1, 3, none⟩) (by simp) (.int .i64 z4)).setCell (p := ⟨w.heap.size + 1, 4, none⟩) (by simp) (.int .i64 m)) | with_reducible exact HBC.out | exact drewB (((((HBC.out.setCell (p := ⟨w.heap.size + 1, 0, none⟩) (by simp) (.int .i64 z1)).setCell (p := ⟨w.heap.size + 1, 1, none⟩) (by simp) (.int .i64 z2)).setCell (p := ⟨w.heap.size + 1, 2, none⟩) (by simp) (.int .i64 z3)).setCell (p := ⟨w.heap.size + 1, 3, none⟩) (by simp) (.int .i64 z4)).setCell (p := ⟨w.heap.size + 1, 4, none⟩) (by simp) (.int .i64 m))⟩
set_option maxRecDepth 100000 in
set_option maxHeartbeats 4000000 in
theorem spec_no (k : Int) (p : Option Addr) (n c : Nat) (m : Int) (zs : List Int) (w : World) (hr : Rd .i64 w p n zs) (ht : ¬ tag k zs = 103) : Calls Try.prog 25 #[.agg #[.int .i64 k, .slice p n c, .int .i64 m]] w (Val (.tuple #[.agg #[.int .i64 0, .int .i64 0, .int .i64 0, .int .i64 0, .int .i64 0], .bool false]) w) := by
  have hl := hr.len
  have hb : Below w.heap.size w ((w.alloc (.cells #[.int .i64 k, .slice p n c, .int .i64 m] 31)).alloc (.cells #[.int .i64 0, .int .i64 0, .int .i64 0, .int .i64 0, .int .i64 0] 48)) := (box1 w _).alloc (by simp) _
  have hx := (Bx.new w 31 #[.int .i64 k, .slice p n c, .int .i64 m]).alloc (.cells #[.int .i64 0, .int .i64 0, .int .i64 0, .int .i64 0, .int .i64 0] 48)
  have hz := Bx.new (w.alloc (.cells #[.int .i64 k, .slice p n c, .int .i64 m] 31)) 48 #[.int .i64 0, .int .i64 0, .int .i64 0, .int .i64 0, .int .i64 0]
  rw [World.size_alloc] at hz
  have HBV := Lib.hid hb
  have HX := Lib.hid hx
  have HZ := Lib.hid hz
  have HR := Lib.hid ((RdD.ofInts (S := fun _ => True) hr (fun _ _ _ _ => trivial)).below hb)
  have HRW := Lib.hid hr
  clear hb hx hz hr
  by_cases hkd : kd zs = 103
  rotate_left
  · obtain ⟨κ, hκ⟩ : ∃ z, kind n (zs.getD 0 0) = z := ⟨_, rfl⟩
    have hne : ¬ κ = 103 := by rw [← hκ, kd_of hl]; exact hkd
    have HK := Lib.hid hκ
    have e1 : (κ != 103) = true := bne_iff_ne.2 hne
    have e2 : (κ == 103) = false := beq_eq_false_iff_ne.2 hne
    clear hκ hne hkd hl ht
    go_enter Try.func25, Try.ntmps25
    obtain ⟨v0, v1, v2⟩ := DpPiece.bxc HX.out
    go_wp2_with fail
    generalize ((w.alloc (.cells #[.int .i64 k, .slice p n c, .int .i64 m] 31)).alloc (.cells #[.int .i64 0, .int .i64 0, .int .i64 0, .int .i64 0, .int .i64 0] 48)) = V at HBV HX HZ HR ⊢
    refine (Kq.spec_kind_any k _ _ _ m zs V HR.out.ints).mono ?_
    rintro e w2 ⟨rfl, hb⟩
    rw [HK.out]
    have HB2 := Lib.hid (below_on HBV.out hb)
    have HX2 := Lib.hid (HX.out.below hb)
    have HZ2 := Lib.hid (HZ.out.below hb)
    have HV2 := Lib.hid hb
    clear hb v0 v1 v2
    obtain ⟨q0, q1, q2, q3, q4⟩ : w2.cell? ⟨w.heap.size + 1, 0, none⟩ = some (.int .i64 0) ∧ w2.cell? ⟨w.heap.size + 1, 1, none⟩ = some (.int .i64 0) ∧ w2.cell? ⟨w.heap.size + 1, 2, none⟩ = some (.int .i64 0) ∧ w2.cell? ⟨w.heap.size + 1, 3, none⟩ = some (.int .i64 0) ∧ w2.cell? ⟨w.heap.size + 1, 4, none⟩ = some (.int .i64 0) := ⟨HZ2.out.cell rfl, HZ2.out.cell rfl, HZ2.out.cell rfl, HZ2.out.cell rfl, HZ2.out.cell rfl⟩
    have f0 := HZ2.out.free 0
    have f1 := HZ2.out.free 1
    have f2 := HZ2.out.free 2
    have f3 := HZ2.out.free 3
    have f4 := HZ2.out.free 4
    have HBC := HB2
    go_wp2_with fail
    exact bodyPost_ret (v := .tuple #[.agg #[.int .i64 0, .int .i64 0, .int .i64 0, .int .i64 0, .int .i64 0], .bool false]) (by simp [results, Try.results25, go_sem, q0, q1, q2, q3, q4]) rfl ⟨rfl, by first | with_reducible exact (((((HBC.out.setCell (p := ⟨w.heap.size + 1, 0, none⟩) (by simp) (.int .i64 0)).setCell (p := ⟨w.heap.size + 1, 1, none⟩) (by simp) (.int .i64 0)).setCell (p := ⟨w.heap.size + 1, 2, none⟩) (by simp) (.int .i64 0)).setCell (p := ⟨w.heap.size + 1, 3, none⟩) (by simp) (.int .i64 0)).setCell (p := ⟨w.heap.size + 1, 4, none⟩) (by simp) (.int .i64 0)) | with_reducible exact HBC.out | exact (((((HBC.out.setCell (p := ⟨w.heap.size + 1, 0, none⟩) (by simp) (.int .i64 0)).setCell (p := ⟨w.heap.size + 1, 1, none⟩) (by simp) (.int .i64 0)).setCell (p := ⟨w.heap.size + 1, 2, none⟩) (by simp) (.int .i64 0)).setCell (p := ⟨w.heap.size + 1, 3, none⟩) (by simp) (.int .i64 0)).setCell (p := ⟨w.heap.size + 1, 4, none⟩) (by simp) (.int .i64 0))⟩
  · exact absurd (by rw [tag_own (own_Stamp hkd), hkd]) ht
end Go.Proofs.Ytgmoldianhkifaa.PwStamp
namespace Go.Proofs.Ytgmoldianhkifaa.PoStamp
open Go.ChangeShapes Go.WideShapes Go.ChangeAt Go.RowKit Sl St Ed Dz Kd Pr0 PrStamp
set_option maxRecDepth 100000 in
set_option maxHeartbeats 4000000 in
theorem piece_yes (k : Int) (p : Option Addr) (n c : Nat) (m : Int) (zs : List Int) (hm : InI m) (w : World) (hr : Rd .i64 w p n zs) (ht : tag k zs = 103) : Calls Try.prog 26 #[.agg #[.int .i64 k, .slice p n c, .int .i64 m]] w (Val (.tuple #[.agg #[.int .i64 (zs.getD 1 0), .int .i64 (zs.getD 2 0), .int .i64 (zs.getD 3 0), .int .i64 (zs.getD 4 0), .int .i64 m], .bool true]) w) := by
  have hb : Below w.heap.size w ((w.alloc (.cells #[.int .i64 k, .slice p n c, .int .i64 m] 31)).alloc (.cells #[.int .i64 0, .int .i64 0, .int .i64 0, .int .i64 0, .int .i64 0] 48)) := (box1 w _).alloc (by simp) _
  have hx := (Bx.new w 31 #[.int .i64 k, .slice p n c, .int .i64 m]).alloc (.cells #[.int .i64 0, .int .i64 0, .int .i64 0, .int .i64 0, .int .i64 0] 48)
  have hz := Bx.new (w.alloc (.cells #[.int .i64 k, .slice p n c, .int .i64 m] 31)) 48 #[.int .i64 0, .int .i64 0, .int .i64 0, .int .i64 0, .int .i64 0]
  rw [World.size_alloc] at hz
  have HBV := Lib.hid hb
  have HX := Lib.hid hx
  have HZ := Lib.hid hz
  have HR := Lib.hid ((RdD.ofInts (S := fun _ => True) hr (fun _ _ _ _ => trivial)).below hb)
  clear hb hx hz hr
  obtain ⟨v0, v1, v2⟩ := DpPiece.bxc HX.out
  obtain ⟨z1, hz1⟩ : ∃ z, zs.getD 1 0 = z := ⟨_, rfl⟩
  rw [hz1]
  have HZ_1 := Lib.hid hz1
  clear hz1
  obtain ⟨z2, hz2⟩ : ∃ z, zs.getD 2 0 = z := ⟨_, rfl⟩
  rw [hz2]
  have HZ_2 := Lib.hid hz2
  clear hz2
  obtain ⟨z3, hz3⟩ : ∃ z, zs.getD 3 0 = z := ⟨_, rfl⟩
  rw [hz3]
  have HZ_3 := Lib.hid hz3
  clear hz3
  obtain ⟨z4, hz4⟩ : ∃ z, zs.getD 4 0 = z := ⟨_, rfl⟩
  rw [hz4]
  have HZ_4 := Lib.hid hz4
  clear hz4
  go_enter Try.func26, Try.ntmps26
  go_wp2_with fail
  generalize ((w.alloc (.cells #[.int .i64 k, .slice p n c, .int .i64 m] 31)).alloc (.cells #[.int .i64 0, .int .i64 0, .int .i64 0, .int .i64 0, .int .i64 0] 48)) = V at HBV HX HZ HR ⊢
  refine (stated_yes k _ _ _ m zs hm V HR.out.ints ht).mono ?_
  rintro e w2 ⟨rfl, hb⟩
  have HB2 := Lib.hid (below_on HBV.out hb)
  have HZ2 := Lib.hid (HZ.out.below hb)
  clear hb v0 v1 v2 ht
  rw [HZ_1.out, HZ_2.out, HZ_3.out, HZ_4.out]
  have HZ3 := Lib.hid (HZ2.out.alloc (.cells #[.int .i64 z1, .int .i64 z2, .int .i64 z3, .int .i64 z4, .int .i64 m, .int .i64 k] 95))
  have HB3 := Lib.hid (HB2.out.alloc HB2.out.size (.cells #[.int .i64 z1, .int .i64 z2, .int .i64 z3, .int .i64 z4, .int .i64 m, .int .i64 k] 95))
  obtain ⟨q0, q1, q2, q3, q4⟩ : (w2.alloc (.cells #[.int .i64 z1, .int .i64 z2, .int .i64 z3, .int .i64 z4, .int .i64 m, .int .i64 k] 95)).cell? ⟨w.heap.size + 1, 0, none⟩ = some (.int .i64 0) ∧ (w2.alloc (.cells #[.int .i64 z1, .int .i64 z2, .int .i64 z3, .int .i64 z4, .int .i64 m, .int .i64 k] 95)).cell? ⟨w.heap.size + 1, 1, none⟩ = some (.int .i64 0) ∧ (w2.alloc (.cells #[.int .i64 z1, .int .i64 z2, .int .i64 z3, .int .i64 z4, .int .i64 m, .int .i64 k] 95)).cell? ⟨w.heap.size + 1, 2, none⟩ = some (.int .i64 0) ∧ (w2.alloc (.cells #[.int .i64 z1, .int .i64 z2, .int .i64 z3, .int .i64 z4, .int .i64 m, .int .i64 k] 95)).cell? ⟨w.heap.size + 1, 3, none⟩ = some (.int .i64 0) ∧ (w2.alloc (.cells #[.int .i64 z1, .int .i64 z2, .int .i64 z3, .int .i64 z4, .int .i64 m, .int .i64 k] 95)).cell? ⟨w.heap.size + 1, 4, none⟩ = some (.int .i64 0) := ⟨HZ3.out.cell rfl, HZ3.out.cell rfl, HZ3.out.cell rfl, HZ3.out.cell rfl, HZ3.out.cell rfl⟩
  have f0 := HZ3.out.free 0
  have f1 := HZ3.out.free 1
  have f2 := HZ3.out.free 2
  have f3 := HZ3.out.free 3
  have f4 := HZ3.out.free 4
  go_wp2_with fail
  exact bodyPost_ret (v := .tuple #[.agg #[.int .i64 z1, .int .i64 z2, .int .i64 z3, .int .i64 z4, .int .i64 m], .bool true]) (by simp [results, Try.results26, go_sem, q0, q1, q2, q3, q4]) rfl ⟨rfl, by first | with_reducible exact (((((HB3.out.setCell (p := ⟨w.heap.size + 1, 0, none⟩) (by simp) (.int .i64 z1)).setCell (p := ⟨w.heap.size + 1, 1, none⟩) (by simp) (.int .i64 z2)).setCell (p := ⟨w.heap.size + 1, 2, none⟩) (by simp) (.int .i64 z3)).setCell (p := ⟨w.heap.size + 1, 3, none⟩) (by simp) (.int .i64 z4)).setCell (p := ⟨w.heap.size + 1, 4, none⟩) (by simp) (.int .i64 m)) | with_reducible exact HB3.out | exact (((((HB3.out.setCell (p := ⟨w.heap.size + 1, 0, none⟩) (by simp) (.int .i64 z1)).setCell (p := ⟨w.heap.size + 1, 1, none⟩) (by simp) (.int .i64 z2)).setCell (p := ⟨w.heap.size + 1, 2, none⟩) (by simp) (.int .i64 z3)).setCell (p := ⟨w.heap.size + 1, 3, none⟩) (by simp) (.int .i64 z4)).setCell (p := ⟨w.heap.size + 1, 4, none⟩) (by simp) (.int .i64 m))⟩
set_option maxRecDepth 100000 in
set_option maxHeartbeats 4000000 in
theorem piece_no (k : Int) (p : Option Addr) (n c : Nat) (m : Int) (zs : List Int) (hm : InI m) (w : World) (hr : Rd .i64 w p n zs) (ht : ¬ tag k zs = 103) : Calls Try.prog 26 #[.agg #[.int .i64 k, .slice p n c, .int .i64 m]] w (Val (.tuple #[.agg #[.int .i64 0, .int .i64 0, .int .i64 0, .int .i64 0, .int .i64 0], .bool false]) w) := by
  have hb : Below w.heap.size w ((w.alloc (.cells #[.int .i64 k, .slice p n c, .int .i64 m] 31)).alloc (.cells #[.int .i64 0, .int .i64 0, .int .i64 0, .int .i64 0, .int .i64 0] 48)) := (box1 w _).alloc (by simp) _
  have hx := (Bx.new w 31 #[.int .i64 k, .slice p n c, .int .i64 m]).alloc (.cells #[.int .i64 0, .int .i64 0, .int .i64 0, .int .i64 0, .int .i64 0] 48)
  have hz := Bx.new (w.alloc (.cells #[.int .i64 k, .slice p n c, .int .i64 m] 31)) 48 #[.int .i64 0, .int .i64 0, .int .i64 0, .int .i64 0, .int .i64 0]
  rw [World.size_alloc] at hz
  have HBV := Lib.hid hb
  have HX := Lib.hid hx
  have HZ := Lib.hid hz
  have HR := Lib.hid ((RdD.ofInts (S := fun _ => True) hr (fun _ _ _ _ => trivial)).below hb)
  clear hb hx hz hr
  obtain ⟨v0, v1, v2⟩ := DpPiece.bxc HX.out
  go_enter Try.func26, Try.ntmps26
  go_wp2_with fail
  generalize ((w.alloc (.cells #[.int .i64 k, .slice p n c, .int .i64 m] 31)).alloc (.cells #[.int .i64 0, .int .i64 0, .int .i64 0, .int .i64 0, .int .i64 0] 48)) = V at HBV HX HZ HR ⊢
  refine (stated_no k _ _ _ m zs hm V HR.out.ints ht).mono ?_
  rintro e w2 ⟨rfl, hb⟩
  have HB2 := Lib.hid (below_on HBV.out hb)
  have HZ2 := Lib.hid (HZ.out.below hb)
  clear hb v0 v1 v2 ht
  have HZ3 := Lib.hid (HZ2.out.alloc (.cells #[.int .i64 0, .int .i64 0, .int .i64 0, .int .i64 0, .int .i64 0, .int .i64 0] 95))
  have HB3 := Lib.hid (HB2.out.alloc HB2.out.size (.cells #[.int .i64 0, .int .i64 0, .int .i64 0, .int .i64 0, .int .i64 0, .int .i64 0] 95))
  obtain ⟨q0, q1, q2, q3, q4⟩ : (w2.alloc (.cells #[.int .i64 0, .int .i64 0, .int .i64 0, .int .i64 0, .int .i64 0, .int .i64 0] 95)).cell? ⟨w.heap.size + 1, 0, none⟩ = some (.int .i64 0) ∧ (w2.alloc (.cells #[.int .i64 0, .int .i64 0, .int .i64 0, .int .i64 0, .int .i64 0, .int .i64 0] 95)).cell? ⟨w.heap.size + 1, 1, none⟩ = some (.int .i64 0) ∧ (w2.alloc (.cells #[.int .i64 0, .int .i64 0, .int .i64 0, .int .i64 0, .int .i64 0, .int .i64 0] 95)).cell? ⟨w.heap.size + 1, 2, none⟩ = some (.int .i64 0) ∧ (w2.alloc (.cells #[.int .i64 0, .int .i64 0, .int .i64 0, .int .i64 0, .int .i64 0, .int .i64 0] 95)).cell? ⟨w.heap.size + 1, 3, none⟩ = some (.int .i64 0) ∧ (w2.alloc (.cells #[.int .i64 0, .int .i64 0, .int .i64 0, .int .i64 0, .int .i64 0, .int .i64 0] 95)).cell? ⟨w.heap.size + 1, 4, none⟩ = some (.int .i64 0) := ⟨HZ3.out.cell rfl, HZ3.out.cell rfl, HZ3.out.cell rfl, HZ3.out.cell rfl, HZ3.out.cell rfl⟩
  have f0 := HZ3.out.free 0
  have f1 := HZ3.out.free 1
  have f2 := HZ3.out.free 2
  have f3 := HZ3.out.free 3
  have f4 := HZ3.out.free 4
  go_wp2_with fail
  exact bodyPost_ret (v := .tuple #[.agg #[.int .i64 0, .int .i64 0, .int .i64 0, .int .i64 0, .int .i64 0], .bool false]) (by simp [results, Try.results26, go_sem, q0, q1, q2, q3, q4]) rfl ⟨rfl, by first | with_reducible exact (((((HB3.out.setCell (p := ⟨w.heap.size + 1, 0, none⟩) (by simp) (.int .i64 0)).setCell (p := ⟨w.heap.size + 1, 1, none⟩) (by simp) (.int .i64 0)).setCell (p := ⟨w.heap.size + 1, 2, none⟩) (by simp) (.int .i64 0)).setCell (p := ⟨w.heap.size + 1, 3, none⟩) (by simp) (.int .i64 0)).setCell (p := ⟨w.heap.size + 1, 4, none⟩) (by simp) (.int .i64 0)) | with_reducible exact HB3.out | exact (((((HB3.out.setCell (p := ⟨w.heap.size + 1, 0, none⟩) (by simp) (.int .i64 0)).setCell (p := ⟨w.heap.size + 1, 1, none⟩) (by simp) (.int .i64 0)).setCell (p := ⟨w.heap.size + 1, 2, none⟩) (by simp) (.int .i64 0)).setCell (p := ⟨w.heap.size + 1, 3, none⟩) (by simp) (.int .i64 0)).setCell (p := ⟨w.heap.size + 1, 4, none⟩) (by simp) (.int .i64 0))⟩
def out (k : Int) (zs : List Int) (m : Int) : (Int × Int × Int × Int × Int) × Bool := if tag k zs = 103 then (((zs.getD 1 0), (zs.getD 2 0), (zs.getD 3 0), (zs.getD 4 0), m), true) else ((0, 0, 0, 0, 0), false)
theorem piece_any (k : Int) (p : Option Addr) (n c : Nat) (m : Int) (zs : List Int) (y0 y1 y2 y3 y4 : Int) (b : Bool) (h : out k zs m = ((y0, y1, y2, y3, y4), b)) (hm : InI m) (w : World) (hr : Rd .i64 w p n zs) : Calls Try.prog 26 #[.agg #[.int .i64 k, .slice p n c, .int .i64 m]] w (Val (.tuple #[.agg #[.int .i64 y0, .int .i64 y1, .int .i64 y2, .int .i64 y3, .int .i64 y4], .bool b]) w) := by
  unfold out at h
  by_cases ht : tag k zs = 103
  · rw [if_pos ht] at h
    simp only [Prod.mk.injEq] at h
    obtain ⟨⟨rfl, rfl, rfl, rfl, rfl⟩, rfl⟩ := h
    exact piece_yes k p n c m zs hm w hr ht
  · rw [if_neg ht] at h
    simp only [Prod.mk.injEq] at h
    obtain ⟨⟨rfl, rfl, rfl, rfl, rfl⟩, rfl⟩ := h
    exact piece_no k p n c m zs hm w hr ht
theorem spec_any (k : Int) (p : Option Addr) (n c : Nat) (m : Int) (zs : List Int) (y0 y1 y2 y3 y4 : Int) (b : Bool) (h : out k zs m = ((y0, y1, y2, y3, y4), b)) (w : World) (hr : Rd .i64 w p n zs) : Calls Try.prog 25 #[.agg #[.int .i64 k, .slice p n c, .int .i64 m]] w (Val (.tuple #[.agg #[.int .i64 y0, .int .i64 y1, .int .i64 y2, .int .i64 y3, .int .i64 y4], .bool b]) w) := by
  unfold out at h
  by_cases ht : tag k zs = 103
  · rw [if_pos ht] at h
    simp only [Prod.mk.injEq] at h
    obtain ⟨⟨rfl, rfl, rfl, rfl, rfl⟩, rfl⟩ := h
    exact PwStamp.spec_yes k p n c m zs w hr ht
  · rw [if_neg ht] at h
    simp only [Prod.mk.injEq] at h
    obtain ⟨⟨rfl, rfl, rfl, rfl, rfl⟩, rfl⟩ := h
    exact PwStamp.spec_no k p n c m zs w hr ht
end Go.Proofs.Ytgmoldianhkifaa.PoStamp

namespace Go.Proofs.Ytgmoldianhkifaa.PwSign
open Go.ChangeShapes Go.WideShapes Go.ChangeAt Go.RowKit Sl St Ed Dz Kd Pr0
theorem drewB {W w : World} {B : Nat} (h : Below B W w) : Below B W w.drew := below_drewN h 1
set_option maxRecDepth 100000 in
set_option maxHeartbeats 4000000 in
theorem spec_yes (k : Int) (p : Option Addr) (n c : Nat) (m : Int) (zs : List Int) (w : World) (hr : Rd .i64 w p n zs) (ht : tag k zs = 104) : Calls Try.prog 28 #[.agg #[.int .i64 k, .slice p n c, .int .i64 m]] w (Val (.tuple #[.agg #[.int .i64 (zs.getD 1 0), .int .i64 (zs.getD 2 0), .int .i64 (zs.getD 3 0), .int .i64 (zs.getD 4 0), .int .i64 (zs.getD 5 0), .int .i64 (zs.getD 6 0), .int .i64 (zs.getD 7 0), .int .i64 (zs.getD 8 0), .int .i64 m], .bool true]) w) := by
  have hl := hr.len
  have hb : Below w.heap.size w ((w.alloc (.cells #[.int .i64 k, .slice p n c, .int .i64 m] 31)).alloc (.cells #[.int .i64 0, .int .i64 0, .int .i64 0, .int .i64 0, .int .i64 0, .int .i64 0, .int .i64 0, .int .i64 0, .int .i64 0] 53)) := (box1 w _).alloc (by simp) _
  have hx := (Bx.new w 31 #[.int .i64 k, .slice p n c, .int .i64 m]).alloc (.cells #[.int .i64 0, .int .i64 0, .int .i64 0, .int .i64 0, .int .i64 0, .int .i64 0, .int .i64 0, .int .i64 0, .int .i64 0] 53)
  have hz := Bx.new (w.alloc (.cells #[.int .i64 k, .slice p n c, .int .i64 m] 31)) 53 #[.int .i64 0, .int .i64 0, .int .i64 0, .int .i64 0, .int .i64 0, .int .i64 0, .int .i64 0, .int .i64 0, .int .i64 0]
  rw [World.size_alloc] at hz
  have HBV := Lib.hid hb
  have HX := Lib.hid hx
  have HZ := Lib.hid hz
  have HR := Lib.hid ((RdD.ofInts (S := fun _ => True) hr (fun _ _ _ _ => trivial)).below hb)
  have ho : ownOf k zs = k := by
    by_cases h : ownOf k zs = k
    · exact h
    · rw [tag_other h] at ht
      exact absurd ht (by decide)
  have hkd : kd zs = 104 := by rw [← tag_own ho]; exact ht
  obtain rfl : n = 9 := by
    rcases kd_cases zs hl with ⟨h, _, g⟩ | ⟨h, _, g⟩ | ⟨h, _, g⟩ | ⟨h, _, g⟩ | ⟨h, _, g⟩ | g <;> rw [hkd] at g <;> first | exact h | exact absurd g (by decide)
  have HK : Hid (kind 9 (zs.getD 0 0) = 104) := Lib.hid ((kd_of hl).trans hkd)
  rw [own_Sign hkd] at ho
  have HRW := Lib.hid hr
  clear ht hkd hb hx hz hr hl
  skip
  obtain ⟨b, o, rfl, hbb, hc⟩ := cells_of HRW.out (by decide)
  have hne : ¬ b = w.heap.size + 1 := by omega
  have hne2 : ¬ w.heap.size + 1 = b := by omega
  have HCE := Lib.hid hc
  have HBb := Lib.hid hbb
  clear hc hbb
  obtain ⟨z1, hz1⟩ : ∃ z, zs.getD 1 0 = z := ⟨_, rfl⟩
  rw [hz1]
  have HZ_1 := Lib.hid hz1
  clear hz1
  obtain ⟨z2, hz2⟩ : ∃ z, zs.getD 2 0 = z := ⟨_, rfl⟩
  rw [hz2]
  have HZ_2 := Lib.hid hz2
  clear hz2
  obtain ⟨z3, hz3⟩ : ∃ z, zs.getD 3 0 = z := ⟨_, rfl⟩
  rw [hz3]
  have HZ_3 := Lib.hid hz3
  clear hz3
  obtain ⟨z4, hz4⟩ : ∃ z, zs.getD 4 0 = z := ⟨_, rfl⟩
  rw [hz4]
  have HZ_4 := Lib.hid hz4
  clear hz4
  obtain ⟨z5, hz5⟩ : ∃ z, zs.getD 5 0 = z := ⟨_, rfl⟩
  rw [hz5]
  have HZ_5 := Lib.hid hz5
  clear hz5
  obtain ⟨z6, hz6⟩ : ∃ z, zs.getD 6 0 = z := ⟨_, rfl⟩
  rw [hz6]
  have HZ_6 := Lib.hid hz6
  clear hz6
  obtain ⟨z7, hz7⟩ : ∃ z, zs.getD 7 0 = z := ⟨_, rfl⟩
  rw [hz7]
  have HZ_7 := Lib.hid hz7
  clear hz7
  obtain ⟨z8, hz8⟩ : ∃ z, zs.getD 8 0 = z := ⟨_, rfl⟩
  rw [hz8]
  have HZ_8 := Lib.hid hz8
  clear hz8
  have HCO := Lib.hid (HCE.out 1 (by decide))
  rw [ho] at HCO
  have e1 : (k != k) = false := by simp
  have e2 : (k == k) = true := by simp
  clear ho
  go_enter Try.func28, Try.ntmps28
  go_wp2_with fail
  generalize ((w.alloc (.cells #[.int .i64 k, .slice (some ⟨b, o, none⟩) 9 c, .int .i64 m] 31)).alloc (.cells #[.int .i64 0, .int .i64 0, .int .i64 0, .int .i64 0, .int .i64 0, .int .i64 0, .int .i64 0, .int .i64 0, .int .i64 0] 53)) = V at HBV HX HZ HR ⊢
  have HC : Hid (∀ w', Qt.Keeps (V) w' → w'.cell? ⟨w.heap.size, 0, none⟩ = some (.int .i64 k) ∧ w'.cell? ⟨w.heap.size, 1, none⟩ = some (.slice (some ⟨b, o, none⟩) 9 c) ∧ w'.cell? ⟨w.heap.size, 2, none⟩ = some (.int .i64 m) ∧ w'.cell? ⟨b, o + 1, none⟩ = some (.int .i64 k)) := Lib.hid fun w' hw => let h := DpPiece.bxc (HX.out.below hw); ⟨h.1, h.2.1, h.2.2, ((below_on HBV.out hw).cell (p := ⟨b, o + 1, none⟩) HBb.out).trans HCO.out⟩
  refine Qt.region (Qt.Keeps (V)) (by kernel_rfl) (by kernel_rfl) (Qt.Keeps.drew _) ?_
  repeat (first
    | go_big_quiet_skip
    | (go_big_quiet_want
       refine Qt.val (v := ?_) (fun w hw => ?_) ?_
       rotate_left
       · obtain ⟨v0, v1, v2, c0⟩ := HC.out w hw
         go_simp
         rfl
       simp only [Act.put, List.setIfInBounds_toArray, List.set_cons_zero, List.set_cons_succ]
       go_big_quiet_on)
    | (go_big_quiet_want
       refine Qt.call (v := .int .i64 104) (f := 58) (args := #[.agg #[.int .i64 k, .slice (some ⟨b, o, none⟩) 9 c, .int .i64 m]]) (fun w hw => ?_) (fun w hw => ?_) ?_
       · go_simp
       · refine (Kq.spec_kind_any k _ _ _ m zs _ (HR.out.below hw).ints).mono ?_
         rintro e w1 ⟨rfl, hb1⟩
         rw [HK.out]
         exact ⟨rfl, hw.then hb1⟩
       simp only [Act.put, List.setIfInBounds_toArray, List.set_cons_zero, List.set_cons_succ]
       go_big_quiet_on))
  refine wpQuiet_nil ?_
  intro w2 hw2
  have HB2 := Lib.hid (below_on HBV.out hw2)
  have HX2 := Lib.hid (HX.out.below hw2)
  have HZ2 := Lib.hid (HZ.out.below hw2)
  have HV2 := Lib.hid hw2
  clear hw2
  have c1 := (HB2.out.cell (p := ⟨b, o + 1, none⟩) HBb.out).trans (HCE.out 1 (by decide))
  have c2 := (HB2.out.cell (p := ⟨b, o + 2, none⟩) HBb.out).trans (HCE.out 2 (by decide))
  have c3 := (HB2.out.cell (p := ⟨b, o + 3, none⟩) HBb.out).trans (HCE.out 3 (by decide))
  have c4 := (HB2.out.cell (p := ⟨b, o + 4, none⟩) HBb.out).trans (HCE.out 4 (by decide))
  have c5 := (HB2.out.cell (p := ⟨b, o + 5, none⟩) HBb.out).trans (HCE.out 5 (by decide))
  have c6 := (HB2.out.cell (p := ⟨b, o + 6, none⟩) HBb.out).trans (HCE.out 6 (by decide))
  have c7 := (HB2.out.cell (p := ⟨b, o + 7, none⟩) HBb.out).trans (HCE.out 7 (by decide))
  have c8 := (HB2.out.cell (p := ⟨b, o + 8, none⟩) HBb.out).trans (HCE.out 8 (by decide))
  rw [HZ_1.out] at c1
  rw [HZ_2.out] at c2
  rw [HZ_3.out] at c3
  rw [HZ_4.out] at c4
  rw [HZ_5.out] at c5
  rw [HZ_6.out] at c6
  rw [HZ_7.out] at c7
  rw [HZ_8.out] at c8
  clear HK HCE HCO
  obtain ⟨v0, v1, v2⟩ := DpPiece.bxc HX2.out
  obtain ⟨q0, q1, q2, q3, q4, q5, q6, q7, q8⟩ : w2.cell? ⟨w.heap.size + 1, 0, none⟩ = some (.int .i64 0) ∧ w2.cell? ⟨w.heap.size + 1, 1, none⟩ = some (.int .i64 0) ∧ w2.cell? ⟨w.heap.size + 1, 2, none⟩ = some (.int .i64 0) ∧ w2.cell? ⟨w.heap.size + 1, 3, none⟩ = some (.int .i64 0) ∧ w2.cell? ⟨w.heap.size + 1, 4, none⟩ = some (.int .i64 0) ∧ w2.cell? ⟨w.heap.size + 1, 5, none⟩ = some (.int .i64 0) ∧ w2.cell? ⟨w.heap.size + 1, 6, none⟩ = some (.int .i64 0) ∧ w2.cell? ⟨w.heap.size + 1, 7, none⟩ = some (.int .i64 0) ∧ w2.cell? ⟨w.heap.size + 1, 8, none⟩ = some (.int .i64 0) := ⟨HZ2.out.cell rfl, HZ2.out.cell rfl, HZ2.out.cell rfl, HZ2.out.cell rfl, HZ2.out.cell rfl, HZ2.out.cell rfl, HZ2.out.cell rfl, HZ2.out.cell rfl, HZ2.out.cell rfl⟩
  have f0 := HZ2.out.free 0
  have f1 := HZ2.out.free 1
  have f2 := HZ2.out.free 2
  have f3 := HZ2.out.free 3
  have f4 := HZ2.out.free 4
  have f5 := HZ2.out.free 5
  have f6 := HZ2.out.free 6
  have f7 := HZ2.out.free 7
  have f8 := HZ2.out.free 8
  go_wp2_with fail
  go_region_held3 (fun w' => w'.cell? ⟨w.heap.size, 1, none⟩ = some (.slice (some ⟨b, o, none⟩) 9 c) ∧ w'.cell? ⟨w.heap.size, 2, none⟩ = some (.int .i64 m) ∧ w'.cell? ⟨b, o + 1, none⟩ = some (.int .i64 z1) ∧ w'.cell? ⟨b, o + 2, none⟩ = some (.int .i64 z2) ∧ w'.cell? ⟨b, o + 3, none⟩ = some (.int .i64 z3) ∧ w'.cell? ⟨b, o + 4, none⟩ = some (.int .i64 z4) ∧ w'.cell? ⟨b, o + 5, none⟩ = some (.int .i64 z5) ∧ w'.cell? ⟨b, o + 6, none⟩ = some (.int .i64 z6) ∧ w'.cell? ⟨b, o + 7, none⟩ = some (.int .i64 z7) ∧ w'.cell? ⟨b, o + 8, none⟩ = some (.int .i64 z8)) (first | go_keep) (fail)
  all_goals
    have HBC := HB2
    go_wp2_with fail
    exact bodyPost_ret (v := .tuple #[.agg #[.int .i64 z1, .int .i64 z2, .int .i64 z3, .int .i64 z4, .int .i64 z5, .int .i64 z6, .int .i64 z7, .int .i64 z8, .int .i64 m], .bool true]) (by simp [results, Try.results28, go_sem, q0, q1, q2, q3, q4, q5, q6, q7, q8]) rfl ⟨rfl, by first | with_reducible exact drewB (((((((((HBC.out.setCell (p := ⟨w.heap.size + 1, 0, none⟩) (by simp) (.int .i64 z1)).setCell (p := ⟨w.heap.size + 1, 1, none⟩) (by simp) (.int .i64 z2)).setCell (p := ⟨w.heap.size + 1, 2, none⟩) (by simp) (.int .i64 z3)).setCell (p := ⟨w.heap.size + 1, 3, none⟩) (by simp) (.int .i64 z4)).setCell (p := ⟨w.heap.size + 1, 4, none⟩) (by simp) (.int .i64 z5)).setCell (p := ⟨w.heap.size + 1, 5, none⟩) (by simp) (.int .i64 z6)).setCell (p := ⟨w.heap.size + 1, 6, none⟩) (by simp) (.int .i64 z7)).setCell (p := ⟨w.heap.size + 1, 7, none⟩) (by simp) (.int .i64 z8)).setCell (p := ⟨w.heap.size + 1, 8, none⟩) (by simp) (.int .i64 m)) | with_reducible exact HBC.out | exact drewB (((((((((HBC.out.setCell (p := ⟨w.heap.size + 1, 0, none⟩) (by simp) (.int .i64 z1)).setCell (p := ⟨w.heap.size + 1, 1, none⟩) (by simp) (.int .i64 z2)).setCell (p := ⟨w.heap.size + 1, 2, none⟩) (by simp) (.int .i64 z3)).setCell (p := ⟨w.heap.size + 1, 3, none⟩) (by simp) (.int .i64 z4)).setCell (p := ⟨w.heap.size + 1, 4, none⟩) (by simp) (.int .i64 z5)).setCell (p := ⟨w.heap.size + 1, 5, none⟩) (by simp) (.int .i64 z6)).setCell (p := ⟨w.heap.size + 1, 6, none⟩) (by simp) (.int .i64 z7)).setCell (p := ⟨w.heap.size + 1, 7, none⟩) (by simp) (.int .i64 z8)).setCell (p := ⟨w.heap.size + 1, 8, none⟩) (by simp) (.int .i64 m))⟩
set_option maxRecDepth 100000 in
set_option maxHeartbeats 4000000 in
theorem spec_no (k : Int) (p : Option Addr) (n c : Nat) (m : Int) (zs : List Int) (w : World) (hr : Rd .i64 w p n zs) (ht : ¬ tag k zs = 104) : Calls Try.prog 28 #[.agg #[.int .i64 k, .slice p n c, .int .i64 m]] w (Val (.tuple #[.agg #[.int .i64 0, .int .i64 0, .int .i64 0, .int .i64 0, .int .i64 0, .int .i64 0, .int .i64 0, .int .i64 0, .int .i64 0], .bool false]) w) := by
  have hl := hr.len
  have hb : Below w.heap.size w ((w.alloc (.cells #[.int .i64 k, .slice p n c, .int .i64 m] 31)).alloc (.cells #[.int .i64 0, .int .i64 0, .int .i64 0, .int .i64 0, .int .i64 0, .int .i64 0, .int .i64 0, .int .i64 0, .int .i64 0] 53)) := (box1 w _).alloc (by simp) _
  have hx := (Bx.new w 31 #[.int .i64 k, .slice p n c, .int .i64 m]).alloc (.cells #[.int .i64 0, .int .i64 0, .int .i64 0, .int .i64 0, .int .i64 0, .int .i64 0, .int .i64 0, .int .i64 0, .int .i64 0] 53)
  have hz := Bx.new (w.alloc (.cells #[.int .i64 k, .slice p n c, .int .i64 m] 31)) 53 #[.int .i64 0, .int .i64 0, .int .i64 0, .int .i64 0, .int .i64 0, .int .i64 0, .int .i64 0, .int .i64 0, .int .i64 0]
  rw [World.size_alloc] at hz
  have HBV := Lib.hid hb
  have HX := Lib.hid hx
  have HZ := Lib.hid hz
  have HR := Lib.hid ((RdD.ofInts (S := fun _ => True) hr (fun _ _ _ _ => trivial)).below hb)
  have HRW := Lib.hid hr
  clear hb hx hz hr
  by_cases hkd : kd zs = 104
  rotate_left
  · obtain ⟨κ, hκ⟩ : ∃ z, kind n (zs.getD 0 0) = z := ⟨_, rfl⟩
    have hne : ¬ κ = 104 := by rw [← hκ, kd_of hl]; exact hkd
    have HK := Lib.hid hκ
    have e1 : (κ != 104) = true := bne_iff_ne.2 hne
    have e2 : (κ == 104) = false := beq_eq_false_iff_ne.2 hne
    clear hκ hne hkd hl ht
    go_enter Try.func28, Try.ntmps28
    go_wp2_with fail
    generalize ((w.alloc (.cells #[.int .i64 k, .slice p n c, .int .i64 m] 31)).alloc (.cells #[.int .i64 0, .int .i64 0, .int .i64 0, .int .i64 0, .int .i64 0, .int .i64 0, .int .i64 0, .int .i64 0, .int .i64 0] 53)) = V at HBV HX HZ HR ⊢
    have HC : Hid (∀ w', Qt.Keeps (V) w' → w'.cell? ⟨w.heap.size, 0, none⟩ = some (.int .i64 k) ∧ w'.cell? ⟨w.heap.size, 1, none⟩ = some (.slice p n c) ∧ w'.cell? ⟨w.heap.size, 2, none⟩ = some (.int .i64 m)) := Lib.hid fun w' hw => DpPiece.bxc (HX.out.below hw)
    refine Qt.region (Qt.Keeps (V)) (by kernel_rfl) (by kernel_rfl) (Qt.Keeps.drew _) ?_
    repeat (first
      | go_big_quiet_skip
      | (go_big_quiet_want
         refine Qt.val (v := ?_) (fun w hw => ?_) ?_
         rotate_left
         · obtain ⟨v0, v1, v2⟩ := HC.out w hw
           go_simp
           rfl
         simp only [Act.put, List.setIfInBounds_toArray, List.set_cons_zero, List.set_cons_succ]
         go_big_quiet_on)
      | (go_big_quiet_want
         refine Qt.call (v := .int .i64 κ) (f := 58) (args := #[.agg #[.int .i64 k, .slice p n c, .int .i64 m]]) (fun w hw => ?_) (fun w hw => ?_) ?_
         · go_simp
         · refine (Kq.spec_kind_any k _ _ _ m zs _ (HR.out.below hw).ints).mono ?_
           rintro e w1 ⟨rfl, hb1⟩
           rw [HK.out]
           exact ⟨rfl, hw.then hb1⟩
         simp only [Act.put, List.setIfInBounds_toArray, List.set_cons_zero, List.set_cons_succ]
         go_big_quiet_on))
    refine wpQuiet_nil ?_
    intro w2 hw2
    have HB2 := Lib.hid (below_on HBV.out hw2)
    have HX2 := Lib.hid (HX.out.below hw2)
    have HZ2 := Lib.hid (HZ.out.below hw2)
    have HV2 := Lib.hid hw2
    clear hw2
    obtain ⟨q0, q1, q2, q3, q4, q5, q6, q7, q8⟩ : w2.cell? ⟨w.heap.size + 1, 0, none⟩ = some (.int .i64 0) ∧ w2.cell? ⟨w.heap.size + 1, 1, none⟩ = some (.int .i64 0) ∧ w2.cell? ⟨w.heap.size + 1, 2, none⟩ = some (.int .i64 0) ∧ w2.cell? ⟨w.heap.size + 1, 3, none⟩ = some (.int .i64 0) ∧ w2.cell? ⟨w.heap.size + 1, 4, none⟩ = some (.int .i64 0) ∧ w2.cell? ⟨w.heap.size + 1, 5, none⟩ = some (.int .i64 0) ∧ w2.cell? ⟨w.heap.size + 1, 6, none⟩ = some (.int .i64 0) ∧ w2.cell? ⟨w.heap.size + 1, 7, none⟩ = some (.int .i64 0) ∧ w2.cell? ⟨w.heap.size + 1, 8, none⟩ = some (.int .i64 0) := ⟨HZ2.out.cell rfl, HZ2.out.cell rfl, HZ2.out.cell rfl, HZ2.out.cell rfl, HZ2.out.cell rfl, HZ2.out.cell rfl, HZ2.out.cell rfl, HZ2.out.cell rfl, HZ2.out.cell rfl⟩
    have f0 := HZ2.out.free 0
    have f1 := HZ2.out.free 1
    have f2 := HZ2.out.free 2
    have f3 := HZ2.out.free 3
    have f4 := HZ2.out.free 4
    have f5 := HZ2.out.free 5
    have f6 := HZ2.out.free 6
    have f7 := HZ2.out.free 7
    have f8 := HZ2.out.free 8
    have HBC := HB2
    go_wp2_with fail
    exact bodyPost_ret (v := .tuple #[.agg #[.int .i64 0, .int .i64 0, .int .i64 0, .int .i64 0, .int .i64 0, .int .i64 0, .int .i64 0, .int .i64 0, .int .i64 0], .bool false]) (by simp [results, Try.results28, go_sem, q0, q1, q2, q3, q4, q5, q6, q7, q8]) rfl ⟨rfl, by first | with_reducible exact (((((((((HBC.out.setCell (p := ⟨w.heap.size + 1, 0, none⟩) (by simp) (.int .i64 0)).setCell (p := ⟨w.heap.size + 1, 1, none⟩) (by simp) (.int .i64 0)).setCell (p := ⟨w.heap.size + 1, 2, none⟩) (by simp) (.int .i64 0)).setCell (p := ⟨w.heap.size + 1, 3, none⟩) (by simp) (.int .i64 0)).setCell (p := ⟨w.heap.size + 1, 4, none⟩) (by simp) (.int .i64 0)).setCell (p := ⟨w.heap.size + 1, 5, none⟩) (by simp) (.int .i64 0)).setCell (p := ⟨w.heap.size + 1, 6, none⟩) (by simp) (.int .i64 0)).setCell (p := ⟨w.heap.size + 1, 7, none⟩) (by simp) (.int .i64 0)).setCell (p := ⟨w.heap.size + 1, 8, none⟩) (by simp) (.int .i64 0)) | with_reducible exact HBC.out | exact (((((((((HBC.out.setCell (p := ⟨w.heap.size + 1, 0, none⟩) (by simp) (.int .i64 0)).setCell (p := ⟨w.heap.size + 1, 1, none⟩) (by simp) (.int .i64 0)).setCell (p := ⟨w.heap.size + 1, 2, none⟩) (by simp) (.int .i64 0)).setCell (p := ⟨w.heap.size + 1, 3, none⟩) (by simp) (.int .i64 0)).setCell (p := ⟨w.heap.size + 1, 4, none⟩) (by simp) (.int .i64 0)).setCell (p := ⟨w.heap.size + 1, 5, none⟩) (by simp) (.int .i64 0)).setCell (p := ⟨w.heap.size + 1, 6, none⟩) (by simp) (.int .i64 0)).setCell (p := ⟨w.heap.size + 1, 7, none⟩) (by simp) (.int .i64 0)).setCell (p := ⟨w.heap.size + 1, 8, none⟩) (by simp) (.int .i64 0))⟩
  · have ho : ¬ zs.getD 1 0 = k := fun h => ht (by rw [tag_own (by rw [own_Sign hkd]; exact h), hkd])
    obtain rfl : n = 9 := by
      rcases kd_cases zs hl with ⟨h, _, g⟩ | ⟨h, _, g⟩ | ⟨h, _, g⟩ | ⟨h, _, g⟩ | ⟨h, _, g⟩ | g <;> rw [hkd] at g <;> first | exact h | exact absurd g (by decide)
    have HK : Hid (kind 9 (zs.getD 0 0) = 104) := Lib.hid ((kd_of hl).trans hkd)
    clear ht hkd hl
    obtain ⟨b, o, rfl, hbb, hc⟩ := cells_of HRW.out (by decide)
    have hne : ¬ b = w.heap.size + 1 := by omega
    have hne2 : ¬ w.heap.size + 1 = b := by omega
    have HCE := Lib.hid hc
    have HBb := Lib.hid hbb
    clear hc hbb
    have HCO := Lib.hid (HCE.out 1 (by decide))
    generalize zs.getD 1 0 = zo at HCO ho
    have e1 : (zo != k) = true := bne_iff_ne.2 ho
    have e2 : (zo == k) = false := beq_eq_false_iff_ne.2 ho
    clear ho
    go_enter Try.func28, Try.ntmps28
    go_wp2_with fail
    generalize ((w.alloc (.cells #[.int .i64 k, .slice (some ⟨b, o, none⟩) 9 c, .int .i64 m] 31)).alloc (.cells #[.int .i64 0, .int .i64 0, .int .i64 0, .int .i64 0, .int .i64 0, .int .i64 0, .int .i64 0, .int .i64 0, .int .i64 0] 53)) = V at HBV HX HZ HR HCE HBb HCO ⊢
    have HC : Hid (∀ w', Qt.Keeps (V) w' → w'.cell? ⟨w.heap.size, 0, none⟩ = some (.int .i64 k) ∧ w'.cell? ⟨w.heap.size, 1, none⟩ = some (.slice (some ⟨b, o, none⟩) 9 c) ∧ w'.cell? ⟨w.heap.size, 2, none⟩ = some (.int .i64 m) ∧ w'.cell? ⟨b, o + 1, none⟩ = some (.int .i64 zo)) := Lib.hid fun w' hw => let h := DpPiece.bxc (HX.out.below hw); ⟨h.1, h.2.1, h.2.2, ((below_on HBV.out hw).cell (p := ⟨b, o + 1, none⟩) HBb.out).trans HCO.out⟩
    refine Qt.region (Qt.Keeps (V)) (by kernel_rfl) (by kernel_rfl) (Qt.Keeps.drew _) ?_
    repeat (first
      | go_big_quiet_skip
      | (go_big_quiet_want
         refine Qt.val (v := ?_) (fun w hw => ?_) ?_
         rotate_left
         · obtain ⟨v0, v1, v2, c0⟩ := HC.out w hw
           go_simp
           rfl
         simp only [Act.put, List.setIfInBounds_toArray, List.set_cons_zero, List.set_cons_succ]
         go_big_quiet_on)
      | (go_big_quiet_want
         refine Qt.call (v := .int .i64 104) (f := 58) (args := #[.agg #[.int .i64 k, .slice (some ⟨b, o, none⟩) 9 c, .int .i64 m]]) (fun w hw => ?_) (fun w hw => ?_) ?_
         · go_simp
         · refine (Kq.spec_kind_any k _ _ _ m zs _ (HR.out.below hw).ints).mono ?_
           rintro e w1 ⟨rfl, hb1⟩
           rw [HK.out]
           exact ⟨rfl, hw.then hb1⟩
         simp only [Act.put, List.setIfInBounds_toArray, List.set_cons_zero, List.set_cons_succ]
         go_big_quiet_on))
    refine wpQuiet_nil ?_
    intro w2 hw2
    have HB2 := Lib.hid (below_on HBV.out hw2)
    have HX2 := Lib.hid (HX.out.below hw2)
    have HZ2 := Lib.hid (HZ.out.below hw2)
    have HV2 := Lib.hid hw2
    clear hw2
    obtain ⟨q0, q1, q2, q3, q4, q5, q6, q7, q8⟩ : w2.cell? ⟨w.heap.size + 1, 0, none⟩ = some (.int .i64 0) ∧ w2.cell? ⟨w.heap.size + 1, 1, none⟩ = some (.int .i64 0) ∧ w2.cell? ⟨w.heap.size + 1, 2, none⟩ = some (.int .i64 0) ∧ w2.cell? ⟨w.heap.size + 1, 3, none⟩ = some (.int .i64 0) ∧ w2.cell? ⟨w.heap.size + 1, 4, none⟩ = some (.int .i64 0) ∧ w2.cell? ⟨w.heap.size + 1, 5, none⟩ = some (.int .i64 0) ∧ w2.cell? ⟨w.heap.size + 1, 6, none⟩ = some (.int .i64 0) ∧ w2.cell? ⟨w.heap.size + 1, 7, none⟩ = some (.int .i64 0) ∧ w2.cell? ⟨w.heap.size + 1, 8, none⟩ = some (.int .i64 0) := ⟨HZ2.out.cell rfl, HZ2.out.cell rfl, HZ2.out.cell rfl, HZ2.out.cell rfl, HZ2.out.cell rfl, HZ2.out.cell rfl, HZ2.out.cell rfl, HZ2.out.cell rfl, HZ2.out.cell rfl⟩
    have f0 := HZ2.out.free 0
    have f1 := HZ2.out.free 1
    have f2 := HZ2.out.free 2
    have f3 := HZ2.out.free 3
    have f4 := HZ2.out.free 4
    have f5 := HZ2.out.free 5
    have f6 := HZ2.out.free 6
    have f7 := HZ2.out.free 7
    have f8 := HZ2.out.free 8
    have HBC := HB2
    go_wp2_with fail
    exact bodyPost_ret (v := .tuple #[.agg #[.int .i64 0, .int .i64 0, .int .i64 0, .int .i64 0, .int .i64 0, .int .i64 0, .int .i64 0, .int .i64 0, .int .i64 0], .bool false]) (by simp [results, Try.results28, go_sem, q0, q1, q2, q3, q4, q5, q6, q7, q8]) rfl ⟨rfl, by first | with_reducible exact (((((((((HBC.out.setCell (p := ⟨w.heap.size + 1, 0, none⟩) (by simp) (.int .i64 0)).setCell (p := ⟨w.heap.size + 1, 1, none⟩) (by simp) (.int .i64 0)).setCell (p := ⟨w.heap.size + 1, 2, none⟩) (by simp) (.int .i64 0)).setCell (p := ⟨w.heap.size + 1, 3, none⟩) (by simp) (.int .i64 0)).setCell (p := ⟨w.heap.size + 1, 4, none⟩) (by simp) (.int .i64 0)).setCell (p := ⟨w.heap.size + 1, 5, none⟩) (by simp) (.int .i64 0)).setCell (p := ⟨w.heap.size + 1, 6, none⟩) (by simp) (.int .i64 0)).setCell (p := ⟨w.heap.size + 1, 7, none⟩) (by simp) (.int .i64 0)).setCell (p := ⟨w.heap.size + 1, 8, none⟩) (by simp) (.int .i64 0)) | with_reducible exact HBC.out | exact (((((((((HBC.out.setCell (p := ⟨w.heap.size + 1, 0, none⟩) (by simp) (.int .i64 0)).setCell (p := ⟨w.heap.size + 1, 1, none⟩) (by simp) (.int .i64 0)).setCell (p := ⟨w.heap.size + 1, 2, none⟩) (by simp) (.int .i64 0)).setCell (p := ⟨w.heap.size + 1, 3, none⟩) (by simp) (.int .i64 0)).setCell (p := ⟨w.heap.size + 1, 4, none⟩) (by simp) (.int .i64 0)).setCell (p := ⟨w.heap.size + 1, 5, none⟩) (by simp) (.int .i64 0)).setCell (p := ⟨w.heap.size + 1, 6, none⟩) (by simp) (.int .i64 0)).setCell (p := ⟨w.heap.size + 1, 7, none⟩) (by simp) (.int .i64 0)).setCell (p := ⟨w.heap.size + 1, 8, none⟩) (by simp) (.int .i64 0))⟩
end Go.Proofs.Ytgmoldianhkifaa.PwSign
namespace Go.Proofs.Ytgmoldianhkifaa.PoSign
open Go.ChangeShapes Go.WideShapes Go.ChangeAt Go.RowKit Sl St Ed Dz Kd Pr0 PrSign
set_option maxRecDepth 100000 in
set_option maxHeartbeats 4000000 in
theorem piece_yes (k : Int) (p : Option Addr) (n c : Nat) (m : Int) (zs : List Int) (hm : InI m) (w : World) (hr : Rd .i64 w p n zs) (ht : tag k zs = 104) : Calls Try.prog 29 #[.agg #[.int .i64 k, .slice p n c, .int .i64 m]] w (Val (.tuple #[.agg #[.int .i64 (zs.getD 1 0), .int .i64 (zs.getD 2 0), .int .i64 (zs.getD 3 0), .int .i64 (zs.getD 4 0), .int .i64 (zs.getD 5 0), .int .i64 (zs.getD 6 0), .int .i64 (zs.getD 7 0), .int .i64 (zs.getD 8 0), .int .i64 m], .bool true]) w) := by
  have hb : Below w.heap.size w ((w.alloc (.cells #[.int .i64 k, .slice p n c, .int .i64 m] 31)).alloc (.cells #[.int .i64 0, .int .i64 0, .int .i64 0, .int .i64 0, .int .i64 0, .int .i64 0, .int .i64 0, .int .i64 0, .int .i64 0] 53)) := (box1 w _).alloc (by simp) _
  have hx := (Bx.new w 31 #[.int .i64 k, .slice p n c, .int .i64 m]).alloc (.cells #[.int .i64 0, .int .i64 0, .int .i64 0, .int .i64 0, .int .i64 0, .int .i64 0, .int .i64 0, .int .i64 0, .int .i64 0] 53)
  have hz := Bx.new (w.alloc (.cells #[.int .i64 k, .slice p n c, .int .i64 m] 31)) 53 #[.int .i64 0, .int .i64 0, .int .i64 0, .int .i64 0, .int .i64 0, .int .i64 0, .int .i64 0, .int .i64 0, .int .i64 0]
  rw [World.size_alloc] at hz
  have HBV := Lib.hid hb
  have HX := Lib.hid hx
  have HZ := Lib.hid hz
  have HR := Lib.hid ((RdD.ofInts (S := fun _ => True) hr (fun _ _ _ _ => trivial)).below hb)
  clear hb hx hz hr
  obtain ⟨v0, v1, v2⟩ := DpPiece.bxc HX.out
  obtain ⟨z1, hz1⟩ : ∃ z, zs.getD 1 0 = z := ⟨_, rfl⟩
  rw [hz1]
  have HZ_1 := Lib.hid hz1
  clear hz1
  obtain ⟨z2, hz2⟩ : ∃ z, zs.getD 2 0 = z := ⟨_, rfl⟩
  rw [hz2]
  have HZ_2 := Lib.hid hz2
  clear hz2
  obtain ⟨z3, hz3⟩ : ∃ z, zs.getD 3 0 = z := ⟨_, rfl⟩
  rw [hz3]
  have HZ_3 := Lib.hid hz3
  clear hz3
  obtain ⟨z4, hz4⟩ : ∃ z, zs.getD 4 0 = z := ⟨_, rfl⟩
  rw [hz4]
  have HZ_4 := Lib.hid hz4
  clear hz4
  obtain ⟨z5, hz5⟩ : ∃ z, zs.getD 5 0 = z := ⟨_, rfl⟩
  rw [hz5]
  have HZ_5 := Lib.hid hz5
  clear hz5
  obtain ⟨z6, hz6⟩ : ∃ z, zs.getD 6 0 = z := ⟨_, rfl⟩
  rw [hz6]
  have HZ_6 := Lib.hid hz6
  clear hz6
  obtain ⟨z7, hz7⟩ : ∃ z, zs.getD 7 0 = z := ⟨_, rfl⟩
  rw [hz7]
  have HZ_7 := Lib.hid hz7
  clear hz7
  obtain ⟨z8, hz8⟩ : ∃ z, zs.getD 8 0 = z := ⟨_, rfl⟩
  rw [hz8]
  have HZ_8 := Lib.hid hz8
  clear hz8
  go_enter Try.func29, Try.ntmps29
  go_wp2_with fail
  generalize ((w.alloc (.cells #[.int .i64 k, .slice p n c, .int .i64 m] 31)).alloc (.cells #[.int .i64 0, .int .i64 0, .int .i64 0, .int .i64 0, .int .i64 0, .int .i64 0, .int .i64 0, .int .i64 0, .int .i64 0] 53)) = V at HBV HX HZ HR ⊢
  refine (stated_yes k _ _ _ m zs hm V HR.out.ints ht).mono ?_
  rintro e w2 ⟨rfl, hb⟩
  have HB2 := Lib.hid (below_on HBV.out hb)
  have HZ2 := Lib.hid (HZ.out.below hb)
  clear hb v0 v1 v2 ht
  rw [HZ_1.out, HZ_2.out, HZ_3.out, HZ_4.out, HZ_5.out, HZ_6.out, HZ_7.out, HZ_8.out]
  have HZ3 := HZ2
  have HB3 := HB2
  obtain ⟨q0, q1, q2, q3, q4, q5, q6, q7, q8⟩ : w2.cell? ⟨w.heap.size + 1, 0, none⟩ = some (.int .i64 0) ∧ w2.cell? ⟨w.heap.size + 1, 1, none⟩ = some (.int .i64 0) ∧ w2.cell? ⟨w.heap.size + 1, 2, none⟩ = some (.int .i64 0) ∧ w2.cell? ⟨w.heap.size + 1, 3, none⟩ = some (.int .i64 0) ∧ w2.cell? ⟨w.heap.size + 1, 4, none⟩ = some (.int .i64 0) ∧ w2.cell? ⟨w.heap.size + 1, 5, none⟩ = some (.int .i64 0) ∧ w2.cell? ⟨w.heap.size + 1, 6, none⟩ = some (.int .i64 0) ∧ w2.cell? ⟨w.heap.size + 1, 7, none⟩ = some (.int .i64 0) ∧ w2.cell? ⟨w.heap.size + 1, 8, none⟩ = some (.int .i64 0) := ⟨HZ3.out.cell rfl, HZ3.out.cell rfl, HZ3.out.cell rfl, HZ3.out.cell rfl, HZ3.out.cell rfl, HZ3.out.cell rfl, HZ3.out.cell rfl, HZ3.out.cell rfl, HZ3.out.cell rfl⟩
  have f0 := HZ3.out.free 0
  have f1 := HZ3.out.free 1
  have f2 := HZ3.out.free 2
  have f3 := HZ3.out.free 3
  have f4 := HZ3.out.free 4
  have f5 := HZ3.out.free 5
  have f6 := HZ3.out.free 6
  have f7 := HZ3.out.free 7
  have f8 := HZ3.out.free 8
  go_wp2_with fail
  exact bodyPost_ret (v := .tuple #[.agg #[.int .i64 z1, .int .i64 z2, .int .i64 z3, .int .i64 z4, .int .i64 z5, .int .i64 z6, .int .i64 z7, .int .i64 z8, .int .i64 m], .bool true]) (by simp [results, Try.results29, go_sem, q0, q1, q2, q3, q4, q5, q6, q7, q8]) rfl ⟨rfl, by first | with_reducible exact (((((((((HB3.out.setCell (p := ⟨w.heap.size + 1, 0, none⟩) (by simp) (.int .i64 z1)).setCell (p := ⟨w.heap.size + 1, 1, none⟩) (by simp) (.int .i64 z2)).setCell (p := ⟨w.heap.size + 1, 2, none⟩) (by simp) (.int .i64 z3)).setCell (p := ⟨w.heap.size + 1, 3, none⟩) (by simp) (.int .i64 z4)).setCell (p := ⟨w.heap.size + 1, 4, none⟩) (by simp) (.int .i64 z5)).setCell (p := ⟨w.heap.size + 1, 5, none⟩) (by simp) (.int .i64 z6)).setCell (p := ⟨w.heap.size + 1, 6, none⟩) (by simp) (.int .i64 z7)).setCell (p := ⟨w.heap.size + 1, 7, none⟩) (by simp) (.int .i64 z8)).setCell (p := ⟨w.heap.size + 1, 8, none⟩) (by simp) (.int .i64 m)) | with_reducible exact HB3.out | exact (((((((((HB3.out.setCell (p := ⟨w.heap.size + 1, 0, none⟩) (by simp) (.int .i64 z1)).setCell (p := ⟨w.heap.size + 1, 1, none⟩) (by simp) (.int .i64 z2)).setCell (p := ⟨w.heap.size + 1, 2, none⟩) (by simp) (.int .i64 z3)).setCell (p := ⟨w.heap.size + 1, 3, none⟩) (by simp) (.int .i64 z4)).setCell (p := ⟨w.heap.size + 1, 4, none⟩) (by simp) (.int .i64 z5)).setCell (p := ⟨w.heap.size + 1, 5, none⟩) (by simp) (.int .i64 z6)).setCell (p := ⟨w.heap.size + 1, 6, none⟩) (by simp) (.int .i64 z7)).setCell (p := ⟨w.heap.size + 1, 7, none⟩) (by simp) (.int .i64 z8)).setCell (p := ⟨w.heap.size + 1, 8, none⟩) (by simp) (.int .i64 m))⟩
set_option maxRecDepth 100000 in
set_option maxHeartbeats 4000000 in
theorem piece_no (k : Int) (p : Option Addr) (n c : Nat) (m : Int) (zs : List Int) (hm : InI m) (w : World) (hr : Rd .i64 w p n zs) (ht : ¬ tag k zs = 104) : Calls Try.prog 29 #[.agg #[.int .i64 k, .slice p n c, .int .i64 m]] w (Val (.tuple #[.agg #[.int .i64 0, .int .i64 0, .int .i64 0, .int .i64 0, .int .i64 0, .int .i64 0, .int .i64 0, .int .i64 0, .int .i64 0], .bool false]) w) := by
  have hb : Below w.heap.size w ((w.alloc (.cells #[.int .i64 k, .slice p n c, .int .i64 m] 31)).alloc (.cells #[.int .i64 0, .int .i64 0, .int .i64 0, .int .i64 0, .int .i64 0, .int .i64 0, .int .i64 0, .int .i64 0, .int .i64 0] 53)) := (box1 w _).alloc (by simp) _
  have hx := (Bx.new w 31 #[.int .i64 k, .slice p n c, .int .i64 m]).alloc (.cells #[.int .i64 0, .int .i64 0, .int .i64 0, .int .i64 0, .int .i64 0, .int .i64 0, .int .i64 0, .int .i64 0, .int .i64 0] 53)
  have hz := Bx.new (w.alloc (.cells #[.int .i64 k, .slice p n c, .int .i64 m] 31)) 53 #[.int .i64 0, .int .i64 0, .int .i64 0, .int .i64 0, .int .i64 0, .int .i64 0, .int .i64 0, .int .i64 0, .int .i64 0]
  rw [World.size_alloc] at hz
  have HBV := Lib.hid hb
  have HX := Lib.hid hx
  have HZ := Lib.hid hz
  have HR := Lib.hid ((RdD.ofInts (S := fun _ => True) hr (fun _ _ _ _ => trivial)).below hb)
  clear hb hx hz hr
  obtain ⟨v0, v1, v2⟩ := DpPiece.bxc HX.out
  go_enter Try.func29, Try.ntmps29
  go_wp2_with fail
  generalize ((w.alloc (.cells #[.int .i64 k, .slice p n c, .int .i64 m] 31)).alloc (.cells #[.int .i64 0, .int .i64 0, .int .i64 0, .int .i64 0, .int .i64 0, .int .i64 0, .int .i64 0, .int .i64 0, .int .i64 0] 53)) = V at HBV HX HZ HR ⊢
  refine (stated_no k _ _ _ m zs hm V HR.out.ints ht).mono ?_
  rintro e w2 ⟨rfl, hb⟩
  have HB2 := Lib.hid (below_on HBV.out hb)
  have HZ2 := Lib.hid (HZ.out.below hb)
  clear hb v0 v1 v2 ht
  have HZ3 := HZ2
  have HB3 := HB2
  obtain ⟨q0, q1, q2, q3, q4, q5, q6, q7, q8⟩ : w2.cell? ⟨w.heap.size + 1, 0, none⟩ = some (.int .i64 0) ∧ w2.cell? ⟨w.heap.size + 1, 1, none⟩ = some (.int .i64 0) ∧ w2.cell? ⟨w.heap.size + 1, 2, none⟩ = some (.int .i64 0) ∧ w2.cell? ⟨w.heap.size + 1, 3, none⟩ = some (.int .i64 0) ∧ w2.cell? ⟨w.heap.size + 1, 4, none⟩ = some (.int .i64 0) ∧ w2.cell? ⟨w.heap.size + 1, 5, none⟩ = some (.int .i64 0) ∧ w2.cell? ⟨w.heap.size + 1, 6, none⟩ = some (.int .i64 0) ∧ w2.cell? ⟨w.heap.size + 1, 7, none⟩ = some (.int .i64 0) ∧ w2.cell? ⟨w.heap.size + 1, 8, none⟩ = some (.int .i64 0) := ⟨HZ3.out.cell rfl, HZ3.out.cell rfl, HZ3.out.cell rfl, HZ3.out.cell rfl, HZ3.out.cell rfl, HZ3.out.cell rfl, HZ3.out.cell rfl, HZ3.out.cell rfl, HZ3.out.cell rfl⟩
  have f0 := HZ3.out.free 0
  have f1 := HZ3.out.free 1
  have f2 := HZ3.out.free 2
  have f3 := HZ3.out.free 3
  have f4 := HZ3.out.free 4
  have f5 := HZ3.out.free 5
  have f6 := HZ3.out.free 6
  have f7 := HZ3.out.free 7
  have f8 := HZ3.out.free 8
  go_wp2_with fail
  exact bodyPost_ret (v := .tuple #[.agg #[.int .i64 0, .int .i64 0, .int .i64 0, .int .i64 0, .int .i64 0, .int .i64 0, .int .i64 0, .int .i64 0, .int .i64 0], .bool false]) (by simp [results, Try.results29, go_sem, q0, q1, q2, q3, q4, q5, q6, q7, q8]) rfl ⟨rfl, by first | with_reducible exact (((((((((HB3.out.setCell (p := ⟨w.heap.size + 1, 0, none⟩) (by simp) (.int .i64 0)).setCell (p := ⟨w.heap.size + 1, 1, none⟩) (by simp) (.int .i64 0)).setCell (p := ⟨w.heap.size + 1, 2, none⟩) (by simp) (.int .i64 0)).setCell (p := ⟨w.heap.size + 1, 3, none⟩) (by simp) (.int .i64 0)).setCell (p := ⟨w.heap.size + 1, 4, none⟩) (by simp) (.int .i64 0)).setCell (p := ⟨w.heap.size + 1, 5, none⟩) (by simp) (.int .i64 0)).setCell (p := ⟨w.heap.size + 1, 6, none⟩) (by simp) (.int .i64 0)).setCell (p := ⟨w.heap.size + 1, 7, none⟩) (by simp) (.int .i64 0)).setCell (p := ⟨w.heap.size + 1, 8, none⟩) (by simp) (.int .i64 0)) | with_reducible exact HB3.out | exact (((((((((HB3.out.setCell (p := ⟨w.heap.size + 1, 0, none⟩) (by simp) (.int .i64 0)).setCell (p := ⟨w.heap.size + 1, 1, none⟩) (by simp) (.int .i64 0)).setCell (p := ⟨w.heap.size + 1, 2, none⟩) (by simp) (.int .i64 0)).setCell (p := ⟨w.heap.size + 1, 3, none⟩) (by simp) (.int .i64 0)).setCell (p := ⟨w.heap.size + 1, 4, none⟩) (by simp) (.int .i64 0)).setCell (p := ⟨w.heap.size + 1, 5, none⟩) (by simp) (.int .i64 0)).setCell (p := ⟨w.heap.size + 1, 6, none⟩) (by simp) (.int .i64 0)).setCell (p := ⟨w.heap.size + 1, 7, none⟩) (by simp) (.int .i64 0)).setCell (p := ⟨w.heap.size + 1, 8, none⟩) (by simp) (.int .i64 0))⟩
def out (k : Int) (zs : List Int) (m : Int) : (Int × Int × Int × Int × Int × Int × Int × Int × Int) × Bool := if tag k zs = 104 then (((zs.getD 1 0), (zs.getD 2 0), (zs.getD 3 0), (zs.getD 4 0), (zs.getD 5 0), (zs.getD 6 0), (zs.getD 7 0), (zs.getD 8 0), m), true) else ((0, 0, 0, 0, 0, 0, 0, 0, 0), false)
theorem piece_any (k : Int) (p : Option Addr) (n c : Nat) (m : Int) (zs : List Int) (y0 y1 y2 y3 y4 y5 y6 y7 y8 : Int) (b : Bool) (h : out k zs m = ((y0, y1, y2, y3, y4, y5, y6, y7, y8), b)) (hm : InI m) (w : World) (hr : Rd .i64 w p n zs) : Calls Try.prog 29 #[.agg #[.int .i64 k, .slice p n c, .int .i64 m]] w (Val (.tuple #[.agg #[.int .i64 y0, .int .i64 y1, .int .i64 y2, .int .i64 y3, .int .i64 y4, .int .i64 y5, .int .i64 y6, .int .i64 y7, .int .i64 y8], .bool b]) w) := by
  unfold out at h
  by_cases ht : tag k zs = 104
  · rw [if_pos ht] at h
    simp only [Prod.mk.injEq] at h
    obtain ⟨⟨rfl, rfl, rfl, rfl, rfl, rfl, rfl, rfl, rfl⟩, rfl⟩ := h
    exact piece_yes k p n c m zs hm w hr ht
  · rw [if_neg ht] at h
    simp only [Prod.mk.injEq] at h
    obtain ⟨⟨rfl, rfl, rfl, rfl, rfl, rfl, rfl, rfl, rfl⟩, rfl⟩ := h
    exact piece_no k p n c m zs hm w hr ht
theorem spec_any (k : Int) (p : Option Addr) (n c : Nat) (m : Int) (zs : List Int) (y0 y1 y2 y3 y4 y5 y6 y7 y8 : Int) (b : Bool) (h : out k zs m = ((y0, y1, y2, y3, y4, y5, y6, y7, y8), b)) (w : World) (hr : Rd .i64 w p n zs) : Calls Try.prog 28 #[.agg #[.int .i64 k, .slice p n c, .int .i64 m]] w (Val (.tuple #[.agg #[.int .i64 y0, .int .i64 y1, .int .i64 y2, .int .i64 y3, .int .i64 y4, .int .i64 y5, .int .i64 y6, .int .i64 y7, .int .i64 y8], .bool b]) w) := by
  unfold out at h
  by_cases ht : tag k zs = 104
  · rw [if_pos ht] at h
    simp only [Prod.mk.injEq] at h
    obtain ⟨⟨rfl, rfl, rfl, rfl, rfl, rfl, rfl, rfl, rfl⟩, rfl⟩ := h
    exact PwSign.spec_yes k p n c m zs w hr ht
  · rw [if_neg ht] at h
    simp only [Prod.mk.injEq] at h
    obtain ⟨⟨rfl, rfl, rfl, rfl, rfl, rfl, rfl, rfl, rfl⟩, rfl⟩ := h
    exact PwSign.spec_no k p n c m zs w hr ht
end Go.Proofs.Ytgmoldianhkifaa.PoSign

namespace Go.Proofs.Ytgmoldianhkifaa.PwMandate
open Go.ChangeShapes Go.WideShapes Go.ChangeAt Go.RowKit Sl St Ed Dz Kd Pr0
theorem drewB {W w : World} {B : Nat} (h : Below B W w) : Below B W w.drew := below_drewN h 1
set_option maxRecDepth 100000 in
set_option maxHeartbeats 4000000 in
theorem spec_yes (k : Int) (p : Option Addr) (n c : Nat) (m : Int) (zs : List Int) (w : World) (hr : Rd .i64 w p n zs) (ht : tag k zs = 105) : Calls Try.prog 31 #[.agg #[.int .i64 k, .slice p n c, .int .i64 m]] w (Val (.tuple #[.agg #[.int .i64 (zs.getD 1 0), .int .i64 (zs.getD 2 0), .int .i64 (zs.getD 3 0), .int .i64 (zs.getD 4 0), .int .i64 (zs.getD 5 0), .int .i64 m], .bool true]) w) := by
  have hl := hr.len
  have hb : Below w.heap.size w ((w.alloc (.cells #[.int .i64 k, .slice p n c, .int .i64 m] 31)).alloc (.cells #[.int .i64 0, .int .i64 0, .int .i64 0, .int .i64 0, .int .i64 0, .int .i64 0] 58)) := (box1 w _).alloc (by simp) _
  have hx := (Bx.new w 31 #[.int .i64 k, .slice p n c, .int .i64 m]).alloc (.cells #[.int .i64 0, .int .i64 0, .int .i64 0, .int .i64 0, .int .i64 0, .int .i64 0] 58)
  have hz := Bx.new (w.alloc (.cells #[.int .i64 k, .slice p n c, .int .i64 m] 31)) 58 #[.int .i64 0, .int .i64 0, .int .i64 0, .int .i64 0, .int .i64 0, .int .i64 0]
  rw [World.size_alloc] at hz
  have HBV := Lib.hid hb
  have HX := Lib.hid hx
  have HZ := Lib.hid hz
  have HR := Lib.hid ((RdD.ofInts (S := fun _ => True) hr (fun _ _ _ _ => trivial)).below hb)
  have ho : ownOf k zs = k := by
    by_cases h : ownOf k zs = k
    · exact h
    · rw [tag_other h] at ht
      exact absurd ht (by decide)
  have hkd : kd zs = 105 := by rw [← tag_own ho]; exact ht
  obtain rfl : n = 6 := by
    rcases kd_cases zs hl with ⟨h, _, g⟩ | ⟨h, _, g⟩ | ⟨h, _, g⟩ | ⟨h, _, g⟩ | ⟨h, _, g⟩ | g <;> rw [hkd] at g <;> first | exact h | exact absurd g (by decide)
  have HK : Hid (kind 6 (zs.getD 0 0) = 105) := Lib.hid ((kd_of hl).trans hkd)
  rw [own_Mandate hkd] at ho
  have HRW := Lib.hid hr
  clear ht hkd hb hx hz hr hl
  skip
  obtain ⟨b, o, rfl, hbb, hc⟩ := cells_of HRW.out (by decide)
  have hne : ¬ b = w.heap.size + 1 := by omega
  have hne2 : ¬ w.heap.size + 1 = b := by omega
  have HCE := Lib.hid hc
  have HBb := Lib.hid hbb
  clear hc hbb
  obtain ⟨z1, hz1⟩ : ∃ z, zs.getD 1 0 = z := ⟨_, rfl⟩
  rw [hz1]
  have HZ_1 := Lib.hid hz1
  clear hz1
  obtain ⟨z2, hz2⟩ : ∃ z, zs.getD 2 0 = z := ⟨_, rfl⟩
  rw [hz2]
  have HZ_2 := Lib.hid hz2
  clear hz2
  obtain ⟨z3, hz3⟩ : ∃ z, zs.getD 3 0 = z := ⟨_, rfl⟩
  rw [hz3]
  have HZ_3 := Lib.hid hz3
  clear hz3
  obtain ⟨z4, hz4⟩ : ∃ z, zs.getD 4 0 = z := ⟨_, rfl⟩
  rw [hz4]
  have HZ_4 := Lib.hid hz4
  clear hz4
  obtain ⟨z5, hz5⟩ : ∃ z, zs.getD 5 0 = z := ⟨_, rfl⟩
  rw [hz5]
  have HZ_5 := Lib.hid hz5
  clear hz5
  have HCO := Lib.hid (HCE.out 5 (by decide))
  rw [ho] at HCO
  have e1 : (k != k) = false := by simp
  have e2 : (k == k) = true := by simp
  clear ho
  go_enter Try.func31, Try.ntmps31
  go_wp2_with fail
  generalize ((w.alloc (.cells #[.int .i64 k, .slice (some ⟨b, o, none⟩) 6 c, .int .i64 m] 31)).alloc (.cells #[.int .i64 0, .int .i64 0, .int .i64 0, .int .i64 0, .int .i64 0, .int .i64 0] 58)) = V at HBV HX HZ HR ⊢
  have HC : Hid (∀ w', Qt.Keeps (V) w' → w'.cell? ⟨w.heap.size, 0, none⟩ = some (.int .i64 k) ∧ w'.cell? ⟨w.heap.size, 1, none⟩ = some (.slice (some ⟨b, o, none⟩) 6 c) ∧ w'.cell? ⟨w.heap.size, 2, none⟩ = some (.int .i64 m) ∧ w'.cell? ⟨b, o + 5, none⟩ = some (.int .i64 k)) := Lib.hid fun w' hw => let h := DpPiece.bxc (HX.out.below hw); ⟨h.1, h.2.1, h.2.2, ((below_on HBV.out hw).cell (p := ⟨b, o + 5, none⟩) HBb.out).trans HCO.out⟩
  refine Qt.region (Qt.Keeps (V)) (by kernel_rfl) (by kernel_rfl) (Qt.Keeps.drew _) ?_
  repeat (first
    | go_big_quiet_skip
    | (go_big_quiet_want
       refine Qt.val (v := ?_) (fun w hw => ?_) ?_
       rotate_left
       · obtain ⟨v0, v1, v2, c0⟩ := HC.out w hw
         go_simp
         rfl
       simp only [Act.put, List.setIfInBounds_toArray, List.set_cons_zero, List.set_cons_succ]
       go_big_quiet_on)
    | (go_big_quiet_want
       refine Qt.call (v := .int .i64 105) (f := 58) (args := #[.agg #[.int .i64 k, .slice (some ⟨b, o, none⟩) 6 c, .int .i64 m]]) (fun w hw => ?_) (fun w hw => ?_) ?_
       · go_simp
       · refine (Kq.spec_kind_any k _ _ _ m zs _ (HR.out.below hw).ints).mono ?_
         rintro e w1 ⟨rfl, hb1⟩
         rw [HK.out]
         exact ⟨rfl, hw.then hb1⟩
       simp only [Act.put, List.setIfInBounds_toArray, List.set_cons_zero, List.set_cons_succ]
       go_big_quiet_on))
  refine wpQuiet_nil ?_
  intro w2 hw2
  have HB2 := Lib.hid (below_on HBV.out hw2)
  have HX2 := Lib.hid (HX.out.below hw2)
  have HZ2 := Lib.hid (HZ.out.below hw2)
  have HV2 := Lib.hid hw2
  clear hw2
  have c1 := (HB2.out.cell (p := ⟨b, o + 1, none⟩) HBb.out).trans (HCE.out 1 (by decide))
  have c2 := (HB2.out.cell (p := ⟨b, o + 2, none⟩) HBb.out).trans (HCE.out 2 (by decide))
  have c3 := (HB2.out.cell (p := ⟨b, o + 3, none⟩) HBb.out).trans (HCE.out 3 (by decide))
  have c4 := (HB2.out.cell (p := ⟨b, o + 4, none⟩) HBb.out).trans (HCE.out 4 (by decide))
  have c5 := (HB2.out.cell (p := ⟨b, o + 5, none⟩) HBb.out).trans (HCE.out 5 (by decide))
  rw [HZ_1.out] at c1
  rw [HZ_2.out] at c2
  rw [HZ_3.out] at c3
  rw [HZ_4.out] at c4
  rw [HZ_5.out] at c5
  clear HK HCE HCO
  obtain ⟨v0, v1, v2⟩ := DpPiece.bxc HX2.out
  obtain ⟨q0, q1, q2, q3, q4, q5⟩ : w2.cell? ⟨w.heap.size + 1, 0, none⟩ = some (.int .i64 0) ∧ w2.cell? ⟨w.heap.size + 1, 1, none⟩ = some (.int .i64 0) ∧ w2.cell? ⟨w.heap.size + 1, 2, none⟩ = some (.int .i64 0) ∧ w2.cell? ⟨w.heap.size + 1, 3, none⟩ = some (.int .i64 0) ∧ w2.cell? ⟨w.heap.size + 1, 4, none⟩ = some (.int .i64 0) ∧ w2.cell? ⟨w.heap.size + 1, 5, none⟩ = some (.int .i64 0) := ⟨HZ2.out.cell rfl, HZ2.out.cell rfl, HZ2.out.cell rfl, HZ2.out.cell rfl, HZ2.out.cell rfl, HZ2.out.cell rfl⟩
  have f0 := HZ2.out.free 0
  have f1 := HZ2.out.free 1
  have f2 := HZ2.out.free 2
  have f3 := HZ2.out.free 3
  have f4 := HZ2.out.free 4
  have f5 := HZ2.out.free 5
  go_wp2_with fail
  go_region_held3 (fun w' => w'.cell? ⟨w.heap.size, 1, none⟩ = some (.slice (some ⟨b, o, none⟩) 6 c) ∧ w'.cell? ⟨w.heap.size, 2, none⟩ = some (.int .i64 m) ∧ w'.cell? ⟨b, o + 1, none⟩ = some (.int .i64 z1) ∧ w'.cell? ⟨b, o + 2, none⟩ = some (.int .i64 z2) ∧ w'.cell? ⟨b, o + 3, none⟩ = some (.int .i64 z3) ∧ w'.cell? ⟨b, o + 4, none⟩ = some (.int .i64 z4) ∧ w'.cell? ⟨b, o + 5, none⟩ = some (.int .i64 z5)) (first | go_keep) (fail)
  all_goals
    have HBC := HB2
    go_wp2_with fail
    exact bodyPost_ret (v := .tuple #[.agg #[.int .i64 z1, .int .i64 z2, .int .i64 z3, .int .i64 z4, .int .i64 z5, .int .i64 m], .bool true]) (by simp [results, Try.results31, go_sem, q0, q1, q2, q3, q4, q5]) rfl ⟨rfl, by first | with_reducible exact drewB ((((((HBC.out.setCell (p := ⟨w.heap.size + 1, 0, none⟩) (by simp) (.int .i64 z1)).setCell (p := ⟨w.heap.size + 1, 1, none⟩) (by simp) (.int .i64 z2)).setCell (p := ⟨w.heap.size + 1, 2, none⟩) (by simp) (.int .i64 z3)).setCell (p := ⟨w.heap.size + 1, 3, none⟩) (by simp) (.int .i64 z4)).setCell (p := ⟨w.heap.size + 1, 4, none⟩) (by simp) (.int .i64 z5)).setCell (p := ⟨w.heap.size + 1, 5, none⟩) (by simp) (.int .i64 m)) | with_reducible exact HBC.out | exact drewB ((((((HBC.out.setCell (p := ⟨w.heap.size + 1, 0, none⟩) (by simp) (.int .i64 z1)).setCell (p := ⟨w.heap.size + 1, 1, none⟩) (by simp) (.int .i64 z2)).setCell (p := ⟨w.heap.size + 1, 2, none⟩) (by simp) (.int .i64 z3)).setCell (p := ⟨w.heap.size + 1, 3, none⟩) (by simp) (.int .i64 z4)).setCell (p := ⟨w.heap.size + 1, 4, none⟩) (by simp) (.int .i64 z5)).setCell (p := ⟨w.heap.size + 1, 5, none⟩) (by simp) (.int .i64 m))⟩
set_option maxRecDepth 100000 in
set_option maxHeartbeats 4000000 in
theorem spec_no (k : Int) (p : Option Addr) (n c : Nat) (m : Int) (zs : List Int) (w : World) (hr : Rd .i64 w p n zs) (ht : ¬ tag k zs = 105) : Calls Try.prog 31 #[.agg #[.int .i64 k, .slice p n c, .int .i64 m]] w (Val (.tuple #[.agg #[.int .i64 0, .int .i64 0, .int .i64 0, .int .i64 0, .int .i64 0, .int .i64 0], .bool false]) w) := by
  have hl := hr.len
  have hb : Below w.heap.size w ((w.alloc (.cells #[.int .i64 k, .slice p n c, .int .i64 m] 31)).alloc (.cells #[.int .i64 0, .int .i64 0, .int .i64 0, .int .i64 0, .int .i64 0, .int .i64 0] 58)) := (box1 w _).alloc (by simp) _
  have hx := (Bx.new w 31 #[.int .i64 k, .slice p n c, .int .i64 m]).alloc (.cells #[.int .i64 0, .int .i64 0, .int .i64 0, .int .i64 0, .int .i64 0, .int .i64 0] 58)
  have hz := Bx.new (w.alloc (.cells #[.int .i64 k, .slice p n c, .int .i64 m] 31)) 58 #[.int .i64 0, .int .i64 0, .int .i64 0, .int .i64 0, .int .i64 0, .int .i64 0]
  rw [World.size_alloc] at hz
  have HBV := Lib.hid hb
  have HX := Lib.hid hx
  have HZ := Lib.hid hz
  have HR := Lib.hid ((RdD.ofInts (S := fun _ => True) hr (fun _ _ _ _ => trivial)).below hb)
  have HRW := Lib.hid hr
  clear hb hx hz hr
  by_cases hkd : kd zs = 105
  rotate_left
  · obtain ⟨κ, hκ⟩ : ∃ z, kind n (zs.getD 0 0) = z := ⟨_, rfl⟩
    have hne : ¬ κ = 105 := by rw [← hκ, kd_of hl]; exact hkd
    have HK := Lib.hid hκ
    have e1 : (κ != 105) = true := bne_iff_ne.2 hne
    have e2 : (κ == 105) = false := beq_eq_false_iff_ne.2 hne
    clear hκ hne hkd hl ht
    go_enter Try.func31, Try.ntmps31
    go_wp2_with fail
    generalize ((w.alloc (.cells #[.int .i64 k, .slice p n c, .int .i64 m] 31)).alloc (.cells #[.int .i64 0, .int .i64 0, .int .i64 0, .int .i64 0, .int .i64 0, .int .i64 0] 58)) = V at HBV HX HZ HR ⊢
    have HC : Hid (∀ w', Qt.Keeps (V) w' → w'.cell? ⟨w.heap.size, 0, none⟩ = some (.int .i64 k) ∧ w'.cell? ⟨w.heap.size, 1, none⟩ = some (.slice p n c) ∧ w'.cell? ⟨w.heap.size, 2, none⟩ = some (.int .i64 m)) := Lib.hid fun w' hw => DpPiece.bxc (HX.out.below hw)
    refine Qt.region (Qt.Keeps (V)) (by kernel_rfl) (by kernel_rfl) (Qt.Keeps.drew _) ?_
    repeat (first
      | go_big_quiet_skip
      | (go_big_quiet_want
         refine Qt.val (v := ?_) (fun w hw => ?_) ?_
         rotate_left
         · obtain ⟨v0, v1, v2⟩ := HC.out w hw
           go_simp
           rfl
         simp only [Act.put, List.setIfInBounds_toArray, List.set_cons_zero, List.set_cons_succ]
         go_big_quiet_on)
      | (go_big_quiet_want
         refine Qt.call (v := .int .i64 κ) (f := 58) (args := #[.agg #[.int .i64 k, .slice p n c, .int .i64 m]]) (fun w hw => ?_) (fun w hw => ?_) ?_
         · go_simp
         · refine (Kq.spec_kind_any k _ _ _ m zs _ (HR.out.below hw).ints).mono ?_
           rintro e w1 ⟨rfl, hb1⟩
           rw [HK.out]
           exact ⟨rfl, hw.then hb1⟩
         simp only [Act.put, List.setIfInBounds_toArray, List.set_cons_zero, List.set_cons_succ]
         go_big_quiet_on))
    refine wpQuiet_nil ?_
    intro w2 hw2
    have HB2 := Lib.hid (below_on HBV.out hw2)
    have HX2 := Lib.hid (HX.out.below hw2)
    have HZ2 := Lib.hid (HZ.out.below hw2)
    have HV2 := Lib.hid hw2
    clear hw2
    obtain ⟨q0, q1, q2, q3, q4, q5⟩ : w2.cell? ⟨w.heap.size + 1, 0, none⟩ = some (.int .i64 0) ∧ w2.cell? ⟨w.heap.size + 1, 1, none⟩ = some (.int .i64 0) ∧ w2.cell? ⟨w.heap.size + 1, 2, none⟩ = some (.int .i64 0) ∧ w2.cell? ⟨w.heap.size + 1, 3, none⟩ = some (.int .i64 0) ∧ w2.cell? ⟨w.heap.size + 1, 4, none⟩ = some (.int .i64 0) ∧ w2.cell? ⟨w.heap.size + 1, 5, none⟩ = some (.int .i64 0) := ⟨HZ2.out.cell rfl, HZ2.out.cell rfl, HZ2.out.cell rfl, HZ2.out.cell rfl, HZ2.out.cell rfl, HZ2.out.cell rfl⟩
    have f0 := HZ2.out.free 0
    have f1 := HZ2.out.free 1
    have f2 := HZ2.out.free 2
    have f3 := HZ2.out.free 3
    have f4 := HZ2.out.free 4
    have f5 := HZ2.out.free 5
    have HBC := HB2
    go_wp2_with fail
    exact bodyPost_ret (v := .tuple #[.agg #[.int .i64 0, .int .i64 0, .int .i64 0, .int .i64 0, .int .i64 0, .int .i64 0], .bool false]) (by simp [results, Try.results31, go_sem, q0, q1, q2, q3, q4, q5]) rfl ⟨rfl, by first | with_reducible exact ((((((HBC.out.setCell (p := ⟨w.heap.size + 1, 0, none⟩) (by simp) (.int .i64 0)).setCell (p := ⟨w.heap.size + 1, 1, none⟩) (by simp) (.int .i64 0)).setCell (p := ⟨w.heap.size + 1, 2, none⟩) (by simp) (.int .i64 0)).setCell (p := ⟨w.heap.size + 1, 3, none⟩) (by simp) (.int .i64 0)).setCell (p := ⟨w.heap.size + 1, 4, none⟩) (by simp) (.int .i64 0)).setCell (p := ⟨w.heap.size + 1, 5, none⟩) (by simp) (.int .i64 0)) | with_reducible exact HBC.out | exact ((((((HBC.out.setCell (p := ⟨w.heap.size + 1, 0, none⟩) (by simp) (.int .i64 0)).setCell (p := ⟨w.heap.size + 1, 1, none⟩) (by simp) (.int .i64 0)).setCell (p := ⟨w.heap.size + 1, 2, none⟩) (by simp) (.int .i64 0)).setCell (p := ⟨w.heap.size + 1, 3, none⟩) (by simp) (.int .i64 0)).setCell (p := ⟨w.heap.size + 1, 4, none⟩) (by simp) (.int .i64 0)).setCell (p := ⟨w.heap.size + 1, 5, none⟩) (by simp) (.int .i64 0))⟩
  · have ho : ¬ zs.getD 5 0 = k := fun h => ht (by rw [tag_own (by rw [own_Mandate hkd]; exact h), hkd])
    obtain rfl : n = 6 := by
      rcases kd_cases zs hl with ⟨h, _, g⟩ | ⟨h, _, g⟩ | ⟨h, _, g⟩ | ⟨h, _, g⟩ | ⟨h, _, g⟩ | g <;> rw [hkd] at g <;> first | exact h | exact absurd g (by decide)
    have HK : Hid (kind 6 (zs.getD 0 0) = 105) := Lib.hid ((kd_of hl).trans hkd)
    clear ht hkd hl
    obtain ⟨b, o, rfl, hbb, hc⟩ := cells_of HRW.out (by decide)
    have hne : ¬ b = w.heap.size + 1 := by omega
    have hne2 : ¬ w.heap.size + 1 = b := by omega
    have HCE := Lib.hid hc
    have HBb := Lib.hid hbb
    clear hc hbb
    have HCO := Lib.hid (HCE.out 5 (by decide))
    generalize zs.getD 5 0 = zo at HCO ho
    have e1 : (zo != k) = true := bne_iff_ne.2 ho
    have e2 : (zo == k) = false := beq_eq_false_iff_ne.2 ho
    clear ho
    go_enter Try.func31, Try.ntmps31
    go_wp2_with fail
    generalize ((w.alloc (.cells #[.int .i64 k, .slice (some ⟨b, o, none⟩) 6 c, .int .i64 m] 31)).alloc (.cells #[.int .i64 0, .int .i64 0, .int .i64 0, .int .i64 0, .int .i64 0, .int .i64 0] 58)) = V at HBV HX HZ HR HCE HBb HCO ⊢
    have HC : Hid (∀ w', Qt.Keeps (V) w' → w'.cell? ⟨w.heap.size, 0, none⟩ = some (.int .i64 k) ∧ w'.cell? ⟨w.heap.size, 1, none⟩ = some (.slice (some ⟨b, o, none⟩) 6 c) ∧ w'.cell? ⟨w.heap.size, 2, none⟩ = some (.int .i64 m) ∧ w'.cell? ⟨b, o + 5, none⟩ = some (.int .i64 zo)) := Lib.hid fun w' hw => let h := DpPiece.bxc (HX.out.below hw); ⟨h.1, h.2.1, h.2.2, ((below_on HBV.out hw).cell (p := ⟨b, o + 5, none⟩) HBb.out).trans HCO.out⟩
    refine Qt.region (Qt.Keeps (V)) (by kernel_rfl) (by kernel_rfl) (Qt.Keeps.drew _) ?_
    repeat (first
      | go_big_quiet_skip
      | (go_big_quiet_want
         refine Qt.val (v := ?_) (fun w hw => ?_) ?_
         rotate_left
         · obtain ⟨v0, v1, v2, c0⟩ := HC.out w hw
           go_simp
           rfl
         simp only [Act.put, List.setIfInBounds_toArray, List.set_cons_zero, List.set_cons_succ]
         go_big_quiet_on)
      | (go_big_quiet_want
         refine Qt.call (v := .int .i64 105) (f := 58) (args := #[.agg #[.int .i64 k, .slice (some ⟨b, o, none⟩) 6 c, .int .i64 m]]) (fun w hw => ?_) (fun w hw => ?_) ?_
         · go_simp
         · refine (Kq.spec_kind_any k _ _ _ m zs _ (HR.out.below hw).ints).mono ?_
           rintro e w1 ⟨rfl, hb1⟩
           rw [HK.out]
           exact ⟨rfl, hw.then hb1⟩
         simp only [Act.put, List.setIfInBounds_toArray, List.set_cons_zero, List.set_cons_succ]
         go_big_quiet_on))
    refine wpQuiet_nil ?_
    intro w2 hw2
    have HB2 := Lib.hid (below_on HBV.out hw2)
    have HX2 := Lib.hid (HX.out.below hw2)
    have HZ2 := Lib.hid (HZ.out.below hw2)
    have HV2 := Lib.hid hw2
    clear hw2
    obtain ⟨q0, q1, q2, q3, q4, q5⟩ : w2.cell? ⟨w.heap.size + 1, 0, none⟩ = some (.int .i64 0) ∧ w2.cell? ⟨w.heap.size + 1, 1, none⟩ = some (.int .i64 0) ∧ w2.cell? ⟨w.heap.size + 1, 2, none⟩ = some (.int .i64 0) ∧ w2.cell? ⟨w.heap.size + 1, 3, none⟩ = some (.int .i64 0) ∧ w2.cell? ⟨w.heap.size + 1, 4, none⟩ = some (.int .i64 0) ∧ w2.cell? ⟨w.heap.size + 1, 5, none⟩ = some (.int .i64 0) := ⟨HZ2.out.cell rfl, HZ2.out.cell rfl, HZ2.out.cell rfl, HZ2.out.cell rfl, HZ2.out.cell rfl, HZ2.out.cell rfl⟩
    have f0 := HZ2.out.free 0
    have f1 := HZ2.out.free 1
    have f2 := HZ2.out.free 2
    have f3 := HZ2.out.free 3
    have f4 := HZ2.out.free 4
    have f5 := HZ2.out.free 5
    have HBC := HB2
    go_wp2_with fail
    exact bodyPost_ret (v := .tuple #[.agg #[.int .i64 0, .int .i64 0, .int .i64 0, .int .i64 0, .int .i64 0, .int .i64 0], .bool false]) (by simp [results, Try.results31, go_sem, q0, q1, q2, q3, q4, q5]) rfl ⟨rfl, by first | with_reducible exact ((((((HBC.out.setCell (p := ⟨w.heap.size + 1, 0, none⟩) (by simp) (.int .i64 0)).setCell (p := ⟨w.heap.size + 1, 1, none⟩) (by simp) (.int .i64 0)).setCell (p := ⟨w.heap.size + 1, 2, none⟩) (by simp) (.int .i64 0)).setCell (p := ⟨w.heap.size + 1, 3, none⟩) (by simp) (.int .i64 0)).setCell (p := ⟨w.heap.size + 1, 4, none⟩) (by simp) (.int .i64 0)).setCell (p := ⟨w.heap.size + 1, 5, none⟩) (by simp) (.int .i64 0)) | with_reducible exact HBC.out | exact ((((((HBC.out.setCell (p := ⟨w.heap.size + 1, 0, none⟩) (by simp) (.int .i64 0)).setCell (p := ⟨w.heap.size + 1, 1, none⟩) (by simp) (.int .i64 0)).setCell (p := ⟨w.heap.size + 1, 2, none⟩) (by simp) (.int .i64 0)).setCell (p := ⟨w.heap.size + 1, 3, none⟩) (by simp) (.int .i64 0)).setCell (p := ⟨w.heap.size + 1, 4, none⟩) (by simp) (.int .i64 0)).setCell (p := ⟨w.heap.size + 1, 5, none⟩) (by simp) (.int .i64 0))⟩
end Go.Proofs.Ytgmoldianhkifaa.PwMandate
namespace Go.Proofs.Ytgmoldianhkifaa.PoMandate
open Go.ChangeShapes Go.WideShapes Go.ChangeAt Go.RowKit Sl St Ed Dz Kd Pr0 PrMandate
set_option maxRecDepth 100000 in
set_option maxHeartbeats 4000000 in
theorem piece_yes (k : Int) (p : Option Addr) (n c : Nat) (m : Int) (zs : List Int) (hm : InI m) (w : World) (hr : Rd .i64 w p n zs) (ht : tag k zs = 105) : Calls Try.prog 32 #[.agg #[.int .i64 k, .slice p n c, .int .i64 m]] w (Val (.tuple #[.agg #[.int .i64 (zs.getD 1 0), .int .i64 (zs.getD 2 0), .int .i64 (zs.getD 3 0), .int .i64 (zs.getD 4 0), .int .i64 (zs.getD 5 0), .int .i64 m], .bool true]) w) := by
  have hb : Below w.heap.size w ((w.alloc (.cells #[.int .i64 k, .slice p n c, .int .i64 m] 31)).alloc (.cells #[.int .i64 0, .int .i64 0, .int .i64 0, .int .i64 0, .int .i64 0, .int .i64 0] 58)) := (box1 w _).alloc (by simp) _
  have hx := (Bx.new w 31 #[.int .i64 k, .slice p n c, .int .i64 m]).alloc (.cells #[.int .i64 0, .int .i64 0, .int .i64 0, .int .i64 0, .int .i64 0, .int .i64 0] 58)
  have hz := Bx.new (w.alloc (.cells #[.int .i64 k, .slice p n c, .int .i64 m] 31)) 58 #[.int .i64 0, .int .i64 0, .int .i64 0, .int .i64 0, .int .i64 0, .int .i64 0]
  rw [World.size_alloc] at hz
  have HBV := Lib.hid hb
  have HX := Lib.hid hx
  have HZ := Lib.hid hz
  have HR := Lib.hid ((RdD.ofInts (S := fun _ => True) hr (fun _ _ _ _ => trivial)).below hb)
  clear hb hx hz hr
  obtain ⟨v0, v1, v2⟩ := DpPiece.bxc HX.out
  obtain ⟨z1, hz1⟩ : ∃ z, zs.getD 1 0 = z := ⟨_, rfl⟩
  rw [hz1]
  have HZ_1 := Lib.hid hz1
  clear hz1
  obtain ⟨z2, hz2⟩ : ∃ z, zs.getD 2 0 = z := ⟨_, rfl⟩
  rw [hz2]
  have HZ_2 := Lib.hid hz2
  clear hz2
  obtain ⟨z3, hz3⟩ : ∃ z, zs.getD 3 0 = z := ⟨_, rfl⟩
  rw [hz3]
  have HZ_3 := Lib.hid hz3
  clear hz3
  obtain ⟨z4, hz4⟩ : ∃ z, zs.getD 4 0 = z := ⟨_, rfl⟩
  rw [hz4]
  have HZ_4 := Lib.hid hz4
  clear hz4
  obtain ⟨z5, hz5⟩ : ∃ z, zs.getD 5 0 = z := ⟨_, rfl⟩
  rw [hz5]
  have HZ_5 := Lib.hid hz5
  clear hz5
  go_enter Try.func32, Try.ntmps32
  go_wp2_with fail
  generalize ((w.alloc (.cells #[.int .i64 k, .slice p n c, .int .i64 m] 31)).alloc (.cells #[.int .i64 0, .int .i64 0, .int .i64 0, .int .i64 0, .int .i64 0, .int .i64 0] 58)) = V at HBV HX HZ HR ⊢
  refine (stated_yes k _ _ _ m zs hm V HR.out.ints ht).mono ?_
  rintro e w2 ⟨rfl, hb⟩
  have HB2 := Lib.hid (below_on HBV.out hb)
  have HZ2 := Lib.hid (HZ.out.below hb)
  clear hb v0 v1 v2 ht
  rw [HZ_1.out, HZ_2.out, HZ_3.out, HZ_4.out, HZ_5.out]
  have HZ3 := HZ2
  have HB3 := HB2
  obtain ⟨q0, q1, q2, q3, q4, q5⟩ : w2.cell? ⟨w.heap.size + 1, 0, none⟩ = some (.int .i64 0) ∧ w2.cell? ⟨w.heap.size + 1, 1, none⟩ = some (.int .i64 0) ∧ w2.cell? ⟨w.heap.size + 1, 2, none⟩ = some (.int .i64 0) ∧ w2.cell? ⟨w.heap.size + 1, 3, none⟩ = some (.int .i64 0) ∧ w2.cell? ⟨w.heap.size + 1, 4, none⟩ = some (.int .i64 0) ∧ w2.cell? ⟨w.heap.size + 1, 5, none⟩ = some (.int .i64 0) := ⟨HZ3.out.cell rfl, HZ3.out.cell rfl, HZ3.out.cell rfl, HZ3.out.cell rfl, HZ3.out.cell rfl, HZ3.out.cell rfl⟩
  have f0 := HZ3.out.free 0
  have f1 := HZ3.out.free 1
  have f2 := HZ3.out.free 2
  have f3 := HZ3.out.free 3
  have f4 := HZ3.out.free 4
  have f5 := HZ3.out.free 5
  go_wp2_with fail
  exact bodyPost_ret (v := .tuple #[.agg #[.int .i64 z1, .int .i64 z2, .int .i64 z3, .int .i64 z4, .int .i64 z5, .int .i64 m], .bool true]) (by simp [results, Try.results32, go_sem, q0, q1, q2, q3, q4, q5]) rfl ⟨rfl, by first | with_reducible exact ((((((HB3.out.setCell (p := ⟨w.heap.size + 1, 0, none⟩) (by simp) (.int .i64 z1)).setCell (p := ⟨w.heap.size + 1, 1, none⟩) (by simp) (.int .i64 z2)).setCell (p := ⟨w.heap.size + 1, 2, none⟩) (by simp) (.int .i64 z3)).setCell (p := ⟨w.heap.size + 1, 3, none⟩) (by simp) (.int .i64 z4)).setCell (p := ⟨w.heap.size + 1, 4, none⟩) (by simp) (.int .i64 z5)).setCell (p := ⟨w.heap.size + 1, 5, none⟩) (by simp) (.int .i64 m)) | with_reducible exact HB3.out | exact ((((((HB3.out.setCell (p := ⟨w.heap.size + 1, 0, none⟩) (by simp) (.int .i64 z1)).setCell (p := ⟨w.heap.size + 1, 1, none⟩) (by simp) (.int .i64 z2)).setCell (p := ⟨w.heap.size + 1, 2, none⟩) (by simp) (.int .i64 z3)).setCell (p := ⟨w.heap.size + 1, 3, none⟩) (by simp) (.int .i64 z4)).setCell (p := ⟨w.heap.size + 1, 4, none⟩) (by simp) (.int .i64 z5)).setCell (p := ⟨w.heap.size + 1, 5, none⟩) (by simp) (.int .i64 m))⟩
set_option maxRecDepth 100000 in
set_option maxHeartbeats 4000000 in
theorem piece_no (k : Int) (p : Option Addr) (n c : Nat) (m : Int) (zs : List Int) (hm : InI m) (w : World) (hr : Rd .i64 w p n zs) (ht : ¬ tag k zs = 105) : Calls Try.prog 32 #[.agg #[.int .i64 k, .slice p n c, .int .i64 m]] w (Val (.tuple #[.agg #[.int .i64 0, .int .i64 0, .int .i64 0, .int .i64 0, .int .i64 0, .int .i64 0], .bool false]) w) := by
  have hb : Below w.heap.size w ((w.alloc (.cells #[.int .i64 k, .slice p n c, .int .i64 m] 31)).alloc (.cells #[.int .i64 0, .int .i64 0, .int .i64 0, .int .i64 0, .int .i64 0, .int .i64 0] 58)) := (box1 w _).alloc (by simp) _
  have hx := (Bx.new w 31 #[.int .i64 k, .slice p n c, .int .i64 m]).alloc (.cells #[.int .i64 0, .int .i64 0, .int .i64 0, .int .i64 0, .int .i64 0, .int .i64 0] 58)
  have hz := Bx.new (w.alloc (.cells #[.int .i64 k, .slice p n c, .int .i64 m] 31)) 58 #[.int .i64 0, .int .i64 0, .int .i64 0, .int .i64 0, .int .i64 0, .int .i64 0]
  rw [World.size_alloc] at hz
  have HBV := Lib.hid hb
  have HX := Lib.hid hx
  have HZ := Lib.hid hz
  have HR := Lib.hid ((RdD.ofInts (S := fun _ => True) hr (fun _ _ _ _ => trivial)).below hb)
  clear hb hx hz hr
  obtain ⟨v0, v1, v2⟩ := DpPiece.bxc HX.out
  go_enter Try.func32, Try.ntmps32
  go_wp2_with fail
  generalize ((w.alloc (.cells #[.int .i64 k, .slice p n c, .int .i64 m] 31)).alloc (.cells #[.int .i64 0, .int .i64 0, .int .i64 0, .int .i64 0, .int .i64 0, .int .i64 0] 58)) = V at HBV HX HZ HR ⊢
  refine (stated_no k _ _ _ m zs hm V HR.out.ints ht).mono ?_
  rintro e w2 ⟨rfl, hb⟩
  have HB2 := Lib.hid (below_on HBV.out hb)
  have HZ2 := Lib.hid (HZ.out.below hb)
  clear hb v0 v1 v2 ht
  have HZ3 := HZ2
  have HB3 := HB2
  obtain ⟨q0, q1, q2, q3, q4, q5⟩ : w2.cell? ⟨w.heap.size + 1, 0, none⟩ = some (.int .i64 0) ∧ w2.cell? ⟨w.heap.size + 1, 1, none⟩ = some (.int .i64 0) ∧ w2.cell? ⟨w.heap.size + 1, 2, none⟩ = some (.int .i64 0) ∧ w2.cell? ⟨w.heap.size + 1, 3, none⟩ = some (.int .i64 0) ∧ w2.cell? ⟨w.heap.size + 1, 4, none⟩ = some (.int .i64 0) ∧ w2.cell? ⟨w.heap.size + 1, 5, none⟩ = some (.int .i64 0) := ⟨HZ3.out.cell rfl, HZ3.out.cell rfl, HZ3.out.cell rfl, HZ3.out.cell rfl, HZ3.out.cell rfl, HZ3.out.cell rfl⟩
  have f0 := HZ3.out.free 0
  have f1 := HZ3.out.free 1
  have f2 := HZ3.out.free 2
  have f3 := HZ3.out.free 3
  have f4 := HZ3.out.free 4
  have f5 := HZ3.out.free 5
  go_wp2_with fail
  exact bodyPost_ret (v := .tuple #[.agg #[.int .i64 0, .int .i64 0, .int .i64 0, .int .i64 0, .int .i64 0, .int .i64 0], .bool false]) (by simp [results, Try.results32, go_sem, q0, q1, q2, q3, q4, q5]) rfl ⟨rfl, by first | with_reducible exact ((((((HB3.out.setCell (p := ⟨w.heap.size + 1, 0, none⟩) (by simp) (.int .i64 0)).setCell (p := ⟨w.heap.size + 1, 1, none⟩) (by simp) (.int .i64 0)).setCell (p := ⟨w.heap.size + 1, 2, none⟩) (by simp) (.int .i64 0)).setCell (p := ⟨w.heap.size + 1, 3, none⟩) (by simp) (.int .i64 0)).setCell (p := ⟨w.heap.size + 1, 4, none⟩) (by simp) (.int .i64 0)).setCell (p := ⟨w.heap.size + 1, 5, none⟩) (by simp) (.int .i64 0)) | with_reducible exact HB3.out | exact ((((((HB3.out.setCell (p := ⟨w.heap.size + 1, 0, none⟩) (by simp) (.int .i64 0)).setCell (p := ⟨w.heap.size + 1, 1, none⟩) (by simp) (.int .i64 0)).setCell (p := ⟨w.heap.size + 1, 2, none⟩) (by simp) (.int .i64 0)).setCell (p := ⟨w.heap.size + 1, 3, none⟩) (by simp) (.int .i64 0)).setCell (p := ⟨w.heap.size + 1, 4, none⟩) (by simp) (.int .i64 0)).setCell (p := ⟨w.heap.size + 1, 5, none⟩) (by simp) (.int .i64 0))⟩
def out (k : Int) (zs : List Int) (m : Int) : (Int × Int × Int × Int × Int × Int) × Bool := if tag k zs = 105 then (((zs.getD 1 0), (zs.getD 2 0), (zs.getD 3 0), (zs.getD 4 0), (zs.getD 5 0), m), true) else ((0, 0, 0, 0, 0, 0), false)
theorem piece_any (k : Int) (p : Option Addr) (n c : Nat) (m : Int) (zs : List Int) (y0 y1 y2 y3 y4 y5 : Int) (b : Bool) (h : out k zs m = ((y0, y1, y2, y3, y4, y5), b)) (hm : InI m) (w : World) (hr : Rd .i64 w p n zs) : Calls Try.prog 32 #[.agg #[.int .i64 k, .slice p n c, .int .i64 m]] w (Val (.tuple #[.agg #[.int .i64 y0, .int .i64 y1, .int .i64 y2, .int .i64 y3, .int .i64 y4, .int .i64 y5], .bool b]) w) := by
  unfold out at h
  by_cases ht : tag k zs = 105
  · rw [if_pos ht] at h
    simp only [Prod.mk.injEq] at h
    obtain ⟨⟨rfl, rfl, rfl, rfl, rfl, rfl⟩, rfl⟩ := h
    exact piece_yes k p n c m zs hm w hr ht
  · rw [if_neg ht] at h
    simp only [Prod.mk.injEq] at h
    obtain ⟨⟨rfl, rfl, rfl, rfl, rfl, rfl⟩, rfl⟩ := h
    exact piece_no k p n c m zs hm w hr ht
theorem spec_any (k : Int) (p : Option Addr) (n c : Nat) (m : Int) (zs : List Int) (y0 y1 y2 y3 y4 y5 : Int) (b : Bool) (h : out k zs m = ((y0, y1, y2, y3, y4, y5), b)) (w : World) (hr : Rd .i64 w p n zs) : Calls Try.prog 31 #[.agg #[.int .i64 k, .slice p n c, .int .i64 m]] w (Val (.tuple #[.agg #[.int .i64 y0, .int .i64 y1, .int .i64 y2, .int .i64 y3, .int .i64 y4, .int .i64 y5], .bool b]) w) := by
  unfold out at h
  by_cases ht : tag k zs = 105
  · rw [if_pos ht] at h
    simp only [Prod.mk.injEq] at h
    obtain ⟨⟨rfl, rfl, rfl, rfl, rfl, rfl⟩, rfl⟩ := h
    exact PwMandate.spec_yes k p n c m zs w hr ht
  · rw [if_neg ht] at h
    simp only [Prod.mk.injEq] at h
    obtain ⟨⟨rfl, rfl, rfl, rfl, rfl, rfl⟩, rfl⟩ := h
    exact PwMandate.spec_no k p n c m zs w hr ht
end Go.Proofs.Ytgmoldianhkifaa.PoMandate
