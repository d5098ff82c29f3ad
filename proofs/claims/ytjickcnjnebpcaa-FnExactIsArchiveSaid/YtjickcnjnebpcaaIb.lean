/- Valid archives, in the reference. -/
import Derived.Test.YtjickcnjnebpcaaItr
import Derived.Test.YtjickcnjnebpcaaIa
import Derived.Test.YtjickcnjnebpcaaDpArchive
import Derived.Test.YtjickcnjnebpcaaQt
import Derived.LoopTactic
import Derived.Outline
namespace Go.Proofs.Ytjickcnjnebpcaa.Ib
open Go.ChangeShapes Go.WideShapes Go.ChangeAt Go.RowKit Sl St Ed Dz Fnd It0
open Ia in
theorem are_no {xs : List DpItem.A} {k : Nat} (hk : k < xs.length) (h : ¬ Step isItem (fun x => x.1) Z xs k) (id : Int) : isA id xs = false := by
  unfold isA
  rw [show are xs = false from areL_no hk h, Bool.and_false]
set_option maxRecDepth 100000 in
set_option maxHeartbeats 32000000 in
theorem spec_archive_any (x0 : Int) (xs : List DpItem.A) (p : Option Addr) (n c : Nat) {S : Nat → Prop} (w : World) (hr : RdD DpItem.E S w p n xs) : Calls Try.prog 14 #[.agg #[.int .i64 x0, .slice p n c]] w (Val (.bool (Ia.isA x0 xs)) w) := by
  have hb := box1 w (.cells #[.int .i64 x0, .slice p n c] 54)
  have HV := Lib.hid hb
  have HX := Lib.hid (Bx.new w 54 #[.int .i64 x0, .slice p n c])
  have HR := Lib.hid (hr.below hb)
  have HL := Lib.hid hr.len
  have hle := hr.le
  clear hr hb
  go_enter Try.func14, Try.ntmps14
  go_wp2_with fail
  generalize w.alloc (.cells #[.int .i64 x0, .slice p n c] 54) = V at HV HX HR ⊢
  go_loopw [3] (fun i wr => ∃ k : Nat, k ≤ n ∧ i = .int .i64 k ∧ Hid ((∀ j, j < k → Step isItem (fun x => x.1) Ia.Z xs j) ∧ Below V.heap.size V wr)) (fun i _ => n - (intOf i).toNat)
  case atStart => exact ⟨0, Nat.zero_le _, rfl, Lib.hid ⟨fun j h => by omega, Below.refl _ _⟩⟩
  case round =>
    obtain ⟨k, hk, rfl, HK⟩ := hrel
    have HB := Lib.hid HK.out.2
    have HXr := Lib.hid (HX.out.below HB.out)
    have q0 := HXr.out.cell (j := 0) rfl
    have q1 := HXr.out.cell (j := 1) rfl
    simp only [List.getElem_toArray, List.getElem_cons_zero, List.getElem_cons_succ] at q0 q1
    by_cases hlt : k < n
    · skip
      obtain ⟨b, o, x_e, cs_e, rfl, _, hbwe, hxe, hce, hrde⟩ := HR.out.at_ hlt
      obtain ⟨xe0, xe1, ⟨xe2, le3, le4⟩, ⟨xe5, xe6, xe7, xe8, xe9, xe10, xe11, xe12, xe13⟩, ⟨le14, le15⟩⟩ := x_e
      obtain ⟨pe3, ne3, ce3, pe4, ne4, ce4, pe14, ne14, ce14, pe15, ne15, ce15, rfl, be0, be1, be2, he3, he4, be5, he14, he15⟩ := DpItem.ex hrde
      have hcce : ∀ jj v, [.int .i64 xe0, .int .i64 xe1, .int .i64 xe2, .slice pe3 ne3 ce3, .slice pe4 ne4 ce4, .int .i64 xe5, .int .i64 xe6, .int .i64 xe7, .int .i64 xe8, .int .i64 xe9, .int .i64 xe10, .int .i64 xe11, .int .i64 xe12, .int .i64 xe13, .slice pe14 ne14 ce14, .slice pe15 ne15 ce15][jj]? = some v → wr.cell? ⟨b, o + k * 16 + jj, none⟩ = some v := fun jj v hv => (HB.out.cell (p := ⟨b, o + k * 16 + jj, none⟩) hbwe).trans (hce jj v hv)
      have HXe := Lib.hid hxe
      have HCe := Lib.hid hcce
      have He3 := Lib.hid (he3.below HB.out)
      have hne3 := he3.le
      have He4 := Lib.hid (he4.below HB.out)
      have hne4 := he4.le
      have He14 := Lib.hid (he14.below HB.out)
      have hne14 := he14.le
      have He15 := Lib.hid (he15.below HB.out)
      have hne15 := he15.le
      have Gbe0 := Lib.hid be0
      have Gbe1 := Lib.hid be1
      have Gbe2 := Lib.hid be2
      have Gbe5 := Lib.hid be5
      obtain ⟨u0, u1, u2, u3, u4, u5, u6, u7, u8, u9, u10, u11, u12, u13, u14, u15⟩ := DpItem.at_cells hcce
      clear hcce hce hxe hrde be0 be1 be2 he3 he4 be5 he14 he15
      clear u0 u1 u2 u3 u4 u5 u6 u7 u8 u9 u10 u11 u12 u13 u14 u15
      have HCE : Hid (∀ jj v, [.int .i64 xe0, .int .i64 xe1, .int .i64 xe2, .slice pe3 ne3 ce3, .slice pe4 ne4 ce4, .int .i64 xe5, .int .i64 xe6, .int .i64 xe7, .int .i64 xe8, .int .i64 xe9, .int .i64 xe10, .int .i64 xe11, .int .i64 xe12, .int .i64 xe13, .slice pe14 ne14 ce14, .slice pe15 ne15 ce15][jj]? = some v → wr.cell? ⟨b, o + k * 16 + jj, none⟩ = some v) := Lib.hid HCe.out
      have HGet := Lib.hid (Ia.get_of HXe.out)
      have HBS : Hid (b < wr.heap.size) := Lib.hid (Nat.lt_of_lt_of_le hbwe HB.out.size)
      have HKX : Hid (k < xs.length) := Lib.hid (by rw [HL.out]; exact hlt)
      have k1 : (0 : Int) ≤ (k : Int) := by omega
      have k2 : (k : Int) < (n : Int) := by omega
      obtain ⟨β, hβ⟩ : ∃ β, isIt xe0 xe1 xe2 le3 le4 xe5 xe6 xe7 xe8 xe9 xe10 xe11 xe12 xe13 le14 le15 = β := ⟨_, rfl⟩
      have HO := Lib.hid hβ
      have HI : Hid (isItem (xe0, xe1, (xe2, le3, le4), (xe5, xe6, xe7, xe8, xe9, xe10, xe11, xe12, xe13), (le14, le15)) = β) := Lib.hid hβ
      clear hβ
      cases β
      · have HE : Hid (Ia.isA x0 xs = false) := Lib.hid (are_no HKX.out (no_ok HGet.out HI.out) x0)
        go_wp2_with fail
        as_aux_lemma =>
          have HC : Hid (∀ w', Qt.Keeps (wr) w' → w'.cell? ⟨w.heap.size, 1, none⟩ = some (.slice (some ⟨b, o, none⟩) n c) ∧ w'.cell? ⟨b, o + k * 16, none⟩ = some (.int .i64 xe0) ∧ w'.cell? ⟨b, o + k * 16 + 1, none⟩ = some (.int .i64 xe1) ∧ w'.cell? ⟨b, o + k * 16 + 2, none⟩ = some (.int .i64 xe2) ∧ w'.cell? ⟨b, o + k * 16 + 3, none⟩ = some (.slice pe3 ne3 ce3) ∧ w'.cell? ⟨b, o + k * 16 + 4, none⟩ = some (.slice pe4 ne4 ce4) ∧ w'.cell? ⟨b, o + k * 16 + 5, none⟩ = some (.int .i64 xe5) ∧ w'.cell? ⟨b, o + k * 16 + 6, none⟩ = some (.int .i64 xe6) ∧ w'.cell? ⟨b, o + k * 16 + 7, none⟩ = some (.int .i64 xe7) ∧ w'.cell? ⟨b, o + k * 16 + 8, none⟩ = some (.int .i64 xe8) ∧ w'.cell? ⟨b, o + k * 16 + 9, none⟩ = some (.int .i64 xe9) ∧ w'.cell? ⟨b, o + k * 16 + 10, none⟩ = some (.int .i64 xe10) ∧ w'.cell? ⟨b, o + k * 16 + 11, none⟩ = some (.int .i64 xe11) ∧ w'.cell? ⟨b, o + k * 16 + 12, none⟩ = some (.int .i64 xe12) ∧ w'.cell? ⟨b, o + k * 16 + 13, none⟩ = some (.int .i64 xe13) ∧ w'.cell? ⟨b, o + k * 16 + 14, none⟩ = some (.slice pe14 ne14 ce14) ∧ w'.cell? ⟨b, o + k * 16 + 15, none⟩ = some (.slice pe15 ne15 ce15)) := Lib.hid fun w' hw => let h := DpItem.at_cells (fun jj v hv => (hw.cell (p := ⟨b, o + k * 16 + jj, none⟩) HBS.out).trans (HCE.out jj v hv)); ⟨(HXr.out.below hw).cell rfl, h⟩
          refine Qt.region (Qt.Keeps (wr)) (by kernel_rfl) (by kernel_rfl) (Qt.Keeps.drew _) ?_
          repeat (first
            | go_big_quiet_skip
            | (go_big_quiet_want
               refine Qt.val (v := ?_) (fun w hw => ?_) ?_
               rotate_left
               · obtain ⟨a1, y0, y1, y2, y3, y4, y5, y6, y7, y8, y9, y10, y11, y12, y13, y14, y15⟩ := HC.out w hw
                 go_simp
                 rfl
               simp only [Act.put, List.setIfInBounds_toArray, List.set_cons_zero, List.set_cons_succ]
               go_big_quiet_on)
            | (go_big_quiet_want
               refine Qt.call (v := .bool false) (f := 9) (args := #[.agg #[.int .i64 xe0, .int .i64 xe1, .int .i64 xe2, .slice pe3 ne3 ce3, .slice pe4 ne4 ce4, .int .i64 xe5, .int .i64 xe6, .int .i64 xe7, .int .i64 xe8, .int .i64 xe9, .int .i64 xe10, .int .i64 xe11, .int .i64 xe12, .int .i64 xe13, .slice pe14 ne14 ce14, .slice pe15 ne15 ce15]]) (fun w hw => ?_) (fun w hw => ?_) ?_
               · go_simp
               · refine (Itr.spec_item_any xe0 xe1 xe2 le3 pe3 ne3 ce3 le4 pe4 ne4 ce4 xe5 xe6 xe7 xe8 xe9 xe10 xe11 xe12 xe13 le14 pe14 ne14 ce14 le15 pe15 ne15 ce15 _ Gbe5.out (He3.out.below hw) (He4.out.below hw) (He14.out.below hw) (He15.out.below hw)).mono ?_
                 rintro e w1 ⟨rfl, hb1⟩
                 rw [HO.out]
                 exact ⟨rfl, hw.then hb1⟩
               simp only [Act.put, List.setIfInBounds_toArray, List.set_cons_zero, List.set_cons_succ]
               go_big_quiet_on))
          refine wpQuiet_nil ?_
          intro w2 hw2
          as_aux_lemma =>
            have HW2 := Lib.hid (below_on HV.out (below_on HB.out hw2))
            clear hw2 q0 q1
            as_aux_lemma =>
              go_wp2_with fail
              go_ret
              exact val_of (by rw [HE.out]; first | done | rfl) HW2.out
      cases k with
      | zero =>
        have HS := Lib.hid (steps_next HK.out.1 (step_zero HGet.out HI.out))
        have HCE0 : Hid (∀ jj v, [.int .i64 xe0, .int .i64 xe1, .int .i64 xe2, .slice pe3 ne3 ce3, .slice pe4 ne4 ce4, .int .i64 xe5, .int .i64 xe6, .int .i64 xe7, .int .i64 xe8, .int .i64 xe9, .int .i64 xe10, .int .i64 xe11, .int .i64 xe12, .int .i64 xe13, .slice pe14 ne14 ce14, .slice pe15 ne15 ce15][jj]? = some v → wr.cell? ⟨b, o + jj, none⟩ = some v) := Lib.hid (fun jj v hv => by have h := HCE.out jj v hv; rw [Nat.zero_mul, Nat.add_zero] at h; exact h)
        go_wp2_with fail
        as_aux_lemma =>
          have HC : Hid (∀ w', Qt.Keeps (wr) w' → w'.cell? ⟨w.heap.size, 1, none⟩ = some (.slice (some ⟨b, o, none⟩) n c) ∧ w'.cell? ⟨b, o, none⟩ = some (.int .i64 xe0) ∧ w'.cell? ⟨b, o + 1, none⟩ = some (.int .i64 xe1) ∧ w'.cell? ⟨b, o + 2, none⟩ = some (.int .i64 xe2) ∧ w'.cell? ⟨b, o + 3, none⟩ = some (.slice pe3 ne3 ce3) ∧ w'.cell? ⟨b, o + 4, none⟩ = some (.slice pe4 ne4 ce4) ∧ w'.cell? ⟨b, o + 5, none⟩ = some (.int .i64 xe5) ∧ w'.cell? ⟨b, o + 6, none⟩ = some (.int .i64 xe6) ∧ w'.cell? ⟨b, o + 7, none⟩ = some (.int .i64 xe7) ∧ w'.cell? ⟨b, o + 8, none⟩ = some (.int .i64 xe8) ∧ w'.cell? ⟨b, o + 9, none⟩ = some (.int .i64 xe9) ∧ w'.cell? ⟨b, o + 10, none⟩ = some (.int .i64 xe10) ∧ w'.cell? ⟨b, o + 11, none⟩ = some (.int .i64 xe11) ∧ w'.cell? ⟨b, o + 12, none⟩ = some (.int .i64 xe12) ∧ w'.cell? ⟨b, o + 13, none⟩ = some (.int .i64 xe13) ∧ w'.cell? ⟨b, o + 14, none⟩ = some (.slice pe14 ne14 ce14) ∧ w'.cell? ⟨b, o + 15, none⟩ = some (.slice pe15 ne15 ce15)) := Lib.hid fun w' hw => let h := DpItem.at_cells (fun jj v hv => (hw.cell (p := ⟨b, o + jj, none⟩) HBS.out).trans (HCE0.out jj v hv)); ⟨(HXr.out.below hw).cell rfl, h⟩
          refine Qt.region (Qt.Keeps (wr)) (by kernel_rfl) (by kernel_rfl) (Qt.Keeps.drew _) ?_
          repeat (first
            | go_big_quiet_skip
            | (go_big_quiet_want
               refine Qt.val (v := ?_) (fun w hw => ?_) ?_
               rotate_left
               · obtain ⟨a1, y0, y1, y2, y3, y4, y5, y6, y7, y8, y9, y10, y11, y12, y13, y14, y15⟩ := HC.out w hw
                 go_simp
                 rfl
               simp only [Act.put, List.setIfInBounds_toArray, List.set_cons_zero, List.set_cons_succ]
               go_big_quiet_on)
            | (go_big_quiet_want
               refine Qt.call (v := .bool true) (f := 9) (args := #[.agg #[.int .i64 xe0, .int .i64 xe1, .int .i64 xe2, .slice pe3 ne3 ce3, .slice pe4 ne4 ce4, .int .i64 xe5, .int .i64 xe6, .int .i64 xe7, .int .i64 xe8, .int .i64 xe9, .int .i64 xe10, .int .i64 xe11, .int .i64 xe12, .int .i64 xe13, .slice pe14 ne14 ce14, .slice pe15 ne15 ce15]]) (fun w hw => ?_) (fun w hw => ?_) ?_
               · go_simp
               · refine (Itr.spec_item_any xe0 xe1 xe2 le3 pe3 ne3 ce3 le4 pe4 ne4 ce4 xe5 xe6 xe7 xe8 xe9 xe10 xe11 xe12 xe13 le14 pe14 ne14 ce14 le15 pe15 ne15 ce15 _ Gbe5.out (He3.out.below hw) (He4.out.below hw) (He14.out.below hw) (He15.out.below hw)).mono ?_
                 rintro e w1 ⟨rfl, hb1⟩
                 rw [HO.out]
                 exact ⟨rfl, hw.then hb1⟩
               simp only [Act.put, List.setIfInBounds_toArray, List.set_cons_zero, List.set_cons_succ]
               go_big_quiet_on))
          refine wpQuiet_nil ?_
          intro w2 hw2
          as_aux_lemma =>
            have HW2 := Lib.hid (below_on HB.out hw2)
            clear hw2 q0 q1
            go_wp2_with fail
            go_roundw
            case rel => exact ⟨1, by omega, rfl, Lib.hid ⟨HS.out, HW2.out⟩⟩
            case measure => simp [intOf]; omega
      | succ j =>
        obtain ⟨b', o', x_f, cs_f, eqf, _, hbwf, hxf, hcf, hrdf⟩ := HR.out.at_ (show j < n by omega)
        simp only [Option.some.injEq, Addr.mk.injEq, and_true] at eqf
        obtain ⟨rfl, rfl⟩ := eqf
        obtain ⟨xf0, xf1, ⟨xf2, lf3, lf4⟩, ⟨xf5, xf6, xf7, xf8, xf9, xf10, xf11, xf12, xf13⟩, ⟨lf14, lf15⟩⟩ := x_f
        obtain ⟨pf3, nf3, cf3, pf4, nf4, cf4, pf14, nf14, cf14, pf15, nf15, cf15, rfl, _, _, _, _, _, _, _, _⟩ := DpItem.ex hrdf
        have HGf := Lib.hid (Ia.get_of hxf)
        have HF0 : Hid (wr.cell? ⟨b, o + j * 16, none⟩ = some (.int .i64 xf0)) := Lib.hid ((HB.out.cell (p := ⟨b, o + j * 16, none⟩) hbwf).trans (hcf 0 _ rfl))
        have jw : IntKind.i64.wrap (j : Int) = (j : Int) := IntWalk.i64_in _ (by omega)
        have j1 : (0 : Int) ≤ (j : Int) := by omega
        have j2 : (j : Int) < (n : Int) := by omega
        clear hxf hcf hrdf hbwf
        by_cases hlt2 : xf0 < xe0
        all_goals
          first
            | (have HS := Lib.hid (steps_next HK.out.1 (step_next HGet.out HGf.out HI.out hlt2)))
            | (have HE : Hid (Ia.isA x0 xs = false) := Lib.hid (are_no HKX.out (no_rise HGet.out HGf.out hlt2) x0))
          go_wp2_with fail
          as_aux_lemma =>
            have HC : Hid (∀ w', Qt.Keeps (wr) w' → w'.cell? ⟨w.heap.size, 1, none⟩ = some (.slice (some ⟨b, o, none⟩) n c) ∧ w'.cell? ⟨b, o + j * 16, none⟩ = some (.int .i64 xf0) ∧ w'.cell? ⟨b, o + (j + 1) * 16, none⟩ = some (.int .i64 xe0) ∧ w'.cell? ⟨b, o + (j + 1) * 16 + 1, none⟩ = some (.int .i64 xe1) ∧ w'.cell? ⟨b, o + (j + 1) * 16 + 2, none⟩ = some (.int .i64 xe2) ∧ w'.cell? ⟨b, o + (j + 1) * 16 + 3, none⟩ = some (.slice pe3 ne3 ce3) ∧ w'.cell? ⟨b, o + (j + 1) * 16 + 4, none⟩ = some (.slice pe4 ne4 ce4) ∧ w'.cell? ⟨b, o + (j + 1) * 16 + 5, none⟩ = some (.int .i64 xe5) ∧ w'.cell? ⟨b, o + (j + 1) * 16 + 6, none⟩ = some (.int .i64 xe6) ∧ w'.cell? ⟨b, o + (j + 1) * 16 + 7, none⟩ = some (.int .i64 xe7) ∧ w'.cell? ⟨b, o + (j + 1) * 16 + 8, none⟩ = some (.int .i64 xe8) ∧ w'.cell? ⟨b, o + (j + 1) * 16 + 9, none⟩ = some (.int .i64 xe9) ∧ w'.cell? ⟨b, o + (j + 1) * 16 + 10, none⟩ = some (.int .i64 xe10) ∧ w'.cell? ⟨b, o + (j + 1) * 16 + 11, none⟩ = some (.int .i64 xe11) ∧ w'.cell? ⟨b, o + (j + 1) * 16 + 12, none⟩ = some (.int .i64 xe12) ∧ w'.cell? ⟨b, o + (j + 1) * 16 + 13, none⟩ = some (.int .i64 xe13) ∧ w'.cell? ⟨b, o + (j + 1) * 16 + 14, none⟩ = some (.slice pe14 ne14 ce14) ∧ w'.cell? ⟨b, o + (j + 1) * 16 + 15, none⟩ = some (.slice pe15 ne15 ce15)) := Lib.hid fun w' hw => let h := DpItem.at_cells (fun jj v hv => (hw.cell (p := ⟨b, o + (j + 1) * 16 + jj, none⟩) HBS.out).trans (HCE.out jj v hv)); ⟨(HXr.out.below hw).cell rfl, (hw.cell (p := ⟨b, o + j * 16, none⟩) HBS.out).trans HF0.out, h⟩
            refine Qt.region (Qt.Keeps (wr)) (by kernel_rfl) (by kernel_rfl) (Qt.Keeps.drew _) ?_
            repeat (first
              | go_big_quiet_skip
              | (go_big_quiet_want
                 refine Qt.val (v := ?_) (fun w hw => ?_) ?_
                 rotate_left
                 · obtain ⟨a1, f0, y0, y1, y2, y3, y4, y5, y6, y7, y8, y9, y10, y11, y12, y13, y14, y15⟩ := HC.out w hw
                   go_simp
                   rfl
                 simp only [Act.put, List.setIfInBounds_toArray, List.set_cons_zero, List.set_cons_succ]
                 go_big_quiet_on)
              | (go_big_quiet_want
                 refine Qt.call (v := .bool true) (f := 9) (args := #[.agg #[.int .i64 xe0, .int .i64 xe1, .int .i64 xe2, .slice pe3 ne3 ce3, .slice pe4 ne4 ce4, .int .i64 xe5, .int .i64 xe6, .int .i64 xe7, .int .i64 xe8, .int .i64 xe9, .int .i64 xe10, .int .i64 xe11, .int .i64 xe12, .int .i64 xe13, .slice pe14 ne14 ce14, .slice pe15 ne15 ce15]]) (fun w hw => ?_) (fun w hw => ?_) ?_
                 · go_simp
                 · refine (Itr.spec_item_any xe0 xe1 xe2 le3 pe3 ne3 ce3 le4 pe4 ne4 ce4 xe5 xe6 xe7 xe8 xe9 xe10 xe11 xe12 xe13 le14 pe14 ne14 ce14 le15 pe15 ne15 ce15 _ Gbe5.out (He3.out.below hw) (He4.out.below hw) (He14.out.below hw) (He15.out.below hw)).mono ?_
                   rintro e w1 ⟨rfl, hb1⟩
                   rw [HO.out]
                   exact ⟨rfl, hw.then hb1⟩
                 simp only [Act.put, List.setIfInBounds_toArray, List.set_cons_zero, List.set_cons_succ]
                 go_big_quiet_on))
            refine wpQuiet_nil ?_
            intro w2 hw2
            as_aux_lemma =>
              have HW2 := Lib.hid (below_on HB.out hw2)
              clear hw2 q0 q1
              go_wp2_with fail
              first
                | (go_roundw; (case rel => exact ⟨j + 2, by omega, by go_num, Lib.hid ⟨HS.out, HW2.out⟩⟩); (case measure => simp [intOf]; omega))
                | (go_ret; exact val_of (by rw [HE.out]; first | done | rfl) (below_on HV.out HW2.out))
    · obtain rfl : k = n := by omega
      have HA := Lib.hid (areL_all (m := 8) (z := Ia.Z) (ok := isItem) (f := fun x => x.1) (l := xs) (by rw [HL.out]; exact HK.out.1))
      have HW := Lib.hid (below_on HV.out HB.out)
      obtain ⟨β, hβ⟩ : ∃ β, decide (0 ≤ x0 ∧ x0 ≤ 99) = β := ⟨_, rfl⟩
      have HO := Lib.hid hβ
      cases β
      · have HE : Hid (Ia.isA x0 xs = false) := Lib.hid (by unfold Ia.isA; rw [hβ]; rfl)
        clear hβ
        go_wp2_with fail
        refine (Ints.l1In_any _ _ _ false HO.out _).mono ?_
        rintro e w1 ⟨rfl, rfl⟩
        as_aux_lemma =>
          go_wp2_with fail
          go_ret
          exact val_of (by rw [HE.out]; first | done | rfl) HW.out
      · have HE : Hid (Ia.isA x0 xs = decide (xs.length ≤ 8)) := Lib.hid (by unfold Ia.isA Ia.are; rw [hβ, HA.out]; rfl)
        clear hβ
        by_cases h8 : k ≤ 8
        · have HE2 : Hid (Ia.isA x0 xs = true) := Lib.hid (by rw [HE.out, HL.out]; exact decide_eq_true h8)
          have hi8 : (k : Int) ≤ 8 := by omega
          go_wp2_with fail
          refine (Ints.l1In_any _ _ _ true HO.out _).mono ?_
          rintro e w1 ⟨rfl, rfl⟩
          as_aux_lemma =>
            go_wp2_with fail
            go_ret
            exact val_of (by rw [HE2.out]; first | done | rfl | (simp; done) | (simp; omega)) HW.out
        · have HE2 : Hid (Ia.isA x0 xs = false) := Lib.hid (by rw [HE.out, HL.out]; exact decide_eq_false h8)
          have hi8 : ¬ (k : Int) ≤ 8 := by omega
          go_wp2_with fail
          refine (Ints.l1In_any _ _ _ true HO.out _).mono ?_
          rintro e w1 ⟨rfl, rfl⟩
          as_aux_lemma =>
            go_wp2_with fail
            go_ret
            exact val_of (by rw [HE2.out]; first | done | rfl | (simp; done) | (simp; omega)) HW.out
end Go.Proofs.Ytjickcnjnebpcaa.Ib
