/- Valid archives, in the program: sorted lists with function values. -/
import Derived.Test.YtjickcnjnebpcaaIt
import Derived.Test.YtjickcnjnebpcaaDpArchive
import Derived.Test.YtjickcnjnebpcaaQt
import Derived.LoopTactic
import Derived.Outline
namespace Go.Proofs.Ytjickcnjnebpcaa.Ia
open Go.ChangeShapes Go.WideShapes Go.ChangeAt Go.RowKit Sl St Ed Dz Fnd It0
def Z : DpItem.A := (0, 0, (0, [], []), (0, 0, 0, 0, 0, 0, 0, 0, 0), ([], []))
noncomputable def are (xs : List DpItem.A) : Bool := areL isItem (fun x => x.1) Z 8 xs
noncomputable def isA (id : Int) (xs : List DpItem.A) : Bool := decide (0 ≤ id ∧ id ≤ 99) && are xs
theorem get_of {xs : List DpItem.A} {k : Nat} {x : DpItem.A} (h : xs[k]? = some x) : xs.getD k Z = x := by rw [List.getD_eq_getElem?_getD, h]; rfl
theorem isItem_eq (xe0 xe1 xe2 xe5 xe6 xe7 xe8 xe9 xe10 xe11 xe12 xe13 : Int) (le3 : List ByteArray) (le4 : List Int) (le14 : List DpPiece.A) (le15 : List DpRenewal.A) : isItem (xe0, xe1, (xe2, le3, le4), (xe5, xe6, xe7, xe8, xe9, xe10, xe11, xe12, xe13), (le14, le15)) = isIt xe0 xe1 xe2 le3 le4 xe5 xe6 xe7 xe8 xe9 xe10 xe11 xe12 xe13 le14 le15 := rfl
set_option maxRecDepth 100000 in
theorem itemId_any (xe0 : Int) (xe1 : Int) (xe2 : Int) (pe3 : Option Addr) (ne3 ce3 : Nat) (pe4 : Option Addr) (ne4 ce4 : Nat) (xe5 : Int) (xe6 : Int) (xe7 : Int) (xe8 : Int) (xe9 : Int) (xe10 : Int) (xe11 : Int) (xe12 : Int) (xe13 : Int) (pe14 : Option Addr) (ne14 ce14 : Nat) (pe15 : Option Addr) (ne15 ce15 : Nat) (w : World) : Calls Try.prog 53 #[.agg #[.int .i64 xe0, .int .i64 xe1, .int .i64 xe2, .slice pe3 ne3 ce3, .slice pe4 ne4 ce4, .int .i64 xe5, .int .i64 xe6, .int .i64 xe7, .int .i64 xe8, .int .i64 xe9, .int .i64 xe10, .int .i64 xe11, .int .i64 xe12, .int .i64 xe13, .slice pe14 ne14 ce14, .slice pe15 ne15 ce15]] w (Val (.int .i64 xe0) w) := by
  have HB := Lib.hid (box1 w (.cells #[.int .i64 xe0, .int .i64 xe1, .int .i64 xe2, .slice pe3 ne3 ce3, .slice pe4 ne4 ce4, .int .i64 xe5, .int .i64 xe6, .int .i64 xe7, .int .i64 xe8, .int .i64 xe9, .int .i64 xe10, .int .i64 xe11, .int .i64 xe12, .int .i64 xe13, .slice pe14 ne14 ce14, .slice pe15 ne15 ce15] 43))
  go_enter Try.func53, Try.ntmps53
  as_aux_lemma =>
    go_wp2_with fail
    go_ret
    exact val_of rfl HB.out
set_option maxRecDepth 100000 in
set_option maxHeartbeats 32000000 in
theorem sorted_any (xs : List DpItem.A) (p : Option Addr) (n c : Nat) {S : Nat → Prop} (w : World) (hr : RdD DpItem.E S w p n xs) : Calls Try.prog 52 #[.slice p n c, .int .i64 8, .func (.func 11) #[] #[], .func (.func 53) #[] #[]] w (Val (.bool (are xs)) w) := by
  have HR := Lib.hid hr
  have HL := Lib.hid hr.len
  have hle := hr.le
  clear hr
  by_cases h8 : 8 < n
  · have HE : Hid (are xs = false) := Lib.hid (areL_long (by rw [HL.out]; exact h8))
    have hI : (8 : Int) < (n : Int) := by omega
    go_enter Try.func52, Try.ntmps52
    as_aux_lemma =>
      go_wp2_with fail
      go_ret
      exact val_of (by rw [HE.out]; first | done | rfl) (Below.refl _ _)
  have hI : ¬ (8 : Int) < (n : Int) := by omega
  go_enter Try.func52, Try.ntmps52
  go_wp2_with fail
  go_loopw [17] (fun i wr => ∃ k : Nat, k ≤ n ∧ i = .int .i64 k ∧ Hid ((∀ j, j < k → Step isItem (fun x => x.1) Z xs j) ∧ Below w.heap.size w wr)) (fun i _ => n - (intOf i).toNat)
  case atStart => exact ⟨0, Nat.zero_le _, rfl, Lib.hid ⟨fun j h => by omega, Below.refl _ _⟩⟩
  case round =>
    obtain ⟨k, hk, rfl, HK⟩ := hrel
    have HB := Lib.hid HK.out.2
    by_cases hlt : k < n
    · skip
      obtain ⟨b, o, x_e, cs_e, rfl, _, hbwe, hxe, hce, hrde⟩ := HR.out.at_ hlt
      obtain ⟨xe0, xe1, ⟨xe2, le3, le4⟩, ⟨xe5, xe6, xe7, xe8, xe9, xe10, xe11, xe12, xe13⟩, ⟨le14, le15⟩⟩ := x_e
      obtain ⟨pe3, ne3, ce3, pe4, ne4, ce4, pe14, ne14, ce14, pe15, ne15, ce15, rfl, be0, be1, be2, he3, he4, be5, he14, he15⟩ := DpItem.ex hrde
      have hcce : ∀ jj v, [.int .i64 xe0, .int .i64 xe1, .int .i64 xe2, .slice pe3 ne3 ce3, .slice pe4 ne4 ce4, .int .i64 xe5, .int .i64 xe6, .int .i64 xe7, .int .i64 xe8, .int .i64 xe9, .int .i64 xe10, .int .i64 xe11, .int .i64 xe12, .int .i64 xe13, .slice pe14 ne14 ce14, .slice pe15 ne15 ce15][jj]? = some v → wr.cell? ⟨b, o + k * 16 + jj, none⟩ = some v := fun jj v hv => (HB.out.cell (p := ⟨b, o + k * 16 + jj, none⟩) hbwe).trans (hce jj v hv)
      have HXe := Lib.hid hxe
      have HCe := Lib.hid hcce
      have He3 := Lib.hid (he3.below HB.out)
      have hne3 := he3.le
      have He4 := Lib.hid (he4.below HB.out)
      have hne4 := he4.le
      have He14 := Lib.hid (he14.below HB.out)
      have hne14 := he14.le
      have He15 := Lib.hid (he15.below HB.out)
      have hne15 := he15.le
      have Gbe0 := Lib.hid be0
      have Gbe1 := Lib.hid be1
      have Gbe2 := Lib.hid be2
      have Gbe5 := Lib.hid be5
      obtain ⟨u0, u1, u2, u3, u4, u5, u6, u7, u8, u9, u10, u11, u12, u13, u14, u15⟩ := DpItem.at_cells hcce
      clear hcce hce hxe hrde be0 be1 be2 he3 he4 be5 he14 he15
      have HGet := Lib.hid (get_of HXe.out)
      have HN := Lib.hid (Bx.new wr 43 #[.int .i64 xe0, .int .i64 xe1, .int .i64 xe2, .slice pe3 ne3 ce3, .slice pe4 ne4 ce4, .int .i64 xe5, .int .i64 xe6, .int .i64 xe7, .int .i64 xe8, .int .i64 xe9, .int .i64 xe10, .int .i64 xe11, .int .i64 xe12, .int .i64 xe13, .slice pe14 ne14 ce14, .slice pe15 ne15 ce15])
      have HWa := Lib.hid (box1 wr (.cells #[.int .i64 xe0, .int .i64 xe1, .int .i64 xe2, .slice pe3 ne3 ce3, .slice pe4 ne4 ce4, .int .i64 xe5, .int .i64 xe6, .int .i64 xe7, .int .i64 xe8, .int .i64 xe9, .int .i64 xe10, .int .i64 xe11, .int .i64 xe12, .int .i64 xe13, .slice pe14 ne14 ce14, .slice pe15 ne15 ce15] 43))
      have HKX : Hid (k < xs.length) := Lib.hid (by rw [HL.out]; exact hlt)
      obtain ⟨β, hβ⟩ : ∃ β, isIt xe0 xe1 xe2 le3 le4 xe5 xe6 xe7 xe8 xe9 xe10 xe11 xe12 xe13 le14 le15 = β := ⟨_, rfl⟩
      have HO := Lib.hid hβ
      have HI : Hid (isItem (xe0, xe1, (xe2, le3, le4), (xe5, xe6, xe7, xe8, xe9, xe10, xe11, xe12, xe13), (le14, le15)) = β) := Lib.hid hβ
      clear hβ
      cases β
      · have HE : Hid (are xs = false) := Lib.hid (areL_no (i := k) HKX.out (no_ok HGet.out HI.out))
        go_wp2_with fail
        clear u0 u1 u2 u3 u4 u5 u6 u7 u8 u9 u10 u11 u12 u13 u14 u15
        as_aux_lemma =>
          have HC : Hid (∀ w', Qt.Keeps ((wr.alloc (.cells #[.int .i64 xe0, .int .i64 xe1, .int .i64 xe2, .slice pe3 ne3 ce3, .slice pe4 ne4 ce4, .int .i64 xe5, .int .i64 xe6, .int .i64 xe7, .int .i64 xe8, .int .i64 xe9, .int .i64 xe10, .int .i64 xe11, .int .i64 xe12, .int .i64 xe13, .slice pe14 ne14 ce14, .slice pe15 ne15 ce15] 43))) w' → w'.cell? ⟨wr.heap.size, 0, none⟩ = some (.int .i64 xe0) ∧ w'.cell? ⟨wr.heap.size, 1, none⟩ = some (.int .i64 xe1) ∧ w'.cell? ⟨wr.heap.size, 2, none⟩ = some (.int .i64 xe2) ∧ w'.cell? ⟨wr.heap.size, 3, none⟩ = some (.slice pe3 ne3 ce3) ∧ w'.cell? ⟨wr.heap.size, 4, none⟩ = some (.slice pe4 ne4 ce4) ∧ w'.cell? ⟨wr.heap.size, 5, none⟩ = some (.int .i64 xe5) ∧ w'.cell? ⟨wr.heap.size, 6, none⟩ = some (.int .i64 xe6) ∧ w'.cell? ⟨wr.heap.size, 7, none⟩ = some (.int .i64 xe7) ∧ w'.cell? ⟨wr.heap.size, 8, none⟩ = some (.int .i64 xe8) ∧ w'.cell? ⟨wr.heap.size, 9, none⟩ = some (.int .i64 xe9) ∧ w'.cell? ⟨wr.heap.size, 10, none⟩ = some (.int .i64 xe10) ∧ w'.cell? ⟨wr.heap.size, 11, none⟩ = some (.int .i64 xe11) ∧ w'.cell? ⟨wr.heap.size, 12, none⟩ = some (.int .i64 xe12) ∧ w'.cell? ⟨wr.heap.size, 13, none⟩ = some (.int .i64 xe13) ∧ w'.cell? ⟨wr.heap.size, 14, none⟩ = some (.slice pe14 ne14 ce14) ∧ w'.cell? ⟨wr.heap.size, 15, none⟩ = some (.slice pe15 ne15 ce15)) := Lib.hid fun w' hw => DpItem.bxc (HN.out.below hw)
          refine Qt.region (Qt.Keeps ((wr.alloc (.cells #[.int .i64 xe0, .int .i64 xe1, .int .i64 xe2, .slice pe3 ne3 ce3, .slice pe4 ne4 ce4, .int .i64 xe5, .int .i64 xe6, .int .i64 xe7, .int .i64 xe8, .int .i64 xe9, .int .i64 xe10, .int .i64 xe11, .int .i64 xe12, .int .i64 xe13, .slice pe14 ne14 ce14, .slice pe15 ne15 ce15] 43)))) (by kernel_rfl) (by kernel_rfl) (Qt.Keeps.drew _) ?_
          repeat (first
            | go_big_quiet_skip
            | (go_big_quiet_want
               refine Qt.val (v := ?_) (fun w hw => ?_) ?_
               rotate_left
               · obtain ⟨y0, y1, y2, y3, y4, y5, y6, y7, y8, y9, y10, y11, y12, y13, y14, y15⟩ := HC.out w hw
                 go_simp
                 rfl
               simp only [Act.put, List.setIfInBounds_toArray, List.set_cons_zero, List.set_cons_succ]
               go_big_quiet_on)
            | (go_big_quiet_want
               refine Qt.call (v := .bool false) (f := 11) (args := #[.agg #[.int .i64 xe0, .int .i64 xe1, .int .i64 xe2, .slice pe3 ne3 ce3, .slice pe4 ne4 ce4, .int .i64 xe5, .int .i64 xe6, .int .i64 xe7, .int .i64 xe8, .int .i64 xe9, .int .i64 xe10, .int .i64 xe11, .int .i64 xe12, .int .i64 xe13, .slice pe14 ne14 ce14, .slice pe15 ne15 ce15]]) (fun w hw => ?_) (fun w hw => ?_) ?_
               · go_simp
               · refine (It.item_any xe0 xe1 xe2 le3 pe3 ne3 ce3 le4 pe4 ne4 ce4 xe5 xe6 xe7 xe8 xe9 xe10 xe11 xe12 xe13 le14 pe14 ne14 ce14 le15 pe15 ne15 ce15 _ Gbe5.out (He3.out.below (below_on HWa.out hw)) (He4.out.below (below_on HWa.out hw)) (He14.out.below (below_on HWa.out hw)) (He15.out.below (below_on HWa.out hw))).mono ?_
                 rintro e w1 ⟨rfl, hb1⟩
                 rw [HO.out]
                 exact ⟨rfl, hw.then hb1⟩
               simp only [Act.put, List.setIfInBounds_toArray, List.set_cons_zero, List.set_cons_succ]
               go_big_quiet_on))
          refine wpQuiet_nil ?_
          intro w2 hw2
          as_aux_lemma =>
            have HW2 := Lib.hid (below_on HB.out (below_on HWa.out hw2))
            clear hw2
            as_aux_lemma =>
              go_wp2_with fail
              go_ret
              exact val_of (by rw [HE.out]; first | done | rfl) HW2.out
      cases k with
      | zero =>
        have HS := Lib.hid (steps_next HK.out.1 (step_zero HGet.out HI.out))
        rw [Nat.zero_mul, Nat.add_zero] at u0
        rw [Nat.zero_mul, Nat.add_zero] at u1
        rw [Nat.zero_mul, Nat.add_zero] at u2
        rw [Nat.zero_mul, Nat.add_zero] at u3
        rw [Nat.zero_mul, Nat.add_zero] at u4
        rw [Nat.zero_mul, Nat.add_zero] at u5
        rw [Nat.zero_mul, Nat.add_zero] at u6
        rw [Nat.zero_mul, Nat.add_zero] at u7
        rw [Nat.zero_mul, Nat.add_zero] at u8
        rw [Nat.zero_mul, Nat.add_zero] at u9
        rw [Nat.zero_mul, Nat.add_zero] at u10
        rw [Nat.zero_mul, Nat.add_zero] at u11
        rw [Nat.zero_mul, Nat.add_zero] at u12
        rw [Nat.zero_mul, Nat.add_zero] at u13
        rw [Nat.zero_mul, Nat.add_zero] at u14
        rw [Nat.zero_mul, Nat.add_zero] at u15
        go_wp2_with fail
        clear u0 u1 u2 u3 u4 u5 u6 u7 u8 u9 u10 u11 u12 u13 u14 u15
        as_aux_lemma =>
          have HC : Hid (∀ w', Qt.Keeps ((wr.alloc (.cells #[.int .i64 xe0, .int .i64 xe1, .int .i64 xe2, .slice pe3 ne3 ce3, .slice pe4 ne4 ce4, .int .i64 xe5, .int .i64 xe6, .int .i64 xe7, .int .i64 xe8, .int .i64 xe9, .int .i64 xe10, .int .i64 xe11, .int .i64 xe12, .int .i64 xe13, .slice pe14 ne14 ce14, .slice pe15 ne15 ce15] 43))) w' → w'.cell? ⟨wr.heap.size, 0, none⟩ = some (.int .i64 xe0) ∧ w'.cell? ⟨wr.heap.size, 1, none⟩ = some (.int .i64 xe1) ∧ w'.cell? ⟨wr.heap.size, 2, none⟩ = some (.int .i64 xe2) ∧ w'.cell? ⟨wr.heap.size, 3, none⟩ = some (.slice pe3 ne3 ce3) ∧ w'.cell? ⟨wr.heap.size, 4, none⟩ = some (.slice pe4 ne4 ce4) ∧ w'.cell? ⟨wr.heap.size, 5, none⟩ = some (.int .i64 xe5) ∧ w'.cell? ⟨wr.heap.size, 6, none⟩ = some (.int .i64 xe6) ∧ w'.cell? ⟨wr.heap.size, 7, none⟩ = some (.int .i64 xe7) ∧ w'.cell? ⟨wr.heap.size, 8, none⟩ = some (.int .i64 xe8) ∧ w'.cell? ⟨wr.heap.size, 9, none⟩ = some (.int .i64 xe9) ∧ w'.cell? ⟨wr.heap.size, 10, none⟩ = some (.int .i64 xe10) ∧ w'.cell? ⟨wr.heap.size, 11, none⟩ = some (.int .i64 xe11) ∧ w'.cell? ⟨wr.heap.size, 12, none⟩ = some (.int .i64 xe12) ∧ w'.cell? ⟨wr.heap.size, 13, none⟩ = some (.int .i64 xe13) ∧ w'.cell? ⟨wr.heap.size, 14, none⟩ = some (.slice pe14 ne14 ce14) ∧ w'.cell? ⟨wr.heap.size, 15, none⟩ = some (.slice pe15 ne15 ce15)) := Lib.hid fun w' hw => DpItem.bxc (HN.out.below hw)
          refine Qt.region (Qt.Keeps ((wr.alloc (.cells #[.int .i64 xe0, .int .i64 xe1, .int .i64 xe2, .slice pe3 ne3 ce3, .slice pe4 ne4 ce4, .int .i64 xe5, .int .i64 xe6, .int .i64 xe7, .int .i64 xe8, .int .i64 xe9, .int .i64 xe10, .int .i64 xe11, .int .i64 xe12, .int .i64 xe13, .slice pe14 ne14 ce14, .slice pe15 ne15 ce15] 43)))) (by kernel_rfl) (by kernel_rfl) (Qt.Keeps.drew _) ?_
          repeat (first
            | go_big_quiet_skip
            | (go_big_quiet_want
               refine Qt.val (v := ?_) (fun w hw => ?_) ?_
               rotate_left
               · obtain ⟨y0, y1, y2, y3, y4, y5, y6, y7, y8, y9, y10, y11, y12, y13, y14, y15⟩ := HC.out w hw
                 go_simp
                 rfl
               simp only [Act.put, List.setIfInBounds_toArray, List.set_cons_zero, List.set_cons_succ]
               go_big_quiet_on)
            | (go_big_quiet_want
               refine Qt.call (v := .bool true) (f := 11) (args := #[.agg #[.int .i64 xe0, .int .i64 xe1, .int .i64 xe2, .slice pe3 ne3 ce3, .slice pe4 ne4 ce4, .int .i64 xe5, .int .i64 xe6, .int .i64 xe7, .int .i64 xe8, .int .i64 xe9, .int .i64 xe10, .int .i64 xe11, .int .i64 xe12, .int .i64 xe13, .slice pe14 ne14 ce14, .slice pe15 ne15 ce15]]) (fun w hw => ?_) (fun w hw => ?_) ?_
               · go_simp
               · refine (It.item_any xe0 xe1 xe2 le3 pe3 ne3 ce3 le4 pe4 ne4 ce4 xe5 xe6 xe7 xe8 xe9 xe10 xe11 xe12 xe13 le14 pe14 ne14 ce14 le15 pe15 ne15 ce15 _ Gbe5.out (He3.out.below (below_on HWa.out hw)) (He4.out.below (below_on HWa.out hw)) (He14.out.below (below_on HWa.out hw)) (He15.out.below (below_on HWa.out hw))).mono ?_
                 rintro e w1 ⟨rfl, hb1⟩
                 rw [HO.out]
                 exact ⟨rfl, hw.then hb1⟩
               simp only [Act.put, List.setIfInBounds_toArray, List.set_cons_zero, List.set_cons_succ]
               go_big_quiet_on))
          refine wpQuiet_nil ?_
          intro w2 hw2
          as_aux_lemma =>
            have HW2 := Lib.hid (below_on HB.out (below_on HWa.out hw2))
            clear hw2
            go_wp2_with fail
            go_roundw
            case rel => exact ⟨1, by omega, rfl, Lib.hid ⟨HS.out, HW2.out⟩⟩
            case measure => simp [intOf]; omega
      | succ j =>
        obtain ⟨b', o', x_f, cs_f, eqf, _, hbwf, hxf, hcf, hrdf⟩ := HR.out.at_ (show j < n by omega)
        simp only [Option.some.injEq, Addr.mk.injEq, and_true] at eqf
        obtain ⟨rfl, rfl⟩ := eqf
        obtain ⟨xf0, xf1, ⟨xf2, lf3, lf4⟩, ⟨xf5, xf6, xf7, xf8, xf9, xf10, xf11, xf12, xf13⟩, ⟨lf14, lf15⟩⟩ := x_f
        obtain ⟨pf3, nf3, cf3, pf4, nf4, cf4, pf14, nf14, cf14, pf15, nf15, cf15, rfl, _, _, _, _, _, _, _, _⟩ := DpItem.ex hrdf
        have HGf := Lib.hid (get_of hxf)
        have HCF : Hid (∀ jj v, [.int .i64 xf0, .int .i64 xf1, .int .i64 xf2, .slice pf3 nf3 cf3, .slice pf4 nf4 cf4, .int .i64 xf5, .int .i64 xf6, .int .i64 xf7, .int .i64 xf8, .int .i64 xf9, .int .i64 xf10, .int .i64 xf11, .int .i64 xf12, .int .i64 xf13, .slice pf14 nf14 cf14, .slice pf15 nf15 cf15][jj]? = some v → wr.cell? ⟨b, o + j * 16 + jj, none⟩ = some v) := Lib.hid (fun jj v hv => (HB.out.cell (p := ⟨b, o + j * 16 + jj, none⟩) hbwf).trans (hcf jj v hv))
        have HBS : Hid (b < wr.heap.size) := Lib.hid (Nat.lt_of_lt_of_le hbwf HB.out.size)
        have jw : IntKind.i64.wrap (j : Int) = (j : Int) := IntWalk.i64_in _ (by omega)
        have j1 : (0 : Int) ≤ (j : Int) := by omega
        have j2 : (j : Int) < (n : Int) := by omega
        clear hxf hcf hrdf hbwf
        by_cases hlt2 : xf0 < xe0
        all_goals
          first
            | (have HS := Lib.hid (steps_next HK.out.1 (step_next HGet.out HGf.out HI.out hlt2)))
            | (have HE : Hid (are xs = false) := Lib.hid (areL_no (i := j + 1) HKX.out (no_rise HGet.out HGf.out hlt2)))
          go_wp2_with fail
          clear u0 u1 u2 u3 u4 u5 u6 u7 u8 u9 u10 u11 u12 u13 u14 u15
          as_aux_lemma =>
            have HC : Hid (∀ w', Qt.Keeps ((wr.alloc (.cells #[.int .i64 xe0, .int .i64 xe1, .int .i64 xe2, .slice pe3 ne3 ce3, .slice pe4 ne4 ce4, .int .i64 xe5, .int .i64 xe6, .int .i64 xe7, .int .i64 xe8, .int .i64 xe9, .int .i64 xe10, .int .i64 xe11, .int .i64 xe12, .int .i64 xe13, .slice pe14 ne14 ce14, .slice pe15 ne15 ce15] 43))) w' → w'.cell? ⟨wr.heap.size, 0, none⟩ = some (.int .i64 xe0) ∧ w'.cell? ⟨wr.heap.size, 1, none⟩ = some (.int .i64 xe1) ∧ w'.cell? ⟨wr.heap.size, 2, none⟩ = some (.int .i64 xe2) ∧ w'.cell? ⟨wr.heap.size, 3, none⟩ = some (.slice pe3 ne3 ce3) ∧ w'.cell? ⟨wr.heap.size, 4, none⟩ = some (.slice pe4 ne4 ce4) ∧ w'.cell? ⟨wr.heap.size, 5, none⟩ = some (.int .i64 xe5) ∧ w'.cell? ⟨wr.heap.size, 6, none⟩ = some (.int .i64 xe6) ∧ w'.cell? ⟨wr.heap.size, 7, none⟩ = some (.int .i64 xe7) ∧ w'.cell? ⟨wr.heap.size, 8, none⟩ = some (.int .i64 xe8) ∧ w'.cell? ⟨wr.heap.size, 9, none⟩ = some (.int .i64 xe9) ∧ w'.cell? ⟨wr.heap.size, 10, none⟩ = some (.int .i64 xe10) ∧ w'.cell? ⟨wr.heap.size, 11, none⟩ = some (.int .i64 xe11) ∧ w'.cell? ⟨wr.heap.size, 12, none⟩ = some (.int .i64 xe12) ∧ w'.cell? ⟨wr.heap.size, 13, none⟩ = some (.int .i64 xe13) ∧ w'.cell? ⟨wr.heap.size, 14, none⟩ = some (.slice pe14 ne14 ce14) ∧ w'.cell? ⟨wr.heap.size, 15, none⟩ = some (.slice pe15 ne15 ce15) ∧ w'.cell? ⟨b, o + j * 16, none⟩ = some (.int .i64 xf0) ∧ w'.cell? ⟨b, o + j * 16 + 1, none⟩ = some (.int .i64 xf1) ∧ w'.cell? ⟨b, o + j * 16 + 2, none⟩ = some (.int .i64 xf2) ∧ w'.cell? ⟨b, o + j * 16 + 3, none⟩ = some (.slice pf3 nf3 cf3) ∧ w'.cell? ⟨b, o + j * 16 + 4, none⟩ = some (.slice pf4 nf4 cf4) ∧ w'.cell? ⟨b, o + j * 16 + 5, none⟩ = some (.int .i64 xf5) ∧ w'.cell? ⟨b, o + j * 16 + 6, none⟩ = some (.int .i64 xf6) ∧ w'.cell? ⟨b, o + j * 16 + 7, none⟩ = some (.int .i64 xf7) ∧ w'.cell? ⟨b, o + j * 16 + 8, none⟩ = some (.int .i64 xf8) ∧ w'.cell? ⟨b, o + j * 16 + 9, none⟩ = some (.int .i64 xf9) ∧ w'.cell? ⟨b, o + j * 16 + 10, none⟩ = some (.int .i64 xf10) ∧ w'.cell? ⟨b, o + j * 16 + 11, none⟩ = some (.int .i64 xf11) ∧ w'.cell? ⟨b, o + j * 16 + 12, none⟩ = some (.int .i64 xf12) ∧ w'.cell? ⟨b, o + j * 16 + 13, none⟩ = some (.int .i64 xf13) ∧ w'.cell? ⟨b, o + j * 16 + 14, none⟩ = some (.slice pf14 nf14 cf14) ∧ w'.cell? ⟨b, o + j * 16 + 15, none⟩ = some (.slice pf15 nf15 cf15)) := Lib.hid fun w' hw => let h := DpItem.bxc (HN.out.below hw); let h2 := DpItem.at_cells (fun jj v hv => ((below_on HWa.out hw).cell (p := ⟨b, o + j * 16 + jj, none⟩) HBS.out).trans (HCF.out jj v hv)); ⟨h.1, h.2.1, h.2.2.1, h.2.2.2.1, h.2.2.2.2.1, h.2.2.2.2.2.1, h.2.2.2.2.2.2.1, h.2.2.2.2.2.2.2.1, h.2.2.2.2.2.2.2.2.1, h.2.2.2.2.2.2.2.2.2.1, h.2.2.2.2.2.2.2.2.2.2.1, h.2.2.2.2.2.2.2.2.2.2.2.1, h.2.2.2.2.2.2.2.2.2.2.2.2.1, h.2.2.2.2.2.2.2.2.2.2.2.2.2.1, h.2.2.2.2.2.2.2.2.2.2.2.2.2.2.1, h.2.2.2.2.2.2.2.2.2.2.2.2.2.2.2, h2⟩
            refine Qt.region (Qt.Keeps ((wr.alloc (.cells #[.int .i64 xe0, .int .i64 xe1, .int .i64 xe2, .slice pe3 ne3 ce3, .slice pe4 ne4 ce4, .int .i64 xe5, .int .i64 xe6, .int .i64 xe7, .int .i64 xe8, .int .i64 xe9, .int .i64 xe10, .int .i64 xe11, .int .i64 xe12, .int .i64 xe13, .slice pe14 ne14 ce14, .slice pe15 ne15 ce15] 43)))) (by kernel_rfl) (by kernel_rfl) (Qt.Keeps.drew _) ?_
            repeat (first
              | go_big_quiet_skip
              | (go_big_quiet_want
                 refine Qt.val (v := ?_) (fun w hw => ?_) ?_
                 rotate_left
                 · obtain ⟨y0, y1, y2, y3, y4, y5, y6, y7, y8, y9, y10, y11, y12, y13, y14, y15, z0, z1, z2, z3, z4, z5, z6, z7, z8, z9, z10, z11, z12, z13, z14, z15⟩ := HC.out w hw
                   go_simp
                   rfl
                 simp only [Act.put, List.setIfInBounds_toArray, List.set_cons_zero, List.set_cons_succ]
                 go_big_quiet_on)
              | (go_big_quiet_want
                 refine Qt.call (v := .bool true) (f := 11) (args := #[.agg #[.int .i64 xe0, .int .i64 xe1, .int .i64 xe2, .slice pe3 ne3 ce3, .slice pe4 ne4 ce4, .int .i64 xe5, .int .i64 xe6, .int .i64 xe7, .int .i64 xe8, .int .i64 xe9, .int .i64 xe10, .int .i64 xe11, .int .i64 xe12, .int .i64 xe13, .slice pe14 ne14 ce14, .slice pe15 ne15 ce15]]) (fun w hw => ?_) (fun w hw => ?_) ?_
                 · go_simp
                 · refine (It.item_any xe0 xe1 xe2 le3 pe3 ne3 ce3 le4 pe4 ne4 ce4 xe5 xe6 xe7 xe8 xe9 xe10 xe11 xe12 xe13 le14 pe14 ne14 ce14 le15 pe15 ne15 ce15 _ Gbe5.out (He3.out.below (below_on HWa.out hw)) (He4.out.below (below_on HWa.out hw)) (He14.out.below (below_on HWa.out hw)) (He15.out.below (below_on HWa.out hw))).mono ?_
                   rintro e w1 ⟨rfl, hb1⟩
                   rw [HO.out]
                   exact ⟨rfl, hw.then hb1⟩
                 simp only [Act.put, List.setIfInBounds_toArray, List.set_cons_zero, List.set_cons_succ]
                 go_big_quiet_on)
              | (go_big_quiet_want
                 refine Qt.call (v := .int .i64 xf0) (f := 53) (args := #[.agg #[.int .i64 xf0, .int .i64 xf1, .int .i64 xf2, .slice pf3 nf3 cf3, .slice pf4 nf4 cf4, .int .i64 xf5, .int .i64 xf6, .int .i64 xf7, .int .i64 xf8, .int .i64 xf9, .int .i64 xf10, .int .i64 xf11, .int .i64 xf12, .int .i64 xf13, .slice pf14 nf14 cf14, .slice pf15 nf15 cf15]]) (fun w hw => ?_) (fun w hw => ?_) ?_
                 · go_simp
                 · refine (itemId_any _ _ _ _ _ _ _ _ _ _ _ _ _ _ _ _ _ _ _ _ _ _ _ _ _).mono ?_
                   rintro e w1 ⟨rfl, hb1⟩
                   exact ⟨rfl, hw.then hb1⟩
                 simp only [Act.put, List.setIfInBounds_toArray, List.set_cons_zero, List.set_cons_succ]
                 go_big_quiet_on)
              | (go_big_quiet_want
                 refine Qt.call (v := .int .i64 xe0) (f := 53) (args := #[.agg #[.int .i64 xe0, .int .i64 xe1, .int .i64 xe2, .slice pe3 ne3 ce3, .slice pe4 ne4 ce4, .int .i64 xe5, .int .i64 xe6, .int .i64 xe7, .int .i64 xe8, .int .i64 xe9, .int .i64 xe10, .int .i64 xe11, .int .i64 xe12, .int .i64 xe13, .slice pe14 ne14 ce14, .slice pe15 ne15 ce15]]) (fun w hw => ?_) (fun w hw => ?_) ?_
                 · go_simp
                 · refine (itemId_any _ _ _ _ _ _ _ _ _ _ _ _ _ _ _ _ _ _ _ _ _ _ _ _ _).mono ?_
                   rintro e w1 ⟨rfl, hb1⟩
                   exact ⟨rfl, hw.then hb1⟩
                 simp only [Act.put, List.setIfInBounds_toArray, List.set_cons_zero, List.set_cons_succ]
                 go_big_quiet_on))
            refine wpQuiet_nil ?_
            intro w2 hw2
            as_aux_lemma =>
              have HW2 := Lib.hid (below_on HB.out (below_on HWa.out hw2))
              clear hw2
              go_wp2_with fail
              first
                | (go_roundw; (case rel => exact ⟨j + 2, by omega, by go_num, Lib.hid ⟨HS.out, HW2.out⟩⟩); (case measure => simp [intOf]; omega))
                | (go_ret; exact val_of (by rw [HE.out]; first | done | rfl) HW2.out)
    · obtain rfl : k = n := by omega
      have HE : Hid (are xs = true) := Lib.hid (areL_yes (by rw [HL.out]; omega) (by rw [HL.out]; exact HK.out.1))
      as_aux_lemma =>
        go_wp2_with fail
        go_ret
        exact val_of (by rw [HE.out]; first | done | rfl) HK.out.2
set_option maxRecDepth 100000 in
set_option maxHeartbeats 4000000 in
theorem archive_any (x0 : Int) (xs : List DpItem.A) (p : Option Addr) (n c : Nat) {S : Nat → Prop} (w : World) (hr : RdD DpItem.E S w p n xs) : Calls Try.prog 16 #[.agg #[.int .i64 x0, .slice p n c]] w (Val (.bool (isA x0 xs)) w) := by
  have hb := box1 w (.cells #[.int .i64 x0, .slice p n c] 54)
  have HB := Lib.hid hb
  have HR := Lib.hid (hr.below hb)
  obtain ⟨β, hβ⟩ : ∃ β, decide (0 ≤ x0 ∧ x0 ≤ 99) = β := ⟨_, rfl⟩
  have HO := Lib.hid hβ
  clear hr hb
  cases β
  · have HE : Hid (isA x0 xs = false) := Lib.hid (by unfold isA; rw [hβ]; rfl)
    clear hβ
    go_enter Try.func16, Try.ntmps16
    go_wp2_with fail
    refine (Ints.inRange_any _ _ _ false HO.out _).mono ?_
    rintro e w1 ⟨rfl, rfl⟩
    as_aux_lemma =>
      go_wp2_with fail
      go_ret
      exact val_of (by rw [HE.out]; first | done | rfl) HB.out
  · have HE : Hid (isA x0 xs = are xs) := Lib.hid (by unfold isA; rw [hβ]; rfl)
    clear hβ
    go_enter Try.func16, Try.ntmps16
    go_wp2_with fail
    refine (Ints.inRange_any _ _ _ true HO.out _).mono ?_
    rintro e w1 ⟨rfl, rfl⟩
    go_wp2_with fail
    refine (sorted_any xs p n c _ HR.out).mono ?_
    rintro e w2 ⟨rfl, hb⟩
    have HB2 := Lib.hid (below_on HB.out hb)
    clear hb
    as_aux_lemma =>
      go_wp2_with fail
      go_ret
      exact val_of (by rw [HE.out]; first | done | rfl) HB2.out
end Go.Proofs.Ytjickcnjnebpcaa.Ia
