/- Whether a renewal checks, in the reference. -/
import Derived.Test.YtnkpioaaabnlcaaCr1
import Derived.Test.YtnkpioaaabnlcaaCr2
import Derived.Test.YtnkpioaaabnlcaaQt
import Derived.Test.YtnkpioaaabnlcaaInt
import Derived.LoopTactic
import Derived.Outline
namespace Go.Proofs.Ytnkpioaaabnlcaa.Cr3
open Go.ChangeShapes Go.WideShapes Go.ChangeAt Go.RowKit Sl St Ed Dz Es Fnd Cr1
theorem any_of {ks : List I5} {us : List I3} {root : Int} {xs : List I5} {k : Nat} {x : I5} (hx : xs[k]? = some x) (h : bad ks us root x = true) {β : Bool} : (β && !(xs.any (bad ks us root))) = false := by rw [any_yes hx h]; cases β <;> rfl
set_option maxRecDepth 100000 in
set_option maxHeartbeats 8000000 in
theorem spec_check_any (ks : List I5) (pk : Option Addr) (nk ck : Nat) (us : List I3) (pa : Option Addr) (na ca : Nat) (r0 r1 root : Int) (l3 : List (Int × Bool)) (p3 : Option Addr) (n3 c3 : Nat) (l4 : List I5) (p4 : Option Addr) (n4 c4 : Nat) (leaf : Int) (hr1 : InI r1) (hlf : InI leaf) {SK SA S3 S4 : Nat → Prop} (w : World) (hk : RdD (flat SlKey.E SlKey.InR) SK w pk nk ks) (ha : RdD (flat SlAuthority.E SlAuthority.InR) SA w pa na us) (h3 : RdD (flat SlStep.E SlStep.InR) S3 w p3 n3 l3) (h4 : RdD (flat SlStamp.E SlStamp.InR) S4 w p4 n4 l4) : Calls Try.prog 16 #[.slice pk nk ck, .slice pa na ca, .agg #[.int .i64 r0, .int .i64 r1, .int .i64 root, .slice p3 n3 c3, .slice p4 n4 c4], .int .i64 leaf] w (Val (.bool (chk ks us (r0, r1, root, l3, l4) leaf)) w) := by
  have hb := box1 w (.cells #[.int .i64 r0, .int .i64 r1, .int .i64 root, .slice p3 n3 c3, .slice p4 n4 c4] 55)
  have HBV := Lib.hid hb
  have HGR := Lib.hid (Bx.new w 55 #[.int .i64 r0, .int .i64 r1, .int .i64 root, .slice p3 n3 c3, .slice p4 n4 c4])
  have HK := Lib.hid (hk.below hb)
  have HA := Lib.hid (ha.below hb)
  have H3 := Lib.hid (h3.below hb)
  have H4 := Lib.hid (h4.below hb)
  have HL := Lib.hid h4.len
  have HCQ := Lib.hid (chk_eq (ks := ks) (us := us) (r0 := r0) (r1 := r1) (root := root) (leaf := leaf) h3.len h4.len)
  have hle3 := h3.le
  have hle4 := h4.le
  have HR1 : Hid (InI r1) := Lib.hid hr1
  have HLF : Hid (InI leaf) := Lib.hid hlf
  clear hb hk ha h3 h4 hr1 hlf
  obtain ⟨φ, hφ⟩ : ∃ z, Fp.fp r1 leaf l3 = z := ⟨_, rfl⟩
  rw [hφ] at HCQ
  have HF := Lib.hid hφ
  clear hφ
  by_cases h3 : (n3 : Int) ≤ 4
  rotate_left
  · have HS : Hid (chk ks us (r0, r1, root, l3, l4) leaf = false) := Lib.hid (by rw [HCQ.out, decide_eq_false h3]; rfl)
    have t3 : decide (4 < (n3 : Int)) = true := decide_eq_true (by omega)
    clear h3
    go_enter Try.func16, Try.ntmps16
    go_wp2_with fail
    generalize (w.alloc (.cells #[.int .i64 r0, .int .i64 r1, .int .i64 root, .slice p3 n3 c3, .slice p4 n4 c4] 55)) = V at HBV HGR HK HA H3 H4 ⊢
    have HC : Hid (∀ w', Qt.Keeps (V) w' → w'.cell? ⟨w.heap.size, 1, none⟩ = some (.int .i64 r1) ∧ w'.cell? ⟨w.heap.size, 2, none⟩ = some (.int .i64 root) ∧ w'.cell? ⟨w.heap.size, 3, none⟩ = some (.slice p3 n3 c3) ∧ w'.cell? ⟨w.heap.size, 4, none⟩ = some (.slice p4 n4 c4)) := Lib.hid fun w' hw => Cr2.five (HGR.out.below hw)
    refine Qt.region (Qt.Keeps (V)) (by kernel_rfl) (by kernel_rfl) (Qt.Keeps.drew _) ?_
    repeat (first
      | go_big_quiet_skip
      | (go_big_quiet_want
         refine Qt.val (v := ?_) (fun w hw => ?_) ?_
         rotate_left
         · obtain ⟨s1, s2, s3, s4⟩ := HC.out w hw
           go_simp
           rfl
         simp only [Act.put, List.setIfInBounds_toArray, List.set_cons_zero, List.set_cons_succ]
         go_big_quiet_on))
    refine wpQuiet_nil ?_
    intro w2 hw2
    have HB2 := Lib.hid (below_on HBV.out hw2)
    clear hw2
    go_wp2_with fail
    go_ret
    exact val_of (by rw [HS.out]; first | done | rfl) HB2.out
  have t3 : decide (4 < (n3 : Int)) = false := decide_eq_false (by omega)
  by_cases he : φ = root
  rotate_left
  · have HS : Hid (chk ks us (r0, r1, root, l3, l4) leaf = false) := Lib.hid (by rw [HCQ.out, decide_eq_true h3, decide_eq_false he]; rfl)
    have e1 : (φ == root) = false := beq_eq_false_iff_ne.2 he
    have e2 : (φ != root) = true := bne_iff_ne.2 he
    clear he
    go_enter Try.func16, Try.ntmps16
    go_wp2_with fail
    generalize (w.alloc (.cells #[.int .i64 r0, .int .i64 r1, .int .i64 root, .slice p3 n3 c3, .slice p4 n4 c4] 55)) = V at HBV HGR HK HA H3 H4 ⊢
    have HC : Hid (∀ w', Qt.Keeps (V) w' → w'.cell? ⟨w.heap.size, 1, none⟩ = some (.int .i64 r1) ∧ w'.cell? ⟨w.heap.size, 2, none⟩ = some (.int .i64 root) ∧ w'.cell? ⟨w.heap.size, 3, none⟩ = some (.slice p3 n3 c3) ∧ w'.cell? ⟨w.heap.size, 4, none⟩ = some (.slice p4 n4 c4)) := Lib.hid fun w' hw => Cr2.five (HGR.out.below hw)
    refine Qt.region (Qt.Keeps (V)) (by kernel_rfl) (by kernel_rfl) (Qt.Keeps.drew _) ?_
    repeat (first
      | go_big_quiet_skip
      | (go_big_quiet_want
         refine Qt.val (v := ?_) (fun w hw => ?_) ?_
         rotate_left
         · obtain ⟨s1, s2, s3, s4⟩ := HC.out w hw
           go_simp
           rfl
         simp only [Act.put, List.setIfInBounds_toArray, List.set_cons_zero, List.set_cons_succ]
         go_big_quiet_on)
      | (go_big_quiet_want
         refine Qt.call (v := .int .i64 φ) (f := 40) (args := #[.int .i64 r1, .int .i64 leaf, .slice p3 n3 c3]) (fun w hw => ?_) (fun w hw => ?_) ?_
         · go_simp
         · refine (Fp.spec_follow_any r1 leaf _ _ _ l3 _ (H3.out.below hw).rdS H3.out.allP HR1.out HLF.out).mono ?_
           rintro e w1 ⟨rfl, hb1⟩
           rw [HF.out]
           exact ⟨rfl, hw.then hb1⟩
         simp only [Act.put, List.setIfInBounds_toArray, List.set_cons_zero, List.set_cons_succ]
         go_big_quiet_on))
    refine wpQuiet_nil ?_
    intro w2 hw2
    have HB2 := Lib.hid (below_on HBV.out hw2)
    clear hw2
    go_wp2_with fail
    go_ret
    exact val_of (by rw [HS.out]; first | done | rfl) HB2.out
  have e1 : (φ == root) = true := beq_iff_eq.2 he
  have e2 : (φ != root) = false := by rw [he]; simp
  have HE := Lib.hid he
  clear he
  by_cases h4 : 1 ≤ (n4 : Int) ∧ (n4 : Int) ≤ 6
  rotate_left
  · have HS : Hid (chk ks us (r0, r1, root, l3, l4) leaf = false) := Lib.hid (by rw [HCQ.out, decide_eq_true h3, decide_eq_true HE.out, decide_eq_false h4]; rfl)
    have HT3 : Hid (decide (1 ≤ (n4 : Int) ∧ (n4 : Int) ≤ 6) = false) := Lib.hid (decide_eq_false h4)
    clear h4
    go_enter Try.func16, Try.ntmps16
    go_wp2_with fail
    generalize (w.alloc (.cells #[.int .i64 r0, .int .i64 r1, .int .i64 root, .slice p3 n3 c3, .slice p4 n4 c4] 55)) = V at HBV HGR HK HA H3 H4 ⊢
    have HC : Hid (∀ w', Qt.Keeps (V) w' → w'.cell? ⟨w.heap.size, 1, none⟩ = some (.int .i64 r1) ∧ w'.cell? ⟨w.heap.size, 2, none⟩ = some (.int .i64 root) ∧ w'.cell? ⟨w.heap.size, 3, none⟩ = some (.slice p3 n3 c3) ∧ w'.cell? ⟨w.heap.size, 4, none⟩ = some (.slice p4 n4 c4)) := Lib.hid fun w' hw => Cr2.five (HGR.out.below hw)
    refine Qt.region (Qt.Keeps (V)) (by kernel_rfl) (by kernel_rfl) (Qt.Keeps.drew _) ?_
    repeat (first
      | go_big_quiet_skip
      | (go_big_quiet_want
         refine Qt.val (v := ?_) (fun w hw => ?_) ?_
         rotate_left
         · obtain ⟨s1, s2, s3, s4⟩ := HC.out w hw
           go_simp
           rfl
         simp only [Act.put, List.setIfInBounds_toArray, List.set_cons_zero, List.set_cons_succ]
         go_big_quiet_on)
      | (go_big_quiet_want
         refine Qt.call (v := .int .i64 φ) (f := 40) (args := #[.int .i64 r1, .int .i64 leaf, .slice p3 n3 c3]) (fun w hw => ?_) (fun w hw => ?_) ?_
         · go_simp
         · refine (Fp.spec_follow_any r1 leaf _ _ _ l3 _ (H3.out.below hw).rdS H3.out.allP HR1.out HLF.out).mono ?_
           rintro e w1 ⟨rfl, hb1⟩
           rw [HF.out]
           exact ⟨rfl, hw.then hb1⟩
         simp only [Act.put, List.setIfInBounds_toArray, List.set_cons_zero, List.set_cons_succ]
         go_big_quiet_on)
      | (go_big_quiet_want
         refine Qt.call (v := .bool false) (f := 28) (args := #[.int .i64 n4, .int .i64 1, .int .i64 6]) (fun w hw => ?_) (fun w hw => ?_) ?_
         · go_simp
         · refine (Ints.l1In_any n4 1 6 _ HT3.out _).mono ?_
           rintro e w1 ⟨rfl, rfl⟩
           exact ⟨rfl, hw⟩
         simp only [Act.put, List.setIfInBounds_toArray, List.set_cons_zero, List.set_cons_succ]
         go_big_quiet_on))
    refine wpQuiet_nil ?_
    intro w2 hw2
    have HB2 := Lib.hid (below_on HBV.out hw2)
    clear hw2
    go_wp2_with fail
    go_ret
    exact val_of (by rw [HS.out]; first | done | rfl) HB2.out
  have HT3 : Hid (decide (1 ≤ (n4 : Int) ∧ (n4 : Int) ≤ 6) = true) := Lib.hid (decide_eq_true h4)
  have HS1 : Hid (chk ks us (r0, r1, root, l3, l4) leaf = (asc l4 && !(l4.any (bad ks us root)))) := Lib.hid (by rw [HCQ.out, decide_eq_true h3, decide_eq_true HE.out, HT3.out, Bool.true_and, Bool.true_and, Bool.true_and])
  clear h4
  go_enter Try.func16, Try.ntmps16
  go_wp2_with fail
  generalize (w.alloc (.cells #[.int .i64 r0, .int .i64 r1, .int .i64 root, .slice p3 n3 c3, .slice p4 n4 c4] 55)) = V at HBV HGR HK HA H3 H4 ⊢
  have HC : Hid (∀ w', Qt.Keeps (V) w' → w'.cell? ⟨w.heap.size, 1, none⟩ = some (.int .i64 r1) ∧ w'.cell? ⟨w.heap.size, 2, none⟩ = some (.int .i64 root) ∧ w'.cell? ⟨w.heap.size, 3, none⟩ = some (.slice p3 n3 c3) ∧ w'.cell? ⟨w.heap.size, 4, none⟩ = some (.slice p4 n4 c4)) := Lib.hid fun w' hw => Cr2.five (HGR.out.below hw)
  refine Qt.region (Qt.Keeps (V)) (by kernel_rfl) (by kernel_rfl) (Qt.Keeps.drew _) ?_
  repeat (first
    | go_big_quiet_skip
    | (go_big_quiet_want
       refine Qt.val (v := ?_) (fun w hw => ?_) ?_
       rotate_left
       · obtain ⟨s1, s2, s3, s4⟩ := HC.out w hw
         go_simp
         rfl
       simp only [Act.put, List.setIfInBounds_toArray, List.set_cons_zero, List.set_cons_succ]
       go_big_quiet_on)
    | (go_big_quiet_want
       refine Qt.call (v := .int .i64 φ) (f := 40) (args := #[.int .i64 r1, .int .i64 leaf, .slice p3 n3 c3]) (fun w hw => ?_) (fun w hw => ?_) ?_
       · go_simp
       · refine (Fp.spec_follow_any r1 leaf _ _ _ l3 _ (H3.out.below hw).rdS H3.out.allP HR1.out HLF.out).mono ?_
         rintro e w1 ⟨rfl, hb1⟩
         rw [HF.out]
         exact ⟨rfl, hw.then hb1⟩
       simp only [Act.put, List.setIfInBounds_toArray, List.set_cons_zero, List.set_cons_succ]
       go_big_quiet_on)
    | (go_big_quiet_want
       refine Qt.call (v := .bool true) (f := 28) (args := #[.int .i64 n4, .int .i64 1, .int .i64 6]) (fun w hw => ?_) (fun w hw => ?_) ?_
       · go_simp
       · refine (Ints.l1In_any n4 1 6 _ HT3.out _).mono ?_
         rintro e w1 ⟨rfl, rfl⟩
         exact ⟨rfl, hw⟩
       simp only [Act.put, List.setIfInBounds_toArray, List.set_cons_zero, List.set_cons_succ]
       go_big_quiet_on))
  refine wpQuiet_nil ?_
  intro w2 hw2
  have HB2 := Lib.hid hw2
  clear hw2 e1 e2
  go_wp2_with fail
  go_loopw [9] (fun i wr => ∃ k : Nat, k ≤ n4 ∧ i = .int .i64 k ∧ Hid (noneB (bad ks us root) l4 k) ∧ Hid (AscTo l4 k) ∧ Hid (Below V.heap.size V wr)) (fun i _ => n4 - (intOf i).toNat)
  case atStart => exact ⟨0, Nat.zero_le _, rfl, Lib.hid (noneB_zero _), Lib.hid (asc_zero _), HB2⟩
  case round =>
    obtain ⟨k, hk, rfl, HN, HO, HB⟩ := hrel
    obtain ⟨s0, s1, s2, s3, s4⟩ := DpRenewal.bxc (HGR.out.below HB.out)
    by_cases hlt : k < n4
    · skip
      obtain ⟨b, o, x_e, cs_e, rfl, _, hbwe, hxe, hce, hrde⟩ := H4.out.at_ hlt
      obtain ⟨xe0, xe1, xe2, xe3, xe4⟩ := x_e
      obtain ⟨rfl, hine⟩ := hrde
      have HIe := Lib.hid hine
      have hcce : ∀ jj v, [.int .i64 xe0, .int .i64 xe1, .int .i64 xe2, .int .i64 xe3, .int .i64 xe4][jj]? = some v → wr.cell? ⟨b, o + k * 5 + jj, none⟩ = some v := fun jj v hv => (HB.out.cell (p := ⟨b, o + k * 5 + jj, none⟩) hbwe).trans (hce jj v hv)
      have HXe := Lib.hid hxe
      have HCe := Lib.hid hcce
      have u0 : wr.cell? ⟨b, o + k * 5, none⟩ = some (.int .i64 xe0) := hcce 0 _ rfl
      have u1 : wr.cell? ⟨b, o + k * 5 + 1, none⟩ = some (.int .i64 xe1) := hcce 1 _ rfl
      have u2 : wr.cell? ⟨b, o + k * 5 + 2, none⟩ = some (.int .i64 xe2) := hcce 2 _ rfl
      have u3 : wr.cell? ⟨b, o + k * 5 + 3, none⟩ = some (.int .i64 xe3) := hcce 3 _ rfl
      have u4 : wr.cell? ⟨b, o + k * 5 + 4, none⟩ = some (.int .i64 xe4) := hcce 4 _ rfl
      clear hcce hce hxe hine
      have hbW : b < wr.heap.size := Nat.lt_of_lt_of_le hbwe HB.out.size
      have HBX := Lib.hid (Bx.new wr 76 #[.int .i64 xe0, .int .i64 xe1, .int .i64 xe2, .int .i64 xe3, .int .i64 xe4])
      have HB3 := Lib.hid (HB.out.alloc HB.out.size (.cells #[.int .i64 xe0, .int .i64 xe1, .int .i64 xe2, .int .i64 xe3, .int .i64 xe4] 76))
      have i1 : (0 : Int) ≤ (k : Int) := by omega
      have i2 : (k : Int) < (n4 : Int) := by omega
      go_wp2_with fail
      generalize (wr.alloc (.cells #[.int .i64 xe0, .int .i64 xe1, .int .i64 xe2, .int .i64 xe3, .int .i64 xe4] 76)) = W3 at HBX HB3 ⊢
      clear u0 u1 u2 u3 u4 s0 s1 s2 s3 s4
      by_cases he3 : xe3 = root
      rotate_left
      · have HS : Hid (chk ks us (r0, r1, root, l3, l4) leaf = false) := Lib.hid (by rw [HS1.out]; exact any_of HXe.out (ok_no he3))
        have e1 : (xe3 != root) = true := bne_iff_ne.2 he3
        have e2 : (xe3 == root) = false := beq_eq_false_iff_ne.2 he3
        clear he3
        have HC : Hid (∀ w', Qt.Keeps (W3) w' → w'.cell? ⟨wr.heap.size, 0, none⟩ = some (.int .i64 xe0) ∧ w'.cell? ⟨wr.heap.size, 1, none⟩ = some (.int .i64 xe1) ∧ w'.cell? ⟨wr.heap.size, 2, none⟩ = some (.int .i64 xe2) ∧ w'.cell? ⟨wr.heap.size, 3, none⟩ = some (.int .i64 xe3) ∧ w'.cell? ⟨wr.heap.size, 4, none⟩ = some (.int .i64 xe4) ∧ w'.cell? ⟨w.heap.size, 2, none⟩ = some (.int .i64 root) ∧ w'.cell? ⟨w.heap.size, 4, none⟩ = some (.slice (some ⟨b, o, none⟩) n4 c4)) := Lib.hid fun w' hw => let h := SlStamp.bxc (HBX.out.below hw); let g := Cr2.five (HGR.out.below (below_on HB3.out hw)); ⟨h.1, h.2.1, h.2.2.1, h.2.2.2.1, h.2.2.2.2, g.2.1, g.2.2.2⟩
        refine Qt.region (Qt.Keeps (W3)) (by kernel_rfl) (by kernel_rfl) (Qt.Keeps.drew _) ?_
        repeat (first
          | go_big_quiet_skip
          | (go_big_quiet_want
             refine Qt.val (v := ?_) (fun w hw => ?_) ?_
             rotate_left
             · obtain ⟨t0, t1, t2, t3, t4, s2, s4⟩ := HC.out w hw
               go_simp
               rfl
             simp only [Act.put, List.setIfInBounds_toArray, List.set_cons_zero, List.set_cons_succ]
             go_big_quiet_on))
        refine wpQuiet_nil ?_
        intro w5 hw5
        have HB5 := Lib.hid (below_on HB3.out hw5)
        clear hw5
        go_wp2_with fail
        go_ret
        exact val_of (by rw [HS.out]; first | done | rfl) (HBV.out.trans (HB5.out.mono HBV.out.size))
      subst he3
      have e1 : (xe3 != xe3) = false := by simp
      have e2 : (xe3 == xe3) = true := by simp
      obtain ⟨β, hβ⟩ : ∃ z, MStamp.chk ks us (xe0, xe1, xe2, xe3, xe4) = z := ⟨_, rfl⟩
      have HCH := Lib.hid hβ
      have HBD : Hid (bad ks us xe3 (xe0, xe1, xe2, xe3, xe4) = !β) := Lib.hid (by rw [ok_yes, hβ])
      clear hβ
      cases k with
      | zero =>
        cases β
        · have HS : Hid (chk ks us (r0, r1, xe3, l3, l4) leaf = false) := Lib.hid (by rw [HS1.out]; exact any_of HXe.out HBD.out)
          have HC : Hid (∀ w', Qt.Keeps (W3) w' → w'.cell? ⟨wr.heap.size, 0, none⟩ = some (.int .i64 xe0) ∧ w'.cell? ⟨wr.heap.size, 1, none⟩ = some (.int .i64 xe1) ∧ w'.cell? ⟨wr.heap.size, 2, none⟩ = some (.int .i64 xe2) ∧ w'.cell? ⟨wr.heap.size, 3, none⟩ = some (.int .i64 xe3) ∧ w'.cell? ⟨wr.heap.size, 4, none⟩ = some (.int .i64 xe4) ∧ w'.cell? ⟨w.heap.size, 2, none⟩ = some (.int .i64 xe3) ∧ w'.cell? ⟨w.heap.size, 4, none⟩ = some (.slice (some ⟨b, o, none⟩) n4 c4)) := Lib.hid fun w' hw => let h := SlStamp.bxc (HBX.out.below hw); let g := Cr2.five (HGR.out.below (below_on HB3.out hw)); ⟨h.1, h.2.1, h.2.2.1, h.2.2.2.1, h.2.2.2.2, g.2.1, g.2.2.2⟩
          refine Qt.region (Qt.Keeps (W3)) (by kernel_rfl) (by kernel_rfl) (Qt.Keeps.drew _) ?_
          repeat (first
            | go_big_quiet_skip
            | (go_big_quiet_want
               refine Qt.val (v := ?_) (fun w hw => ?_) ?_
               rotate_left
               · obtain ⟨t0, t1, t2, t3, t4, s2, s4⟩ := HC.out w hw
                 go_simp
                 rfl
               simp only [Act.put, List.setIfInBounds_toArray, List.set_cons_zero, List.set_cons_succ]
               go_big_quiet_on)
            | (go_big_quiet_want
               refine Qt.call (v := .bool false) (f := 41) (args := #[.slice pk nk ck, .slice pa na ca, .agg #[.int .i64 xe0, .int .i64 xe1, .int .i64 xe2, .int .i64 xe3, .int .i64 xe4]]) (fun w hw => ?_) (fun w hw => ?_) ?_
               · go_simp
               · refine (MStamp.spec_check_any pk nk ck ks HK.out.allP pa na ca us xe0 xe1 xe2 xe3 xe4 HIe.out.1 HIe.out.2.1 HIe.out.2.2.1 HIe.out.2.2.2.1 HIe.out.2.2.2.2 _ (HK.out.below (below_on HB3.out hw)).rdS (HA.out.below (below_on HB3.out hw)).rdS).mono ?_
                 rintro e w1 ⟨rfl, hb1⟩
                 rw [HCH.out]
                 exact ⟨rfl, hw.then hb1⟩
               simp only [Act.put, List.setIfInBounds_toArray, List.set_cons_zero, List.set_cons_succ]
               go_big_quiet_on))
          refine wpQuiet_nil ?_
          intro w5 hw5
          have HB5 := Lib.hid (below_on HB3.out hw5)
          clear hw5
          go_wp2_with fail
          go_ret
          exact val_of (by rw [HS.out]; first | done | rfl) (HBV.out.trans (HB5.out.mono HBV.out.size))
        · have HN2 := Lib.hid (noneB_next HN.out HXe.out HBD.out)
          have HO2 := Lib.hid (asc_one l4)
          have HC : Hid (∀ w', Qt.Keeps (W3) w' → w'.cell? ⟨wr.heap.size, 0, none⟩ = some (.int .i64 xe0) ∧ w'.cell? ⟨wr.heap.size, 1, none⟩ = some (.int .i64 xe1) ∧ w'.cell? ⟨wr.heap.size, 2, none⟩ = some (.int .i64 xe2) ∧ w'.cell? ⟨wr.heap.size, 3, none⟩ = some (.int .i64 xe3) ∧ w'.cell? ⟨wr.heap.size, 4, none⟩ = some (.int .i64 xe4) ∧ w'.cell? ⟨w.heap.size, 2, none⟩ = some (.int .i64 xe3) ∧ w'.cell? ⟨w.heap.size, 4, none⟩ = some (.slice (some ⟨b, o, none⟩) n4 c4)) := Lib.hid fun w' hw => let h := SlStamp.bxc (HBX.out.below hw); let g := Cr2.five (HGR.out.below (below_on HB3.out hw)); ⟨h.1, h.2.1, h.2.2.1, h.2.2.2.1, h.2.2.2.2, g.2.1, g.2.2.2⟩
          refine Qt.region (Qt.Keeps (W3)) (by kernel_rfl) (by kernel_rfl) (Qt.Keeps.drew _) ?_
          repeat (first
            | go_big_quiet_skip
            | (go_big_quiet_want
               refine Qt.val (v := ?_) (fun w hw => ?_) ?_
               rotate_left
               · obtain ⟨t0, t1, t2, t3, t4, s2, s4⟩ := HC.out w hw
                 go_simp
                 rfl
               simp only [Act.put, List.setIfInBounds_toArray, List.set_cons_zero, List.set_cons_succ]
               go_big_quiet_on)
            | (go_big_quiet_want
               refine Qt.call (v := .bool true) (f := 41) (args := #[.slice pk nk ck, .slice pa na ca, .agg #[.int .i64 xe0, .int .i64 xe1, .int .i64 xe2, .int .i64 xe3, .int .i64 xe4]]) (fun w hw => ?_) (fun w hw => ?_) ?_
               · go_simp
               · refine (MStamp.spec_check_any pk nk ck ks HK.out.allP pa na ca us xe0 xe1 xe2 xe3 xe4 HIe.out.1 HIe.out.2.1 HIe.out.2.2.1 HIe.out.2.2.2.1 HIe.out.2.2.2.2 _ (HK.out.below (below_on HB3.out hw)).rdS (HA.out.below (below_on HB3.out hw)).rdS).mono ?_
                 rintro e w1 ⟨rfl, hb1⟩
                 rw [HCH.out]
                 exact ⟨rfl, hw.then hb1⟩
               simp only [Act.put, List.setIfInBounds_toArray, List.set_cons_zero, List.set_cons_succ]
               go_big_quiet_on))
          refine wpQuiet_nil ?_
          intro w5 hw5
          have HB5 := Lib.hid (below_on HB3.out hw5)
          clear hw5
          go_wp2_with fail
          go_roundw
          case rel => exact ⟨1, by omega, by go_num, HN2, HO2, HB5⟩
          case measure => simp [intOf]; omega
      | succ j =>
        obtain ⟨b2, o2, x_y, cs_y, ey, _, hbwy, hxy, hcy, hrdy⟩ := H4.out.at_ (i := j) (by omega)
        simp only [Option.some.injEq, Addr.mk.injEq, and_true] at ey
        obtain ⟨rfl, rfl⟩ := ey
        obtain ⟨xy0, xy1, xy2, xy3, xy4⟩ := x_y
        obtain ⟨rfl, _⟩ := hrdy
        have HY0 : Hid (V.cell? ⟨b, o + j * 5, none⟩ = some (.int .i64 xy0)) := Lib.hid (hcy 0 _ rfl)
        have HXy := Lib.hid hxy
        have jw : IntKind.i64.wrap (j : Int) = (j : Int) := IntWalk.i64_in _ (by omega)
        have j1 : (0 : Int) ≤ (j : Int) := by omega
        have j2 : (j : Int) < (n4 : Int) := by omega
        have j3 : (0 : Int) < (j : Int) + 1 := by omega
        clear hbwy hxy hcy
        by_cases hl : xy0 < xe0
        rotate_left
        · have HS : Hid (chk ks us (r0, r1, xe3, l3, l4) leaf = false) := Lib.hid (by rw [HS1.out, asc_no HXy.out HXe.out hl]; rfl)
          have t1 : decide (xe0 ≤ xy0) = true := decide_eq_true (by omega)
          clear hl
          have HC : Hid (∀ w', Qt.Keeps (W3) w' → w'.cell? ⟨wr.heap.size, 0, none⟩ = some (.int .i64 xe0) ∧ w'.cell? ⟨wr.heap.size, 1, none⟩ = some (.int .i64 xe1) ∧ w'.cell? ⟨wr.heap.size, 2, none⟩ = some (.int .i64 xe2) ∧ w'.cell? ⟨wr.heap.size, 3, none⟩ = some (.int .i64 xe3) ∧ w'.cell? ⟨wr.heap.size, 4, none⟩ = some (.int .i64 xe4) ∧ w'.cell? ⟨w.heap.size, 2, none⟩ = some (.int .i64 xe3) ∧ w'.cell? ⟨w.heap.size, 4, none⟩ = some (.slice (some ⟨b, o, none⟩) n4 c4) ∧ w'.cell? ⟨b, o + j * 5, none⟩ = some (.int .i64 xy0)) := Lib.hid fun w' hw => let h := SlStamp.bxc (HBX.out.below hw); let g := Cr2.five (HGR.out.below (below_on HB3.out hw)); ⟨h.1, h.2.1, h.2.2.1, h.2.2.2.1, h.2.2.2.2, g.2.1, g.2.2.2, ((below_on HB3.out hw).cell (p := ⟨b, o + j * 5, none⟩) hbwe).trans HY0.out⟩
          refine Qt.region (Qt.Keeps (W3)) (by kernel_rfl) (by kernel_rfl) (Qt.Keeps.drew _) ?_
          repeat (first
            | go_big_quiet_skip
            | (go_big_quiet_want
               refine Qt.val (v := ?_) (fun w hw => ?_) ?_
               rotate_left
               · obtain ⟨t0, t1, t2, t3, t4, s2, s4, y0⟩ := HC.out w hw
                 go_simp
                 rfl
               simp only [Act.put, List.setIfInBounds_toArray, List.set_cons_zero, List.set_cons_succ]
               go_big_quiet_on))
          refine wpQuiet_nil ?_
          intro w5 hw5
          have HB5 := Lib.hid (below_on HB3.out hw5)
          clear hw5
          go_wp2_with fail
          go_ret
          exact val_of (by rw [HS.out]; first | done | rfl) (HBV.out.trans (HB5.out.mono HBV.out.size))
        have HO2 := Lib.hid (asc_next HO.out HXy.out HXe.out hl)
        have t1 : decide (xe0 ≤ xy0) = false := decide_eq_false (by omega)
        clear hl
        cases β
        · have HS : Hid (chk ks us (r0, r1, xe3, l3, l4) leaf = false) := Lib.hid (by rw [HS1.out]; exact any_of HXe.out HBD.out)
          have HC : Hid (∀ w', Qt.Keeps (W3) w' → w'.cell? ⟨wr.heap.size, 0, none⟩ = some (.int .i64 xe0) ∧ w'.cell? ⟨wr.heap.size, 1, none⟩ = some (.int .i64 xe1) ∧ w'.cell? ⟨wr.heap.size, 2, none⟩ = some (.int .i64 xe2) ∧ w'.cell? ⟨wr.heap.size, 3, none⟩ = some (.int .i64 xe3) ∧ w'.cell? ⟨wr.heap.size, 4, none⟩ = some (.int .i64 xe4) ∧ w'.cell? ⟨w.heap.size, 2, none⟩ = some (.int .i64 xe3) ∧ w'.cell? ⟨w.heap.size, 4, none⟩ = some (.slice (some ⟨b, o, none⟩) n4 c4) ∧ w'.cell? ⟨b, o + j * 5, none⟩ = some (.int .i64 xy0)) := Lib.hid fun w' hw => let h := SlStamp.bxc (HBX.out.below hw); let g := Cr2.five (HGR.out.below (below_on HB3.out hw)); ⟨h.1, h.2.1, h.2.2.1, h.2.2.2.1, h.2.2.2.2, g.2.1, g.2.2.2, ((below_on HB3.out hw).cell (p := ⟨b, o + j * 5, none⟩) hbwe).trans HY0.out⟩
          refine Qt.region (Qt.Keeps (W3)) (by kernel_rfl) (by kernel_rfl) (Qt.Keeps.drew _) ?_
          repeat (first
            | go_big_quiet_skip
            | (go_big_quiet_want
               refine Qt.val (v := ?_) (fun w hw => ?_) ?_
               rotate_left
               · obtain ⟨t0, t1, t2, t3, t4, s2, s4, y0⟩ := HC.out w hw
                 go_simp
                 rfl
               simp only [Act.put, List.setIfInBounds_toArray, List.set_cons_zero, List.set_cons_succ]
               go_big_quiet_on)
            | (go_big_quiet_want
               refine Qt.call (v := .bool false) (f := 41) (args := #[.slice pk nk ck, .slice pa na ca, .agg #[.int .i64 xe0, .int .i64 xe1, .int .i64 xe2, .int .i64 xe3, .int .i64 xe4]]) (fun w hw => ?_) (fun w hw => ?_) ?_
               · go_simp
               · refine (MStamp.spec_check_any pk nk ck ks HK.out.allP pa na ca us xe0 xe1 xe2 xe3 xe4 HIe.out.1 HIe.out.2.1 HIe.out.2.2.1 HIe.out.2.2.2.1 HIe.out.2.2.2.2 _ (HK.out.below (below_on HB3.out hw)).rdS (HA.out.below (below_on HB3.out hw)).rdS).mono ?_
                 rintro e w1 ⟨rfl, hb1⟩
                 rw [HCH.out]
                 exact ⟨rfl, hw.then hb1⟩
               simp only [Act.put, List.setIfInBounds_toArray, List.set_cons_zero, List.set_cons_succ]
               go_big_quiet_on))
          refine wpQuiet_nil ?_
          intro w5 hw5
          have HB5 := Lib.hid (below_on HB3.out hw5)
          clear hw5
          go_wp2_with fail
          go_ret
          exact val_of (by rw [HS.out]; first | done | rfl) (HBV.out.trans (HB5.out.mono HBV.out.size))
        · have HN2 := Lib.hid (noneB_next HN.out HXe.out HBD.out)
          have HC : Hid (∀ w', Qt.Keeps (W3) w' → w'.cell? ⟨wr.heap.size, 0, none⟩ = some (.int .i64 xe0) ∧ w'.cell? ⟨wr.heap.size, 1, none⟩ = some (.int .i64 xe1) ∧ w'.cell? ⟨wr.heap.size, 2, none⟩ = some (.int .i64 xe2) ∧ w'.cell? ⟨wr.heap.size, 3, none⟩ = some (.int .i64 xe3) ∧ w'.cell? ⟨wr.heap.size, 4, none⟩ = some (.int .i64 xe4) ∧ w'.cell? ⟨w.heap.size, 2, none⟩ = some (.int .i64 xe3) ∧ w'.cell? ⟨w.heap.size, 4, none⟩ = some (.slice (some ⟨b, o, none⟩) n4 c4) ∧ w'.cell? ⟨b, o + j * 5, none⟩ = some (.int .i64 xy0)) := Lib.hid fun w' hw => let h := SlStamp.bxc (HBX.out.below hw); let g := Cr2.five (HGR.out.below (below_on HB3.out hw)); ⟨h.1, h.2.1, h.2.2.1, h.2.2.2.1, h.2.2.2.2, g.2.1, g.2.2.2, ((below_on HB3.out hw).cell (p := ⟨b, o + j * 5, none⟩) hbwe).trans HY0.out⟩
          refine Qt.region (Qt.Keeps (W3)) (by kernel_rfl) (by kernel_rfl) (Qt.Keeps.drew _) ?_
          repeat (first
            | go_big_quiet_skip
            | (go_big_quiet_want
               refine Qt.val (v := ?_) (fun w hw => ?_) ?_
               rotate_left
               · obtain ⟨t0, t1, t2, t3, t4, s2, s4, y0⟩ := HC.out w hw
                 go_simp
                 rfl
               simp only [Act.put, List.setIfInBounds_toArray, List.set_cons_zero, List.set_cons_succ]
               go_big_quiet_on)
            | (go_big_quiet_want
               refine Qt.call (v := .bool true) (f := 41) (args := #[.slice pk nk ck, .slice pa na ca, .agg #[.int .i64 xe0, .int .i64 xe1, .int .i64 xe2, .int .i64 xe3, .int .i64 xe4]]) (fun w hw => ?_) (fun w hw => ?_) ?_
               · go_simp
               · refine (MStamp.spec_check_any pk nk ck ks HK.out.allP pa na ca us xe0 xe1 xe2 xe3 xe4 HIe.out.1 HIe.out.2.1 HIe.out.2.2.1 HIe.out.2.2.2.1 HIe.out.2.2.2.2 _ (HK.out.below (below_on HB3.out hw)).rdS (HA.out.below (below_on HB3.out hw)).rdS).mono ?_
                 rintro e w1 ⟨rfl, hb1⟩
                 rw [HCH.out]
                 exact ⟨rfl, hw.then hb1⟩
               simp only [Act.put, List.setIfInBounds_toArray, List.set_cons_zero, List.set_cons_succ]
               go_big_quiet_on))
          refine wpQuiet_nil ?_
          intro w5 hw5
          have HB5 := Lib.hid (below_on HB3.out hw5)
          clear hw5
          go_wp2_with fail
          go_roundw
          case rel => exact ⟨j + 1 + 1, by omega, by go_num, HN2, HO2, HB5⟩
          case measure => simp [intOf]; omega
    · obtain rfl : k = n4 := by omega
      have HS : Hid (chk ks us (r0, r1, root, l3, l4) leaf = true) := Lib.hid (by rw [HS1.out, asc_yes HO.out HL.out (Nat.le_refl _), any_no HN.out HL.out]; rfl)
      go_wp2_with fail
      go_ret
      exact val_of (by rw [HS.out]; first | done | rfl) (HBV.out.trans (HB.out.mono HBV.out.size))
end Go.Proofs.Ytnkpioaaabnlcaa.Cr3
