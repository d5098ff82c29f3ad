/- Whether a strand is valid, in the reference. -/
import Derived.Test.YtjaholcmaafenaaIs1
import Derived.Test.YtjaholcmaafenaaQt
import Derived.LoopTactic
import Derived.Outline
namespace Go.Proofs.Ytjaholcmaafenaa.Is2
open Go.ChangeShapes Go.WideShapes Go.ChangeAt Go.RowKit Sl St Ed Dz Es Fi Is1
theorem join_1 {a c d : Bool} : join4 a false c d = false := by cases a <;> rfl
theorem join_3 {a b c : Bool} : join4 a b c false = false := by cases a <;> cases b <;> cases c <;> rfl
theorem okC_out {n : Int} {rs : List DpRenewal.A} {k : Nat} {x : DpRenewal.A} (hx : rs[k]? = some x) (h : ¬ (1 ≤ x.1 ∧ x.1 ≤ n)) : ¬ okC n rs k := fun a => h ⟨(a x hx).1, (a x hx).2.1⟩
theorem okC_less {n : Int} {rs : List DpRenewal.A} {j : Nat} {x y : DpRenewal.A} (hx : rs[j + 1]? = some x) (hy : rs[j]? = some y) (h : x.1 < y.1) : ¬ okC n rs (j + 1) := fun a => by
  have := (a x hx).2.2 y (by omega) hy
  omega
theorem okC_zero {n : Int} {rs : List DpRenewal.A} {x : DpRenewal.A} (hx : rs[0]? = some x) (h : 1 ≤ x.1 ∧ x.1 ≤ n) : okC n rs 0 := fun y hy => by
  rw [hx] at hy
  cases hy
  exact ⟨h.1, h.2, fun _ hk => absurd hk (Nat.lt_irrefl 0)⟩
theorem okC_succ {n : Int} {rs : List DpRenewal.A} {j : Nat} {x y : DpRenewal.A} (hx : rs[j + 1]? = some x) (hy : rs[j]? = some y) (h : 1 ≤ x.1 ∧ x.1 ≤ n) (h2 : ¬ x.1 < y.1) : okC n rs (j + 1) := fun z hz => by
  rw [hx] at hz
  cases hz
  refine ⟨h.1, h.2, fun v _ hv => ?_⟩
  rw [Nat.add_sub_cancel, hy] at hv
  cases hv
  omega
theorem l1InB (x n : Int) (b : Bool) (hb : decide (1 ≤ x ∧ x ≤ n) = b) (w : World) : Calls Try.prog 130 #[.int .i64 x, .int .i64 1, .int .i64 n] w (Val (.bool b) w) := (Ints.l1In_any _ _ _ b hb _).mono fun _ _ h => ⟨h.1, h.2 ▸ Below.refl _ _⟩
set_option maxRecDepth 100000 in
set_option maxHeartbeats 8000000 in
theorem spec_strand_any (l0 : List DpPiece.A) (p0 : Option Addr) (n0 c0 : Nat) (l1 : List DpRenewal.A) (p1 : Option Addr) (n1 c1 : Nat) {S0 S1 : Nat → Prop} (w : World) (h0 : RdD DpPiece.E S0 w p0 n0 l0) (h1 : RdD DpRenewal.E S1 w p1 n1 l1) : Calls Try.prog 105 #[.agg #[.slice p0 n0 c0, .slice p1 n1 c1]] w (Val (.bool (isS l0 l1 n0 n1)) w) := by
  have hb := box1 w (.cells #[.slice p0 n0 c0, .slice p1 n1 c1] 36)
  have HBV := Lib.hid hb
  have HX := Lib.hid (Bx.new w 36 #[.slice p0 n0 c0, .slice p1 n1 c1])
  have H0 := Lib.hid (h0.below hb)
  have H1 := Lib.hid (h1.below hb)
  have e0 := h0.le
  have e1 := h1.le
  clear hb h0 h1
  go_enter Try.func105, Try.ntmps105
  go_wp2_with fail
  generalize (w.alloc (.cells #[.slice p0 n0 c0, .slice p1 n1 c1] 36)) = V at HBV HX H0 H1 ⊢
  go_loopw [3] (fun i wr => ∃ k : Nat, k ≤ n0 ∧ i = .int .i64 k ∧ Hid (∀ j, j < k → okD l0 j) ∧ Hid (Below V.heap.size V wr)) (fun i _ => n0 - (intOf i).toNat)
  case atStart => exact ⟨0, Nat.zero_le _, rfl, Lib.hid (fun j hj => absurd hj (Nat.not_lt_zero j)), Lib.hid (Below.refl _ _)⟩
  case round =>
    obtain ⟨k, hk, rfl, HU, HB⟩ := hrel
    obtain ⟨s0, s1⟩ := DpStrand.bxc (HX.out.below HB.out)
    by_cases hlt : k < n0
    · skip
      obtain ⟨b, o, x_e, cs_e, rfl, _, hbwe, hxe, hce, hrde⟩ := H0.out.at_ hlt
      obtain ⟨xe0, le1, xe2⟩ := x_e
      obtain ⟨pe1, ne1, ce1, rfl, be0, he1, be2⟩ := DpPiece.ex hrde
      have hcce : ∀ jj v, [.int .i64 xe0, .slice pe1 ne1 ce1, .int .i64 xe2][jj]? = some v → wr.cell? ⟨b, o + k * 3 + jj, none⟩ = some v := fun jj v hv => (HB.out.cell (p := ⟨b, o + k * 3 + jj, none⟩) hbwe).trans (hce jj v hv)
      have HXe := Lib.hid hxe
      have HCe := Lib.hid hcce
      have He1 := Lib.hid (he1.below HB.out)
      have hne1 := he1.le
      have Gbe0 := Lib.hid be0
      have Gbe2 := Lib.hid be2
      obtain ⟨u0, u1, u2⟩ := DpPiece.at_cells hcce
      clear hcce hce hxe hrde be0 he1 be2
      have hbW : b < wr.heap.size := Nat.lt_of_lt_of_le hbwe HB.out.size
      have HXk := Lib.hid (HX.out.below HB.out)
      have H0k := Lib.hid (H0.out.below HB.out)
      have HUU := Lib.hid (And.intro u0 (And.intro u1 u2))
      obtain ⟨z, hz⟩ : ∃ z, findP l0 (xe0, le1, xe2) = z := ⟨_, rfl⟩
      have HZ := Lib.hid hz
      have i1 : (0 : Int) ≤ (k : Int) := by omega
      have i2 : (k : Int) < (n0 : Int) := by omega
      clear hz
      by_cases hc : z < (k : Int)
      all_goals
        go_wp2_with fail
        have HC : Hid (∀ w', Qt.Keeps (wr) w' → w'.cell? ⟨w.heap.size, 0, none⟩ = some (.slice (some ⟨b, o, none⟩) n0 c0) ∧ w'.cell? ⟨w.heap.size, 1, none⟩ = some (.slice p1 n1 c1) ∧ w'.cell? ⟨b, o + k * 3, none⟩ = some (.int .i64 xe0) ∧ w'.cell? ⟨b, o + k * 3 + 1, none⟩ = some (.slice pe1 ne1 ce1) ∧ w'.cell? ⟨b, o + k * 3 + 2, none⟩ = some (.int .i64 xe2)) := Lib.hid fun w' hw => let h := DpStrand.bxc (HXk.out.below hw); ⟨h.1, h.2, (hw.cell (p := ⟨b, o + k * 3, none⟩) hbW).trans HUU.out.1, (hw.cell (p := ⟨b, o + k * 3 + 1, none⟩) hbW).trans HUU.out.2.1, (hw.cell (p := ⟨b, o + k * 3 + 2, none⟩) hbW).trans HUU.out.2.2⟩
        refine Qt.region (Qt.Keeps (wr)) (by kernel_rfl) (by kernel_rfl) (Qt.Keeps.drew _) ?_
        repeat (first
          | go_big_quiet_skip
          | (go_big_quiet_want
             refine Qt.val (v := ?_) (fun w hw => ?_) ?_
             rotate_left
             · obtain ⟨s0, s1, u0, u1, u2⟩ := HC.out w hw
               go_simp
               rfl
             simp only [Act.put, List.setIfInBounds_toArray, List.set_cons_zero, List.set_cons_succ]
             go_big_quiet_on)
          | (go_big_quiet_want
             refine Qt.call (v := .int .i64 z) (f := 129) (args := #[.agg #[.slice (some ⟨b, o, none⟩) n0 c0, .slice p1 n1 c1], .agg #[.int .i64 xe0, .slice pe1 ne1 ce1, .int .i64 xe2]]) (fun w hw => ?_) (fun w hw => ?_) ?_
             · go_simp
             · refine (spec_find_any l0 _ _ _ _ _ _ xe0 le1 _ _ _ xe2 _ (H0k.out.below hw) (He1.out.below hw)).mono ?_
               rintro e w1 ⟨rfl, hb1⟩
               rw [HZ.out]
               exact ⟨rfl, hw.then hb1⟩
             simp only [Act.put, List.setIfInBounds_toArray, List.set_cons_zero, List.set_cons_succ]
             go_big_quiet_on))
        refine wpQuiet_nil ?_
        intro w2 hw2
        have HB2 := Lib.hid (below_on HB.out hw2)
        clear hw2
      · have HF : Hid (isS l0 l1 n0 n1 = false) := Lib.hid (by unfold isS; rw [allB_no (okD_no HXe.out (by rw [HZ.out]; omega))]; exact join_1)
        have HBf := Lib.hid (HBV.out.trans (HB2.out.mono HBV.out.size))
        go_wp2_with fail
        go_ret
        exact val_of (by rw [HF.out]; first | done | rfl) HBf.out
      · have HU2 := Lib.hid (next_all HU.out (okD_at HXe.out (by rw [HZ.out]; omega)))
        go_wp2_with fail
        go_roundw
        case rel => exact ⟨k + 1, by omega, by go_num, HU2, HB2⟩
        case measure => simp [intOf]; omega
    · obtain rfl : n0 = k := by omega
      have HD := Lib.hid (okD_all H0.out.len HU.out)
      clear HU
      go_wp2_with fail
      clear s0 s1
      go_loopw [4] (fun i wr => ∃ k : Nat, k ≤ n1 ∧ i = .int .i64 k ∧ Hid (∀ j, j < k → okC (n0 : Int) l1 j) ∧ Hid (Below V.heap.size V wr)) (fun i _ => n1 - (intOf i).toNat)
      case atStart => exact ⟨0, Nat.zero_le _, rfl, Lib.hid (fun j hj => absurd hj (Nat.not_lt_zero j)), HB⟩
      case round =>
        obtain ⟨k, hk, rfl, HU, HB⟩ := hrel
        obtain ⟨s0, s1⟩ := DpStrand.bxc (HX.out.below HB.out)
        have HXk := Lib.hid (HX.out.below HB.out)
        by_cases hlt : k < n1
        · skip
          obtain ⟨b, o, x_e, cs_e, rfl, _, hbwe, hxe, hce, hrde⟩ := H1.out.at_ hlt
          obtain ⟨xe0, xe1, xe2, le3, le4⟩ := x_e
          obtain ⟨pe3, ne3, ce3, pe4, ne4, ce4, rfl, be0, be1, be2, he3, he4⟩ := DpRenewal.ex hrde
          have hcce : ∀ jj v, [.int .i64 xe0, .int .i64 xe1, .int .i64 xe2, .slice pe3 ne3 ce3, .slice pe4 ne4 ce4][jj]? = some v → wr.cell? ⟨b, o + k * 5 + jj, none⟩ = some v := fun jj v hv => (HB.out.cell (p := ⟨b, o + k * 5 + jj, none⟩) hbwe).trans (hce jj v hv)
          have HXe := Lib.hid hxe
          have HCe := Lib.hid hcce
          have He3 := Lib.hid (he3.below HB.out)
          have hne3 := he3.le
          have He4 := Lib.hid (he4.below HB.out)
          have hne4 := he4.le
          have Gbe0 := Lib.hid be0
          have Gbe1 := Lib.hid be1
          have Gbe2 := Lib.hid be2
          obtain ⟨u0, u1, u2, u3, u4⟩ := DpRenewal.at_cells hcce
          clear hcce hce hxe hrde be0 be1 be2 he3 he4
          have hbW : b < wr.heap.size := Nat.lt_of_lt_of_le hbwe HB.out.size
          have HU0 := Lib.hid u0
          clear u0 u1 u2 u3 u4
          have i1 : (0 : Int) ≤ (k : Int) := by omega
          have i2 : (k : Int) < (n1 : Int) := by omega
          obtain ⟨β, hβ⟩ : ∃ β, decide (1 ≤ xe0 ∧ xe0 ≤ (n0 : Int)) = β := ⟨_, rfl⟩
          have HE := Lib.hid hβ
          clear hβ
          cases β
          · have HF : Hid (isS l0 l1 n0 n1 = false) := Lib.hid (by unfold isS; rw [allB_no (okC_out HXe.out (of_decide_eq_false HE.out))]; exact join_3)
            go_wp2_with fail
            have HC : Hid (∀ w', Qt.Keeps (wr) w' → w'.cell? ⟨w.heap.size, 0, none⟩ = some (.slice p0 n0 c0) ∧ w'.cell? ⟨w.heap.size, 1, none⟩ = some (.slice (some ⟨b, o, none⟩) n1 c1) ∧ w'.cell? ⟨b, o + k * 5, none⟩ = some (.int .i64 xe0)) := Lib.hid fun w' hw => let h := DpStrand.bxc (HXk.out.below hw); ⟨h.1, h.2, (hw.cell (p := ⟨b, o + k * 5, none⟩) hbW).trans HU0.out⟩
            refine Qt.region (Qt.Keeps (wr)) (by kernel_rfl) (by kernel_rfl) (Qt.Keeps.drew _) ?_
            repeat (first
              | go_big_quiet_skip
              | (go_big_quiet_want
                 refine Qt.val (v := ?_) (fun w hw => ?_) ?_
                 rotate_left
                 · obtain ⟨s0, s1, u0⟩ := HC.out w hw
                   go_simp
                   rfl
                 simp only [Act.put, List.setIfInBounds_toArray, List.set_cons_zero, List.set_cons_succ]
                 go_big_quiet_on)
              | (go_big_quiet_want
                 refine Qt.call (v := .bool false) (f := 130) (args := #[.int .i64 xe0, .int .i64 1, .int .i64 n0]) (fun w hw => ?_) (fun w hw => ?_) ?_
                 · go_simp
                 · refine (l1InB xe0 _ false HE.out _).mono ?_
                   rintro e w1 ⟨rfl, hb1⟩
                   skip
                   exact ⟨rfl, hw.then hb1⟩
                 simp only [Act.put, List.setIfInBounds_toArray, List.set_cons_zero, List.set_cons_succ]
                 go_big_quiet_on))
            refine wpQuiet_nil ?_
            intro w2 hw2
            have HB2 := Lib.hid (below_on HB.out hw2)
            clear hw2
            have HBf := Lib.hid (HBV.out.trans (HB2.out.mono HBV.out.size))
            go_wp2_with fail
            go_ret
            exact val_of (by rw [HF.out]; first | done | rfl) HBf.out
          have hin := of_decide_eq_true HE.out
          cases k with
          | zero =>
            have HU2 := Lib.hid (next_all HU.out (okC_zero HXe.out hin))
            rw [Nat.zero_mul, Nat.add_zero] at HU0
            clear hin
            go_wp2_with fail
            have HC : Hid (∀ w', Qt.Keeps (wr) w' → w'.cell? ⟨w.heap.size, 0, none⟩ = some (.slice p0 n0 c0) ∧ w'.cell? ⟨w.heap.size, 1, none⟩ = some (.slice (some ⟨b, o, none⟩) n1 c1) ∧ w'.cell? ⟨b, o, none⟩ = some (.int .i64 xe0)) := Lib.hid fun w' hw => let h := DpStrand.bxc (HXk.out.below hw); ⟨h.1, h.2, (hw.cell (p := ⟨b, o, none⟩) hbW).trans HU0.out⟩
            refine Qt.region (Qt.Keeps (wr)) (by kernel_rfl) (by kernel_rfl) (Qt.Keeps.drew _) ?_
            repeat (first
              | go_big_quiet_skip
              | (go_big_quiet_want
                 refine Qt.val (v := ?_) (fun w hw => ?_) ?_
                 rotate_left
                 · obtain ⟨s0, s1, u0⟩ := HC.out w hw
                   go_simp
                   rfl
                 simp only [Act.put, List.setIfInBounds_toArray, List.set_cons_zero, List.set_cons_succ]
                 go_big_quiet_on)
              | (go_big_quiet_want
                 refine Qt.call (v := .bool true) (f := 130) (args := #[.int .i64 xe0, .int .i64 1, .int .i64 n0]) (fun w hw => ?_) (fun w hw => ?_) ?_
                 · go_simp
                 · refine (l1InB xe0 _ true HE.out _).mono ?_
                   rintro e w1 ⟨rfl, hb1⟩
                   skip
                   exact ⟨rfl, hw.then hb1⟩
                 simp only [Act.put, List.setIfInBounds_toArray, List.set_cons_zero, List.set_cons_succ]
                 go_big_quiet_on))
            refine wpQuiet_nil ?_
            intro w2 hw2
            have HB2 := Lib.hid (below_on HB.out hw2)
            clear hw2
            go_wp2_with fail
            go_roundw
            case rel => exact ⟨1, by omega, rfl, HU2, HB2⟩
            case measure => simp [intOf]; omega
          | succ j =>
            obtain ⟨b', o', y_, cy_, ey, _, hby, hy, hcy, hyr⟩ := H1.out.at_ (i := j) (by omega)
            simp only [Option.some.injEq, Addr.mk.injEq, and_true] at ey
            obtain ⟨rfl, rfl⟩ := ey
            obtain ⟨y0, y1, y2, y3, y4⟩ := y_
            obtain ⟨_, _, _, _, _, _, rfl, _⟩ := DpRenewal.ex hyr
            have HV0 : Hid (wr.cell? ⟨b, o + j * 5, none⟩ = some (.int .i64 y0)) := Lib.hid ((HB.out.cell (p := ⟨b, o + j * 5, none⟩) hby).trans (hcy 0 _ rfl))
            have HY := Lib.hid hy
            have jw : IntKind.i64.wrap (j : Int) = (j : Int) := IntWalk.i64_in _ (by omega)
            have j1 : (0 : Int) ≤ (j : Int) := by omega
            have j2 : (j : Int) < (n1 : Int) := by omega
            clear hy hcy hyr
            by_cases hlt2 : xe0 < y0
            · have HF : Hid (isS l0 l1 n0 n1 = false) := Lib.hid (by unfold isS; rw [allB_no (okC_less HXe.out HY.out hlt2)]; exact join_3)
              clear hin
              go_wp2_with fail
              have HC : Hid (∀ w', Qt.Keeps (wr) w' → w'.cell? ⟨w.heap.size, 0, none⟩ = some (.slice p0 n0 c0) ∧ w'.cell? ⟨w.heap.size, 1, none⟩ = some (.slice (some ⟨b, o, none⟩) n1 c1) ∧ w'.cell? ⟨b, o + (j + 1) * 5, none⟩ = some (.int .i64 xe0) ∧ w'.cell? ⟨b, o + j * 5, none⟩ = some (.int .i64 y0)) := Lib.hid fun w' hw => let h := DpStrand.bxc (HXk.out.below hw); ⟨h.1, h.2, (hw.cell (p := ⟨b, o + (j + 1) * 5, none⟩) hbW).trans HU0.out, (hw.cell (p := ⟨b, o + j * 5, none⟩) hbW).trans HV0.out⟩
              refine Qt.region (Qt.Keeps (wr)) (by kernel_rfl) (by kernel_rfl) (Qt.Keeps.drew _) ?_
              repeat (first
                | go_big_quiet_skip
                | (go_big_quiet_want
                   refine Qt.val (v := ?_) (fun w hw => ?_) ?_
                   rotate_left
                   · obtain ⟨s0, s1, u0, r0⟩ := HC.out w hw
                     go_simp
                     rfl
                   simp only [Act.put, List.setIfInBounds_toArray, List.set_cons_zero, List.set_cons_succ]
                   go_big_quiet_on)
                | (go_big_quiet_want
                   refine Qt.call (v := .bool true) (f := 130) (args := #[.int .i64 xe0, .int .i64 1, .int .i64 n0]) (fun w hw => ?_) (fun w hw => ?_) ?_
                   · go_simp
                   · refine (l1InB xe0 _ true HE.out _).mono ?_
                     rintro e w1 ⟨rfl, hb1⟩
                     skip
                     exact ⟨rfl, hw.then hb1⟩
                   simp only [Act.put, List.setIfInBounds_toArray, List.set_cons_zero, List.set_cons_succ]
                   go_big_quiet_on))
              refine wpQuiet_nil ?_
              intro w2 hw2
              have HB2 := Lib.hid (below_on HB.out hw2)
              clear hw2
              have HBf := Lib.hid (HBV.out.trans (HB2.out.mono HBV.out.size))
              go_wp2_with fail
              go_ret
              exact val_of (by rw [HF.out]; first | done | rfl) HBf.out
            · have HU2 := Lib.hid (next_all HU.out (okC_succ HXe.out HY.out hin hlt2))
              clear hin
              go_wp2_with fail
              have HC : Hid (∀ w', Qt.Keeps (wr) w' → w'.cell? ⟨w.heap.size, 0, none⟩ = some (.slice p0 n0 c0) ∧ w'.cell? ⟨w.heap.size, 1, none⟩ = some (.slice (some ⟨b, o, none⟩) n1 c1) ∧ w'.cell? ⟨b, o + (j + 1) * 5, none⟩ = some (.int .i64 xe0) ∧ w'.cell? ⟨b, o + j * 5, none⟩ = some (.int .i64 y0)) := Lib.hid fun w' hw => let h := DpStrand.bxc (HXk.out.below hw); ⟨h.1, h.2, (hw.cell (p := ⟨b, o + (j + 1) * 5, none⟩) hbW).trans HU0.out, (hw.cell (p := ⟨b, o + j * 5, none⟩) hbW).trans HV0.out⟩
              refine Qt.region (Qt.Keeps (wr)) (by kernel_rfl) (by kernel_rfl) (Qt.Keeps.drew _) ?_
              repeat (first
                | go_big_quiet_skip
                | (go_big_quiet_want
                   refine Qt.val (v := ?_) (fun w hw => ?_) ?_
                   rotate_left
                   · obtain ⟨s0, s1, u0, r0⟩ := HC.out w hw
                     go_simp
                     rfl
                   simp only [Act.put, List.setIfInBounds_toArray, List.set_cons_zero, List.set_cons_succ]
                   go_big_quiet_on)
                | (go_big_quiet_want
                   refine Qt.call (v := .bool true) (f := 130) (args := #[.int .i64 xe0, .int .i64 1, .int .i64 n0]) (fun w hw => ?_) (fun w hw => ?_) ?_
                   · go_simp
                   · refine (l1InB xe0 _ true HE.out _).mono ?_
                     rintro e w1 ⟨rfl, hb1⟩
                     skip
                     exact ⟨rfl, hw.then hb1⟩
                   simp only [Act.put, List.setIfInBounds_toArray, List.set_cons_zero, List.set_cons_succ]
                   go_big_quiet_on))
              refine wpQuiet_nil ?_
              intro w2 hw2
              have HB2 := Lib.hid (below_on HB.out hw2)
              clear hw2
              go_wp2_with fail
              go_roundw
              case rel => exact ⟨j + 1 + 1, by omega, by go_num, HU2, HB2⟩
              case measure => simp [intOf]; omega
        · obtain rfl : n1 = k := by omega
          have HC := Lib.hid (okC_all H1.out.len HU.out)
          obtain ⟨b0, hb0⟩ : ∃ b, decide (1 ≤ (n0 : Int) ∧ (n0 : Int) ≤ 12) = b := ⟨_, rfl⟩
          obtain ⟨b2, hb2⟩ : ∃ b, decide ((n1 : Int) ≤ 8) = b := ⟨_, rfl⟩
          have HV : Hid (isS l0 l1 n0 n1 = join4 b0 true b2 true) := Lib.hid (by unfold isS; rw [hb0, HD.out, hb2, HC.out])
          have E0 := Lib.hid hb0
          have E2 := Lib.hid hb2
          have HBf := Lib.hid (HBV.out.trans (HB.out.mono HBV.out.size))
          clear hb0 hb2
          go_wp2_with fail
          refine (Ints.l1In_any _ _ _ b0 E0.out _).mono ?_
          rintro e w1 ⟨rfl, rfl⟩
          cases b0
          · go_wp2_with fail
            go_ret
            exact val_of (by rw [HV.out]; rfl) HBf.out
          cases b2
          · have h8 := of_decide_eq_false E2.out
            go_wp2_with fail
            go_ret
            exact val_of (by rw [HV.out]; first | rfl | (show Value.bool (decide ((n1 : Int) ≤ 8)) = _; rw [E2.out]; rfl)) HBf.out
          have h8 := of_decide_eq_true E2.out
          go_wp2_with fail
          go_ret
          exact val_of (by rw [HV.out]; first | rfl | (show Value.bool (decide ((n1 : Int) ≤ 8)) = _; rw [E2.out]; rfl)) HBf.out
end Go.Proofs.Ytjaholcmaafenaa.Is2
