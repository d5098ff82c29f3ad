/- MethodsOf in the reference. -/
import Derived.Test.YtpjckbdljbpliaaMto
import Derived.Test.YtpjckbdljbpliaaHx
import Derived.Test.YtpjckbdljbpliaaQt
import Derived.Deep.RegionHeld3
import Derived.LoopTactic
import Derived.Outline
namespace Go.Proofs.Ytpjckbdljbpliaa.Mts
open Go.ChangeShapes Go.WideShapes Go.ChangeAt Go.RowKit Sl St Ed Dz Mtm Mto
theorem ow_some {w : World} {lo hi n c : Nat} {p : Option Addr} {zs : List Int} (h : Ow .i64 3 w lo hi p (n + 1) c zs) : ∃ g, p = some ⟨g, 0, none⟩ := by
  rcases h.form with ⟨_, h0, _⟩ | ⟨g, h1, _⟩
  · omega
  · exact ⟨g, h1⟩
theorem getD_idx {zs : List Int} {i : Nat} (h : i < zs.length) : zs[i]? = some (zs.getD i 0) := by rw [List.getD_eq_getElem?_getD, List.getElem?_eq_getElem h]; rfl
/-- the first loop: the item's box, the empty row, the numbers -/
def RA (ids : List Int) (m g d : Nat) (C : Array Value) (w wr : World) : Prop := Ow .i64 3 wr (w.heap.size + 2) wr.heap.size (some ⟨g, 0, none⟩) m d ids ∧ Below w.heap.size w wr ∧ Bx wr w.heap.size 61 C ∧ Ow .i64 3 wr (w.heap.size + 1) (w.heap.size + 2) (some ⟨w.heap.size + 1, 0, none⟩) 0 0 []
theorem RA.start (x7 : Int) (hx : InI x7) (C : Array Value) (w : World) : RA [x7] 1 (w.heap.size + 1 + 1) 1 C w (((w.alloc (.cells C 61)).alloc (.cells #[] 3)).alloc (.cells #[.int .i64 x7] 3)) := by
  have h1 := one1 ((w.alloc (.cells C 61)).alloc (.cells #[] 3)) (w.heap.size + 2) x7 hx (by simp only [World.size_alloc]; omega)
  have h2 := litN_own 3 (w.alloc (.cells C 61)) (w.heap.size + 1) [] (allK_nil _) (by simp only [World.size_alloc]; omega) (by simp)
  simp only [World.size_alloc] at h1 h2
  exact ⟨h1.wide (Nat.le_refl _) (by simp only [World.size_alloc]; omega) (Nat.le_refl _), bel2 (bel2 (Dz.box1 w _) (Nat.le_refl _) _) (Nat.le_refl _) _, ((Bx.new w 61 C).alloc _).alloc _, h2.alloc _⟩
theorem RA.grow {ids ids' : List Int} {m g d m' g' d' : Nat} {C : Array Value} {w wr w' : World} (h : RA ids m g d C w wr) (x : Int) (ho : Ow .i64 3 w' (w.heap.size + 2) w'.heap.size (some ⟨g', 0, none⟩) m' d' ids') (hg : (wr.alloc (.cells #[.int .i64 x] 3)).grownBy w' (Value.slice (some ⟨g, 0, none⟩) m d).ownBlock) : RA ids' m' g' d' C w w' := by
  have hf := (h.1.alloc (.cells #[.int .i64 x] 3)).far
  refine ⟨ho, (bel2 h.2.1 (Nat.le_refl _) _).grown hg (by have := h.2.1.size; rw [World.size_alloc]; omega) (fun k e => by have := hf k e; omega), (h.2.2.1.alloc _).grown hg (fun e => by have := hf _ e.symm; omega), (h.2.2.2.alloc _).kept hg (fun k e => by have := hf k e; omega)⟩
theorem cellB {W w' : World} {g r : Nat} {v : Value} (hb : Below W.heap.size W w') (hg : g < W.heap.size) (h : W.cell? ⟨g, r, none⟩ = some v) : w'.cell? ⟨g, r, none⟩ = some v := (hb.cell (p := ⟨g, r, none⟩) hg).trans h
theorem drewB {W w : World} {B : Nat} (h : Below B W w) : Below B W w.drew := below_drewN h 1
theorem emp (V : World) (lo : Nat) (h : lo ≤ V.heap.size) : Ow .i64 3 (V.alloc (.cells #[] 3)) lo (V.alloc (.cells #[] 3)).heap.size (some ⟨V.heap.size, 0, none⟩) 0 0 [] := litN_own 3 V lo [] (allK_nil _) h (by simp)
theorem rd_none {w : World} {p : Option Addr} {n : Nat} {zs : List Int} (hn : n = 0) (hz : zs.length = 0) : Rd .i64 w p n zs := by
  subst hn
  obtain rfl : zs = [] := List.eq_nil_of_length_eq_zero hz
  exact Rd.nil_ _ _ _
theorem ow_pos {w : World} {lo hi n c : Nat} {p : Option Addr} {zs : List Int} (h : Ow .i64 3 w lo hi p n c zs) (hn : 0 < n) : ∃ g, p = some ⟨g, 0, none⟩ := by
  rcases h.form with ⟨_, h0, _⟩ | ⟨g, h1, _⟩
  · omega
  · exact ⟨g, h1⟩
set_option maxRecDepth 100000 in
set_option maxHeartbeats 16000000 in
theorem spec_meths_any (x0 x1 x2 : Int) (p3 : Option Addr) (n3 c3 : Nat) (p4 : Option Addr) (n4 c4 : Nat) (x5 x6 x7 x8 x9 x10 x11 x12 x13 : Int) (p14 : Option Addr) (n14 c14 : Nat) (l15 : List DpRenewal.A) (p15 : Option Addr) (n15 c15 : Nat) {S : Nat → Prop} (w : World) (h15 : RdD DpRenewal.E S w p15 n15 l15) (hx7 : InI x7) (hn : n15 ≤ 1048576) : Calls Try.prog 22 #[.agg #[.int .i64 x0, .int .i64 x1, .int .i64 x2, .slice p3 n3 c3, .slice p4 n4 c4, .int .i64 x5, .int .i64 x6, .int .i64 x7, .int .i64 x8, .int .i64 x9, .int .i64 x10, .int .i64 x11, .int .i64 x12, .int .i64 x13, .slice p14 n14 c14, .slice p15 n15 c15]] w fun e w' => ∃ q m d, e = .returned (.slice q m d) ∧ Ow .i64 3 w' w.heap.size w'.heap.size q m d (srt (mths x7 l15)) ∧ Below w.heap.size w w' := by
  obtain ⟨i0_, hi0, hz0, hz1, hz2⟩ := info_parts SlI.info
  have HL := Lib.hid h15.len
  have HR := Lib.hid h15
  have HXa := Lib.hid ((Bx.new w 61 #[.int .i64 x0, .int .i64 x1, .int .i64 x2, .slice p3 n3 c3, .slice p4 n4 c4, .int .i64 x5, .int .i64 x6, .int .i64 x7, .int .i64 x8, .int .i64 x9, .int .i64 x10, .int .i64 x11, .int .i64 x12, .int .i64 x13, .slice p14 n14 c14, .slice p15 n15 c15]).alloc (.cells #[] 3))
  have HK0 : Hid (RA (mths x7 (l15.take 0)) (0 + 1) (w.heap.size + 1 + 1) 1 #[.int .i64 x0, .int .i64 x1, .int .i64 x2, .slice p3 n3 c3, .slice p4 n4 c4, .int .i64 x5, .int .i64 x6, .int .i64 x7, .int .i64 x8, .int .i64 x9, .int .i64 x10, .int .i64 x11, .int .i64 x12, .int .i64 x13, .slice p14 n14 c14, .slice p15 n15 c15] w (((w.alloc (.cells #[.int .i64 x0, .int .i64 x1, .int .i64 x2, .slice p3 n3 c3, .slice p4 n4 c4, .int .i64 x5, .int .i64 x6, .int .i64 x7, .int .i64 x8, .int .i64 x9, .int .i64 x10, .int .i64 x11, .int .i64 x12, .int .i64 x13, .slice p14 n14 c14, .slice p15 n15 c15] 61)).alloc (.cells #[] 3)).alloc (.cells #[.int .i64 x7] 3))) := Lib.hid (RA.start x7 hx7 _ w)
  clear h15
  obtain ⟨i0, i1, i2, i3, i4, i5, i6, i7, i8, i9, i10, i11, i12, i13, i14, i15⟩ := DpItem.bxc HXa.out
  go_enter Try.func22, Try.ntmps22
  go_wp2_with fail
  clear i0 i1 i2 i3 i4 i5 i6 i7 i8 i9 i10 i11 i12 i13 i14 i15
  generalize (((w.alloc (.cells #[.int .i64 x0, .int .i64 x1, .int .i64 x2, .slice p3 n3 c3, .slice p4 n4 c4, .int .i64 x5, .int .i64 x6, .int .i64 x7, .int .i64 x8, .int .i64 x9, .int .i64 x10, .int .i64 x11, .int .i64 x12, .int .i64 x13, .slice p14 n14 c14, .slice p15 n15 c15] 61)).alloc (.cells #[] 3)).alloc (.cells #[.int .i64 x7] 3)) = V at HK0 ⊢
  go_loopw [4, 5] (fun v i wr => ∃ (k d g : Nat), k ≤ n15 ∧ i = .int .i64 k ∧ v = .slice (some ⟨g, 0, none⟩) (k + 1) d ∧ Hid (RA (mths x7 (l15.take k)) (k + 1) g d #[.int .i64 x0, .int .i64 x1, .int .i64 x2, .slice p3 n3 c3, .slice p4 n4 c4, .int .i64 x5, .int .i64 x6, .int .i64 x7, .int .i64 x8, .int .i64 x9, .int .i64 x10, .int .i64 x11, .int .i64 x12, .int .i64 x13, .slice p14 n14 c14, .slice p15 n15 c15] w wr)) (fun _ i _ => n15 - (intOf i).toNat)
  case atStart => exact ⟨0, _, _, Nat.zero_le _, rfl, rfl, HK0⟩
  case round =>
    obtain ⟨k, d, g, hk, rfl, rfl, HK⟩ := hrel
    obtain ⟨k0, k1, k2, k3, k4, k5, k6, k7, k8, k9, k10, k11, k12, k13, k14, k15⟩ := DpItem.bxc HK.out.2.2.1
    by_cases hlt : k < n15
    · obtain ⟨b, o, x_e, cs_e, rfl, _, hbwe, hxe, hce, hrde⟩ := HR.out.at_ hlt
      obtain ⟨xe0, xe1, xe2, le3, le4⟩ := x_e
      obtain ⟨pe3, ne3, ce3, pe4, ne4, ce4, rfl, be0, be1, be2, he3, he4⟩ := DpRenewal.ex hrde
      have hcc : ∀ jj v, [.int .i64 xe0, .int .i64 xe1, .int .i64 xe2, .slice pe3 ne3 ce3, .slice pe4 ne4 ce4][jj]? = some v → wr.cell? ⟨b, o + k * 5 + jj, none⟩ = some v := fun jj v hv => (HK.out.2.1.cell (p := ⟨b, o + k * 5 + jj, none⟩) hbwe).trans (hce jj v hv)
      obtain ⟨u0, u1, u2, u3, u4⟩ := DpRenewal.at_cells hcc
      have HN := Lib.hid (mths_next (x7 := x7) hxe)
      have HLit : Hid (Rd .i64 (wr.alloc (.cells #[.int .i64 xe1] 3)) (some ⟨wr.heap.size, 0, none⟩) 1 [xe1]) := Lib.hid (one1 wr 0 xe1 be1 (Nat.zero_le _)).rd
      have hsz : w.heap.size + 2 ≤ wr.heap.size := by have h1 := HK.out.1.form; rcases h1 with ⟨_, h0, _⟩ | ⟨g, _, h1, h2, _⟩ <;> omega
      have HZ : Hid (w.heap.size + 2 ≤ (wr.alloc (.cells #[.int .i64 xe1] 3)).heap.size) := Lib.hid (by rw [World.size_alloc]; omega)
      have i1 : (0 : Int) ≤ (k : Int) := by omega
      have i2 : (k : Int) < (n15 : Int) := by omega
      clear hcc hce hxe hrde be0 be1 be2 he3 he4 hsz
      go_wp2_with (at_builtin; refine wpList_appR rfl (.tmp 21) (.tmp 29) 43 rfl i0_ _ 8 Try.underlying43 hi0 hz0 hz1 hz2 rfl rfl (HK.out.1.alloc _) _ _ _ _ rfl HLit.out HZ.out (by omega) (by omega) ?_; intro p9 c9 w9 how9 hg9; obtain ⟨g9, rfl⟩ := ow_some how9; have HK4 : Hid (RA (mths x7 (l15.take (k + 1))) (k + 1 + 1) g9 c9 _ w w9) := Lib.hid (HK.out.grow xe1 (by rw [HN.out]; exact how9) hg9); clear how9 hg9)
      go_roundw
      case rel => exact ⟨k + 1, c9, g9, by omega, by go_num, rfl, HK4⟩
      case measure => simp [intOf]; omega
    · obtain rfl : k = n15 := by omega
      have HA : Hid (l15.take k = l15) := Lib.hid (List.take_of_length_le (by rw [HL.out]; exact Nat.le_refl _))
      have HALn : Hid ((mths x7 l15).length = k + 1) := Lib.hid (by rw [mths_len, HL.out])
      have HAl : Hid (Ow .i64 3 wr (w.heap.size + 2) wr.heap.size (some ⟨g, 0, none⟩) (k + 1) d (mths x7 l15)) := Lib.hid (by have h := HK.out.1; rw [HA.out] at h; exact h)
      have HBw := Lib.hid HK.out.2.1
      have hg1 := (HAl.out.far g rfl).1
      have hg2 : g < wr.heap.size := (HAl.out.far g rfl).2
      have HO0 := Lib.hid (HK.out.2.2.2.wide (Nat.le_refl _) (by omega) (Nat.le_refl _) : Ow .i64 3 wr (w.heap.size + 1) wr.heap.size (some ⟨w.heap.size + 1, 0, none⟩) 0 0 [])
      obtain ⟨AL, hAL⟩ : ∃ z, mths x7 l15 = z := ⟨_, rfl⟩
      rw [hAL] at HALn HAl
      have HALe := Lib.hid hAL
      clear hAL
      obtain ⟨W1, rfl⟩ : ∃ z, z = wr := ⟨_, rfl⟩
      have hna : AL.length = k + 1 := HALn.out
      go_wp2_with fail
      go_loopw [3, 6] (fun v i wx => ∃ (r m d2 g2 : Nat), r ≤ k + 1 ∧ i = .int .i64 r ∧ v = .slice (some ⟨g2, 0, none⟩) m d2 ∧ m ≤ r ∧ Hid (Ow .i64 3 wx (w.heap.size + 1) wx.heap.size (some ⟨g2, 0, none⟩) m d2 (srt (AL.take r))) ∧ Hid (Below W1.heap.size W1 wx)) (fun _ i _ => k + 1 - (intOf i).toNat)
      case atStart => exact ⟨0, 0, _, _, Nat.zero_le _, rfl, rfl, Nat.le_refl _, HO0, Lib.hid (Below.refl _ _)⟩
      case round =>
        obtain ⟨r, m, d2, g2, hr, rfl, rfl, hmr, HO, HBx⟩ := hrel
        obtain ⟨wx, rfl⟩ : ∃ z, z = wr := ⟨_, rfl⟩
        by_cases hlt2 : r < k + 1
        · have HAx := Lib.hid (HAl.out.below HBx.out)
          have c1 := HAx.out.cell (i := r) hlt2
          have hx := getD_idx (zs := AL) (i := r) (by omega)
          have hxI := allK_getD HAx.out.all r
          generalize AL.getD r 0 = x at c1 hx hxI
          have HX := Lib.hid hx
          have HXI := Lib.hid hxI
          have HC1 := Lib.hid c1
          have HNX := Lib.hid (srt_next hx)
          have HOL := Lib.hid HO.out.len
          have i1 : (0 : Int) ≤ (r : Int) := by omega
          have i2 : (r : Int) < (k : Int) + 1 := by omega
          clear hx hxI
          rcases hh : Hx.hasI (srt (AL.take r)) x with _ | _
          · have HH := Lib.hid hh
            have HNM : Hid (¬ x ∈ srt (AL.take r)) := Lib.hid (by unfold Hx.hasI at hh; exact of_decide_eq_false hh)
            clear hh
            go_wp2_with fail
            refine (Hx.l7Has_any _ _ _ (srt (AL.take r)) x _ HO.out.rd).mono ?_
            rintro e w1 ⟨rfl, rfl⟩
            rw [HH.out]
            go_wp2_with fail
            generalize srt (AL.take r) = Ls at HO HNX HOL HH HNM ⊢
            have hLl : Ls.length = m := HOL.out
            go_loopw [7] (fun i wj => ∃ j : Nat, j ≤ m ∧ i = .int .i64 j ∧ Hid (∀ (q : Nat) (y : Int), q < j → Ls[q]? = some y → y < x) ∧ Hid (Below wx.heap.size wx wj)) (fun i _ => m - (intOf i).toNat)
            case atStart => exact ⟨0, Nat.zero_le _, rfl, Lib.hid (fun q y hq => absurd hq (Nat.not_lt_zero _)), Lib.hid (Below.refl _ _)⟩
            case round =>
              obtain ⟨j, hj, rfl, HP, HBj⟩ := hrel
              obtain ⟨wj, rfl⟩ : ∃ z, z = wr := ⟨_, rfl⟩
              have HOj := Lib.hid (HO.out.below HBj.out)
              have i3 : (0 : Int) ≤ (j : Int) := by omega
              by_cases hlt3 : j < m
              · have d1 := HOj.out.cell (i := j) hlt3
                have hy := getD_idx (zs := Ls) (i := j) (by omega)
                generalize Ls.getD j 0 = y at d1 hy
                have HY := Lib.hid hy
                have HD1 := Lib.hid d1
                have HGL := Lib.hid (Nat.lt_of_lt_of_le (HOj.out.far g2 rfl).2 HBj.out.size)
                have HGA := Lib.hid (Nat.lt_of_lt_of_le (HAx.out.far g rfl).2 HBx.out.size)
                have i4 : (j : Int) < (m : Int) := by omega
                clear hy d1 c1
                by_cases hyx : y < x
                · have e1 : decide (y < x) = true := decide_eq_true hyx
                  have HYX := Lib.hid hyx
                  clear hyx
                  go_wp2_with fail
                  have HC : Hid (∀ w', Qt.Keeps (wj) w' → w'.cell? ⟨g2, j, none⟩ = some (.int .i64 y) ∧ w'.cell? ⟨g, r, none⟩ = some (.int .i64 x)) := Lib.hid fun w' hw => ⟨(hw.cell (p := ⟨g2, j, none⟩) HGL.out).trans HD1.out, ((below_on HBj.out hw).cell (p := ⟨g, r, none⟩) HGA.out).trans HC1.out⟩
                  refine Qt.region (Qt.Keeps (wj)) (by kernel_rfl) (by kernel_rfl) (Qt.Keeps.drew _) ?_
                  repeat (first
                    | go_big_quiet_skip
                    | (go_big_quiet_want
                       refine Qt.val (v := ?_) (fun w hw => ?_) ?_
                       rotate_left
                       · obtain ⟨a1, a2⟩ := HC.out w hw
                         go_simp
                         rfl
                       simp only [Act.put, List.setIfInBounds_toArray, List.set_cons_zero, List.set_cons_succ]
                       go_big_quiet_on))
                  refine wpQuiet_nil ?_
                  intro w2 hw2
                  have HB2 := Lib.hid (below_on HBj.out hw2)
                  clear hw2
                  have HP2 : Hid (∀ (q : Nat) (z : Int), q < j + 1 → Ls[q]? = some z → z < x) := Lib.hid (fun q z hq hz => by
                    rcases Nat.lt_or_ge q j with h | h
                    · exact HP.out q z h hz
                    · obtain rfl : q = j := by omega
                      rw [HY.out] at hz
                      cases hz
                      exact HYX.out)
                  go_wp2_with fail
                  go_roundw
                  case rel => exact ⟨j + 1, by omega, by go_num, HP2, HB2⟩
                  case measure => simp [intOf]; omega
                · have e1 : decide (y < x) = false := decide_eq_false hyx
                  have HYX := Lib.hid hyx
                  clear hyx
                  go_wp2_with fail
                  have HC : Hid (∀ w', Qt.Keeps (wj) w' → w'.cell? ⟨g2, j, none⟩ = some (.int .i64 y) ∧ w'.cell? ⟨g, r, none⟩ = some (.int .i64 x)) := Lib.hid fun w' hw => ⟨(hw.cell (p := ⟨g2, j, none⟩) HGL.out).trans HD1.out, ((below_on HBj.out hw).cell (p := ⟨g, r, none⟩) HGA.out).trans HC1.out⟩
                  refine Qt.region (Qt.Keeps (wj)) (by kernel_rfl) (by kernel_rfl) (Qt.Keeps.drew _) ?_
                  repeat (first
                    | go_big_quiet_skip
                    | (go_big_quiet_want
                       refine Qt.val (v := ?_) (fun w hw => ?_) ?_
                       rotate_left
                       · obtain ⟨a1, a2⟩ := HC.out w hw
                         go_simp
                         rfl
                       simp only [Act.put, List.setIfInBounds_toArray, List.set_cons_zero, List.set_cons_succ]
                       go_big_quiet_on))
                  refine wpQuiet_nil ?_
                  intro w2 hw2
                  have HB2 := Lib.hid (below_on HBj.out hw2)
                  clear hw2
                  have HCU : Hid (cut Ls x = j) := Lib.hid (cut_at HP.out (Or.inr ⟨y, HY.out, Int.not_lt.2 HYX.out⟩))
                  go_wp2_with fail
                  have HO2 := Lib.hid (HO.out.below HB2.out)
                  have HAr := Lib.hid (Nat.lt_of_lt_of_le (Nat.lt_of_lt_of_le (HAx.out.far g rfl).2 HBx.out.size) HB2.out.size)
                  have HCr : Hid (w2.cell? ⟨g, r, none⟩ = some (.int .i64 x)) := Lib.hid (cellB HB2.out (Nat.lt_of_lt_of_le (HAx.out.far g rfl).2 HBx.out.size) HC1.out)
                  have HRT : Hid (Rd .i64 w2 (some ⟨g2, 0, none⟩) j (Ls.take j)) := Lib.hid (by have h := HO2.out.rd.cut (lo := 0) (m := j) (p' := some ⟨g2, 0, none⟩) (by omega) (fun _ b o e => by cases e; rfl); simpa using h)
                  have HRD : Hid (Rd .i64 w2 (some ⟨g2, j, none⟩) (m - j) (Ls.drop j)) := Lib.hid (by have h := HO2.out.rd.cut (lo := j) (m := m - j) (p' := some ⟨g2, j, none⟩) (by omega) (fun _ b o e => by cases e; simp); rw [List.take_of_length_le (by rw [List.length_drop]; omega)] at h; exact h)
                  have HIN : Hid (srt (AL.take (r + 1)) = Ls.take j ++ x :: Ls.drop j) := Lib.hid (by rw [HNX.out, ins_out HNM.out, HCU.out])
                  have hcap := HO2.out.le
                  have b0 := Lib.hid (drewB (Below.refl w2.heap.size w2))
                  have bA := Lib.hid (drewB (Dz.box1 w2 (.cells #[] 3)))
                  have bB := Lib.hid (drewB (Dz.box1 w2 (.cells #[.int .i64 x] 3)))
                  have bAB := Lib.hid (drewB (bel2 (Dz.box1 w2 (.cells #[] 3)) (Nat.le_refl _) (.cells #[.int .i64 x] 3)))
                  have bBA := Lib.hid (drewB (bel2 (Dz.box1 w2 (.cells #[.int .i64 x] 3)) (Nat.le_refl _) (.cells #[] 3)))
                  have oA := Lib.hid ((emp w2 w2.heap.size (Nat.le_refl _)).drewN 1)
                  have oAB := Lib.hid (((emp w2 w2.heap.size (Nat.le_refl _)).alloc (.cells #[.int .i64 x] 3)).drewN 1)
                  have oBA : Hid (Ow .i64 3 ((w2.alloc (.cells #[.int .i64 x] 3)).alloc (.cells #[] 3)).drew w2.heap.size ((w2.alloc (.cells #[.int .i64 x] 3)).alloc (.cells #[] 3)).heap.size (some ⟨w2.heap.size + 1, 0, none⟩) 0 0 []) := Lib.hid (by have h := (emp (w2.alloc (.cells #[.int .i64 x] 3)) w2.heap.size (by rw [World.size_alloc]; omega)).drewN 1; rw [show (some ⟨(w2.alloc (.cells #[.int .i64 x] 3)).heap.size, 0, none⟩ : Option Addr) = some ⟨w2.heap.size + 1, 0, none⟩ from by rw [World.size_alloc]] at h; exact h)
                  have lAB : Hid (Rd .i64 ((w2.alloc (.cells #[] 3)).alloc (.cells #[.int .i64 x] 3)).drew (some ⟨w2.heap.size + 1, 0, none⟩) 1 [x]) := Lib.hid (by have h := (one1 (w2.alloc (.cells #[] 3)) 0 x HXI.out (Nat.zero_le _)).rd.drewN 1; rw [World.size_alloc] at h; exact h)
                  have lBA : Hid (Rd .i64 ((w2.alloc (.cells #[.int .i64 x] 3)).alloc (.cells #[] 3)).drew (some ⟨w2.heap.size, 0, none⟩) 1 [x]) := Lib.hid (((one1 w2 0 x HXI.out (Nat.zero_le _)).rd.alloc (.cells #[] 3)).drewN 1)
                  have c2 := HCr.out
                  have j1 : (j : Int) ≤ (m : Int) := by omega
                  have j2 : (m : Int) ≤ (d2 : Int) := by omega
                  have j3 : (j : Int) ≤ (d2 : Int) := by omega
                  by_cases hjd : d2 = j
                  · exact absurd hjd (by have h := HO2.out.le; omega)
                  · go_region_held3 (fun w' => w'.cell? ⟨g, r, none⟩ = some (.int .i64 x)) (first | exact cellB b0.out HAr.out HCr.out | exact cellB bA.out HAr.out HCr.out | exact cellB bB.out HAr.out HCr.out | exact cellB bAB.out HAr.out HCr.out | exact cellB bBA.out HAr.out HCr.out | exact cellB HB3.out HAr.out HCr.out | exact cellB (bel2 HB3.out (Nat.le_refl _) _) HAr.out HCr.out | exact cellB HB4.out HAr.out HCr.out | exact cellB HB5.out HAr.out HCr.out | fail) (first
                      | (refine step_appR (by rfl) (.tmp 60) (.tmp 63) 43 (by rfl) i0_ _ 8 Try.underlying43 hi0 hz0 hz1 hz2 (by rfl) (by rfl) oA.out _ _ _ _ (by rfl) (HRT.out.below bA.out) bA.out.size (by omega) (by omega) ?_; intro p3 c3_ w3 how3 hg3; rw [Nat.zero_add, List.nil_append] at how3; rw [Nat.zero_add]; have HO3 := Lib.hid how3; have HB3 := Lib.hid (bA.out.grown hg3 bA.out.size (fun q e => by have := (oA.out.far q e).1; omega)); clear how3 hg3)
                      | (refine step_appR (by rfl) (.tmp 60) (.tmp 63) 43 (by rfl) i0_ _ 8 Try.underlying43 hi0 hz0 hz1 hz2 (by rfl) (by rfl) oAB.out _ _ _ _ (by rfl) (HRT.out.below bAB.out) bAB.out.size (by omega) (by omega) ?_; intro p3 c3_ w3 how3 hg3; rw [Nat.zero_add, List.nil_append] at how3; rw [Nat.zero_add]; have HO3 := Lib.hid how3; have HL3 := Lib.hid (lAB.out.grown hg3 (fun b o e h => by cases e; simp [Value.ownBlock] at h)); have HB3 := Lib.hid (bAB.out.grown hg3 bAB.out.size (fun q e => by have := (oAB.out.far q e).1; omega)); clear how3 hg3)
                      | (refine step_appR (by rfl) (.tmp 60) (.tmp 63) 43 (by rfl) i0_ _ 8 Try.underlying43 hi0 hz0 hz1 hz2 (by rfl) (by rfl) oBA.out _ _ _ _ (by rfl) (HRT.out.below bBA.out) bBA.out.size (by omega) (by omega) ?_; intro p3 c3_ w3 how3 hg3; rw [Nat.zero_add, List.nil_append] at how3; rw [Nat.zero_add]; have HO3 := Lib.hid how3; have HL3 := Lib.hid (lBA.out.grown hg3 (fun b o e h => by cases e; simp [Value.ownBlock] at h)); have HB3 := Lib.hid (bBA.out.grown hg3 bBA.out.size (fun q e => by have := (oBA.out.far q e).1; omega)); clear how3 hg3)
                      | (refine step_appR (by rfl) (.tmp 64) (.tmp 69) 43 (by rfl) i0_ _ 8 Try.underlying43 hi0 hz0 hz1 hz2 (by rfl) (by rfl) HO3.out _ _ _ _ (by rfl) HL3.out HB3.out.size (by omega) (by omega) ?_; intro p4 c4_ w4 how4 hg4; have HO4 := Lib.hid how4; have HB4 := Lib.hid (HB3.out.grown hg4 HB3.out.size (fun q e => by have := (HO3.out.far q e).1; omega)); clear how4 hg4)
                      | (refine step_appR (by rfl) (.tmp 64) (.tmp 69) 43 (by rfl) i0_ _ 8 Try.underlying43 hi0 hz0 hz1 hz2 (by rfl) (by rfl) (HO3.out.alloc (.cells #[.int .i64 x] 3)) _ _ _ _ (by rfl) (one1 w3 0 x HXI.out (Nat.zero_le _)).rd (Nat.le_trans HB3.out.size (by simp)) (by omega) (by omega) ?_; intro p4 c4_ w4 how4 hg4; have HO4 := Lib.hid how4; have HB4 := Lib.hid ((bel2 HB3.out (Nat.le_refl _) (.cells #[.int .i64 x] 3)).grown hg4 (Nat.le_trans HB3.out.size (by simp)) (fun q e => by have := ((HO3.out.alloc (.cells #[.int .i64 x] 3)).far q e).1; omega)); clear how4 hg4)
                      | (refine step_appR (by rfl) (.tmp 70) (.tmp 73) 43 (by rfl) i0_ _ 8 Try.underlying43 hi0 hz0 hz1 hz2 (by rfl) (by rfl) HO4.out _ _ _ (Ls.drop j) (by rfl) (by first | exact HRD.out.below HB4.out | exact rd_none (by omega) (by rw [List.length_drop]; omega)) HB4.out.size (by omega) (by omega) ?_; intro p5 c5_ w5 how5 hg5; have HO5 := Lib.hid how5; have HB5 := Lib.hid (HB4.out.grown hg5 HB4.out.size (fun q e => by have := (HO4.out.far q e).1; omega)); clear how5 hg5)
                      | fail)
                    all_goals
                      obtain ⟨g5, rfl⟩ := ow_pos HO5.out (by omega)
                      have HO6 : Hid (Ow .i64 3 w5 (w.heap.size + 1) w5.heap.size (some ⟨g5, 0, none⟩) (j + 1 + (m - j)) c5_ (srt (AL.take (r + 1)))) := Lib.hid (by have h := HO5.out.wide (lo' := w.heap.size + 1) (by have h1 := HB2.out.size; have h2 := HBx.out.size; have h3 := (HAl.out.far g rfl); omega) (Nat.le_refl _) (Nat.le_refl _); rw [HIN.out]; simpa using h)
                      have HB6 := Lib.hid (below_on HBx.out (below_on HB2.out HB5.out))
                      go_wp2_with fail
                      go_roundw
                      case rel => exact ⟨r + 1, _, c5_, g5, by omega, by go_num, rfl, by omega, HO6, HB6⟩
                      case measure => simp [intOf]; omega
              · have hjm : j = m := by omega
                have HCU : Hid (cut Ls x = j) := Lib.hid (cut_at HP.out (Or.inl (by omega)))
                have e0 : decide ((j : Int) < (m : Int)) = false := decide_eq_false (by omega)
                clear c1
                go_wp2_with fail
                refine Qt.region (Qt.Keeps (wj)) (by kernel_rfl) (by kernel_rfl) (Qt.Keeps.drew _) ?_
                repeat (first
                  | go_big_quiet_skip
                  | (go_big_quiet_want
                     refine Qt.val (v := ?_) (fun w hw => ?_) ?_
                     rotate_left
                     · go_simp
                       rfl
                     simp only [Act.put, List.setIfInBounds_toArray, List.set_cons_zero, List.set_cons_succ]
                     go_big_quiet_on))
                refine wpQuiet_nil ?_
                intro w2 hw2
                have HB2 := Lib.hid (below_on HBj.out hw2)
                clear hw2 hjm e0
                go_wp2_with fail
                have HO2 := Lib.hid (HO.out.below HB2.out)
                have HAr := Lib.hid (Nat.lt_of_lt_of_le (Nat.lt_of_lt_of_le (HAx.out.far g rfl).2 HBx.out.size) HB2.out.size)
                have HCr : Hid (w2.cell? ⟨g, r, none⟩ = some (.int .i64 x)) := Lib.hid (cellB HB2.out (Nat.lt_of_lt_of_le (HAx.out.far g rfl).2 HBx.out.size) HC1.out)
                have HRT : Hid (Rd .i64 w2 (some ⟨g2, 0, none⟩) j (Ls.take j)) := Lib.hid (by have h := HO2.out.rd.cut (lo := 0) (m := j) (p' := some ⟨g2, 0, none⟩) (by omega) (fun _ b o e => by cases e; rfl); simpa using h)
                have HRD : Hid (Rd .i64 w2 (some ⟨g2, j, none⟩) (m - j) (Ls.drop j)) := Lib.hid (by have h := HO2.out.rd.cut (lo := j) (m := m - j) (p' := some ⟨g2, j, none⟩) (by omega) (fun _ b o e => by cases e; simp); rw [List.take_of_length_le (by rw [List.length_drop]; omega)] at h; exact h)
                have HIN : Hid (srt (AL.take (r + 1)) = Ls.take j ++ x :: Ls.drop j) := Lib.hid (by rw [HNX.out, ins_out HNM.out, HCU.out])
                have hcap := HO2.out.le
                have b0 := Lib.hid (drewB (Below.refl w2.heap.size w2))
                have bA := Lib.hid (drewB (Dz.box1 w2 (.cells #[] 3)))
                have bB := Lib.hid (drewB (Dz.box1 w2 (.cells #[.int .i64 x] 3)))
                have bAB := Lib.hid (drewB (bel2 (Dz.box1 w2 (.cells #[] 3)) (Nat.le_refl _) (.cells #[.int .i64 x] 3)))
                have bBA := Lib.hid (drewB (bel2 (Dz.box1 w2 (.cells #[.int .i64 x] 3)) (Nat.le_refl _) (.cells #[] 3)))
                have oA := Lib.hid ((emp w2 w2.heap.size (Nat.le_refl _)).drewN 1)
                have oAB := Lib.hid (((emp w2 w2.heap.size (Nat.le_refl _)).alloc (.cells #[.int .i64 x] 3)).drewN 1)
                have oBA : Hid (Ow .i64 3 ((w2.alloc (.cells #[.int .i64 x] 3)).alloc (.cells #[] 3)).drew w2.heap.size ((w2.alloc (.cells #[.int .i64 x] 3)).alloc (.cells #[] 3)).heap.size (some ⟨w2.heap.size + 1, 0, none⟩) 0 0 []) := Lib.hid (by have h := (emp (w2.alloc (.cells #[.int .i64 x] 3)) w2.heap.size (by rw [World.size_alloc]; omega)).drewN 1; rw [show (some ⟨(w2.alloc (.cells #[.int .i64 x] 3)).heap.size, 0, none⟩ : Option Addr) = some ⟨w2.heap.size + 1, 0, none⟩ from by rw [World.size_alloc]] at h; exact h)
                have lAB : Hid (Rd .i64 ((w2.alloc (.cells #[] 3)).alloc (.cells #[.int .i64 x] 3)).drew (some ⟨w2.heap.size + 1, 0, none⟩) 1 [x]) := Lib.hid (by have h := (one1 (w2.alloc (.cells #[] 3)) 0 x HXI.out (Nat.zero_le _)).rd.drewN 1; rw [World.size_alloc] at h; exact h)
                have lBA : Hid (Rd .i64 ((w2.alloc (.cells #[.int .i64 x] 3)).alloc (.cells #[] 3)).drew (some ⟨w2.heap.size, 0, none⟩) 1 [x]) := Lib.hid (((one1 w2 0 x HXI.out (Nat.zero_le _)).rd.alloc (.cells #[] 3)).drewN 1)
                have c2 := HCr.out
                have j1 : (j : Int) ≤ (m : Int) := by omega
                have j2 : (m : Int) ≤ (d2 : Int) := by omega
                have j3 : (j : Int) ≤ (d2 : Int) := by omega
                by_cases hjd : d2 = j
                · go_region_held3 (fun w' => w'.cell? ⟨g, r, none⟩ = some (.int .i64 x)) (first | exact cellB b0.out HAr.out HCr.out | exact cellB bA.out HAr.out HCr.out | exact cellB bB.out HAr.out HCr.out | exact cellB bAB.out HAr.out HCr.out | exact cellB bBA.out HAr.out HCr.out | exact cellB HB3.out HAr.out HCr.out | exact cellB (bel2 HB3.out (Nat.le_refl _) _) HAr.out HCr.out | exact cellB HB4.out HAr.out HCr.out | exact cellB HB5.out HAr.out HCr.out | fail) (first
                    | (refine step_appR (by rfl) (.tmp 60) (.tmp 63) 43 (by rfl) i0_ _ 8 Try.underlying43 hi0 hz0 hz1 hz2 (by rfl) (by rfl) oA.out _ _ _ _ (by rfl) (HRT.out.below bA.out) bA.out.size (by omega) (by omega) ?_; intro p3 c3_ w3 how3 hg3; rw [Nat.zero_add, List.nil_append] at how3; rw [Nat.zero_add]; have HO3 := Lib.hid how3; have HB3 := Lib.hid (bA.out.grown hg3 bA.out.size (fun q e => by have := (oA.out.far q e).1; omega)); clear how3 hg3)
                    | (refine step_appR (by rfl) (.tmp 60) (.tmp 63) 43 (by rfl) i0_ _ 8 Try.underlying43 hi0 hz0 hz1 hz2 (by rfl) (by rfl) oAB.out _ _ _ _ (by rfl) (HRT.out.below bAB.out) bAB.out.size (by omega) (by omega) ?_; intro p3 c3_ w3 how3 hg3; rw [Nat.zero_add, List.nil_append] at how3; rw [Nat.zero_add]; have HO3 := Lib.hid how3; have HL3 := Lib.hid (lAB.out.grown hg3 (fun b o e h => by cases e; simp [Value.ownBlock] at h)); have HB3 := Lib.hid (bAB.out.grown hg3 bAB.out.size (fun q e => by have := (oAB.out.far q e).1; omega)); clear how3 hg3)
                    | (refine step_appR (by rfl) (.tmp 60) (.tmp 63) 43 (by rfl) i0_ _ 8 Try.underlying43 hi0 hz0 hz1 hz2 (by rfl) (by rfl) oBA.out _ _ _ _ (by rfl) (HRT.out.below bBA.out) bBA.out.size (by omega) (by omega) ?_; intro p3 c3_ w3 how3 hg3; rw [Nat.zero_add, List.nil_append] at how3; rw [Nat.zero_add]; have HO3 := Lib.hid how3; have HL3 := Lib.hid (lBA.out.grown hg3 (fun b o e h => by cases e; simp [Value.ownBlock] at h)); have HB3 := Lib.hid (bBA.out.grown hg3 bBA.out.size (fun q e => by have := (oBA.out.far q e).1; omega)); clear how3 hg3)
                    | (refine step_appR (by rfl) (.tmp 64) (.tmp 69) 43 (by rfl) i0_ _ 8 Try.underlying43 hi0 hz0 hz1 hz2 (by rfl) (by rfl) HO3.out _ _ _ _ (by rfl) HL3.out HB3.out.size (by omega) (by omega) ?_; intro p4 c4_ w4 how4 hg4; have HO4 := Lib.hid how4; have HB4 := Lib.hid (HB3.out.grown hg4 HB3.out.size (fun q e => by have := (HO3.out.far q e).1; omega)); clear how4 hg4)
                    | (refine step_appR (by rfl) (.tmp 64) (.tmp 69) 43 (by rfl) i0_ _ 8 Try.underlying43 hi0 hz0 hz1 hz2 (by rfl) (by rfl) (HO3.out.alloc (.cells #[.int .i64 x] 3)) _ _ _ _ (by rfl) (one1 w3 0 x HXI.out (Nat.zero_le _)).rd (Nat.le_trans HB3.out.size (by simp)) (by omega) (by omega) ?_; intro p4 c4_ w4 how4 hg4; have HO4 := Lib.hid how4; have HB4 := Lib.hid ((bel2 HB3.out (Nat.le_refl _) (.cells #[.int .i64 x] 3)).grown hg4 (Nat.le_trans HB3.out.size (by simp)) (fun q e => by have := ((HO3.out.alloc (.cells #[.int .i64 x] 3)).far q e).1; omega)); clear how4 hg4)
                    | (refine step_appR (by rfl) (.tmp 70) (.tmp 73) 43 (by rfl) i0_ _ 8 Try.underlying43 hi0 hz0 hz1 hz2 (by rfl) (by rfl) HO4.out _ _ _ (Ls.drop j) (by rfl) (by first | exact HRD.out.below HB4.out | exact rd_none (by omega) (by rw [List.length_drop]; omega)) HB4.out.size (by omega) (by omega) ?_; intro p5 c5_ w5 how5 hg5; have HO5 := Lib.hid how5; have HB5 := Lib.hid (HB4.out.grown hg5 HB4.out.size (fun q e => by have := (HO4.out.far q e).1; omega)); clear how5 hg5)
                    | fail)
                  all_goals
                    obtain ⟨g5, rfl⟩ := ow_pos HO5.out (by omega)
                    have HO6 : Hid (Ow .i64 3 w5 (w.heap.size + 1) w5.heap.size (some ⟨g5, 0, none⟩) (j + 1 + (m - j)) c5_ (srt (AL.take (r + 1)))) := Lib.hid (by have h := HO5.out.wide (lo' := w.heap.size + 1) (by have h1 := HB2.out.size; have h2 := HBx.out.size; have h3 := (HAl.out.far g rfl); omega) (Nat.le_refl _) (Nat.le_refl _); rw [HIN.out]; simpa using h)
                    have HB6 := Lib.hid (below_on HBx.out (below_on HB2.out HB5.out))
                    go_wp2_with fail
                    go_roundw
                    case rel => exact ⟨r + 1, _, c5_, g5, by omega, by go_num, rfl, by omega, HO6, HB6⟩
                    case measure => simp [intOf]; omega
                · go_region_held3 (fun w' => w'.cell? ⟨g, r, none⟩ = some (.int .i64 x)) (first | exact cellB b0.out HAr.out HCr.out | exact cellB bA.out HAr.out HCr.out | exact cellB bB.out HAr.out HCr.out | exact cellB bAB.out HAr.out HCr.out | exact cellB bBA.out HAr.out HCr.out | exact cellB HB3.out HAr.out HCr.out | exact cellB (bel2 HB3.out (Nat.le_refl _) _) HAr.out HCr.out | exact cellB HB4.out HAr.out HCr.out | exact cellB HB5.out HAr.out HCr.out | fail) (first
                    | (refine step_appR (by rfl) (.tmp 60) (.tmp 63) 43 (by rfl) i0_ _ 8 Try.underlying43 hi0 hz0 hz1 hz2 (by rfl) (by rfl) oA.out _ _ _ _ (by rfl) (HRT.out.below bA.out) bA.out.size (by omega) (by omega) ?_; intro p3 c3_ w3 how3 hg3; rw [Nat.zero_add, List.nil_append] at how3; rw [Nat.zero_add]; have HO3 := Lib.hid how3; have HB3 := Lib.hid (bA.out.grown hg3 bA.out.size (fun q e => by have := (oA.out.far q e).1; omega)); clear how3 hg3)
                    | (refine step_appR (by rfl) (.tmp 60) (.tmp 63) 43 (by rfl) i0_ _ 8 Try.underlying43 hi0 hz0 hz1 hz2 (by rfl) (by rfl) oAB.out _ _ _ _ (by rfl) (HRT.out.below bAB.out) bAB.out.size (by omega) (by omega) ?_; intro p3 c3_ w3 how3 hg3; rw [Nat.zero_add, List.nil_append] at how3; rw [Nat.zero_add]; have HO3 := Lib.hid how3; have HL3 := Lib.hid (lAB.out.grown hg3 (fun b o e h => by cases e; simp [Value.ownBlock] at h)); have HB3 := Lib.hid (bAB.out.grown hg3 bAB.out.size (fun q e => by have := (oAB.out.far q e).1; omega)); clear how3 hg3)
                    | (refine step_appR (by rfl) (.tmp 60) (.tmp 63) 43 (by rfl) i0_ _ 8 Try.underlying43 hi0 hz0 hz1 hz2 (by rfl) (by rfl) oBA.out _ _ _ _ (by rfl) (HRT.out.below bBA.out) bBA.out.size (by omega) (by omega) ?_; intro p3 c3_ w3 how3 hg3; rw [Nat.zero_add, List.nil_append] at how3; rw [Nat.zero_add]; have HO3 := Lib.hid how3; have HL3 := Lib.hid (lBA.out.grown hg3 (fun b o e h => by cases e; simp [Value.ownBlock] at h)); have HB3 := Lib.hid (bBA.out.grown hg3 bBA.out.size (fun q e => by have := (oBA.out.far q e).1; omega)); clear how3 hg3)
                    | (refine step_appR (by rfl) (.tmp 64) (.tmp 69) 43 (by rfl) i0_ _ 8 Try.underlying43 hi0 hz0 hz1 hz2 (by rfl) (by rfl) HO3.out _ _ _ _ (by rfl) HL3.out HB3.out.size (by omega) (by omega) ?_; intro p4 c4_ w4 how4 hg4; have HO4 := Lib.hid how4; have HB4 := Lib.hid (HB3.out.grown hg4 HB3.out.size (fun q e => by have := (HO3.out.far q e).1; omega)); clear how4 hg4)
                    | (refine step_appR (by rfl) (.tmp 64) (.tmp 69) 43 (by rfl) i0_ _ 8 Try.underlying43 hi0 hz0 hz1 hz2 (by rfl) (by rfl) (HO3.out.alloc (.cells #[.int .i64 x] 3)) _ _ _ _ (by rfl) (one1 w3 0 x HXI.out (Nat.zero_le _)).rd (Nat.le_trans HB3.out.size (by simp)) (by omega) (by omega) ?_; intro p4 c4_ w4 how4 hg4; have HO4 := Lib.hid how4; have HB4 := Lib.hid ((bel2 HB3.out (Nat.le_refl _) (.cells #[.int .i64 x] 3)).grown hg4 (Nat.le_trans HB3.out.size (by simp)) (fun q e => by have := ((HO3.out.alloc (.cells #[.int .i64 x] 3)).far q e).1; omega)); clear how4 hg4)
                    | (refine step_appR (by rfl) (.tmp 70) (.tmp 73) 43 (by rfl) i0_ _ 8 Try.underlying43 hi0 hz0 hz1 hz2 (by rfl) (by rfl) HO4.out _ _ _ (Ls.drop j) (by rfl) (by first | exact HRD.out.below HB4.out | exact rd_none (by omega) (by rw [List.length_drop]; omega)) HB4.out.size (by omega) (by omega) ?_; intro p5 c5_ w5 how5 hg5; have HO5 := Lib.hid how5; have HB5 := Lib.hid (HB4.out.grown hg5 HB4.out.size (fun q e => by have := (HO4.out.far q e).1; omega)); clear how5 hg5)
                    | fail)
                  all_goals
                    obtain ⟨g5, rfl⟩ := ow_pos HO5.out (by omega)
                    have HO6 : Hid (Ow .i64 3 w5 (w.heap.size + 1) w5.heap.size (some ⟨g5, 0, none⟩) (j + 1 + (m - j)) c5_ (srt (AL.take (r + 1)))) := Lib.hid (by have h := HO5.out.wide (lo' := w.heap.size + 1) (by have h1 := HB2.out.size; have h2 := HBx.out.size; have h3 := (HAl.out.far g rfl); omega) (Nat.le_refl _) (Nat.le_refl _); rw [HIN.out]; simpa using h)
                    have HB6 := Lib.hid (below_on HBx.out (below_on HB2.out HB5.out))
                    go_wp2_with fail
                    go_roundw
                    case rel => exact ⟨r + 1, _, c5_, g5, by omega, by go_num, rfl, by omega, HO6, HB6⟩
                    case measure => simp [intOf]; omega
          · have HH := Lib.hid hh
            have HIM : Hid (x ∈ srt (AL.take r)) := Lib.hid (by unfold Hx.hasI at hh; exact of_decide_eq_true hh)
            have HE : Hid (srt (AL.take (r + 1)) = srt (AL.take r)) := Lib.hid (by rw [HNX.out, ins_in HIM.out])
            clear hh
            go_wp2_with fail
            refine (Hx.l7Has_any _ _ _ (srt (AL.take r)) x _ HO.out.rd).mono ?_
            rintro e w1 ⟨rfl, rfl⟩
            rw [HH.out]
            have HO2 : Hid (Ow .i64 3 wx (w.heap.size + 1) wx.heap.size (some ⟨g2, 0, none⟩) m d2 (srt (AL.take (r + 1)))) := Lib.hid (by rw [HE.out]; exact HO.out)
            go_wp2_with fail
            go_roundw
            case rel => exact ⟨r + 1, m, d2, g2, by omega, by go_num, rfl, by omega, HO2, HBx⟩
            case measure => simp [intOf]; omega
        · obtain rfl : r = k + 1 := by omega
          have HE : Hid (AL.take (k + 1) = AL) := Lib.hid (List.take_of_length_le (by omega))
          go_wp2_with fail
          go_ret
          exact ⟨_, _, _, rfl, by have h := HO.out; rw [HE.out] at h; rw [HALe.out]; exact h.wide (lo' := w.heap.size) (Nat.le_succ _) (Nat.le_refl _) (Nat.le_refl _), HBw.out.trans (HBx.out.mono HBw.out.size)⟩
end Go.Proofs.Ytpjckbdljbpliaa.Mts
