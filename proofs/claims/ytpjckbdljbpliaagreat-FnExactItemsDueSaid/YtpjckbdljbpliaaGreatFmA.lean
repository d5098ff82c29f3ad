/- The least time of the methods that a renewal needs, in the program, with the closure RenewalBreak$1. The least time of the methods that a renewal needs, in the reference. -/
import Derived.Test.YtpjckbdljbpliaaGreatFm0
import Derived.Test.YtpjckbdljbpliaaGreatFm1
import Derived.Test.YtpjckbdljbpliaaGreatKo
import Derived.Test.YtpjckbdljbpliaaGreatDpFrame
import Derived.LoopTactic
import Derived.Outline
import Derived.Test.YtpjckbdljbpliaaGreatFKey
import Derived.Test.YtpjckbdljbpliaaGreatQt
namespace Go.Proofs.YtpjckbdljbpliaaGreat.Fm2B
open Go.ChangeShapes Go.WideShapes Go.ChangeAt Go.RowKit Sl St Ed Dz Es Fnd Kn Kr Fm0
end Go.Proofs.YtpjckbdljbpliaaGreat.Fm2B

namespace Go.Proofs.YtpjckbdljbpliaaGreat.Fm3
open Go.ChangeShapes Go.WideShapes Go.ChangeAt Go.RowKit Sl St Ed Dz Es Fnd Kn Kr Fm0
theorem key_at {ks : List I5} {w : World} {S : Nat → Prop} {p : Option Addr} {n k : Nat} {z : Int} (h : RdD (flat SlKey.E SlKey.InR) S w p n ks) (hk : k < n) (hf : find ks z = k) : ∃ b o x0 x1 x2 x3 x4, p = some ⟨b, o, none⟩ ∧ b < w.heap.size ∧ ring ks z = some (x0, x1, x2, x3, x4) ∧ w.cell? ⟨b, o + k * 5 + 2, none⟩ = some (.int .i64 x2) := by
  obtain ⟨b, o, ⟨x0, x1, x2, x3, x4⟩, cs, rfl, _, hb, hx, hc, rfl, _⟩ := h.at_ hk
  refine ⟨b, o, x0, x1, x2, x3, x4, rfl, hb, ?_, hc 2 _ rfl⟩
  rcases ring_cases ks z with ⟨j, hj, h1, h2, _, _⟩ | ⟨h1, _, _⟩
  · rw [hf] at h1
    obtain rfl : k = j := by omega
    rw [h2, List.getD_eq_getElem?_getD, hx]
    rfl
  · rw [hf] at h1
    omega
theorem SlStamp_at {w : World} {b q : Nat} {v0 v1 v2 v3 v4 : Value} (h : ∀ j v, [v0, v1, v2, v3, v4][j]? = some v → w.cell? ⟨b, q + j, none⟩ = some v) : w.cell? ⟨b, q, none⟩ = some v0 ∧ w.cell? ⟨b, q + 1, none⟩ = some v1 ∧ w.cell? ⟨b, q + 2, none⟩ = some v2 ∧ w.cell? ⟨b, q + 3, none⟩ = some v3 ∧ w.cell? ⟨b, q + 4, none⟩ = some v4 := ⟨h 0 _ rfl, h 1 _ rfl, h 2 _ rfl, h 3 _ rfl, h 4 _ rfl⟩
set_option maxRecDepth 100000 in
set_option maxHeartbeats 8000000 in
theorem spec_ends_any (ks : List I5) (pk : Option Addr) (nk ck : Nat) (us : List I3) (pa : Option Addr) (na ca : Nat) (ms : List Mn.Me) (pm : Option Addr) (nm cm : Nat) (f3 f4 : Int) (r0 r1 r2 : Int) (l3 : List (Int × Bool)) (p3 : Option Addr) (n3 c3 : Nat) (l4 : List I5) (p4 : Option Addr) (n4 c4 : Nat) {SM SK SA S3 S4 : Nat → Prop} (w : World) (hk : RdD (flat SlKey.E SlKey.InR) SK w pk nk ks) (ha : RdD (flat SlAuthority.E SlAuthority.InR) SA w pa na us) (hm : RdD (flat SlMethod.E SlMethod.InR) SM w pm nm ms) (_h3 : RdD (flat SlStep.E SlStep.InR) S3 w p3 n3 l3) (h4 : RdD (flat SlStamp.E SlStamp.InR) S4 w p4 n4 l4) : Calls Tryz.prog 78 #[.agg #[.slice pk nk ck, .slice pa na ca, .slice pm nm cm, .int .i64 f3, .int .i64 f4], .agg #[.int .i64 r0, .int .i64 r1, .int .i64 r2, .slice p3 n3 c3, .slice p4 n4 c4]] w (Dz.Val (.int .i64 (firstM ks us (ends ms) r1 l4)) w) := by
  have hb : Below w.heap.size w ((w.alloc (.cells #[.slice pk nk ck, .slice pa na ca, .slice pm nm cm, .int .i64 f3, .int .i64 f4] 38)).alloc (.cells #[.int .i64 r0, .int .i64 r1, .int .i64 r2, .slice p3 n3 c3, .slice p4 n4 c4] 131)) := (box1 w _).alloc (by simp) _
  have x1 := (Bx.new w 38 #[.slice pk nk ck, .slice pa na ca, .slice pm nm cm, .int .i64 f3, .int .i64 f4]).alloc (.cells #[.int .i64 r0, .int .i64 r1, .int .i64 r2, .slice p3 n3 c3, .slice p4 n4 c4] 131)
  have x2 := Bx.new (w.alloc (.cells #[.slice pk nk ck, .slice pa na ca, .slice pm nm cm, .int .i64 f3, .int .i64 f4] 38)) 131 #[.int .i64 r0, .int .i64 r1, .int .i64 r2, .slice p3 n3 c3, .slice p4 n4 c4]
  rw [World.size_alloc] at x2
  have HG := Lib.hid x1
  have HBV := Lib.hid hb
  have HX := Lib.hid x2
  have HM := Lib.hid (hm.below hb)
  have HK := Lib.hid (hk.below hb)
  have HA := Lib.hid (ha.below hb)
  have H4 := Lib.hid (h4.below hb)
  have hle4 := h4.le
  have hlek := hk.le
  have L4 := Lib.hid h4.len
  clear hb x1 x2 hm hk ha h4
  obtain ⟨v0, v1, v2, v3, v4⟩ := DpRenewal.bxc HX.out
  obtain ⟨g0, g1, g2, g3, g4⟩ := DpFrame.bxc HG.out
  go_enter Tryz.func78, Tryz.ntmps78
  go_wp2_with fail
  generalize ((w.alloc (.cells #[.slice pk nk ck, .slice pa na ca, .slice pm nm cm, .int .i64 f3, .int .i64 f4] 38)).alloc (.cells #[.int .i64 r0, .int .i64 r1, .int .i64 r2, .slice p3 n3 c3, .slice p4 n4 c4] 131)) = V at HBV HG HX HM HK HA H4 ⊢
  refine (Fm1.spec_end_any _ _ _ ms r1 _ HM.out.rdS).mono ?_
  rintro e w1 ⟨rfl, hb⟩
  have HB1 := Lib.hid hb
  clear hb v0 v1 v2 v3 v4 g0 g1 g2 g3 g4
  go_wp2_with fail
  go_loopw [5, 6] (fun v i wr => ∃ (k : Nat) (y : Int), k ≤ n4 ∧ i = .int .i64 k ∧ v = .int .i64 y ∧ Hid (y = (l4.take k).foldl (stpM ks us (ends ms)) ((ends ms) r1)) ∧ Hid (noneB (lost ks us) l4 k) ∧ Hid (Below V.heap.size V wr)) (fun _ i _ => n4 - (intOf i).toNat)
  case atStart => exact ⟨0, (ends ms) r1, Nat.zero_le _, rfl, rfl, Lib.hid rfl, Lib.hid (noneB_zero _), HB1⟩
  case round =>
    obtain ⟨k, y, hk, rfl, rfl, HY, HN, HB⟩ := hrel
    obtain ⟨v0, v1, v2, v3, v4⟩ := DpRenewal.bxc (HX.out.below HB.out)
    by_cases hlt : k < n4
    · skip
      obtain ⟨b, o, x_e, cs_e, rfl, _, hbwe, hxe, hce, hrde⟩ := H4.out.at_ hlt
      obtain ⟨xe0, xe1, xe2, xe3, xe4⟩ := x_e
      obtain ⟨rfl, hine⟩ := hrde
      have HIe := Lib.hid hine
      have hcce : ∀ jj v, [.int .i64 xe0, .int .i64 xe1, .int .i64 xe2, .int .i64 xe3, .int .i64 xe4][jj]? = some v → wr.cell? ⟨b, o + k * 5 + jj, none⟩ = some v := fun jj v hv => (HB.out.cell (p := ⟨b, o + k * 5 + jj, none⟩) hbwe).trans (hce jj v hv)
      have HXe := Lib.hid hxe
      have HCe := Lib.hid hcce
      have u0 : wr.cell? ⟨b, o + k * 5, none⟩ = some (.int .i64 xe0) := hcce 0 _ rfl
      have u1 : wr.cell? ⟨b, o + k * 5 + 1, none⟩ = some (.int .i64 xe1) := hcce 1 _ rfl
      have u2 : wr.cell? ⟨b, o + k * 5 + 2, none⟩ = some (.int .i64 xe2) := hcce 2 _ rfl
      have u3 : wr.cell? ⟨b, o + k * 5 + 3, none⟩ = some (.int .i64 xe3) := hcce 3 _ rfl
      have u4 : wr.cell? ⟨b, o + k * 5 + 4, none⟩ = some (.int .i64 xe4) := hcce 4 _ rfl
      clear hcce hce hxe hine
      obtain ⟨z, hz⟩ : ∃ z, (Ao.aut us xe0).1.2.1 = z := ⟨_, rfl⟩
      have HZ : Hid (num us (xe0, xe1, xe2, xe3, xe4) = z) := Lib.hid hz
      have HZ2 := Lib.hid hz
      clear hz
      have i1 : (0 : Int) ≤ (k : Int) := by omega
      have i2 : (k : Int) < (n4 : Int) := by omega
      clear v0 v1 v2 v3 v4
      obtain ⟨v0, v1, v2, v3, v4⟩ := DpRenewal.bxc (HX.out.below HB.out)
      clear u0 u1 u2 u3 u4
      go_wp2_with fail
      clear v0 v1 v2 v3 v4
      have HC : Hid (∀ w', Qt.Keeps (wr) w' → w'.cell? ⟨w.heap.size, 0, none⟩ = some (.slice pk nk ck) ∧ w'.cell? ⟨w.heap.size, 1, none⟩ = some (.slice pa na ca) ∧ w'.cell? ⟨w.heap.size, 2, none⟩ = some (.slice pm nm cm) ∧ w'.cell? ⟨w.heap.size + 1, 4, none⟩ = some (.slice (some ⟨b, o, none⟩) n4 c4) ∧ w'.cell? ⟨b, o + k * 5, none⟩ = some (.int .i64 xe0) ∧ w'.cell? ⟨b, o + k * 5 + 1, none⟩ = some (.int .i64 xe1) ∧ w'.cell? ⟨b, o + k * 5 + 2, none⟩ = some (.int .i64 xe2) ∧ w'.cell? ⟨b, o + k * 5 + 3, none⟩ = some (.int .i64 xe3) ∧ w'.cell? ⟨b, o + k * 5 + 4, none⟩ = some (.int .i64 xe4)) := Lib.hid fun w' hw => let g := DpFrame.bxc (HG.out.below (below_on HB.out hw)); let h := (DpRenewal.bxc (HX.out.below (below_on HB.out hw))); let u := SlStamp_at (w := w') (b := b) (q := o + k * 5) fun t v hv => (hw.cell (p := ⟨b, o + k * 5 + t, none⟩) (Nat.lt_of_lt_of_le hbwe HB.out.size)).trans (HCe.out t v hv); ⟨g.1, g.2.1, g.2.2.1, h.2.2.2.2, u.1, u.2.1, u.2.2.1, u.2.2.2.1, u.2.2.2.2⟩
      refine Qt.region (Qt.Keeps (wr)) (by kernel_rfl) (by kernel_rfl) (Qt.Keeps.drew _) ?_
      repeat (first
        | go_big_quiet_skip
        | (go_big_quiet_want
           refine Qt.val (v := ?_) (fun w hw => ?_) ?_
           rotate_left
           · obtain ⟨g0, g1, g2, s4, u0, u1, u2, u3, u4⟩ := HC.out w hw
             go_simp
             rfl
           simp only [Act.put, List.setIfInBounds_toArray, List.set_cons_zero, List.set_cons_succ]
           go_big_quiet_on)
        | (go_big_quiet_want
           refine Qt.call (v := .int .i64 z) (f := 98) (args := #[.slice pa na ca, .agg #[.int .i64 xe0, .int .i64 xe1, .int .i64 xe2, .int .i64 xe3, .int .i64 xe4]]) (fun w hw => ?_) (fun w hw => ?_) ?_
           · go_simp
           · refine (Ao.spec_stampKey_any pa na ca us xe0 xe1 xe2 xe3 xe4 _ (HA.out.below (below_on HB.out hw)).rdS).mono ?_
             rintro e w1 ⟨rfl, hb1⟩
             rw [HZ2.out]
             exact ⟨rfl, hw.then hb1⟩
           simp only [Act.put, List.setIfInBounds_toArray, List.set_cons_zero, List.set_cons_succ]
           go_big_quiet_on)
        | (go_big_quiet_want
           refine Qt.call (v := .int .i64 (find ks z)) (f := 70) (args := #[.slice pk nk ck, .int .i64 z]) (fun w hw => ?_) (fun w hw => ?_) ?_
           · go_simp
           · refine (FKey.spec_find_val pk nk ck ks z _ (HK.out.below (below_on HB.out hw)).rdS).mono ?_
             rintro e w1 ⟨rfl, hb1⟩
             skip
             exact ⟨rfl, hw.then hb1⟩
           simp only [Act.put, List.setIfInBounds_toArray, List.set_cons_zero, List.set_cons_succ]
           go_big_quiet_on))
      refine wpQuiet_nil ?_
      intro w6 hw6
      have HB6 := Lib.hid (below_on HB.out hw6)
      clear hw6
      rcases ring_cases ks z with ⟨j, hj, hf, _, _, _⟩ | ⟨hf, hr, _⟩
      rotate_left
      · have HF := Lib.hid (first_lost (ks := ks) (us := us) (t := (ends ms)) (m := r1) HXe.out (by rw [HZ.out]; exact hr))
        rw [hf]
        clear hf hr
        go_wp2_with fail
        go_ret
        exact Dz.val_of (by rw [HF.out]; first | done | rfl) (below_on HBV.out HB6.out)
      · obtain ⟨bk, ok, k0, k1, k2, k3, k4, rfl, hbk, hrk, hck⟩ := key_at HK.out (by rw [← HK.out.len]; exact hj) hf
        have hjn : j < nk := by rw [← HK.out.len]; exact hj
        have HN2 := Lib.hid (noneB_next HN.out HXe.out (not_lost (by rw [HZ.out]; exact hrk)))
        have HME : Hid (meth ks us (xe0, xe1, xe2, xe3, xe4) = k2) := Lib.hid (meth_of (by rw [HZ.out]; exact hrk))
        have HCK := Lib.hid hck
        have HBK := Lib.hid hbk
        rw [hf]
        have j1 : (0 : Int) ≤ (j : Int) := by omega
        have j2 : (j : Int) < (nk : Int) := by omega
        clear hf hrk hj hck hbk
        go_wp2_with fail
        have HC : Hid (∀ w', Qt.Keeps (w6) w' → w'.cell? ⟨w.heap.size, 0, none⟩ = some (.slice (some ⟨bk, ok, none⟩) nk ck) ∧ w'.cell? ⟨w.heap.size, 1, none⟩ = some (.slice pa na ca) ∧ w'.cell? ⟨w.heap.size, 2, none⟩ = some (.slice pm nm cm) ∧ w'.cell? ⟨bk, ok + j * 5 + 2, none⟩ = some (.int .i64 k2)) := Lib.hid fun w' hw => let g := DpFrame.bxc (HG.out.below (below_on HB6.out hw)); ⟨g.1, g.2.1, g.2.2.1, ((below_on HB6.out hw).cell (p := ⟨bk, ok + j * 5 + 2, none⟩) HBK.out).trans HCK.out⟩
        refine Qt.region (Qt.Keeps (w6)) (by kernel_rfl) (by kernel_rfl) (Qt.Keeps.drew _) ?_
        repeat (first
          | go_big_quiet_skip
          | (go_big_quiet_want
             refine Qt.val (v := ?_) (fun w hw => ?_) ?_
             rotate_left
             · obtain ⟨g0, g1, g2, c2⟩ := HC.out w hw
               go_simp
               rfl
             simp only [Act.put, List.setIfInBounds_toArray, List.set_cons_zero, List.set_cons_succ]
             go_big_quiet_on)
          | (go_big_quiet_want
             refine Qt.call (v := .int .i64 ((ends ms) k2)) (f := 97) (args := #[.slice pm nm cm, .int .i64 k2]) (fun w hw => ?_) (fun w hw => ?_) ?_
             · go_simp
             · refine (Fm1.spec_end_any _ _ _ ms k2 _ (HM.out.below (below_on HB6.out hw)).rdS).mono ?_
               rintro e w1 ⟨rfl, hb1⟩
               skip
               exact ⟨rfl, hw.then hb1⟩
             simp only [Act.put, List.setIfInBounds_toArray, List.set_cons_zero, List.set_cons_succ]
             go_big_quiet_on)
          | (go_big_quiet_want
             refine Qt.call (v := .int .i64 (Ints.minI y ((ends ms) k2))) (f := 99) (args := #[.int .i64 y, .int .i64 ((ends ms) k2)]) (fun w hw => ?_) (fun w hw => ?_) ?_
             · go_simp
             · refine (Ints.spec_min_any y ((ends ms) k2) _).mono ?_
               rintro e w1 ⟨rfl, rfl⟩
               exact ⟨rfl, hw⟩
             simp only [Act.put, List.setIfInBounds_toArray, List.set_cons_zero, List.set_cons_succ]
             go_big_quiet_on))
        refine wpQuiet_nil ?_
        intro w7 hw7
        have HB7 := Lib.hid (below_on HB6.out hw7)
        clear hw7
        have HY2 : Hid (Ints.minI y ((ends ms) k2) = (l4.take (k + 1)).foldl (stpM ks us (ends ms)) ((ends ms) r1)) := Lib.hid (by rw [fold_next HXe.out, ← HY.out]; unfold stpM; rw [HME.out])
        generalize Ints.minI y ((ends ms) k2) = y2 at HY2 ⊢
        go_wp2_with fail
        go_roundw
        case rel => exact ⟨k + 1, y2, by omega, by go_num, rfl, HY2, HN2, HB7⟩
        case measure => simp [intOf]; omega
    · obtain rfl : k = n4 := by omega
      have HF := Lib.hid (first_all (t := (ends ms)) (m := r1) HN.out L4.out)
      have HV : Hid (y = firstM ks us (ends ms) r1 l4) := Lib.hid (by rw [HF.out, HY.out])
      go_wp2_with fail
      go_ret
      exact Dz.val_of (by rw [← HV.out]; first | done | rfl) (below_on HBV.out HB.out)
end Go.Proofs.YtpjckbdljbpliaaGreat.Fm3
