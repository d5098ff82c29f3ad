/- The least time of the methods that a renewal needs, in the program, with the closure EndsOf$1. -/
import Derived.Test.YtpjckbdljbpliaaGreatFm0
import Derived.Test.YtpjckbdljbpliaaGreatFm1
import Derived.Test.YtpjckbdljbpliaaGreatKo
import Derived.Test.YtpjckbdljbpliaaGreatDpFrame
import Derived.LoopTactic
import Derived.Outline
namespace Go.Proofs.YtpjckbdljbpliaaGreat.Fm2E
open Go.ChangeShapes Go.WideShapes Go.ChangeAt Go.RowKit Sl St Ed Dz Es Fnd Kn Kr Fm0
set_option maxRecDepth 100000 in
set_option maxHeartbeats 8000000 in
theorem first_any (g : Nat) (fk : Option Addr) (nfk cfk : Nat) (fa : Option Addr) (nfa cfa : Nat) (f3 f4 : Int) (ms : List Mn.Me) (pm : Option Addr) (nm cm : Nat) (ks : List I5) (pk : Option Addr) (nk ck : Nat) (us : List I3) (pa : Option Addr) (na ca : Nat) (r0 r1 r2 : Int) (hr1 : InI r1) (p3 : Option Addr) (n3 c3 : Nat) (l4 : List I5) (p4 : Option Addr) (n4 c4 : Nat) {SM SK SA S4 : Nat → Prop} (w : World) (hm : RdD (flat SlMethod.E SlMethod.InR) SM w pm nm ms) (hg : Bx w g 38 #[.slice fk nfk cfk, .slice fa nfa cfa, .slice pm nm cm, .int .i64 f3, .int .i64 f4]) (hk : RdD (flat SlKey.E SlKey.InR) SK w pk nk ks) (ha : RdD (flat SlAuthority.E SlAuthority.InR) SA w pa na us) (h4 : RdD (flat SlStamp.E SlStamp.InR) S4 w p4 n4 l4) (hn4 : n4 ≤ 1048576) : Calls Tryz.prog 82 #[.slice pk nk ck, .slice pa na ca, .agg #[.int .i64 r0, .int .i64 r1, .int .i64 r2, .slice p3 n3 c3, .slice p4 n4 c4], .func (.func 83) #[] #[.pointer (some ⟨g, 0, none⟩)]] w (Dz.Val (.int .i64 (firstM ks us (Fm0.ends ms) r1 l4)) w) := by
  have hmm := @run_makeMap Tryz.prog
  have hb := box1 w (.cells #[.int .i64 r0, .int .i64 r1, .int .i64 r2, .slice p3 n3 c3, .slice p4 n4 c4] 131)
  have HBV := Lib.hid hb
  have HX := Lib.hid (Bx.new w 131 #[.int .i64 r0, .int .i64 r1, .int .i64 r2, .slice p3 n3 c3, .slice p4 n4 c4])
  have HM := Lib.hid (hm.below hb)
  have HG := Lib.hid (hg.below hb)
  have HK := Lib.hid (hk.below hb)
  have HA := Lib.hid (ha.below hb)
  have H4 := Lib.hid (h4.below hb)
  have HI1 : Hid (InI r1) := Lib.hid hr1
  have hle4 := h4.le
  have L4 := Lib.hid h4.len
  clear hb hm hg hk ha h4 hr1
  go_enter Tryz.func82, Tryz.ntmps82
  go_wp2_with fail
  generalize (w.alloc (.cells #[.int .i64 r0, .int .i64 r1, .int .i64 r2, .slice p3 n3 c3, .slice p4 n4 c4] 131)) = V at HBV HX HM HG HK HA H4 ⊢
  refine (ringOf_any pk nk ck ks HK.out.allP _ HK.out.rdS).mono ?_
  rintro e w1 ⟨rfl, hh, hb⟩
  have HH := Lib.hid hh
  have HB1 := Lib.hid hb
  clear hh hb
  obtain ⟨v0, v1, v2, v3, v4⟩ := DpRenewal.bxc (HX.out.below HB1.out)
  go_wp2_with fail
  refine (Fm1.endClo_any g _ _ _ _ _ _ _ _ ms _ _ _ r1 HI1.out _ (HM.out.below HB1.out) (HG.out.below HB1.out)).mono ?_
  rintro e w2 ⟨rfl, hb⟩
  have HB2 := Lib.hid (below_on HB1.out hb)
  have HH2 := Lib.hid (HH.out.below hb)
  clear hb v0 v1 v2 v3 v4
  have lR : V.heap.size < w2.heap.size := HH2.out.lt
  have hbm := box1 w2 (.map #[] 0)
  obtain ⟨w3, hrun, hmet, hgr⟩ := (Fm0.Met.made w2).put (by unfold maxLen; omega) HI1.out
  have HMET := Lib.hid hmet
  have HH3 := Lib.hid ((HH2.out.below hbm).grown hgr (by intro e; simp only [Option.some.injEq] at e; omega))
  have HB3 := Lib.hid ((below_on HB2.out hbm).grown hgr (below_on HB2.out hbm).size (fun k e => by cases e; exact HB2.out.size))
  obtain ⟨v0, v1, v2, v3, v4⟩ := DpRenewal.bxc (HX.out.below (below_on HB2.out hbm))
  obtain ⟨y0, y1, y2, y3, y4⟩ := DpRenewal.bxc (HX.out.below HB3.out)
  clear hmet hgr hbm
  go_wp2_with fail
  clear hrun v0 v1 v2 v3 v4 y0 y1 y2 y3 y4
  go_loopw [10, 29] (fun v i wr => ∃ (k : Nat) (y : Int), k ≤ n4 ∧ i = .int .i64 k ∧ v = .int .i64 y ∧ Hid (y = (l4.take k).foldl (stpM ks us (Fm0.ends ms)) ((Fm0.ends ms) r1)) ∧ Hid (noneB (lost ks us) l4 k) ∧ Hid (∃ (S : Int → Bool) (q : Nat), q ≤ k + 1 ∧ Fm0.Met S w2.heap.size q wr ∧ ∀ id, S id = true → y ≤ (Fm0.ends ms) id) ∧ Hid (Holds ks V.heap.size wr) ∧ Hid (Below V.heap.size V wr) ∧ w2.heap.size < wr.heap.size) (fun _ i _ => n4 - (intOf i).toNat)
  case atStart =>
    refine ⟨0, (Fm0.ends ms) r1, Nat.zero_le _, rfl, rfl, Lib.hid rfl, Lib.hid (noneB_zero _), Lib.hid ⟨_, _, by omega, HMET.out, fun id h => ?_⟩, HH3, HB3, HMET.out.lt⟩
    simp only [Bool.false_or, decide_eq_true_eq] at h
    rw [h]
    exact Int.le_refl _
  case round =>
    obtain ⟨k, y, hk, rfl, rfl, HY, HN, HS, HH, HB, lM⟩ := hrel
    by_cases hlt : k < n4
    · skip
      obtain ⟨b, o, x_e, cs_e, rfl, _, hbwe, hxe, hce, hrde⟩ := H4.out.at_ hlt
      obtain ⟨xe0, xe1, xe2, xe3, xe4⟩ := x_e
      obtain ⟨rfl, hine⟩ := hrde
      have HIe := Lib.hid hine
      have hcce : ∀ jj v, [.int .i64 xe0, .int .i64 xe1, .int .i64 xe2, .int .i64 xe3, .int .i64 xe4][jj]? = some v → wr.cell? ⟨b, o + k * 5 + jj, none⟩ = some v := fun jj v hv => (HB.out.cell (p := ⟨b, o + k * 5 + jj, none⟩) hbwe).trans (hce jj v hv)
      have HXe := Lib.hid hxe
      have HCe := Lib.hid hcce
      have u0 : wr.cell? ⟨b, o + k * 5, none⟩ = some (.int .i64 xe0) := hcce 0 _ rfl
      have u1 : wr.cell? ⟨b, o + k * 5 + 1, none⟩ = some (.int .i64 xe1) := hcce 1 _ rfl
      have u2 : wr.cell? ⟨b, o + k * 5 + 2, none⟩ = some (.int .i64 xe2) := hcce 2 _ rfl
      have u3 : wr.cell? ⟨b, o + k * 5 + 3, none⟩ = some (.int .i64 xe3) := hcce 3 _ rfl
      have u4 : wr.cell? ⟨b, o + k * 5 + 4, none⟩ = some (.int .i64 xe4) := hcce 4 _ rfl
      clear hcce hce hxe hine
      have HBX := Lib.hid (Bx.new wr 167 #[.int .i64 xe0, .int .i64 xe1, .int .i64 xe2, .int .i64 xe3, .int .i64 xe4])
      have hbx := box1 wr (.cells #[.int .i64 xe0, .int .i64 xe1, .int .i64 xe2, .int .i64 xe3, .int .i64 xe4] 167)
      have HB4 := Lib.hid (below_on HB.out hbx)
      have HH4 := Lib.hid (HH.out.below hbx)
      have HQ4 := Lib.hid hbx
      have HIN := Lib.hid (num_in HA.out.allP (xe0, xe1, xe2, xe3, xe4))
      clear hbx
      go_wp2_with fail
      generalize (wr.alloc (.cells #[.int .i64 xe0, .int .i64 xe1, .int .i64 xe2, .int .i64 xe3, .int .i64 xe4] 167)) = W4 at HBX HB4 HH4 HQ4 ⊢
      obtain ⟨q0, q1, q2, q3, q4⟩ := SlStamp.bxc HBX.out
      go_wp2_with fail
      refine (Ao.stampKey_any pa na ca us xe0 xe1 xe2 xe3 xe4 _ (HA.out.below HB4.out).rdS).mono ?_
      rintro e w5 ⟨rfl, hb⟩
      have HB5 := Lib.hid (below_on HB4.out hb)
      have HH5 := Lib.hid (HH4.out.below hb)
      have HQ5 := Lib.hid (below_on HQ4.out hb)
      clear hb q0 q1 q2 q3 q4 u0 u1 u2 u3 u4
      obtain ⟨z, hz⟩ : ∃ z, (Ao.aut us xe0).1.2.1 = z := ⟨_, rfl⟩
      have HZ : Hid (num us (xe0, xe1, xe2, xe3, xe4) = z) := Lib.hid hz
      have HZI : Hid (-9223372036854775808 ≤ z ∧ z ≤ 9223372036854775807) := Lib.hid (by rw [← hz]; exact HIN.out)
      rw [hz]
      clear hz HIN
      go_wp2_with fail
      refine (Ko.has_any ks _ z HZI.out _ HH5.out).mono ?_
      rintro e w6 ⟨rfl, hb⟩
      have HB6 := Lib.hid (below_on HB5.out hb)
      have HH6 := Lib.hid (HH5.out.below hb)
      have HQ6 := Lib.hid (below_on HQ5.out hb)
      clear hb
      rcases hs : ring ks z with _ | κ
      · have HF := Lib.hid (first_lost (ks := ks) (us := us) (t := (Fm0.ends ms)) (m := r1) HXe.out (by rw [HZ.out]; exact hs))
        clear hs
        go_wp2_with fail
        go_ret
        exact Dz.val_of (by rw [HF.out]; first | done | rfl) (below_on HBV.out HB6.out)
      · have hκ := Ko.inr_key HK.out.allP hs
        obtain ⟨k0, k1, k2, k3, k4⟩ := κ
        have HKI : Hid (InI k2) := Lib.hid hκ.2.2.1
        have HR := Lib.hid hs
        have HN2 := Lib.hid (noneB_next HN.out HXe.out (not_lost (by rw [HZ.out]; exact hs)))
        have HME : Hid (meth ks us (xe0, xe1, xe2, xe3, xe4) = k2) := Lib.hid (meth_of (by rw [HZ.out]; exact hs))
        have hrg := ring_get HH6.out HZI.out hs
        have hkf := keyField k0 k1 k2 k3 k4
        obtain ⟨S, q, hq, hmet, hS⟩ := HS.out
        have hmet6 := hmet.below HQ6.out
        have hget := hmet6.get HKI.out
        have HM6 := Lib.hid hmet6
        have HSS := Lib.hid hS
        clear hs hκ hmet hmet6 hS
        obtain ⟨β, hβ⟩ : ∃ b, S k2 = b := ⟨_, rfl⟩
        rw [hβ] at hget
        have HBE := Lib.hid hβ
        clear hβ
        cases β
        · obtain ⟨w7, hput, hmet7, hgr⟩ := HM6.out.put (by unfold maxLen; omega) HKI.out
          have HM7 := Lib.hid hmet7
          have HH7 := Lib.hid (HH6.out.grown hgr (by intro e; simp only [Option.some.injEq] at e; omega))
          have HB7 := Lib.hid (HB6.out.grown hgr HB6.out.size (fun k e => by cases e; omega))
          clear hmet7 hgr
          go_wp2_with fail
          clear hrg hkf hget hput
          refine (Fm1.endClo_any g _ _ _ _ _ _ _ _ ms _ _ _ k2 HKI.out _ (HM.out.below HB7.out) (HG.out.below HB7.out)).mono ?_
          rintro e w8 ⟨rfl, hb⟩
          have HB8 := Lib.hid (below_on HB7.out hb)
          have HH8 := Lib.hid (HH7.out.below hb)
          have HM8 := Lib.hid (HM7.out.below hb)
          clear hb
          go_wp2_with fail
          refine (Mm.min_b _ _ _).mono ?_
          rintro e w9 ⟨rfl, hb⟩
          have HB9 := Lib.hid (below_on HB8.out hb)
          have HH9 := Lib.hid (HH8.out.below hb)
          have HM9 := Lib.hid (HM8.out.below hb)
          clear hb
          have HY2 : Hid (Ints.minI y ((Fm0.ends ms) k2) = (l4.take (k + 1)).foldl (stpM ks us (Fm0.ends ms)) ((Fm0.ends ms) r1)) := Lib.hid (by rw [fold_next HXe.out, ← HY.out]; unfold stpM; rw [HME.out])
          have HS9 : Hid (∃ (S : Int → Bool) (q : Nat), q ≤ k + 1 + 1 ∧ Fm0.Met S w2.heap.size q w9 ∧ ∀ id, S id = true → Ints.minI y ((Fm0.ends ms) k2) ≤ (Fm0.ends ms) id) := Lib.hid ⟨_, _, by omega, HM9.out, fun id h => by
            simp only [Bool.or_eq_true, decide_eq_true_eq] at h
            rcases h with h | h
            · exact Int.le_trans (min_l _ _) (HSS.out id h)
            · rw [h]; exact min_r _ _⟩
          have lM9 := HM9.out.lt
          generalize Ints.minI y ((Fm0.ends ms) k2) = y2 at HY2 HS9 ⊢
          clear HBE HSS HS HM6 HM7 HM8 HM9
          go_wp2_with fail
          go_roundw
          case rel => exact ⟨k + 1, y2, by omega, by go_num, rfl, HY2, HN2, HS9, HH9, HB9, lM9⟩
          case measure => simp [intOf]; omega
        · have HY2 : Hid (y = (l4.take (k + 1)).foldl (stpM ks us (Fm0.ends ms)) ((Fm0.ends ms) r1)) := Lib.hid (by rw [fold_next HXe.out, ← HY.out]; unfold stpM; rw [HME.out, min_self (HSS.out k2 HBE.out)])
          have HS9 : Hid (∃ (S : Int → Bool) (q : Nat), q ≤ k + 1 + 1 ∧ Fm0.Met S w2.heap.size q w6 ∧ ∀ id, S id = true → y ≤ (Fm0.ends ms) id) := Lib.hid ⟨_, _, by omega, HM6.out, HSS.out⟩
          have lM9 := HM6.out.lt
          clear HBE HSS HS HM6
          go_wp2_with fail
          go_roundw
          case rel => exact ⟨k + 1, y, by omega, by go_num, rfl, HY2, HN2, HS9, HH6, HB6, lM9⟩
          case measure => simp [intOf]; omega
    · obtain rfl : k = n4 := by omega
      have HF := Lib.hid (first_all (t := (Fm0.ends ms)) (m := r1) HN.out L4.out)
      have HV : Hid (y = firstM ks us (Fm0.ends ms) r1 l4) := Lib.hid (by rw [HF.out, HY.out])
      go_wp2_with fail
      go_ret
      exact Dz.val_of (by rw [← HV.out]; first | done | rfl) (below_on HBV.out HB.out)
set_option maxRecDepth 100000 in
set_option maxHeartbeats 4000000 in
theorem ends_any (ks : List I5) (pk : Option Addr) (nk ck : Nat) (us : List I3) (pa : Option Addr) (na ca : Nat) (ms : List Mn.Me) (pm : Option Addr) (nm cm : Nat) (f3 f4 : Int) (r0 r1 r2 : Int) (l3 : List (Int × Bool)) (p3 : Option Addr) (n3 c3 : Nat) (l4 : List I5) (p4 : Option Addr) (n4 c4 : Nat) (hr1 : InI r1) {SM SK SA S3 S4 : Nat → Prop} (w : World) (hk : RdD (flat SlKey.E SlKey.InR) SK w pk nk ks) (ha : RdD (flat SlAuthority.E SlAuthority.InR) SA w pa na us) (hm : RdD (flat SlMethod.E SlMethod.InR) SM w pm nm ms) (_h3 : RdD (flat SlStep.E SlStep.InR) S3 w p3 n3 l3) (h4 : RdD (flat SlStamp.E SlStamp.InR) S4 w p4 n4 l4) (hn4 : n4 ≤ 1048576) : Calls Tryz.prog 62 #[.agg #[.slice pk nk ck, .slice pa na ca, .slice pm nm cm, .int .i64 f3, .int .i64 f4], .agg #[.int .i64 r0, .int .i64 r1, .int .i64 r2, .slice p3 n3 c3, .slice p4 n4 c4]] w (Dz.Val (.int .i64 (firstM ks us (Fm0.ends ms) r1 l4)) w) := by
  have hb : Below w.heap.size w ((w.alloc (.cells #[.slice pk nk ck, .slice pa na ca, .slice pm nm cm, .int .i64 f3, .int .i64 f4] 38)).alloc (.cells #[.int .i64 r0, .int .i64 r1, .int .i64 r2, .slice p3 n3 c3, .slice p4 n4 c4] 131)) := (box1 w _).alloc (by simp) _
  have x1 := (Bx.new w 38 #[.slice pk nk ck, .slice pa na ca, .slice pm nm cm, .int .i64 f3, .int .i64 f4]).alloc (.cells #[.int .i64 r0, .int .i64 r1, .int .i64 r2, .slice p3 n3 c3, .slice p4 n4 c4] 131)
  have x2 := Bx.new (w.alloc (.cells #[.slice pk nk ck, .slice pa na ca, .slice pm nm cm, .int .i64 f3, .int .i64 f4] 38)) 131 #[.int .i64 r0, .int .i64 r1, .int .i64 r2, .slice p3 n3 c3, .slice p4 n4 c4]
  rw [World.size_alloc] at x2
  have HBV := Lib.hid hb
  have HG := Lib.hid x1
  have HX := Lib.hid x2
  have HM := Lib.hid (hm.below hb)
  have HK := Lib.hid (hk.below hb)
  have HA := Lib.hid (ha.below hb)
  have H4 := Lib.hid (h4.below hb)
  clear hb x1 x2 hm hk ha h4
  obtain ⟨v0, v1, v2, v3, v4⟩ := DpRenewal.bxc HX.out
  obtain ⟨g0, g1, g2, g3, g4⟩ := DpFrame.bxc HG.out
  go_enter Tryz.func62, Tryz.ntmps62
  go_wp2_with fail
  generalize ((w.alloc (.cells #[.slice pk nk ck, .slice pa na ca, .slice pm nm cm, .int .i64 f3, .int .i64 f4] 38)).alloc (.cells #[.int .i64 r0, .int .i64 r1, .int .i64 r2, .slice p3 n3 c3, .slice p4 n4 c4] 131)) = V at HBV HG HX HM HK HA H4 ⊢
  refine (first_any w.heap.size _ _ _ _ _ _ f3 f4 ms _ _ _ ks _ _ _ us _ _ _ r0 r1 r2 hr1 _ _ _ l4 _ _ _ _ HM.out HG.out HK.out HA.out H4.out hn4).mono ?_
  rintro e w1 ⟨rfl, hb⟩
  have HB := Lib.hid (below_on HBV.out hb)
  clear hb v0 v1 v2 v3 v4 g0 g1 g2 g3 g4
  go_wp2_with fail
  go_ret
  exact Dz.val_of rfl HB.out
end Go.Proofs.YtpjckbdljbpliaaGreat.Fm2E
