/- Renewals digested, in the reference. -/
import Derived.Test.YtjickcnjnebpcaaRw
namespace Go.Proofs.Ytjickcnjnebpcaa.Rx
open Go.ChangeShapes Go.WideShapes Go.ChangeAt Go.RowKit Sl St Ed Dz Wr Wp Rw Es
theorem own_len {w : World} {lo hi n c : Nat} {p : Option Addr} {zs : List Int} (h : Ow .i64 3 w lo hi p n c zs) : n = zs.length := h.len.symm
theorem drewOn {V w : World} (h : Below V.drew.heap.size V.drew w) : Below V.heap.size V w := (below_drewN (Below.refl V.heap.size V) 1).trans (h.mono (Nat.le_refl _))
theorem litOn {V w : World} {o : Obj} (h : Below (V.alloc o).drew.heap.size (V.alloc o).drew w) : Below V.heap.size V w := (below_drewN (box1 V o) 1).trans (h.mono (by show V.heap.size ≤ (V.alloc o).heap.size; simp))
set_option maxRecDepth 100000 in
set_option maxHeartbeats 16000000 in
theorem spec_digest_any (id : Int) (hid0 : InI id) (x0 x1 x2 : Int) (l3 : List (Int × Bool)) (p3 : Option Addr) (n3 c3 : Nat) (l4 : List (Int × Int × Int × Int × Int)) (p4 : Option Addr) (n4 c4 : Nat) {S3 S4 : Nat → Prop} (w : World) (b0 : InI x0) (b1 : InI x1) (b2 : InI x2) (h3 : RdD (flat SlStep.E SlStep.InR) S3 w p3 n3 l3) (h4 : RdD (flat SlStamp.E SlStamp.InR) S4 w p4 n4 l4) (hn3 : n3 ≤ 1048576) (hn4 : n4 ≤ 1048576) :
    Calls Try.prog 59 #[.int .i64 id, .agg #[.int .i64 x0, .int .i64 x1, .int .i64 x2, .slice p3 n3 c3, .slice p4 n4 c4]] w (Val (.int .i64 (Dg.dig id (ren (x0, x1, x2, l3, l4)))) w) := by
  obtain ⟨i0, hi0, hz0, hz1, hz2⟩ := info_parts SlI.info
  have HID : Hid (inK .i64 id) := Lib.hid hid0
  have HBV := Lib.hid (box1 w (.cells #[.int .i64 x0, .int .i64 x1, .int .i64 x2, .slice p3 n3 c3, .slice p4 n4 c4] 101))
  have HX := Lib.hid (Bx.new w 101 #[.int .i64 x0, .int .i64 x1, .int .i64 x2, .slice p3 n3 c3, .slice p4 n4 c4])
  have H3 := Lib.hid (h3.below HBV.out)
  have H4 := Lib.hid (h4.below HBV.out)
  have HA0 : Hid (Ow .i64 3 ((w.alloc (.cells #[.int .i64 x0, .int .i64 x1, .int .i64 x2, .slice p3 n3 c3, .slice p4 n4 c4] 101)).alloc (.cells #[.int .i64 4, .int .i64 x0, .int .i64 x1, .int .i64 x2] 3)) (w.alloc (.cells #[.int .i64 x0, .int .i64 x1, .int .i64 x2, .slice p3 n3 c3, .slice p4 n4 c4] 101)).heap.size ((w.alloc (.cells #[.int .i64 x0, .int .i64 x1, .int .i64 x2, .slice p3 n3 c3, .slice p4 n4 c4] 101)).alloc (.cells #[.int .i64 4, .int .i64 x0, .int .i64 x1, .int .i64 x2] 3)).heap.size (some ⟨(w.alloc (.cells #[.int .i64 x0, .int .i64 x1, .int .i64 x2, .slice p3 n3 c3, .slice p4 n4 c4] 101)).heap.size, 0, none⟩) 4 4 ([4, x0, x1, x2] ++ steps (l3.take 0))) := Lib.hid (litN_own 3 (w.alloc (.cells #[.int .i64 x0, .int .i64 x1, .int .i64 x2, .slice p3 n3 c3, .slice p4 n4 c4] 101)) (w.alloc (.cells #[.int .i64 x0, .int .i64 x1, .int .i64 x2, .slice p3 n3 c3, .slice p4 n4 c4] 101)).heap.size [4, x0, x1, x2] (allK_cons ⟨by omega, by omega⟩ (allK_cons b0 (allK_cons b1 (allK_cons b2 (allK_nil _))))) (Nat.le_refl _) (by simp))
  have HVS : Hid ((w.alloc (.cells #[.int .i64 x0, .int .i64 x1, .int .i64 x2, .slice p3 n3 c3, .slice p4 n4 c4] 101)).heap.size = w.heap.size + 1) := Lib.hid (by simp)
  clear b0 b1 b2 h3 h4 hid0
  go_enter Try.func59, Try.ntmps59
  go_wp2_with fail
  rw [World.size_alloc] at HA0
  generalize (w.alloc (.cells #[.int .i64 x0, .int .i64 x1, .int .i64 x2, .slice p3 n3 c3, .slice p4 n4 c4] 101)) = V at HBV HX H3 H4 HA0 HVS ⊢
  have HA : Hid (Ow .i64 3 (V.alloc (.cells #[.int .i64 4, .int .i64 x0, .int .i64 x1, .int .i64 x2] 3)) (w.heap.size + 1) (V.alloc (.cells #[.int .i64 4, .int .i64 x0, .int .i64 x1, .int .i64 x2] 3)).heap.size (some ⟨w.heap.size + 1, 0, none⟩) 4 4 ([4, x0, x1, x2] ++ steps (l3.take 0))) := HA0
  have HB0 : Hid (Below (w.heap.size + 1) V (V.alloc (.cells #[.int .i64 4, .int .i64 x0, .int .i64 x1, .int .i64 x2] 3))) := Lib.hid (by rw [← HVS.out]; exact box1 V _)
  clear HA0
  obtain ⟨v0, v1, v2, v3, v4⟩ := DpRenewal.bxc (HX.out.alloc (.cells #[.int .i64 4, .int .i64 x0, .int .i64 x1, .int .i64 x2] 3))
  go_loopw [5, 6] (fun v i wr => ∃ (k m c' : Nat) (p' : Option Addr), k ≤ n3 ∧ i = .int .i64 k ∧ v = .slice p' m c' ∧ m ≤ 4 + 2 * k ∧ Hid (Ow .i64 3 wr (w.heap.size + 1) wr.heap.size p' m c' ([4, x0, x1, x2] ++ steps (l3.take k))) ∧ Hid (Below (w.heap.size + 1) V wr)) (fun _ i _ => n3 - (intOf i).toNat)
  case atStart => exact ⟨0, 4, _, _, Nat.zero_le _, rfl, rfl, by omega, HA, HB0⟩
  case round =>
    obtain ⟨k, m, c', p', hk, rfl, rfl, hm, HO, HB'⟩ := hrel
    clear v0 v1 v2 v3 v4
    have HB : Hid (Below V.heap.size V wr) := Lib.hid (by rw [HVS.out]; exact HB'.out)
    have sW := HB'.out.size
    have hVS := HVS.out
    have sV : w.heap.size + 1 ≤ wr.heap.size := by omega
    clear sW hVS
    obtain ⟨v0, v1, v2, v3, v4⟩ := DpRenewal.bxc (HX.out.below HB.out)
    by_cases hlt : k < n3
    · skip
      obtain ⟨b, o, x_s, cs_s, rfl, _, hbws, hxs, hcs, hrds⟩ := H3.out.at_ hlt
      obtain ⟨xs0, xs1⟩ := x_s
      obtain ⟨rfl, hins⟩ := hrds
      have HIs := Lib.hid hins
      have hccs : ∀ jj v, [.int .i64 xs0, .bool xs1][jj]? = some v → wr.cell? ⟨b, o + k * 2 + jj, none⟩ = some v := fun jj v hv => (HB.out.cell (p := ⟨b, o + k * 2 + jj, none⟩) hbws).trans (hcs jj v hv)
      have HXs := Lib.hid hxs
      have HCs := Lib.hid hccs
      have u0 : wr.cell? ⟨b, o + k * 2, none⟩ = some (.int .i64 xs0) := hccs 0 _ rfl
      have u1 : wr.cell? ⟨b, o + k * 2 + 1, none⟩ = some (.bool xs1) := hccs 1 _ rfl
      clear hccs hcs hxs hins
      have HNX := Lib.hid (steps_take HXs.out)
      have HY : Hid (inK .i64 xs0) := Lib.hid HIs.out
      have hsd := side_in xs1
      have HSD : Hid (inK .i64 (side xs1)) := Lib.hid hsd
      clear hsd
      cases xs1
      all_goals
        go_wp2_with (first
          | (at_builtin; refine wpList_app1 rfl (.tmp 22) (.tmp 29) 23 rfl i0 _ 8 Try.underlying23 hi0 hz0 hz1 hz2 rfl rfl (HO.out.alloc _) wr.heap.size 1 xs0 rfl (by go_simp) HY.out (by simp only [World.size_alloc]; omega) (by omega) (by omega) ?_; intro p2 c2 w2 how2 hg2; have HA2 := Lib.hid how2; have HB2 := Lib.hid ((HB.out.alloc HB.out.size _).trans (((HO.out.alloc _).below_row hg2 (by simp only [World.size_alloc]; omega)).mono (Nat.le_of_eq HVS.out))); obtain ⟨t0, t1, t2, t3, t4⟩ := DpRenewal.bxc (HX.out.below HB2.out); have HC2 := Lib.hid (fun j v hv => (HB2.out.cell (p := ⟨b, o + k * 2 + j, none⟩) hbws).trans ((HB.out.cell (p := ⟨b, o + k * 2 + j, none⟩) hbws).symm.trans (HCs.out j v hv))); have e1 := HC2.out 1 _ rfl; clear how2 hg2)
          | (at_builtin; refine wpList_app1 rfl (.tmp 37) (.tmp 38) 23 rfl i0 _ 8 Try.underlying23 hi0 hz0 hz1 hz2 rfl rfl (HA2.out.alloc _) w2.heap.size 1 1 rfl (by go_simp) ⟨by decide, by decide⟩ (by have := HB2.out.size; have := HVS.out; simp only [World.size_alloc]; omega) (by omega) (by omega) ?_; intro p5 c5 w5 how5 hg5; have HA5 := Lib.hid how5; have HB5 := Lib.hid ((HB2.out.alloc HB2.out.size _).trans (((HA2.out.alloc _).below_row hg5 (by have := HB2.out.size; have := HVS.out; simp only [World.size_alloc]; omega)).mono (Nat.le_of_eq HVS.out))); clear how5 hg5)
          | (at_builtin; refine wpList_app1 rfl (.tmp 40) (.tmp 41) 23 rfl i0 _ 8 Try.underlying23 hi0 hz0 hz1 hz2 rfl rfl (HA2.out.alloc _) w2.heap.size 1 0 rfl (by go_simp) ⟨by decide, by decide⟩ (by have := HB2.out.size; have := HVS.out; simp only [World.size_alloc]; omega) (by omega) (by omega) ?_; intro p5 c5 w5 how5 hg5; have HA5 := Lib.hid how5; have HB5 := Lib.hid ((HB2.out.alloc HB2.out.size _).trans (((HA2.out.alloc _).below_row hg5 (by have := HB2.out.size; have := HVS.out; simp only [World.size_alloc]; omega)).mono (Nat.le_of_eq HVS.out))); clear how5 hg5))
        have HA6 : Hid (Ow .i64 3 w5 (w.heap.size + 1) w5.heap.size p5 (m + 1 + 1) c5 ([4, x0, x1, x2] ++ steps (l3.take (k + 1)))) := Lib.hid (by
          have h := HA5.out
          rw [HNX.out]
          simp only [stp, side, List.append_assoc, List.singleton_append] at h ⊢
          exact h)
        have HB6 : Hid (Below (w.heap.size + 1) V w5) := Lib.hid (by rw [← HVS.out]; exact HB5.out)
        go_roundw
        case rel => exact ⟨k + 1, _, _, _, by omega, by go_num, rfl, by omega, HA6, HB6⟩
        case measure => simp [intOf]; omega
    · obtain rfl : k = n3 := by omega
      have hO := HO.out
      rw [← H3.out.len, List.take_length] at hO
      have HO2 := Lib.hid hO
      have HI4 : Hid (inK .i64 (n4 : Int)) := Lib.hid ⟨by omega, by omega⟩
      clear hO
      go_wp2_with (first
          | (at_builtin; refine wpList_app1 rfl (.tmp 43) (.tmp 47) 23 rfl i0 _ 8 Try.underlying23 hi0 hz0 hz1 hz2 rfl rfl (HO2.out.alloc _) wr.heap.size 1 (n4 : Int) rfl (by go_simp) HI4.out (by simp only [World.size_alloc]; omega) (by omega) (by omega) ?_; intro p2 c2 w2 how2 hg2; have HA2 : Hid (Ow .i64 3 w2 (w.heap.size + 1) w2.heap.size p2 (m + 1) c2 ([4, x0, x1, x2] ++ steps l3 ++ [(n4 : Int)] ++ stas (l4.take 0))) := Lib.hid (by simpa [stas] using how2); have HB2 : Hid (Below (w.heap.size + 1) V w2) := Lib.hid ((HB'.out.alloc (by omega) _).trans ((HO2.out.alloc _).below_row hg2 (by simp only [World.size_alloc]; omega))); obtain ⟨t0, t1, t2, t3, t4⟩ := DpRenewal.bxc (HX.out.below (by rw [HVS.out]; exact HB2.out)); clear how2 hg2))
      clear v0 v1 v2 v3 v4
      have hm2 : m + 1 ≤ 4 + 2 * k + 1 := by omega
      generalize m + 1 = m2 at HA2 hm2 ⊢
      clear HO HO2 HB' HB
      go_loopw [5, 7] (fun v i wr => ∃ (j m c' : Nat) (p' : Option Addr), j ≤ n4 ∧ i = .int .i64 j ∧ v = .slice p' m c' ∧ m ≤ 4 + 2 * k + 1 + 6 * j ∧ Hid (Ow .i64 3 wr (w.heap.size + 1) wr.heap.size p' m c' ([4, x0, x1, x2] ++ steps l3 ++ [(n4 : Int)] ++ stas (l4.take j))) ∧ Hid (Below (w.heap.size + 1) V wr)) (fun _ i _ => n4 - (intOf i).toNat)
      case atStart => exact ⟨0, m2, _, _, Nat.zero_le _, rfl, rfl, by omega, HA2, HB2⟩
      case round =>
        obtain ⟨j, m3, c3', p3', hj, rfl, rfl, hm3, HO, HB'⟩ := hrel
        clear t0 t1 t2 t3 t4
        have HB : Hid (Below V.heap.size V wr) := Lib.hid (by rw [HVS.out]; exact HB'.out)
        have sV : w.heap.size + 1 ≤ wr.heap.size := by have := HB'.out.size; have := HVS.out; omega
        obtain ⟨v0, v1, v2, v3, v4⟩ := DpRenewal.bxc (HX.out.below HB.out)
        by_cases hlt4 : j < n4
        · skip
          obtain ⟨b, o, x_t, cs_t, rfl, _, hbwt, hxt, hct, hrdt⟩ := H4.out.at_ hlt4
          obtain ⟨xt0, xt1, xt2, xt3, xt4⟩ := x_t
          obtain ⟨rfl, hint⟩ := hrdt
          have HIt := Lib.hid hint
          have hcct : ∀ jj v, [.int .i64 xt0, .int .i64 xt1, .int .i64 xt2, .int .i64 xt3, .int .i64 xt4][jj]? = some v → wr.cell? ⟨b, o + j * 5 + jj, none⟩ = some v := fun jj v hv => (HB.out.cell (p := ⟨b, o + j * 5 + jj, none⟩) hbwt).trans (hct jj v hv)
          have HXt := Lib.hid hxt
          have HCt := Lib.hid hcct
          have u0 : wr.cell? ⟨b, o + j * 5, none⟩ = some (.int .i64 xt0) := hcct 0 _ rfl
          have u1 : wr.cell? ⟨b, o + j * 5 + 1, none⟩ = some (.int .i64 xt1) := hcct 1 _ rfl
          have u2 : wr.cell? ⟨b, o + j * 5 + 2, none⟩ = some (.int .i64 xt2) := hcct 2 _ rfl
          have u3 : wr.cell? ⟨b, o + j * 5 + 3, none⟩ = some (.int .i64 xt3) := hcct 3 _ rfl
          have u4 : wr.cell? ⟨b, o + j * 5 + 4, none⟩ = some (.int .i64 xt4) := hcct 4 _ rfl
          clear hcct hct hxt hint
          have hin := HIt.out
          obtain ⟨g0, g1, g2, g3, g4⟩ := hin
          have G0 : Hid (-9223372036854775808 ≤ xt0 ∧ xt0 ≤ 9223372036854775807) := Lib.hid g0
          have G1 : Hid (-9223372036854775808 ≤ xt1 ∧ xt1 ≤ 9223372036854775807) := Lib.hid g1
          have G2 : Hid (-9223372036854775808 ≤ xt2 ∧ xt2 ≤ 9223372036854775807) := Lib.hid g2
          have G3 : Hid (-9223372036854775808 ≤ xt3 ∧ xt3 ≤ 9223372036854775807) := Lib.hid g3
          have G4 : Hid (-9223372036854775808 ≤ xt4 ∧ xt4 ≤ 9223372036854775807) := Lib.hid g4
          have HNX := Lib.hid (stas_take HXt.out)
          have hbV : b < V.heap.size := hbwt
          have HCC : Hid (∀ w' : World, Below V.heap.size V w' → (w'.cell? ⟨w.heap.size, 0, none⟩ = some (.int .i64 x0) ∧ w'.cell? ⟨w.heap.size, 1, none⟩ = some (.int .i64 x1) ∧ w'.cell? ⟨w.heap.size, 2, none⟩ = some (.int .i64 x2) ∧ w'.cell? ⟨w.heap.size, 3, none⟩ = some (.slice p3 k c3) ∧ w'.cell? ⟨w.heap.size, 4, none⟩ = some (.slice (some ⟨b, o, none⟩) n4 c4)) ∧ w'.cell? ⟨b, o + j * 5, none⟩ = some (.int .i64 xt0) ∧ w'.cell? ⟨b, o + j * 5 + 1, none⟩ = some (.int .i64 xt1) ∧ w'.cell? ⟨b, o + j * 5 + 2, none⟩ = some (.int .i64 xt2) ∧ w'.cell? ⟨b, o + j * 5 + 3, none⟩ = some (.int .i64 xt3) ∧ w'.cell? ⟨b, o + j * 5 + 4, none⟩ = some (.int .i64 xt4)) := Lib.hid fun w' hb' => by
            have h1 := DpRenewal.bxc (HX.out.below hb')
            have h2 := fun i v hv => (hb'.cell (p := ⟨b, o + j * 5 + i, none⟩) hbV).trans ((HB.out.cell (p := ⟨b, o + j * 5 + i, none⟩) hbV).symm.trans (HCt.out i v hv))
            exact ⟨h1, h2 0 _ rfl, h2 1 _ rfl, h2 2 _ rfl, h2 3 _ rfl, h2 4 _ rfl⟩
          have HLd := Lib.hid ((lit_rd wr [xt4] (allK_cons G4.out (allK_nil _)) (by simp)))
          have HOd := Lib.hid HO.out.drew1
          have HOl := Lib.hid (HO.out.alloc (.cells #[.int .i64 xt4] 3)).drew1
          have HBd : Hid (Below V.heap.size V wr.drew) := Lib.hid (below_drewN HB.out 1)
          have HBl : Hid (Below V.heap.size V (wr.alloc (.cells #[.int .i64 xt4] 3)).drew) := Lib.hid (below_drewN (HB.out.alloc HB.out.size _) 1)
          have i1 : (0 : Int) ≤ (j : Int) := by omega
          have i2 : (j : Int) < (n4 : Int) := by omega
          have hlm : m3 ≤ 10000000 := by omega
          clear g0 g1 g2 g3 g4
          go_wp2_with fail
          go_region_held3 (fun w' => (w'.cell? ⟨w.heap.size, 0, none⟩ = some (.int .i64 x0) ∧ w'.cell? ⟨w.heap.size, 1, none⟩ = some (.int .i64 x1) ∧ w'.cell? ⟨w.heap.size, 2, none⟩ = some (.int .i64 x2) ∧ w'.cell? ⟨w.heap.size, 3, none⟩ = some (.slice p3 k c3) ∧ w'.cell? ⟨w.heap.size, 4, none⟩ = some (.slice (some ⟨b, o, none⟩) n4 c4)) ∧ w'.cell? ⟨b, o + j * 5, none⟩ = some (.int .i64 xt0) ∧ w'.cell? ⟨b, o + j * 5 + 1, none⟩ = some (.int .i64 xt1) ∧ w'.cell? ⟨b, o + j * 5 + 2, none⟩ = some (.int .i64 xt2) ∧ w'.cell? ⟨b, o + j * 5 + 3, none⟩ = some (.int .i64 xt3) ∧ w'.cell? ⟨b, o + j * 5 + 4, none⟩ = some (.int .i64 xt4)) (first
            | exact HCC.out _ HB4.out | exact HCC.out _ (HB2.out.alloc HB2.out.size _) | exact HCC.out _ HB2.out | exact HCC.out _ (HB1.out.alloc HB1.out.size _) | exact HCC.out _ HB1.out | exact HCC.out _ HBl.out | exact HCC.out _ HBd.out | go_keep) (first
            | (go_at_call 89; (with_reducible refine (Ti.spec_stampInts_any xt0 xt1 xt2 xt3 xt4 _ G0.out G1.out G2.out G3.out G4.out).mono ?_); rintro e w1 ⟨q1, m1, d1, rfl, ho, hb1⟩; have hv : Below wr.heap.size wr w1 := (by first | exact drewOn hb1 | exact litOn hb1); have HV1 := Lib.hid hv; have HB1 : Hid (Below V.heap.size V w1) := Lib.hid (HB.out.trans (hv.mono HB.out.size)); have HO1 := Lib.hid (HO.out.below hv); have HI1 := Lib.hid ho; have hm1 : m1 ≤ 5 := Nat.le_of_eq ho.len.symm; have HM1 := Lib.hid ho.len; (first | (have HL1 : Hid (Rd .i64 w1 (some ⟨wr.heap.size, 0, none⟩) 1 [xt4]) := Lib.hid (HLd.out.drewN 1 |>.below hb1)) | skip); clear ho hb1 hv)
            | (refine step_appR (by rfl) (.tmp 56) (.tmp 62) 23 (by rfl) i0 _ 8 Try.underlying23 hi0 hz0 hz1 hz2 (by rfl) (by rfl) HO1.out _ _ _ _ (by rfl) HI1.out.rd (by have := HV1.out.size; omega) (by omega) (by omega) ?_; intro p2 c2 w2 how2 hg2; have HA2 := Lib.hid how2; have HB2 : Hid (Below V.heap.size V w2) := Lib.hid (HB1.out.grown hg2 HB1.out.size (fun g e => by have := HO1.out.far g e; have := HVS.out; omega)); (first | (have HL2 : Hid (Rd .i64 w2 (some ⟨wr.heap.size, 0, none⟩) 1 [xt4]) := Lib.hid (HL1.out.grown hg2 (fun b1 o1 e1 e2 => by cases e1; have := HO1.out.far _ e2.symm; omega))) | skip); clear how2 hg2)
            | (refine step_appR (by rfl) (.tmp 56) (.tmp 62) 23 (by rfl) i0 _ 8 Try.underlying23 hi0 hz0 hz1 hz2 (by rfl) (by rfl) (HO1.out.alloc _) _ _ _ _ (by rfl) (HI1.out.rd.alloc _) (by have := HV1.out.size; simp only [World.size_alloc]; omega) (by omega) (by omega) ?_; intro p2 c2 w2 how2 hg2; have HA2 := Lib.hid how2; have HB2 : Hid (Below V.heap.size V w2) := Lib.hid ((HB1.out.alloc HB1.out.size _).grown hg2 (by have := HB1.out.size; simp only [World.size_alloc]; omega) (fun g e => by have := (HO1.out.alloc (.cells #[.int .i64 xt4] 3)).far g e; have := HVS.out; omega)); have HL2 : Hid (Rd .i64 w2 (some ⟨w1.heap.size, 0, none⟩) 1 [xt4]) := Lib.hid ((lit_rd w1 [xt4] (allK_cons G4.out (allK_nil _)) (by simp)).grown hg2 (fun b1 o1 e1 e2 => by cases e1; have := (HO1.out.alloc (.cells #[.int .i64 xt4] 3)).far _ e2.symm; have := HV1.out.size; omega)); clear how2 hg2)
            | (refine step_appR (by rfl) (.tmp 63) (.tmp 70) 23 (by rfl) i0 _ 8 Try.underlying23 hi0 hz0 hz1 hz2 (by rfl) (by rfl) HA2.out _ _ _ _ (by rfl) HL2.out (by have := HB2.out.size; have := HVS.out; omega) (by omega) (by omega) ?_; intro p4' c4' w4 how4 hg4; have HA4 := Lib.hid how4; have HB4 : Hid (Below V.heap.size V w4) := Lib.hid (HB2.out.grown hg4 HB2.out.size (fun g e => by have := HA2.out.far g e; have := HVS.out; omega)); clear how4 hg4)
            | (refine step_appR (by rfl) (.tmp 63) (.tmp 70) 23 (by rfl) i0 _ 8 Try.underlying23 hi0 hz0 hz1 hz2 (by rfl) (by rfl) (HA2.out.alloc _) _ _ _ _ (by rfl) (lit_rd w2 [xt4] (allK_cons G4.out (allK_nil _)) (by simp)) (by have := HB2.out.size; have := HVS.out; simp only [World.size_alloc]; omega) (by simp only [List.length_singleton]; omega) (by simp only [List.length_singleton]; omega) ?_; intro p4' c4' w4 how4 hg4; have HA4 := Lib.hid how4; have HB4 : Hid (Below V.heap.size V w4) := Lib.hid ((HB2.out.alloc HB2.out.size _).grown hg4 (by have := HB2.out.size; simp only [World.size_alloc]; omega) (fun g e => by have := (HA2.out.alloc (.cells #[.int .i64 xt4] 3)).far g e; have := HVS.out; omega)); clear how4 hg4)
            | fail)
          all_goals
            have HA6 : Hid (Ow .i64 3 w4 (w.heap.size + 1) w4.heap.size p4' (m3 + m1 + 1) c4' ([4, x0, x1, x2] ++ steps l3 ++ [(n4 : Int)] ++ stas (l4.take (j + 1)))) := Lib.hid (by
              have h := HA4.out
              rw [HNX.out]
              simp only [sta, List.append_assoc, List.cons_append, List.nil_append] at h ⊢
              exact h)
            have HB6 : Hid (Below (w.heap.size + 1) V w4) := Lib.hid (by rw [← HVS.out]; exact HB4.out)
            go_wp2_with fail
            go_roundw
            case rel => exact ⟨j + 1, _, _, _, by omega, by go_num, rfl, by omega, HA6, HB6⟩
            case measure => simp [intOf]; omega
        · obtain rfl : j = n4 := by omega
          have hO := HO.out
          rw [← H4.out.len, List.take_length] at hO
          have HO9 := Lib.hid hO
          have HLN := Lib.hid H4.out.len
          clear hO
          go_wp2_with fail
          refine (Dg.spec_dig_any id _ _ _ _ _ HO9.out.rd HID.out (by omega)).mono ?_
          rintro e w9 ⟨rfl, hb9⟩
          have HB9 := Lib.hid (HBV.out.trans ((HB.out.trans (hb9.mono HB.out.size)).mono (by rw [HVS.out]; omega)))
          clear hb9
          go_wp2_with fail
          go_ret
          refine val_of ?_ HB9.out
          have e9 : ren (x0, x1, x2, l3, l4) = 4 :: x0 :: x1 :: x2 :: (steps l3 ++ ((l4.length : Int) :: stas l4)) := by simp [ren]
          rw [e9]
          first | rfl | (show Value.int .i64 (Dg.dig id (4 :: x0 :: x1 :: x2 :: (steps l3 ++ ((j : Int) :: stas l4)))) = _; rw [HLN.out])
end Go.Proofs.Ytjickcnjnebpcaa.Rx
