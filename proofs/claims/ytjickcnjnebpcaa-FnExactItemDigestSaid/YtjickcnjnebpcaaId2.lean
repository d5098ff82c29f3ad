/- Items digested, in the reference. -/
import Derived.Test.YtjickcnjnebpcaaId1
import Derived.Test.YtjickcnjnebpcaaRx
import Derived.Test.YtjickcnjnebpcaaWq
import Derived.Test.YtjickcnjnebpcaaDs
namespace Go.Proofs.Ytjickcnjnebpcaa.Id2
open Go.ChangeShapes Go.WideShapes Go.ChangeAt Go.RowKit Sl St Ed Dz Wr Wp Rw Es Id1
set_option maxRecDepth 100000 in
set_option maxHeartbeats 16000000 in
theorem spec_item_any (id : Int) (x0 : Int) (x1 : Int) (x2 : Int) (l3 : List ByteArray) (p3 : Option Addr) (n3 c3 : Nat) (l4 : List Int) (p4 : Option Addr) (n4 c4 : Nat) (x5 : Int) (x6 : Int) (x7 : Int) (x8 : Int) (x9 : Int) (x10 : Int) (x11 : Int) (x12 : Int) (x13 : Int) (l14 : List DpPiece.A) (p14 : Option Addr) (n14 c14 : Nat) (l15 : List DpRenewal.A) (p15 : Option Addr) (n15 c15 : Nat) {S3 S4 S14 S15 : Nat → Prop} (w : World) (hid : InI id) (g0 : InI x0) (g1 : InI x1) (h3 : RdD str S3 w p3 n3 l3) (h4 : RdD int S4 w p4 n4 l4) (h14 : RdD DpPiece.E S14 w p14 n14 l14) (h15 : RdD DpRenewal.E S15 w p15 n15 l15) (hm14 : n14 + wts DpPiece.E l14 ≤ 1048576) (hm15 : n15 + wts DpRenewal.E l15 ≤ 1048576) : Calls Try.prog 22 #[.int .i64 id, .agg #[.int .i64 x0, .int .i64 x1, .int .i64 x2, .slice p3 n3 c3, .slice p4 n4 c4, .int .i64 x5, .int .i64 x6, .int .i64 x7, .int .i64 x8, .int .i64 x9, .int .i64 x10, .int .i64 x11, .int .i64 x12, .int .i64 x13, .slice p14 n14 c14, .slice p15 n15 c15]] w (Val (.int .i64 (itD id x0 x1 x2 l3 l4 l14 l15)) w) := by
  obtain ⟨i0, hi0, hz0, hz1, hz2⟩ := info_parts SlI.info
  have h14' := fresh h14
  have h15' := fresh h15
  obtain ⟨d1, hd1⟩ : ∃ d, Dm.docD id (x2, l3, l4) = d := ⟨_, rfl⟩
  obtain ⟨d2, hd2⟩ : ∃ d, pd id l14 = d := ⟨_, rfl⟩
  have HD1 := Lib.hid hd1
  have HD2 := Lib.hid hd2
  have HK1 : Hid (inK .i64 d1) := Lib.hid (by rw [← hd1]; exact docD_inK _ _)
  have HK2 : Hid (inK .i64 d2) := Lib.hid (by rw [← hd2]; exact dig_inK _ _)
  have HV : Hid (itD id x0 x1 x2 l3 l4 l14 l15 = Dg.dig id ([5, x0, x1, d1, d2] ++ rdl id l15)) := Lib.hid (by unfold itD; rw [hd1, hd2])
  have G0 : Hid (inK .i64 x0) := Lib.hid g0
  have G1 : Hid (inK .i64 x1) := Lib.hid g1
  have HID : Hid (inK .i64 id) := Lib.hid hid
  have HIDi : Hid (InI id) := Lib.hid hid
  have HM14 := Lib.hid hm14
  have HM15 := Lib.hid hm15
  have hn15 : n15 ≤ 1048576 := by omega
  have hB := box1 w (.cells #[.int .i64 x0, .int .i64 x1, .int .i64 x2, .slice p3 n3 c3, .slice p4 n4 c4, .int .i64 x5, .int .i64 x6, .int .i64 x7, .int .i64 x8, .int .i64 x9, .int .i64 x10, .int .i64 x11, .int .i64 x12, .int .i64 x13, .slice p14 n14 c14, .slice p15 n15 c15] 43)
  have HB := Lib.hid hB
  have HX := Lib.hid (Bx.new w 43 #[.int .i64 x0, .int .i64 x1, .int .i64 x2, .slice p3 n3 c3, .slice p4 n4 c4, .int .i64 x5, .int .i64 x6, .int .i64 x7, .int .i64 x8, .int .i64 x9, .int .i64 x10, .int .i64 x11, .int .i64 x12, .int .i64 x13, .slice p14 n14 c14, .slice p15 n15 c15])
  have H3 := Lib.hid (h3.below hB)
  have H4 := Lib.hid (h4.below hB)
  have H14 := Lib.hid (h14.below hB)
  have H15 := Lib.hid (h15.below hB)
  clear hB h3 h4 h14 h15 h14' h15' hd1 hd2 g0 g1 hid hm14 hm15
  go_enter Try.func22, Try.ntmps22
  go_wp2_with fail
  generalize (w.alloc (.cells #[.int .i64 x0, .int .i64 x1, .int .i64 x2, .slice p3 n3 c3, .slice p4 n4 c4, .int .i64 x5, .int .i64 x6, .int .i64 x7, .int .i64 x8, .int .i64 x9, .int .i64 x10, .int .i64 x11, .int .i64 x12, .int .i64 x13, .slice p14 n14 c14, .slice p15 n15 c15] 43)) = V at HB HX H3 H4 H14 H15 ⊢
  have HLV : Hid (w.heap.size < V.heap.size) := Lib.hid HX.out.lt
  have HBw : Hid (Below V.heap.size V V.drew) := Lib.hid (drewB (Below.refl _ _))
  replace HX := Lib.hid HX.out.drew1
  replace H3 := Lib.hid (H3.out.below HBw.out)
  replace H4 := Lib.hid (H4.out.below HBw.out)
  replace H14 := Lib.hid (H14.out.below HBw.out)
  go_region_held3 (fun w' => w'.cell? ⟨w.heap.size, 0, none⟩ = some (.int .i64 x0) ∧ w'.cell? ⟨w.heap.size, 1, none⟩ = some (.int .i64 x1) ∧ w'.cell? ⟨w.heap.size, 2, none⟩ = some (.int .i64 x2) ∧ w'.cell? ⟨w.heap.size, 3, none⟩ = some (.slice p3 n3 c3) ∧ w'.cell? ⟨w.heap.size, 4, none⟩ = some (.slice p4 n4 c4) ∧ w'.cell? ⟨w.heap.size, 5, none⟩ = some (.int .i64 x5) ∧ w'.cell? ⟨w.heap.size, 6, none⟩ = some (.int .i64 x6) ∧ w'.cell? ⟨w.heap.size, 7, none⟩ = some (.int .i64 x7) ∧ w'.cell? ⟨w.heap.size, 8, none⟩ = some (.int .i64 x8) ∧ w'.cell? ⟨w.heap.size, 9, none⟩ = some (.int .i64 x9) ∧ w'.cell? ⟨w.heap.size, 10, none⟩ = some (.int .i64 x10) ∧ w'.cell? ⟨w.heap.size, 11, none⟩ = some (.int .i64 x11) ∧ w'.cell? ⟨w.heap.size, 12, none⟩ = some (.int .i64 x12) ∧ w'.cell? ⟨w.heap.size, 13, none⟩ = some (.int .i64 x13) ∧ w'.cell? ⟨w.heap.size, 14, none⟩ = some (.slice p14 n14 c14) ∧ w'.cell? ⟨w.heap.size, 15, none⟩ = some (.slice p15 n15 c15)) (first | exact DpItem.bxc HX.out | exact DpItem.bxc (HX.out.alloc _) | go_keep) (first
    | (go_at_call 57; (with_reducible refine (Ds.spec_docD_any id x2 p3 n3 c3 p4 n4 c4 l3 l4 _ (RdD.strs SlStr.C_eq SlStr.of_eq H3.out).1 H4.out.ints HID.out).mono ?_); rintro e w1 ⟨rfl, hb⟩; rw [HD1.out]; replace HBw := Lib.hid (below_on HBw.out hb); replace HX := Lib.hid (HX.out.below hb); replace H14 := Lib.hid (H14.out.below hb); clear hb)
    | (go_at_call 58; (with_reducible refine (Wq.spec_digest_any id HIDi.out l14 p14 n14 c14 _ H14.out HM14.out).mono ?_); rintro e w2 ⟨rfl, hb⟩; rw [HD2.out]; replace HBw := Lib.hid (below_on HBw.out hb); replace HX := Lib.hid (HX.out.below hb); replace H14 := Lib.hid (H14.out.below hb); clear hb)
)
  have HX3 := Lib.hid (HX.out.alloc (.cells #[.int .i64 5, .int .i64 x0, .int .i64 x1, .int .i64 d1, .int .i64 d2] 3))
  have HB3 := Lib.hid (HBw.out.alloc HBw.out.size (.cells #[.int .i64 5, .int .i64 x0, .int .i64 x1, .int .i64 d1, .int .i64 d2] 3))
  have HO3 : Hid (Ow .i64 3 (w2.alloc (.cells #[.int .i64 5, .int .i64 x0, .int .i64 x1, .int .i64 d1, .int .i64 d2] 3)) V.heap.size (w2.alloc (.cells #[.int .i64 5, .int .i64 x0, .int .i64 x1, .int .i64 d1, .int .i64 d2] 3)).heap.size (some ⟨w2.heap.size, 0, none⟩) 5 5 ([5, x0, x1, d1, d2] ++ rdl id (l15.take 0))) := Lib.hid (by
    have h := (litN_own 3 w2 V.heap.size [5, x0, x1, d1, d2] (allK_cons ⟨by omega, by omega⟩ (allK_cons G0.out (allK_cons G1.out (allK_cons HK1.out (allK_cons HK2.out (allK_nil _)))))) HBw.out.size (by simp))
    simpa [rdl] using h)
  generalize w2.heap.size = g2 at HO3 ⊢
  generalize w2.alloc (.cells #[.int .i64 5, .int .i64 x0, .int .i64 x1, .int .i64 d1, .int .i64 d2] 3) = w3 at HX3 HB3 HO3 ⊢
  obtain ⟨u0, u1, u2, u3, u4, u5, u6, u7, u8, u9, u10, u11, u12, u13, u14, u15⟩ := DpItem.bxc HX3.out
  go_wp2_with fail
  clear u0 u1 u2 u3 u4 u5 u6 u7 u8 u9 u10 u11 u12 u13 u14 u15 HX H14 H3 H4 HBw
  go_loopw [5, 6] (fun v i wr => ∃ (k c' : Nat) (p' : Option Addr), k ≤ n15 ∧ i = .int .i64 k ∧ v = .slice p' (k + 5) c' ∧ Hid (Ow .i64 3 wr V.heap.size wr.heap.size p' (k + 5) c' ([5, x0, x1, d1, d2] ++ rdl id (l15.take k))) ∧ Hid (Below V.heap.size V wr) ∧ Hid (Bx wr w.heap.size 43 #[.int .i64 x0, .int .i64 x1, .int .i64 x2, .slice p3 n3 c3, .slice p4 n4 c4, .int .i64 x5, .int .i64 x6, .int .i64 x7, .int .i64 x8, .int .i64 x9, .int .i64 x10, .int .i64 x11, .int .i64 x12, .int .i64 x13, .slice p14 n14 c14, .slice p15 n15 c15])) (fun _ i _ => n15 - (intOf i).toNat)
  case atStart => exact ⟨0, _, _, Nat.zero_le _, rfl, rfl, HO3, HB3, HX3⟩
  case round =>
    obtain ⟨k, c', p', hk, rfl, rfl, HO, HBr, HXb⟩ := hrel
    obtain ⟨v0, v1, v2, v3, v4, v5, v6, v7, v8, v9, v10, v11, v12, v13, v14, v15⟩ := DpItem.bxc HXb.out
    have lX := HXb.out.lt
    by_cases hlt : k < n15
    · skip
      obtain ⟨b, o, x_r, cs_r, rfl, _, hbwr, hxr, hcr, hrdr⟩ := H15.out.at_ hlt
      obtain ⟨xr0, xr1, xr2, lr3, lr4⟩ := x_r
      obtain ⟨pr3, nr3, cr3, pr4, nr4, cr4, rfl, br0, br1, br2, hr3, hr4⟩ := DpRenewal.ex hrdr
      have hccr : ∀ jj v, [.int .i64 xr0, .int .i64 xr1, .int .i64 xr2, .slice pr3 nr3 cr3, .slice pr4 nr4 cr4][jj]? = some v → wr.cell? ⟨b, o + k * 5 + jj, none⟩ = some v := fun jj v hv => (HBr.out.cell (p := ⟨b, o + k * 5 + jj, none⟩) hbwr).trans (hcr jj v hv)
      have HXr := Lib.hid hxr
      have HCr := Lib.hid hccr
      have Hr3 := Lib.hid (hr3.below HBr.out)
      have hnr3 := hr3.le
      have Hr4 := Lib.hid (hr4.below HBr.out)
      have hnr4 := hr4.le
      have Gbr0 := Lib.hid br0
      have Gbr1 := Lib.hid br1
      have Gbr2 := Lib.hid br2
      obtain ⟨u0, u1, u2, u3, u4⟩ := DpRenewal.at_cells hccr
      clear hccr hcr hxr hrdr br0 br1 br2 hr3 hr4
      have hwt := wts_at (E := DpRenewal.E) HXr.out
      have hlen3 := Hr3.out.len
      have hlen4 := Hr4.out.len
      have hr3 : nr3 ≤ 1048576 := by have h := HM15.out; rw [DpRenewal.wt_eq] at hwt; omega
      have hr4 : nr4 ≤ 1048576 := by have h := HM15.out; rw [DpRenewal.wt_eq] at hwt; omega
      have HNX := Lib.hid (rdl_take (id := id) HXr.out)
      obtain ⟨dd, hdd⟩ : ∃ d, Dg.dig id (ren (xr0, xr1, xr2, lr3, lr4)) = d := ⟨_, rfl⟩
      have HDD := Lib.hid hdd
      have HKd : Hid (inK .i64 dd) := Lib.hid (by rw [← hdd]; exact dig_inK _ _)
      clear hwt hlen3 hlen4 hdd
      go_wp2_with fail
      refine (Rx.spec_digest_any id HIDi.out xr0 xr1 xr2 lr3 _ _ _ lr4 _ _ _ _ Gbr0.out Gbr1.out Gbr2.out Hr3.out Hr4.out hr3 hr4).mono ?_
      rintro e w1 ⟨rfl, hb⟩
      rw [HDD.out]
      have HO1 := Lib.hid ((HO.out.below hb).wide (Nat.le_refl _) hb.size (Nat.le_refl _))
      have HB1 := Lib.hid (below_on HBr.out hb)
      have HX1 := Lib.hid (HXb.out.below hb)
      have hsz := HB1.out.size
      have lV := HLV.out
      clear hb u0 u1 u2 u3 u4 v0 v1 v2 v3 v4 v5 v6 v7 v8 v9 v10 v11 v12 v13 v14 v15
      go_wp2_with (at_builtin; refine wpList_app1 rfl (.tmp 29) (.tmp 38) 23 rfl i0 _ 8 Try.underlying23 hi0 hz0 hz1 hz2 rfl rfl (HO1.out.alloc _) w1.heap.size 1 dd rfl (by go_simp) HKd.out (Nat.le_trans hsz (by simp)) (by omega) (by omega) ?_; intro p2 c2 w2' how2 hg2; have HO2 : Hid (Ow .i64 3 w2' V.heap.size w2'.heap.size p2 (k + 1 + 5) c2 ([5, x0, x1, d1, d2] ++ rdl id (l15.take (k + 1)))) := Lib.hid (by rw [HNX.out, HDD.out, ← List.append_assoc, show k + 1 + 5 = k + 5 + 1 by omega]; exact how2); have HB2 := Lib.hid ((HB1.out.alloc hsz _).trans ((HO1.out.alloc _).below_row hg2 (Nat.le_trans hsz (by simp)))); have HX2 := Lib.hid (Bx.grown (HX1.out.alloc _) hg2 (fun e => by have := (HO1.out.alloc (.cells #[.int .i64 dd] 3)).far _ e.symm; omega)); clear how2 hg2)
      go_roundw
      case rel => exact ⟨k + 1, _, _, by omega, by go_num, by first | rfl | simp [Nat.add_right_comm], HO2, HB2, HX2⟩
      case measure => simp [intOf]; omega
    · obtain rfl : k = n15 := by omega
      have HTk : Hid (l15.take k = l15) := Lib.hid (List.take_of_length_le (by rw [H15.out.len]; exact Nat.le_refl _))
      go_wp2_with fail
      refine (Dg.spec_dig_any id _ _ _ _ _ HO.out.rd HID.out (by omega)).mono ?_
      rintro e w2' ⟨rfl, hb⟩
      have HB1 := Lib.hid (below_on HB.out (below_on HBr.out hb))
      clear hb
      go_wp2_with fail
      go_ret
      exact val_of (by rw [HV.out, HTk.out]; first | done | rfl) HB1.out
end Go.Proofs.Ytjickcnjnebpcaa.Id2
