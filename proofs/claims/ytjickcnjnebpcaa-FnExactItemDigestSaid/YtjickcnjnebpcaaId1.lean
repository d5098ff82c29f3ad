/- Items digested, in the program. -/
import Derived.Test.YtjickcnjnebpcaaRw
import Derived.Test.YtjickcnjnebpcaaDd
import Derived.Test.YtjickcnjnebpcaaDpItem
import Derived.Deep.RegionHeld3
namespace Go.Proofs.Ytjickcnjnebpcaa.Id1
open Go.ChangeShapes Go.WideShapes Go.ChangeAt Go.RowKit Sl St Ed Dz Wr Wp Rw Es
def rdl (id : Int) (l : List DpRenewal.A) : List Int := l.map fun r => Dg.dig id (ren r)
theorem rdl_take {id : Int} {l : List DpRenewal.A} {k : Nat} {x : DpRenewal.A} (h : l[k]? = some x) : rdl id (l.take (k + 1)) = rdl id (l.take k) ++ [Dg.dig id (ren x)] := by
  obtain ⟨hk, rfl⟩ := List.getElem?_eq_some_iff.1 h
  unfold rdl
  rw [List.take_succ_eq_append_getElem hk, List.map_append]
  rfl
theorem rdl_len {id : Int} {l : List DpRenewal.A} {k : Nat} (h : k ≤ l.length) : (rdl id (l.take k)).length = k := by unfold rdl; rw [List.length_map, List.length_take]; omega
theorem docD_inK (id : Int) (D : Int × List ByteArray × List Int) : inK .i64 (Dm.docD id D) := by
  unfold Dm.docD
  split
  · exact dig_inK _ _
  · exact ⟨by omega, by omega⟩
def itD (id x0 x1 x2 : Int) (l3 : List ByteArray) (l4 : List Int) (l14 : List DpPiece.A) (l15 : List DpRenewal.A) : Int := Dg.dig id ([5, x0, x1, Dm.docD id (x2, l3, l4), pd id l14] ++ rdl id l15)
theorem drewB {W w : World} {B : Nat} (h : Below B W w) : Below B W w.drew := below_drewN h 1
set_option maxRecDepth 100000 in
set_option maxHeartbeats 16000000 in
theorem item_any (id : Int) (x0 : Int) (x1 : Int) (x2 : Int) (l3 : List ByteArray) (p3 : Option Addr) (n3 c3 : Nat) (l4 : List Int) (p4 : Option Addr) (n4 c4 : Nat) (x5 : Int) (x6 : Int) (x7 : Int) (x8 : Int) (x9 : Int) (x10 : Int) (x11 : Int) (x12 : Int) (x13 : Int) (l14 : List DpPiece.A) (p14 : Option Addr) (n14 c14 : Nat) (l15 : List DpRenewal.A) (p15 : Option Addr) (n15 c15 : Nat) {S3 S4 S14 S15 : Nat → Prop} (w : World) (hid : InI id) (g0 : InI x0) (g1 : InI x1) (h3 : RdD str S3 w p3 n3 l3) (h4 : RdD int S4 w p4 n4 l4) (h14 : RdD DpPiece.E S14 w p14 n14 l14) (h15 : RdD DpRenewal.E S15 w p15 n15 l15) (hm14 : n14 + wts DpPiece.E l14 ≤ 1048576) (hm15 : n15 + wts DpRenewal.E l15 ≤ 1048576) : Calls Try.prog 23 #[.int .i64 id, .agg #[.int .i64 x0, .int .i64 x1, .int .i64 x2, .slice p3 n3 c3, .slice p4 n4 c4, .int .i64 x5, .int .i64 x6, .int .i64 x7, .int .i64 x8, .int .i64 x9, .int .i64 x10, .int .i64 x11, .int .i64 x12, .int .i64 x13, .slice p14 n14 c14, .slice p15 n15 c15]] w (Val (.int .i64 (itD id x0 x1 x2 l3 l4 l14 l15)) w) := by
  have h14' := fresh h14
  have h15' := fresh h15
  obtain ⟨d1, hd1⟩ : ∃ d, Dm.docD id (x2, l3, l4) = d := ⟨_, rfl⟩
  obtain ⟨d2, hd2⟩ : ∃ d, pd id l14 = d := ⟨_, rfl⟩
  have HD1 := Lib.hid hd1
  have HD2 := Lib.hid hd2
  have HK1 : Hid (inK .i64 d1) := Lib.hid (by rw [← hd1]; exact docD_inK _ _)
  have HK2 : Hid (inK .i64 d2) := Lib.hid (by rw [← hd2]; exact dig_inK _ _)
  have HV : Hid (itD id x0 x1 x2 l3 l4 l14 l15 = Dg.dig id ([5, x0, x1, d1, d2] ++ rdl id l15)) := Lib.hid (by unfold itD; rw [hd1, hd2])
  have G0 : Hid (inK .i64 x0) := Lib.hid g0
  have G1 : Hid (inK .i64 x1) := Lib.hid g1
  have HID : Hid (inK .i64 id) := Lib.hid hid
  have HM14 := Lib.hid hm14
  have HM15 := Lib.hid hm15
  have hn15 : n15 ≤ 1048576 := by omega
  have hB : Below w.heap.size w ((w.alloc (.cells #[.int .i64 x0, .int .i64 x1, .int .i64 x2, .slice p3 n3 c3, .slice p4 n4 c4, .int .i64 x5, .int .i64 x6, .int .i64 x7, .int .i64 x8, .int .i64 x9, .int .i64 x10, .int .i64 x11, .int .i64 x12, .int .i64 x13, .slice p14 n14 c14, .slice p15 n15 c15] 43)).alloc (.cells #[.slice none 0 0] 103)) := (box1 w _).alloc (by simp) _
  have hE : Enc ((w.alloc (.cells #[.int .i64 x0, .int .i64 x1, .int .i64 x2, .slice p3 n3 c3, .slice p4 n4 c4, .int .i64 x5, .int .i64 x6, .int .i64 x7, .int .i64 x8, .int .i64 x9, .int .i64 x10, .int .i64 x11, .int .i64 x12, .int .i64 x13, .slice p14 n14 c14, .slice p15 n15 c15] 43)).alloc (.cells #[.slice none 0 0] 103)) (w.heap.size + 1) (w.heap.size + 1 + 1) (w.heap.size + 1 + 1) [] := by
    have h := Enc.new (w.alloc (.cells #[.int .i64 x0, .int .i64 x1, .int .i64 x2, .slice p3 n3 c3, .slice p4 n4 c4, .int .i64 x5, .int .i64 x6, .int .i64 x7, .int .i64 x8, .int .i64 x9, .int .i64 x10, .int .i64 x11, .int .i64 x12, .int .i64 x13, .slice p14 n14 c14, .slice p15 n15 c15] 43))
    rw [World.size_alloc] at h
    exact h
  have HVS : Hid (((w.alloc (.cells #[.int .i64 x0, .int .i64 x1, .int .i64 x2, .slice p3 n3 c3, .slice p4 n4 c4, .int .i64 x5, .int .i64 x6, .int .i64 x7, .int .i64 x8, .int .i64 x9, .int .i64 x10, .int .i64 x11, .int .i64 x12, .int .i64 x13, .slice p14 n14 c14, .slice p15 n15 c15] 43)).alloc (.cells #[.slice none 0 0] 103)).heap.size = w.heap.size + 1 + 1) := Lib.hid (by simp)
  have HB := Lib.hid hB
  have HE := Lib.hid hE
  have HX := Lib.hid ((Bx.new w 43 #[.int .i64 x0, .int .i64 x1, .int .i64 x2, .slice p3 n3 c3, .slice p4 n4 c4, .int .i64 x5, .int .i64 x6, .int .i64 x7, .int .i64 x8, .int .i64 x9, .int .i64 x10, .int .i64 x11, .int .i64 x12, .int .i64 x13, .slice p14 n14 c14, .slice p15 n15 c15]).alloc (.cells #[.slice none 0 0] 103))
  have H3 := Lib.hid (h3.below hB)
  have H4 := Lib.hid (h4.below hB)
  have H14 := Lib.hid (h14'.below hB)
  have H15 := Lib.hid (h15'.below hB)
  clear hB hE h3 h4 h14 h15 h14' h15' hd1 hd2 g0 g1 hid hm14 hm15
  go_enter Try.func23, Try.ntmps23
  go_wp2_with fail
  generalize ((w.alloc (.cells #[.int .i64 x0, .int .i64 x1, .int .i64 x2, .slice p3 n3 c3, .slice p4 n4 c4, .int .i64 x5, .int .i64 x6, .int .i64 x7, .int .i64 x8, .int .i64 x9, .int .i64 x10, .int .i64 x11, .int .i64 x12, .int .i64 x13, .slice p14 n14 c14, .slice p15 n15 c15] 43)).alloc (.cells #[.slice none 0 0] 103)) = V at HB HE HX H3 H4 H14 H15 HVS ⊢
  have H15V := H15
  have HBV := HB
  have HXV := HX
  have HBw : Hid (Below V.heap.size V V.drew) := Lib.hid (drewB (Below.refl _ _))
  replace HE := Lib.hid HE.out.drew1
  replace HX := Lib.hid HX.out.drew1
  replace H3 := Lib.hid (H3.out.below HBw.out)
  replace H4 := Lib.hid (H4.out.below HBw.out)
  replace H14 := Lib.hid (H14.out.below HBw.out)
  go_region_held3 (fun w' => w'.cell? ⟨w.heap.size, 0, none⟩ = some (.int .i64 x0) ∧ w'.cell? ⟨w.heap.size, 1, none⟩ = some (.int .i64 x1) ∧ w'.cell? ⟨w.heap.size, 2, none⟩ = some (.int .i64 x2) ∧ w'.cell? ⟨w.heap.size, 3, none⟩ = some (.slice p3 n3 c3) ∧ w'.cell? ⟨w.heap.size, 4, none⟩ = some (.slice p4 n4 c4) ∧ w'.cell? ⟨w.heap.size, 5, none⟩ = some (.int .i64 x5) ∧ w'.cell? ⟨w.heap.size, 6, none⟩ = some (.int .i64 x6) ∧ w'.cell? ⟨w.heap.size, 7, none⟩ = some (.int .i64 x7) ∧ w'.cell? ⟨w.heap.size, 8, none⟩ = some (.int .i64 x8) ∧ w'.cell? ⟨w.heap.size, 9, none⟩ = some (.int .i64 x9) ∧ w'.cell? ⟨w.heap.size, 10, none⟩ = some (.int .i64 x10) ∧ w'.cell? ⟨w.heap.size, 11, none⟩ = some (.int .i64 x11) ∧ w'.cell? ⟨w.heap.size, 12, none⟩ = some (.int .i64 x12) ∧ w'.cell? ⟨w.heap.size, 13, none⟩ = some (.int .i64 x13) ∧ w'.cell? ⟨w.heap.size, 14, none⟩ = some (.slice p14 n14 c14) ∧ w'.cell? ⟨w.heap.size, 15, none⟩ = some (.slice p15 n15 c15)) (first | exact DpItem.bxc HX.out | go_keep) (first
    | (go_at_call 62; (with_reducible refine (Dd.docD_any id x2 p3 n3 c3 p4 n4 c4 l3 l4 _ (RdD.strs SlStr.C_eq SlStr.of_eq H3.out).1 H4.out.ints).mono ?_); rintro e w1 ⟨rfl, hb⟩; rw [HD1.out]; replace HBw := Lib.hid (below_on HBw.out hb); replace HE := Lib.hid (HE.out.below hb); replace HX := Lib.hid (HX.out.below hb); replace H14 := Lib.hid (H14.out.below hb); clear hb)
    | (go_at_call 63; (with_reducible refine (Wp.digest_any id l14 p14 n14 c14 _ H14.out HM14.out).mono ?_); rintro e w2 ⟨rfl, hb⟩; rw [HD2.out]; replace HBw := Lib.hid (below_on HBw.out hb); replace HE := Lib.hid (HE.out.below hb); replace HX := Lib.hid (HX.out.below hb); replace H14 := Lib.hid (H14.out.below hb); clear hb)
    | (go_at_call 61; have HLit : Hid (Rd .i64 (w2.alloc (.cells #[.int .i64 5, .int .i64 x0, .int .i64 x1, .int .i64 d1, .int .i64 d2] 3)) (some ⟨w2.heap.size, 0, none⟩) 5 [5, x0, x1, d1, d2]) := Lib.hid (lit_rd w2 [5, x0, x1, d1, d2] (allK_cons ⟨by omega, by omega⟩ (allK_cons G0.out (allK_cons G1.out (allK_cons HK1.out (allK_cons HK2.out (allK_nil _)))))) (by simp)); (refine (write_any (w.heap.size + 1) (w.heap.size + 1 + 1) _ [] _ _ _ [5, x0, x1, d1, d2] _ (HE.out.alloc (.cells #[.int .i64 5, .int .i64 x0, .int .i64 x1, .int .i64 d1, .int .i64 d2] 3)) HLit.out (by simp)).mono ?_); rintro e w3 ⟨rfl, hE3, hT3⟩; have HE3 := Lib.hid hE3; have HT3 := Lib.hid ((Turned.of_below (B := w.heap.size + 1) (lo := w.heap.size + 1 + 1) (HBw.out.alloc HBw.out.size (.cells #[.int .i64 5, .int .i64 x0, .int .i64 x1, .int .i64 d1, .int .i64 d2] 3))).trans hT3); have HX3 := Lib.hid (bx_turned (HX.out.alloc (.cells #[.int .i64 5, .int .i64 x0, .int .i64 x1, .int .i64 d1, .int .i64 d2] 3)) hT3 (by omega) (Or.inr (by decide))); replace HX := HX3; clear hE3 hT3))
  rw [List.nil_append] at HE3
  have HE0 : Hid (Enc w3 (w.heap.size + 1) (w.heap.size + 1 + 1) w3.heap.size ([5, x0, x1, d1, d2] ++ rdl id (l15.take 0))) := Lib.hid (by simpa [rdl] using HE3.out)
  obtain ⟨u0, u1, u2, u3, u4, u5, u6, u7, u8, u9, u10, u11, u12, u13, u14, u15⟩ := DpItem.bxc HX3.out
  go_wp2_with fail
  clear u0 u1 u2 u3 u4 u5 u6 u7 u8 u9 u10 u11 u12 u13 u14 u15 HX HX3 HE HE3 H14 H3 H4 HBw
  go_loopw [27] (fun i wr => ∃ k hi' : Nat, k ≤ n15 ∧ i = .int .i64 k ∧ Hid (Enc wr (w.heap.size + 1) (w.heap.size + 1 + 1) hi' ([5, x0, x1, d1, d2] ++ rdl id (l15.take k))) ∧ Hid (Turned (w.heap.size + 1) (w.heap.size + 1 + 1) V wr)) (fun i _ => n15 - (intOf i).toNat)
  case atStart => exact ⟨0, _, Nat.zero_le _, rfl, HE0, HT3⟩
  case round =>
    obtain ⟨k, hi', hk, rfl, HK, HT⟩ := hrel
    have hlt3 := HK.out.lt
    by_cases hlt : k < n15
    · have HRk := Lib.hid (rdD_turned H15V.out HT.out (fun b hb _ => ⟨by omega, by omega⟩))
      have HBr := Lib.hid (Below.refl wr.heap.size wr)
      obtain ⟨b, o, x_r, cs_r, rfl, _, hbwr, hxr, hcr, hrdr⟩ := HRk.out.at_ hlt
      obtain ⟨xr0, xr1, xr2, lr3, lr4⟩ := x_r
      obtain ⟨pr3, nr3, cr3, pr4, nr4, cr4, rfl, br0, br1, br2, hr3, hr4⟩ := DpRenewal.ex hrdr
      have hccr : ∀ jj v, [.int .i64 xr0, .int .i64 xr1, .int .i64 xr2, .slice pr3 nr3 cr3, .slice pr4 nr4 cr4][jj]? = some v → wr.cell? ⟨b, o + k * 5 + jj, none⟩ = some v := fun jj v hv => (HBr.out.cell (p := ⟨b, o + k * 5 + jj, none⟩) hbwr).trans (hcr jj v hv)
      have HXr := Lib.hid hxr
      have HCr := Lib.hid hccr
      have Hr3 := Lib.hid (hr3.below HBr.out)
      have hnr3 := hr3.le
      have Hr4 := Lib.hid (hr4.below HBr.out)
      have hnr4 := hr4.le
      have Gbr0 := Lib.hid br0
      have Gbr1 := Lib.hid br1
      have Gbr2 := Lib.hid br2
      obtain ⟨u0, u1, u2, u3, u4⟩ := DpRenewal.at_cells hccr
      clear hccr hcr hxr hrdr br0 br1 br2 hr3 hr4
      have hwt := wts_at (E := DpRenewal.E) HXr.out
      have hlen3 := Hr3.out.len
      have hlen4 := Hr4.out.len
      have hr3 : nr3 ≤ 1048576 := by have h := HM15.out; rw [DpRenewal.wt_eq] at hwt; omega
      have hr4 : nr4 ≤ 1048576 := by have h := HM15.out; rw [DpRenewal.wt_eq] at hwt; omega
      have HNX := Lib.hid (rdl_take (id := id) HXr.out)
      have HLEN : Hid (([5, x0, x1, d1, d2] ++ rdl id (l15.take k)).length + 1 ≤ 100000000) := Lib.hid (by rw [List.length_append, rdl_len (by have := H15V.out.len; omega)]; simp only [List.length_cons, List.length_nil]; omega)
      have HWa := Lib.hid (box1 wr (.cells #[.int .i64 xr0, .int .i64 xr1, .int .i64 xr2, .slice pr3 nr3 cr3, .slice pr4 nr4 cr4] 101))
      obtain ⟨dd, hdd⟩ : ∃ d, Dg.dig id (ren (xr0, xr1, xr2, lr3, lr4)) = d := ⟨_, rfl⟩
      have HDD := Lib.hid hdd
      have HKd : Hid (inK .i64 dd) := Lib.hid (by rw [← hdd]; exact dig_inK _ _)
      clear hwt hlen3 hlen4 hdd
      go_wp2_with fail
      refine (Rw.digest_any id xr0 xr1 xr2 lr3 _ _ _ lr4 _ _ _ _ Gbr0.out Gbr1.out Gbr2.out (Hr3.out.below HWa.out) (Hr4.out.below HWa.out) hr3 hr4).mono ?_
      rintro e w1 ⟨rfl, hb⟩
      rw [HDD.out]
      have HB1 := Lib.hid (below_on HWa.out hb)
      have HE1 := Lib.hid ((HK.out.below HB1.out).alloc (.cells #[.int .i64 dd] 3))
      have HL1 : Hid (Rd .i64 (w1.alloc (.cells #[.int .i64 dd] 3)) (some ⟨w1.heap.size, 0, none⟩) 1 [dd]) := Lib.hid (lit_rd w1 [dd] (allK_cons HKd.out (allK_nil _)) (by simp))
      clear hb u0 u1 u2 u3 u4
      go_wp2_with fail
      refine (write_any (w.heap.size + 1) (w.heap.size + 1 + 1) hi' _ _ _ _ [dd] _ HE1.out HL1.out (by have := HLEN.out; omega)).mono ?_
      rintro e w2' ⟨rfl, hE2, hT2⟩
      have HE2 : Hid (Enc w2' (w.heap.size + 1) (w.heap.size + 1 + 1) w2'.heap.size ([5, x0, x1, d1, d2] ++ rdl id (l15.take (k + 1)))) := Lib.hid (by rw [HNX.out, HDD.out, ← List.append_assoc]; exact hE2)
      have HT2 := Lib.hid (HT.out.trans ((Turned.of_below (HB1.out.alloc HB1.out.size _)).trans hT2))
      clear hE2 hT2
      go_wp2_with fail
      go_roundw
      case rel => exact ⟨k + 1, _, by omega, by go_num, HE2, HT2⟩
      case measure => simp [intOf]; omega
    · obtain rfl : k = n15 := by omega
      have HTk : Hid (l15.take k = l15) := Lib.hid (List.take_of_length_le (by rw [H15V.out.len]; exact Nat.le_refl _))
      obtain ⟨q2, m2, d3, hc2, hrd2, hm2⟩ := HK.out.read
      have HRD := Lib.hid hrd2
      have HB1 := Lib.hid (Turned.on HBV.out HT.out (by omega) (by omega) HBV.out.size)
      clear hrd2 hm2
      go_wp2_with fail
      refine (Dg.dig_any id _ _ _ _ _ HRD.out).mono ?_
      rintro e w2' ⟨rfl, rfl⟩
      go_wp2_with fail
      go_ret
      exact val_of (by rw [HV.out, HTk.out]; first | done | rfl) HB1.out
end Go.Proofs.Ytjickcnjnebpcaa.Id1
