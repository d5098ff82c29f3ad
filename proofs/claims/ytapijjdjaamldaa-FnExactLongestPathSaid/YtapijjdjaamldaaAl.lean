/- The longest path of the renewals of an archive; in the program and in the reference. -/
import Derived.Test.YtapijjdjaamldaaAc
import Derived.LoopTactic
import Derived.Outline
namespace Go.Proofs.Ytapijjdjaamldaa.Al
open Go.ChangeShapes Go.WideShapes Go.ChangeAt Go.RowKit Sl St Ed Dz Es Ac
set_option maxRecDepth 100000 in
set_option maxHeartbeats 8000000 in
theorem longest_any (x0 : Int) (l1 : List DpItem.A) (p1 : Option Addr) (n1 c1 : Nat) {S : Nat → Prop} (w : World) (hr : RdD DpItem.E S w p1 n1 l1) : Calls Try.prog 40 #[.agg #[.int .i64 x0, .slice p1 n1 c1]] w (Val (.int .i64 (l1.foldl fP 0)) w) := by
  have hb := box1 w (.cells #[.int .i64 x0, .slice p1 n1 c1] 65)
  have HBV := Lib.hid hb
  have HX := Lib.hid (Bx.new w 65 #[.int .i64 x0, .slice p1 n1 c1])
  have HR := Lib.hid (hr.below hb)
  have hle := hr.le
  have HL := Lib.hid hr.len
  skip
  clear hb hr
  go_enter Try.func40, Try.ntmps40
  go_wp2_with fail
  generalize (w.alloc (.cells #[.int .i64 x0, .slice p1 n1 c1] 65)) = V at HBV HX HR ⊢
  obtain ⟨v0, v1⟩ := DpArchive.bxc HX.out
  go_loopw [3, 11] (fun s i wr => ∃ (k : Nat) (q : Int), k ≤ n1 ∧ i = .int .i64 k ∧ s = .int .i64 q ∧ Hid (q = (l1.take k).foldl fP 0) ∧ Hid (Below V.heap.size V wr)) (fun _ i _ => n1 - (intOf i).toNat)
  case atStart => exact ⟨0, 0, Nat.zero_le _, rfl, rfl, Lib.hid rfl, Lib.hid (Below.refl _ _)⟩
  case round =>
    obtain ⟨k, q, hk, rfl, rfl, HQ, HB⟩ := hrel
    obtain ⟨W1, rfl⟩ : ∃ W1, W1 = wr := ⟨_, rfl⟩
    by_cases hlt : k < n1
    · skip
      obtain ⟨b, o, x_e, cs_e, rfl, _, hbwe, hxe, hce, hrde⟩ := HR.out.at_ hlt
      obtain ⟨xe0, xe1, ⟨xe2, le3, le4⟩, ⟨xe5, xe6, xe7, xe8, xe9, xe10, xe11, xe12, xe13⟩, ⟨le14, le15⟩⟩ := x_e
      obtain ⟨pe3, ne3, ce3, pe4, ne4, ce4, pe14, ne14, ce14, pe15, ne15, ce15, rfl, be0, be1, be2, he3, he4, be5, he14, he15⟩ := DpItem.ex hrde
      have hcce : ∀ jj v, [.int .i64 xe0, .int .i64 xe1, .int .i64 xe2, .slice pe3 ne3 ce3, .slice pe4 ne4 ce4, .int .i64 xe5, .int .i64 xe6, .int .i64 xe7, .int .i64 xe8, .int .i64 xe9, .int .i64 xe10, .int .i64 xe11, .int .i64 xe12, .int .i64 xe13, .slice pe14 ne14 ce14, .slice pe15 ne15 ce15][jj]? = some v → W1.cell? ⟨b, o + k * 16 + jj, none⟩ = some v := fun jj v hv => (HB.out.cell (p := ⟨b, o + k * 16 + jj, none⟩) hbwe).trans (hce jj v hv)
      have HXe := Lib.hid hxe
      have HCe := Lib.hid hcce
      have He3 := Lib.hid (he3.below HB.out)
      have hne3 := he3.le
      have He4 := Lib.hid (he4.below HB.out)
      have hne4 := he4.le
      have He14 := Lib.hid (he14.below HB.out)
      have hne14 := he14.le
      have He15 := Lib.hid (he15.below HB.out)
      have hne15 := he15.le
      have Gbe0 := Lib.hid be0
      have Gbe1 := Lib.hid be1
      have Gbe2 := Lib.hid be2
      have Gbe5 := Lib.hid be5
      obtain ⟨eu0, eu1, eu2, eu3, eu4, eu5, eu6, eu7, eu8, eu9, eu10, eu11, eu12, eu13, eu14, eu15⟩ := DpItem.at_cells hcce
      clear hcce hce hxe hrde be0 be1 be2 he3 he4 be5 he14 he15
      have hbW : b < W1.heap.size := Nat.lt_of_lt_of_le hbwe HB.out.size
      have HCC := HCe
      have hl15 := He15.out.len
      have HN : Hid (le15.foldl fR q = (l1.take (k + 1)).foldl fP 0) := Lib.hid (by rw [fold_take (f := fP) HXe.out, HQ.out]; rfl)
      have hbx := box1 W1 (.cells #[.int .i64 xe0, .int .i64 xe1, .int .i64 xe2, .slice pe3 ne3 ce3, .slice pe4 ne4 ce4, .int .i64 xe5, .int .i64 xe6, .int .i64 xe7, .int .i64 xe8, .int .i64 xe9, .int .i64 xe10, .int .i64 xe11, .int .i64 xe12, .int .i64 xe13, .slice pe14 ne14 ce14, .slice pe15 ne15 ce15] 121)
      have HB1 := Lib.hid (HB.out.trans (hbx.mono HB.out.size))
      have HC := Lib.hid (He15.out.below hbx)
      have WX := Lib.hid (Bx.new W1 121 #[.int .i64 xe0, .int .i64 xe1, .int .i64 xe2, .slice pe3 ne3 ce3, .slice pe4 ne4 ce4, .int .i64 xe5, .int .i64 xe6, .int .i64 xe7, .int .i64 xe8, .int .i64 xe9, .int .i64 xe10, .int .i64 xe11, .int .i64 xe12, .int .i64 xe13, .slice pe14 ne14 ce14, .slice pe15 ne15 ce15])
      clear hbx
      go_wp2_with fail
      go_loopw [3, 19] (fun s2 i2 ww => ∃ (j : Nat) (z : Int), j ≤ ne15 ∧ i2 = .int .i64 j ∧ s2 = .int .i64 z ∧ Hid (z = (le15.take j).foldl fR q) ∧ Hid (Below (W1.alloc (.cells #[.int .i64 xe0, .int .i64 xe1, .int .i64 xe2, .slice pe3 ne3 ce3, .slice pe4 ne4 ce4, .int .i64 xe5, .int .i64 xe6, .int .i64 xe7, .int .i64 xe8, .int .i64 xe9, .int .i64 xe10, .int .i64 xe11, .int .i64 xe12, .int .i64 xe13, .slice pe14 ne14 ce14, .slice pe15 ne15 ce15] 121)).heap.size (W1.alloc (.cells #[.int .i64 xe0, .int .i64 xe1, .int .i64 xe2, .slice pe3 ne3 ce3, .slice pe4 ne4 ce4, .int .i64 xe5, .int .i64 xe6, .int .i64 xe7, .int .i64 xe8, .int .i64 xe9, .int .i64 xe10, .int .i64 xe11, .int .i64 xe12, .int .i64 xe13, .slice pe14 ne14 ce14, .slice pe15 ne15 ce15] 121)) ww)) (fun _ i2 _ => ne15 - (intOf i2).toNat)
      case atStart => exact ⟨0, q, Nat.zero_le _, rfl, rfl, Lib.hid rfl, Lib.hid (Below.refl _ _)⟩
      case round =>
        obtain ⟨j, z, hj, rfl, rfl, HZ, HB2⟩ := hrel
        by_cases hlt2 : j < ne15
        · skip
          obtain ⟨b2, o2, x_r, cs_r, rfl, _, hbwr, hxr, hcr, hrdr⟩ := HC.out.at_ hlt2
          obtain ⟨xr0, xr1, xr2, lr3, lr4⟩ := x_r
          obtain ⟨pr3, nr3, cr3, pr4, nr4, cr4, rfl, br0, br1, br2, hr3, hr4⟩ := DpRenewal.ex hrdr
          have hccr : ∀ jj v, [.int .i64 xr0, .int .i64 xr1, .int .i64 xr2, .slice pr3 nr3 cr3, .slice pr4 nr4 cr4][jj]? = some v → wr.cell? ⟨b2, o2 + j * 5 + jj, none⟩ = some v := fun jj v hv => (HB2.out.cell (p := ⟨b2, o2 + j * 5 + jj, none⟩) hbwr).trans (hcr jj v hv)
          have HXr := Lib.hid hxr
          have HCr := Lib.hid hccr
          have Hr3 := Lib.hid (hr3.below HB2.out)
          have hnr3 := hr3.le
          have Hr4 := Lib.hid (hr4.below HB2.out)
          have hnr4 := hr4.le
          have Gbr0 := Lib.hid br0
          have Gbr1 := Lib.hid br1
          have Gbr2 := Lib.hid br2
          obtain ⟨y0, y1, y2, y3, y4⟩ := DpRenewal.at_cells hccr
          clear hccr hcr hxr hrdr br0 br1 br2 hr3 hr4
          have hl3 := Hr3.out.le
          have HN2 : Hid (Ints.maxI z nr3 = (le15.take (j + 1)).foldl fR q) := Lib.hid (by rw [fold_take (f := fR) HXr.out, HZ.out]; show _ = Ints.maxI _ (lr3.length : Int); rw [Hr3.out.len])
          go_wp2_with fail
          refine (Ints.max_any z nr3 _).mono ?_
          rintro e w2 ⟨rfl, rfl⟩
          skip
          clear y0 y1 y2 y3 y4
          have HB3 := Lib.hid ((HB2.out.alloc HB2.out.size (.cells #[.int .i64 xr0, .int .i64 xr1, .int .i64 xr2, .slice pr3 nr3 cr3, .slice pr4 nr4 cr4] 127)).alloc (Nat.le_trans HB2.out.size (by simp)) (.cells #[.int .i64 nr3] 3))
          go_wp2_with fail
          go_roundw
          case rel => exact ⟨j + 1, Ints.maxI z nr3, by omega, by go_num, rfl, HN2, HB3⟩
          case measure => simp [intOf]; omega
        · obtain rfl : j = ne15 := by omega
          have HN3 : Hid (z = (l1.take (k + 1)).foldl fP 0) := Lib.hid (by rw [HZ.out, fold_all hl15]; exact HN.out)
          have HB4 := Lib.hid (HB1.out.trans (HB2.out.mono HB1.out.size))
          go_wp2_with fail
          go_roundw
          case rel => exact ⟨k + 1, z, by omega, by go_num, rfl, HN3, HB4⟩
          case measure => simp [intOf]; omega
    · obtain rfl : k = n1 := by omega
      have HV : Hid (q = l1.foldl fP 0) := Lib.hid (by rw [HQ.out, fold_all HL.out])
      have HBf := Lib.hid (HBV.out.trans (HB.out.mono HBV.out.size))
      go_wp2_with fail
      go_ret
      refine val_of ?_ HBf.out
      rw [← HV.out]
      first | done | rfl
set_option maxRecDepth 100000 in
set_option maxHeartbeats 8000000 in
theorem spec_longest_any (x0 : Int) (l1 : List DpItem.A) (p1 : Option Addr) (n1 c1 : Nat) {S : Nat → Prop} (w : World) (hr : RdD DpItem.E S w p1 n1 l1) : Calls Try.prog 39 #[.agg #[.int .i64 x0, .slice p1 n1 c1]] w (Val (.int .i64 (l1.foldl fP 0)) w) := by
  have hb := box1 w (.cells #[.int .i64 x0, .slice p1 n1 c1] 65)
  have HBV := Lib.hid hb
  have HX := Lib.hid (Bx.new w 65 #[.int .i64 x0, .slice p1 n1 c1])
  have HR := Lib.hid (hr.below hb)
  have hle := hr.le
  have HL := Lib.hid hr.len
  skip
  clear hb hr
  go_enter Try.func39, Try.ntmps39
  go_wp2_with fail
  generalize (w.alloc (.cells #[.int .i64 x0, .slice p1 n1 c1] 65)) = V at HBV HX HR ⊢
  obtain ⟨v0, v1⟩ := DpArchive.bxc HX.out
  go_loopw [3, 4] (fun s i wr => ∃ (k : Nat) (q : Int), k ≤ n1 ∧ i = .int .i64 k ∧ s = .int .i64 q ∧ Hid (q = (l1.take k).foldl fP 0) ∧ Hid (Below V.heap.size V wr)) (fun _ i _ => n1 - (intOf i).toNat)
  case atStart => exact ⟨0, 0, Nat.zero_le _, rfl, rfl, Lib.hid rfl, Lib.hid (Below.refl _ _)⟩
  case round =>
    obtain ⟨k, q, hk, rfl, rfl, HQ, HB⟩ := hrel
    obtain ⟨W1, rfl⟩ : ∃ W1, W1 = wr := ⟨_, rfl⟩
    clear v0 v1
    obtain ⟨v0, v1⟩ := DpArchive.bxc (HX.out.below HB.out)
    by_cases hlt : k < n1
    · skip
      obtain ⟨b, o, x_e, cs_e, rfl, _, hbwe, hxe, hce, hrde⟩ := HR.out.at_ hlt
      obtain ⟨xe0, xe1, ⟨xe2, le3, le4⟩, ⟨xe5, xe6, xe7, xe8, xe9, xe10, xe11, xe12, xe13⟩, ⟨le14, le15⟩⟩ := x_e
      obtain ⟨pe3, ne3, ce3, pe4, ne4, ce4, pe14, ne14, ce14, pe15, ne15, ce15, rfl, be0, be1, be2, he3, he4, be5, he14, he15⟩ := DpItem.ex hrde
      have hcce : ∀ jj v, [.int .i64 xe0, .int .i64 xe1, .int .i64 xe2, .slice pe3 ne3 ce3, .slice pe4 ne4 ce4, .int .i64 xe5, .int .i64 xe6, .int .i64 xe7, .int .i64 xe8, .int .i64 xe9, .int .i64 xe10, .int .i64 xe11, .int .i64 xe12, .int .i64 xe13, .slice pe14 ne14 ce14, .slice pe15 ne15 ce15][jj]? = some v → W1.cell? ⟨b, o + k * 16 + jj, none⟩ = some v := fun jj v hv => (HB.out.cell (p := ⟨b, o + k * 16 + jj, none⟩) hbwe).trans (hce jj v hv)
      have HXe := Lib.hid hxe
      have HCe := Lib.hid hcce
      have He3 := Lib.hid (he3.below HB.out)
      have hne3 := he3.le
      have He4 := Lib.hid (he4.below HB.out)
      have hne4 := he4.le
      have He14 := Lib.hid (he14.below HB.out)
      have hne14 := he14.le
      have He15 := Lib.hid (he15.below HB.out)
      have hne15 := he15.le
      have Gbe0 := Lib.hid be0
      have Gbe1 := Lib.hid be1
      have Gbe2 := Lib.hid be2
      have Gbe5 := Lib.hid be5
      obtain ⟨eu0, eu1, eu2, eu3, eu4, eu5, eu6, eu7, eu8, eu9, eu10, eu11, eu12, eu13, eu14, eu15⟩ := DpItem.at_cells hcce
      clear hcce hce hxe hrde be0 be1 be2 he3 he4 be5 he14 he15
      have hbW : b < W1.heap.size := Nat.lt_of_lt_of_le hbwe HB.out.size
      have HCC := HCe
      have hl15 := He15.out.len
      have HN : Hid (le15.foldl fR q = (l1.take (k + 1)).foldl fP 0) := Lib.hid (by rw [fold_take (f := fP) HXe.out, HQ.out]; rfl)
      have HB1 := HB
      have HC := He15
      go_wp2_with fail
      go_loopw [3, 5] (fun s2 i2 ww => ∃ (j : Nat) (z : Int), j ≤ ne15 ∧ i2 = .int .i64 j ∧ s2 = .int .i64 z ∧ Hid (z = (le15.take j).foldl fR q) ∧ Hid (Below W1.heap.size W1 ww)) (fun _ i2 _ => ne15 - (intOf i2).toNat)
      case atStart => exact ⟨0, q, Nat.zero_le _, rfl, rfl, Lib.hid rfl, Lib.hid (Below.refl _ _)⟩
      case round =>
        obtain ⟨j, z, hj, rfl, rfl, HZ, HB2⟩ := hrel
        clear v0 v1 eu0 eu1 eu2 eu3 eu4 eu5 eu6 eu7 eu8 eu9 eu10 eu11 eu12 eu13 eu14 eu15
        have hB2 := HB1.out.trans (HB2.out.mono HB1.out.size)
        obtain ⟨v0, v1⟩ := DpArchive.bxc (HX.out.below hB2)
        obtain ⟨eu0, eu1, eu2, eu3, eu4, eu5, eu6, eu7, eu8, eu9, eu10, eu11, eu12, eu13, eu14, eu15⟩ := DpItem.at_cells (q := o + k * 16) fun jj v hv => (HB2.out.cell (p := ⟨b, o + k * 16 + jj, none⟩) hbW).trans (HCC.out jj v hv)
        clear hB2
        by_cases hlt2 : j < ne15
        · skip
          obtain ⟨b2, o2, x_r, cs_r, rfl, _, hbwr, hxr, hcr, hrdr⟩ := HC.out.at_ hlt2
          obtain ⟨xr0, xr1, xr2, lr3, lr4⟩ := x_r
          obtain ⟨pr3, nr3, cr3, pr4, nr4, cr4, rfl, br0, br1, br2, hr3, hr4⟩ := DpRenewal.ex hrdr
          have hccr : ∀ jj v, [.int .i64 xr0, .int .i64 xr1, .int .i64 xr2, .slice pr3 nr3 cr3, .slice pr4 nr4 cr4][jj]? = some v → wr.cell? ⟨b2, o2 + j * 5 + jj, none⟩ = some v := fun jj v hv => (HB2.out.cell (p := ⟨b2, o2 + j * 5 + jj, none⟩) hbwr).trans (hcr jj v hv)
          have HXr := Lib.hid hxr
          have HCr := Lib.hid hccr
          have Hr3 := Lib.hid (hr3.below HB2.out)
          have hnr3 := hr3.le
          have Hr4 := Lib.hid (hr4.below HB2.out)
          have hnr4 := hr4.le
          have Gbr0 := Lib.hid br0
          have Gbr1 := Lib.hid br1
          have Gbr2 := Lib.hid br2
          obtain ⟨y0, y1, y2, y3, y4⟩ := DpRenewal.at_cells hccr
          clear hccr hcr hxr hrdr br0 br1 br2 hr3 hr4
          have hl3 := Hr3.out.le
          have HN2 : Hid (Ints.maxI z nr3 = (le15.take (j + 1)).foldl fR q) := Lib.hid (by rw [fold_take (f := fR) HXr.out, HZ.out]; show _ = Ints.maxI _ (lr3.length : Int); rw [Hr3.out.len])
          go_wp2_with fail
          refine (Ints.spec_max_any z nr3 _).mono ?_
          rintro e w2 ⟨rfl, hw2⟩
          subst hw2
          clear y0 y1 y2 y3 y4
          have HB3 := HB2
          go_wp2_with fail
          go_roundw
          case rel => exact ⟨j + 1, Ints.maxI z nr3, by omega, by go_num, rfl, HN2, HB3⟩
          case measure => simp [intOf]; omega
        · obtain rfl : j = ne15 := by omega
          have HN3 : Hid (z = (l1.take (k + 1)).foldl fP 0) := Lib.hid (by rw [HZ.out, fold_all hl15]; exact HN.out)
          have HB4 := Lib.hid (HB1.out.trans (HB2.out.mono HB1.out.size))
          go_wp2_with fail
          go_roundw
          case rel => exact ⟨k + 1, z, by omega, by go_num, rfl, HN3, HB4⟩
          case measure => simp [intOf]; omega
    · obtain rfl : k = n1 := by omega
      have HV : Hid (q = l1.foldl fP 0) := Lib.hid (by rw [HQ.out, fold_all HL.out])
      have HBf := Lib.hid (HBV.out.trans (HB.out.mono HBV.out.size))
      go_wp2_with fail
      go_ret
      refine val_of ?_ HBf.out
      rw [← HV.out]
      first | done | rfl
end Go.Proofs.Ytapijjdjaamldaa.Al
