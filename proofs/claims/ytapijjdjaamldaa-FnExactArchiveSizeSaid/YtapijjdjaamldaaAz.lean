/- The size of the strands of an archive; in the program and in the reference. -/
import Derived.Test.YtapijjdjaamldaaAc
import Derived.LoopTactic
import Derived.Outline
namespace Go.Proofs.Ytapijjdjaamldaa.Az
open Go.ChangeShapes Go.WideShapes Go.ChangeAt Go.RowKit Sl St Ed Dz Es Ac
def mP (x : DpItem.A) : Nat := sumBy Sz.lP (chain x)
theorem mP_le (xs : List DpItem.A) : sumBy mP xs ≤ wts DpItem.E xs := by
  have h := sumBy_bound (E := DpItem.E) (f := mP) 0 1 (fun x => by
    obtain ⟨x0, x1, ⟨x2, l3, l4⟩, ⟨x5, x6, x7, x8, x9, x10, x11, x12, x13⟩, l14, l15⟩ := x
    have h1 := Sz.sI_le l14
    have h2 := Sz.sP_le l15
    have h3 := Sz.sS_le l15
    rw [DpItem.wt_eq, DpStrand.wt_eq]
    show sumBy Sz.lP l15 ≤ _
    omega) xs
  omega
def mS (x : DpItem.A) : Nat := sumBy Sz.lS (chain x)
theorem mS_le (xs : List DpItem.A) : sumBy mS xs ≤ wts DpItem.E xs := by
  have h := sumBy_bound (E := DpItem.E) (f := mS) 0 1 (fun x => by
    obtain ⟨x0, x1, ⟨x2, l3, l4⟩, ⟨x5, x6, x7, x8, x9, x10, x11, x12, x13⟩, l14, l15⟩ := x
    have h1 := Sz.sI_le l14
    have h2 := Sz.sP_le l15
    have h3 := Sz.sS_le l15
    rw [DpItem.wt_eq, DpStrand.wt_eq]
    show sumBy Sz.lS l15 ≤ _
    omega) xs
  omega
def mD (x : DpItem.A) : Nat := x.2.2.2.2.1.length
theorem mD_le (xs : List DpItem.A) : sumBy mD xs ≤ wts DpItem.E xs := by
  have h := sumBy_bound (E := DpItem.E) (f := mD) 0 1 (fun x => by
    obtain ⟨x0, x1, ⟨x2, l3, l4⟩, ⟨x5, x6, x7, x8, x9, x10, x11, x12, x13⟩, l14, l15⟩ := x
    have h1 := Sz.sI_le l14
    have h2 := Sz.sP_le l15
    have h3 := Sz.sS_le l15
    rw [DpItem.wt_eq, DpStrand.wt_eq]
    show l14.length ≤ _
    omega) xs
  omega
def mI (x : DpItem.A) : Nat := sumBy Sz.lI x.2.2.2.2.1
theorem mI_le (xs : List DpItem.A) : sumBy mI xs ≤ wts DpItem.E xs := by
  have h := sumBy_bound (E := DpItem.E) (f := mI) 0 1 (fun x => by
    obtain ⟨x0, x1, ⟨x2, l3, l4⟩, ⟨x5, x6, x7, x8, x9, x10, x11, x12, x13⟩, l14, l15⟩ := x
    have h1 := Sz.sI_le l14
    have h2 := Sz.sP_le l15
    have h3 := Sz.sS_le l15
    rw [DpItem.wt_eq, DpStrand.wt_eq]
    show sumBy Sz.lI l14 ≤ _
    omega) xs
  omega
def tot (xs : List DpItem.A) : Int := (sumBy lC xs : Nat) * 3 + (sumBy mP xs : Nat) * 2 + (sumBy mS xs : Nat) * 6 + (sumBy mD xs : Nat) * 2 + (sumBy mI xs : Nat)
theorem tot_take {xs : List DpItem.A} {k : Nat} {x : DpItem.A} (h : xs[k]? = some x) : tot (xs.take (k + 1)) = tot (xs.take k) + Sz.stz x.2.2.2.2.1 (chain x) := by
  unfold tot Sz.stz
  rw [sumBy_take (f := lC) h, sumBy_take (f := mP) h, sumBy_take (f := mS) h, sumBy_take (f := mD) h, sumBy_take (f := mI) h]
  have e1 : lC x = (chain x).length := rfl
  have e2 : mP x = sumBy Sz.lP (chain x) := rfl
  have e3 : mS x = sumBy Sz.lS (chain x) := rfl
  have e4 : mD x = x.2.2.2.2.1.length := rfl
  have e5 : mI x = sumBy Sz.lI x.2.2.2.2.1 := rfl
  rw [e1, e2, e3, e4, e5]
  omega
theorem tot_bound (xs : List DpItem.A) (k : Nat) (h : wts DpItem.E xs ≤ 1048576) : 0 ≤ tot (xs.take k) ∧ tot (xs.take k) ≤ 14680064 := by
  have h1 := sumBy_le (f := lC) xs k
  have h2 := sumBy_le (f := mP) xs k
  have h3 := sumBy_le (f := mS) xs k
  have h4 := sumBy_le (f := mD) xs k
  have h5 := sumBy_le (f := mI) xs k
  have g1 := sC_le xs
  have g2 := mP_le xs
  have g3 := mS_le xs
  have g4 := mD_le xs
  have g5 := mI_le xs
  unfold tot
  omega
set_option maxRecDepth 100000 in
set_option maxHeartbeats 8000000 in
theorem size_any (x0 : Int) (l1 : List DpItem.A) (p1 : Option Addr) (n1 c1 : Nat) {S : Nat → Prop} (w : World) (hr : RdD DpItem.E S w p1 n1 l1) (hm : n1 + wts DpItem.E l1 ≤ 1048576) : Calls Try.prog 42 #[.agg #[.int .i64 x0, .slice p1 n1 c1]] w (Val (.int .i64 (tot l1)) w) := by
  have hb : Below w.heap.size w ((w.alloc (.cells #[.int .i64 x0, .slice p1 n1 c1] 65)).alloc (.cells #[.int .i64 0, .int .i64 0, .int .i64 0, .int .i64 0, .int .i64 0] 129)) := (box1 w _).alloc (by simp) _
  have hy := Bx.new (w.alloc (.cells #[.int .i64 x0, .slice p1 n1 c1] 65)) 129 #[.int .i64 0, .int .i64 0, .int .i64 0, .int .i64 0, .int .i64 0]
  rw [World.size_alloc] at hy
  have HBV := Lib.hid hb
  have HG := Lib.hid hy
  have HR := Lib.hid ((Sz.fresh hr).below hb)
  have hle := hr.le
  have HL := Lib.hid hr.len
  have HM := Lib.hid hm
  have HX := Lib.hid ((Bx.new w 65 #[.int .i64 x0, .slice p1 n1 c1]).alloc (.cells #[.int .i64 0, .int .i64 0, .int .i64 0, .int .i64 0, .int .i64 0] 129))
  clear hb hy hr hm
  go_enter Try.func42, Try.ntmps42
  go_wp2_with fail
  generalize ((w.alloc (.cells #[.int .i64 x0, .slice p1 n1 c1] 65)).alloc (.cells #[.int .i64 0, .int .i64 0, .int .i64 0, .int .i64 0, .int .i64 0] 129)) = V at HBV HG HR HX ⊢
  obtain ⟨v0, v1⟩ := DpArchive.bxc HX.out
  go_loopw [9] (fun i wr => ∃ k : Nat, k ≤ n1 ∧ i = .int .i64 k ∧ Hid (Bx wr (w.heap.size + 1) 129 #[.int .i64 (sumBy lC (l1.take k) : Nat), .int .i64 (sumBy mP (l1.take k) : Nat), .int .i64 (sumBy mS (l1.take k) : Nat), .int .i64 (sumBy mD (l1.take k) : Nat), .int .i64 (sumBy mI (l1.take k) : Nat)]) ∧ Hid (V.grownBy wr (some (w.heap.size + 1)))) (fun i _ => n1 - (intOf i).toNat)
  case atStart => exact ⟨0, Nat.zero_le _, rfl, Lib.hid (by simpa [sumBy] using HG.out), Lib.hid (Sz.grown_refl _ _)⟩
  case round =>
    obtain ⟨k, hk, rfl, HK, HT⟩ := hrel
    by_cases hlt : k < n1
    · have HRk := Lib.hid (HR.out.grown HT.out (fun b hb _ e => by cases e; omega))
      have HBr := Lib.hid (Below.refl wr.heap.size wr)
      obtain ⟨b, o, x_e, cs_e, rfl, _, hbwe, hxe, hce, hrde⟩ := HRk.out.at_ hlt
      obtain ⟨xe0, xe1, ⟨xe2, le3, le4⟩, ⟨xe5, xe6, xe7, xe8, xe9, xe10, xe11, xe12, xe13⟩, ⟨le14, le15⟩⟩ := x_e
      obtain ⟨pe3, ne3, ce3, pe4, ne4, ce4, pe14, ne14, ce14, pe15, ne15, ce15, rfl, be0, be1, be2, he3, he4, be5, he14, he15⟩ := DpItem.ex hrde
      have hcce : ∀ jj v, [.int .i64 xe0, .int .i64 xe1, .int .i64 xe2, .slice pe3 ne3 ce3, .slice pe4 ne4 ce4, .int .i64 xe5, .int .i64 xe6, .int .i64 xe7, .int .i64 xe8, .int .i64 xe9, .int .i64 xe10, .int .i64 xe11, .int .i64 xe12, .int .i64 xe13, .slice pe14 ne14 ce14, .slice pe15 ne15 ce15][jj]? = some v → wr.cell? ⟨b, o + k * 16 + jj, none⟩ = some v := fun jj v hv => (HBr.out.cell (p := ⟨b, o + k * 16 + jj, none⟩) hbwe).trans (hce jj v hv)
      have HXe := Lib.hid hxe
      have HCe := Lib.hid hcce
      have He3 := Lib.hid (he3.below HBr.out)
      have hne3 := he3.le
      have He4 := Lib.hid (he4.below HBr.out)
      have hne4 := he4.le
      have He14 := Lib.hid (he14.below HBr.out)
      have hne14 := he14.le
      have He15 := Lib.hid (he15.below HBr.out)
      have hne15 := he15.le
      have Gbe0 := Lib.hid be0
      have Gbe1 := Lib.hid be1
      have Gbe2 := Lib.hid be2
      have Gbe5 := Lib.hid be5
      obtain ⟨u0, u1, u2, u3, u4, u5, u6, u7, u8, u9, u10, u11, u12, u13, u14, u15⟩ := DpItem.at_cells hcce
      clear hcce hce hxe hrde be0 be1 be2 he3 he4 be5 he14 he15
      have hK1 := HK.out.alloc (.cells #[.int .i64 xe0, .int .i64 xe1, .int .i64 xe2, .slice pe3 ne3 ce3, .slice pe4 ne4 ce4, .int .i64 xe5, .int .i64 xe6, .int .i64 xe7, .int .i64 xe8, .int .i64 xe9, .int .i64 xe10, .int .i64 xe11, .int .i64 xe12, .int .i64 xe13, .slice pe14 ne14 ce14, .slice pe15 ne15 ce15] 121)
      have hT1 := Sz.grown_trans HT.out (grown_alloc (Sz.grown_refl wr (w.heap.size + 1)) (.cells #[.int .i64 xe0, .int .i64 xe1, .int .i64 xe2, .slice pe3 ne3 ce3, .slice pe4 ne4 ce4, .int .i64 xe5, .int .i64 xe6, .int .i64 xe7, .int .i64 xe8, .int .i64 xe9, .int .i64 xe10, .int .i64 xe11, .int .i64 xe12, .int .i64 xe13, .slice pe14 ne14 ce14, .slice pe15 ne15 ce15] 121))
      have HK1 := Lib.hid hK1
      have HT1 := Lib.hid hT1
      have D14 := Lib.hid (He14.out.alloc (.cells #[.int .i64 xe0, .int .i64 xe1, .int .i64 xe2, .slice pe3 ne3 ce3, .slice pe4 ne4 ce4, .int .i64 xe5, .int .i64 xe6, .int .i64 xe7, .int .i64 xe8, .int .i64 xe9, .int .i64 xe10, .int .i64 xe11, .int .i64 xe12, .int .i64 xe13, .slice pe14 ne14 ce14, .slice pe15 ne15 ce15] 121))
      have D15 := Lib.hid (He15.out.alloc (.cells #[.int .i64 xe0, .int .i64 xe1, .int .i64 xe2, .slice pe3 ne3 ce3, .slice pe4 ne4 ce4, .int .i64 xe5, .int .i64 xe6, .int .i64 xe7, .int .i64 xe8, .int .i64 xe9, .int .i64 xe10, .int .i64 xe11, .int .i64 xe12, .int .i64 xe13, .slice pe14 ne14 ce14, .slice pe15 ne15 ce15] 121))
      have hlen14 := He14.out.len
      have hlen15 := He15.out.len
      have q1 : sumBy lC (l1.take k) ≤ 1048576 := by have h := HM.out; have := sumBy_le (f := lC) l1 k; have := sC_le l1; omega
      have q2 : sumBy mP (l1.take k) ≤ 1048576 := by have h := HM.out; have := sumBy_le (f := mP) l1 k; have := mP_le l1; omega
      have q3 : sumBy mS (l1.take k) ≤ 1048576 := by have h := HM.out; have := sumBy_le (f := mS) l1 k; have := mS_le l1; omega
      have q4 : sumBy mD (l1.take k) ≤ 1048576 := by have h := HM.out; have := sumBy_le (f := mD) l1 k; have := mD_le l1; omega
      have q5 : sumBy mI (l1.take k) ≤ 1048576 := by have h := HM.out; have := sumBy_le (f := mI) l1 k; have := mI_le l1; omega
      have hwt := wts_at (E := DpItem.E) HXe.out
      have hw1 : DpStrand.E.wt (le14, le15) ≤ 1048576 := by rw [DpItem.wt_eq] at hwt; have h := HM.out; omega
      have s1 : sumBy lC (l1.take (k + 1)) = sumBy lC (l1.take k) + ne15 := by rw [sumBy_take (f := lC) HXe.out, ← hlen15]; rfl
      have s2 : sumBy mP (l1.take (k + 1)) = sumBy mP (l1.take k) + sumBy Sz.lP le15 := by rw [sumBy_take (f := mP) HXe.out]; rfl
      have s3 : sumBy mS (l1.take (k + 1)) = sumBy mS (l1.take k) + sumBy Sz.lS le15 := by rw [sumBy_take (f := mS) HXe.out]; rfl
      have s4 : sumBy mD (l1.take (k + 1)) = sumBy mD (l1.take k) + ne14 := by rw [sumBy_take (f := mD) HXe.out, ← hlen14]; rfl
      have s5 : sumBy mI (l1.take (k + 1)) = sumBy mI (l1.take k) + sumBy Sz.lI le14 := by rw [sumBy_take (f := mI) HXe.out]; rfl
      have HS := Lib.hid (And.intro s1 (And.intro s2 (And.intro s3 (And.intro s4 s5))))
      have HW1 := Lib.hid hw1
      clear hwt s1 s2 s3 s4 s5 hlen14 hlen15 hK1 hT1 hw1
      go_wp2_with fail
      refine (Sz.countStrand_any (w.heap.size + 1) _ _ _ _ _ le14 _ _ _ le15 _ _ _ _ HK1.out D14.out D15.out (by omega) (by omega) HW1.out (by omega) (by omega) (by omega) (by omega) (by omega) (by omega) (by omega) (by omega) (by omega) (by omega)).mono ?_
      rintro e w2 ⟨rfl, hb2, hg2⟩
      have HT2 := Lib.hid (Sz.grown_trans HT1.out hg2)
      have HK2 : Hid (Bx w2 (w.heap.size + 1) 129 #[.int .i64 (sumBy lC (l1.take (k + 1)) : Nat), .int .i64 (sumBy mP (l1.take (k + 1)) : Nat), .int .i64 (sumBy mS (l1.take (k + 1)) : Nat), .int .i64 (sumBy mD (l1.take (k + 1)) : Nat), .int .i64 (sumBy mI (l1.take (k + 1)) : Nat)]) := Lib.hid (by
        obtain ⟨s1, s2, s3, s4, s5⟩ := HS.out
        rw [s1, s2, s3, s4, s5, Int.natCast_add, Int.natCast_add, Int.natCast_add, Int.natCast_add, Int.natCast_add]
        exact hb2)
      clear hb2 hg2 u0 u1 u2 u3 u4 u5 u6 u7 u8 u9 u10 u11 u12 u13 u14 u15
      go_wp2_with fail
      go_roundw
      case rel => exact ⟨k + 1, by omega, by go_num, HK2, HT2⟩
      case measure => simp [intOf]; omega
    · obtain rfl : k = n1 := by omega
      have hK := HK.out
      rw [← HL.out, List.take_length] at hK
      have HK2 := Lib.hid hK
      clear hK
      have HBf : Hid (Below w.heap.size w wr) := Lib.hid (HBV.out.grown HT.out (HBV.out.size) (fun k e => by cases e; omega))
      have q1 : sumBy lC l1 ≤ 1048576 := by have h := HM.out; have := sC_le l1; omega
      have q2 : sumBy mP l1 ≤ 1048576 := by have h := HM.out; have := mP_le l1; omega
      have q3 : sumBy mS l1 ≤ 1048576 := by have h := HM.out; have := mS_le l1; omega
      have q4 : sumBy mD l1 ≤ 1048576 := by have h := HM.out; have := mD_le l1; omega
      have q5 : sumBy mI l1 ≤ 1048576 := by have h := HM.out; have := mI_le l1; omega
      obtain ⟨y0, y1, y2, y3, y4⟩ := DpRenewal.bxc HK2.out
      go_wp2_with fail
      refine (Rz.size_any _ _ _ _ _ _ ⟨by omega, by omega⟩ ⟨by omega, by omega⟩ ⟨by omega, by omega⟩ ⟨by omega, by omega⟩ ⟨by omega, by omega⟩).mono ?_
      rintro e w2 ⟨rfl, hb⟩
      have HB2 := Lib.hid (below_on HBf.out hb)
      have HV : Hid (tot l1 = Rz.part (sumBy lC l1 : Nat) (sumBy mP l1 : Nat) (sumBy mS l1 : Nat) (sumBy mD l1 : Nat) (sumBy mI l1 : Nat) 5) := Lib.hid rfl
      clear hb
      go_wp2_with fail
      go_ret
      refine val_of ?_ HB2.out
      rw [HV.out]
      first | done | rfl
set_option maxRecDepth 100000 in
set_option maxHeartbeats 8000000 in
theorem spec_size_any (x0 : Int) (l1 : List DpItem.A) (p1 : Option Addr) (n1 c1 : Nat) {S : Nat → Prop} (w : World) (hr : RdD DpItem.E S w p1 n1 l1) (hm : n1 + wts DpItem.E l1 ≤ 1048576) : Calls Try.prog 41 #[.agg #[.int .i64 x0, .slice p1 n1 c1]] w (Val (.int .i64 (tot l1)) w) := by
  have hb := box1 w (.cells #[.int .i64 x0, .slice p1 n1 c1] 65)
  have HBV := Lib.hid hb
  have HX := Lib.hid (Bx.new w 65 #[.int .i64 x0, .slice p1 n1 c1])
  have HR := Lib.hid (hr.below hb)
  have hle := hr.le
  have HL := Lib.hid hr.len
  have HM := Lib.hid hm
  clear hm
  clear hb hr
  go_enter Try.func41, Try.ntmps41
  go_wp2_with fail
  generalize (w.alloc (.cells #[.int .i64 x0, .slice p1 n1 c1] 65)) = V at HBV HX HR ⊢
  obtain ⟨v0, v1⟩ := DpArchive.bxc HX.out
  go_loopw [3, 4] (fun s i wr => ∃ (k : Nat) (q : Int), k ≤ n1 ∧ i = .int .i64 k ∧ s = .int .i64 q ∧ Hid (q = tot (l1.take k)) ∧ Hid (Below V.heap.size V wr)) (fun _ i _ => n1 - (intOf i).toNat)
  case atStart => exact ⟨0, 0, Nat.zero_le _, rfl, rfl, Lib.hid rfl, Lib.hid (Below.refl _ _)⟩
  case round =>
    obtain ⟨k, q, hk, rfl, rfl, HQ, HB⟩ := hrel
    clear v0 v1
    obtain ⟨v0, v1⟩ := DpArchive.bxc (HX.out.below HB.out)
    by_cases hlt : k < n1
    · skip
      obtain ⟨b, o, x_e, cs_e, rfl, _, hbwe, hxe, hce, hrde⟩ := HR.out.at_ hlt
      obtain ⟨xe0, xe1, ⟨xe2, le3, le4⟩, ⟨xe5, xe6, xe7, xe8, xe9, xe10, xe11, xe12, xe13⟩, ⟨le14, le15⟩⟩ := x_e
      obtain ⟨pe3, ne3, ce3, pe4, ne4, ce4, pe14, ne14, ce14, pe15, ne15, ce15, rfl, be0, be1, be2, he3, he4, be5, he14, he15⟩ := DpItem.ex hrde
      have hcce : ∀ jj v, [.int .i64 xe0, .int .i64 xe1, .int .i64 xe2, .slice pe3 ne3 ce3, .slice pe4 ne4 ce4, .int .i64 xe5, .int .i64 xe6, .int .i64 xe7, .int .i64 xe8, .int .i64 xe9, .int .i64 xe10, .int .i64 xe11, .int .i64 xe12, .int .i64 xe13, .slice pe14 ne14 ce14, .slice pe15 ne15 ce15][jj]? = some v → wr.cell? ⟨b, o + k * 16 + jj, none⟩ = some v := fun jj v hv => (HB.out.cell (p := ⟨b, o + k * 16 + jj, none⟩) hbwe).trans (hce jj v hv)
      have HXe := Lib.hid hxe
      have HCe := Lib.hid hcce
      have He3 := Lib.hid (he3.below HB.out)
      have hne3 := he3.le
      have He4 := Lib.hid (he4.below HB.out)
      have hne4 := he4.le
      have He14 := Lib.hid (he14.below HB.out)
      have hne14 := he14.le
      have He15 := Lib.hid (he15.below HB.out)
      have hne15 := he15.le
      have Gbe0 := Lib.hid be0
      have Gbe1 := Lib.hid be1
      have Gbe2 := Lib.hid be2
      have Gbe5 := Lib.hid be5
      obtain ⟨u0, u1, u2, u3, u4, u5, u6, u7, u8, u9, u10, u11, u12, u13, u14, u15⟩ := DpItem.at_cells hcce
      clear hcce hce hxe hrde be0 be1 be2 he3 he4 be5 he14 he15
      have hwt := wts_at (E := DpItem.E) HXe.out
      have hw1 : DpStrand.E.wt (le14, le15) ≤ 1048576 := by rw [DpItem.wt_eq] at hwt; have h := HM.out; omega
      have hst : tot (l1.take (k + 1)) = q + Sz.stz le14 le15 := by rw [tot_take HXe.out, HQ.out]; rfl
      have hq := tot_bound l1 k (by have h := HM.out; omega)
      have hq2 := tot_bound l1 (k + 1) (by have h := HM.out; omega)
      rw [← HQ.out] at hq
      rw [hst] at hq2
      have HST := Lib.hid hst
      have HW1 := Lib.hid hw1
      clear hwt hw1 hst
      go_wp2_with fail
      refine (Sz.spec_size_any' le14 _ _ _ le15 _ _ _ _ He14.out He15.out HW1.out).mono ?_
      rintro e w2 ⟨rfl, hb2⟩
      have HB2 := Lib.hid (below_on HB.out hb2)
      obtain ⟨z, hz⟩ : ∃ z, Sz.stz le14 le15 = z := ⟨_, rfl⟩
      rw [hz] at HST hq2 ⊢
      clear hb2 hz u0 u1 u2 u3 u4 u5 u6 u7 u8 u9 u10 u11 u12 u13 u14 u15
      go_wp2_with fail
      go_roundw
      case rel => exact ⟨k + 1, q + z, by omega, by go_num, by first | go_num | (congr 1; omega), Lib.hid HST.out.symm, HB2⟩
      case measure => simp [intOf]; omega
    · obtain rfl : k = n1 := by omega
      have hQ := HQ.out
      rw [← HL.out, List.take_length] at hQ
      have HV := Lib.hid hQ
      clear hQ
      have HBf := Lib.hid (HBV.out.trans (HB.out.mono HBV.out.size))
      go_wp2_with fail
      go_ret
      refine val_of ?_ HBf.out
      rw [← HV.out]
      first | done | rfl
end Go.Proofs.Ytapijjdjaamldaa.Az
