/- Sums and largest numbers over the items of an archive; in the program and in the reference. -/
import Derived.Test.YtapijjdjaamldaaDpArchive
import Derived.Test.YtapijjdjaamldaaEs
import Derived.Test.YtapijjdjaamldaaMin
import Derived.Test.YtapijjdjaamldaaSz
import Derived.LoopTactic
import Derived.Outline
namespace Go.Proofs.Ytapijjdjaamldaa.Ac
open Go.ChangeShapes Go.WideShapes Go.ChangeAt Go.RowKit Sl St Ed Dz Es
theorem fold_take {α β : Type} {f : β → α → β} {z : β} {xs : List α} {k : Nat} {x : α} (h : xs[k]? = some x) : (xs.take (k + 1)).foldl f z = f ((xs.take k).foldl f z) x := by
  rw [List.take_add_one, h]
  simp
theorem fold_all {α β : Type} {f : β → α → β} {z : β} {xs : List α} {n : Nat} (h : xs.length = n) : (xs.take n).foldl f z = xs.foldl f z := by rw [← h, List.take_length]
def chain (x : DpItem.A) : List DpRenewal.A := x.2.2.2.2.2
def lC (x : DpItem.A) : Nat := (chain x).length
def fK (m : Int) (x : DpItem.A) : Int := Ints.maxI m x.2.1
def fR (m : Int) (r : DpRenewal.A) : Int := Ints.maxI m (r.2.2.2.1.length : Int)
def fP (m : Int) (x : DpItem.A) : Int := (chain x).foldl fR m
theorem sC_le (xs : List DpItem.A) : sumBy lC xs ≤ wts DpItem.E xs := by
  have h := sumBy_bound (E := DpItem.E) (f := lC) 0 1 (fun x => by
    obtain ⟨x0, x1, ⟨x2, l3, l4⟩, ⟨x5, x6, x7, x8, x9, x10, x11, x12, x13⟩, l14, l15⟩ := x
    rw [DpItem.wt_eq, DpStrand.wt_eq]
    show l15.length ≤ _
    omega) xs
  omega
set_option maxRecDepth 100000 in
set_option maxHeartbeats 8000000 in
theorem count_any (x0 : Int) (l1 : List DpItem.A) (p1 : Option Addr) (n1 c1 : Nat) {S : Nat → Prop} (w : World) (hr : RdD DpItem.E S w p1 n1 l1) (hm : n1 + wts DpItem.E l1 ≤ 1048576) : Calls Try.prog 35 #[.agg #[.int .i64 x0, .slice p1 n1 c1]] w (Val (.int .i64 ((sumBy lC l1 : Nat))) w) := by
  have hb := box1 w (.cells #[.int .i64 x0, .slice p1 n1 c1] 65)
  have HBV := Lib.hid hb
  have HX := Lib.hid (Bx.new w 65 #[.int .i64 x0, .slice p1 n1 c1])
  have HR := Lib.hid (hr.below hb)
  have hle := hr.le
  have HL := Lib.hid hr.len
  have HM := Lib.hid hm
  clear hm
  clear hb hr
  go_enter Try.func35, Try.ntmps35
  go_wp2_with fail
  generalize (w.alloc (.cells #[.int .i64 x0, .slice p1 n1 c1] 65)) = V at HBV HX HR ⊢
  obtain ⟨v0, v1⟩ := DpArchive.bxc HX.out
  go_loopw [3, 9] (fun s i wr => ∃ k q : Nat, k ≤ n1 ∧ i = .int .i64 k ∧ s = .int .i64 q ∧ q ≤ 1048576 ∧ Hid (q = sumBy lC (l1.take k)) ∧ Hid (Below V.heap.size V wr)) (fun _ i _ => n1 - (intOf i).toNat)
  case atStart => exact ⟨0, 0, Nat.zero_le _, rfl, rfl, by omega, Lib.hid rfl, Lib.hid (Below.refl _ _)⟩
  case round =>
    obtain ⟨k, q, hk, rfl, rfl, hq, HQ, HB⟩ := hrel
    by_cases hlt : k < n1
    · skip
      obtain ⟨b, o, x_e, cs_e, rfl, _, hbwe, hxe, hce, hrde⟩ := HR.out.at_ hlt
      obtain ⟨xe0, xe1, ⟨xe2, le3, le4⟩, ⟨xe5, xe6, xe7, xe8, xe9, xe10, xe11, xe12, xe13⟩, ⟨le14, le15⟩⟩ := x_e
      obtain ⟨pe3, ne3, ce3, pe4, ne4, ce4, pe14, ne14, ce14, pe15, ne15, ce15, rfl, be0, be1, be2, he3, he4, be5, he14, he15⟩ := DpItem.ex hrde
      have hcce : ∀ jj v, [.int .i64 xe0, .int .i64 xe1, .int .i64 xe2, .slice pe3 ne3 ce3, .slice pe4 ne4 ce4, .int .i64 xe5, .int .i64 xe6, .int .i64 xe7, .int .i64 xe8, .int .i64 xe9, .int .i64 xe10, .int .i64 xe11, .int .i64 xe12, .int .i64 xe13, .slice pe14 ne14 ce14, .slice pe15 ne15 ce15][jj]? = some v → wr.cell? ⟨b, o + k * 16 + jj, none⟩ = some v := fun jj v hv => (HB.out.cell (p := ⟨b, o + k * 16 + jj, none⟩) hbwe).trans (hce jj v hv)
      have HXe := Lib.hid hxe
      have HCe := Lib.hid hcce
      have He3 := Lib.hid (he3.below HB.out)
      have hne3 := he3.le
      have He4 := Lib.hid (he4.below HB.out)
      have hne4 := he4.le
      have He14 := Lib.hid (he14.below HB.out)
      have hne14 := he14.le
      have He15 := Lib.hid (he15.below HB.out)
      have hne15 := he15.le
      have Gbe0 := Lib.hid be0
      have Gbe1 := Lib.hid be1
      have Gbe2 := Lib.hid be2
      have Gbe5 := Lib.hid be5
      obtain ⟨u0, u1, u2, u3, u4, u5, u6, u7, u8, u9, u10, u11, u12, u13, u14, u15⟩ := DpItem.at_cells hcce
      clear hcce hce hxe hrde be0 be1 be2 he3 he4 be5 he14 he15
      have hl := He15.out.len
      have hs : q + ne15 = sumBy lC (l1.take (k + 1)) := by rw [sumBy_take (f := lC) HXe.out, HQ.out]; show _ = _ + le15.length; rw [hl]
      have hqb : q + ne15 ≤ 1048576 := by rw [hs]; have h := HM.out; have := sumBy_le (f := lC) l1 (k + 1); have := sC_le l1; omega
      have HN := Lib.hid hs
      clear hl hs
      go_wp2_with fail
      go_roundw
      case rel => exact ⟨k + 1, q + ne15, by omega, by go_num, by go_num, hqb, HN, Lib.hid (HB.out.alloc HB.out.size _)⟩
      case measure => simp [intOf]; omega
    · obtain rfl : k = n1 := by omega
      have HV : Hid (q = sumBy lC l1) := Lib.hid (by rw [HQ.out, sumBy_all l1 HL.out])
      have HBf := Lib.hid (HBV.out.trans (HB.out.mono HBV.out.size))
      go_wp2_with fail
      go_ret
      refine val_of ?_ HBf.out
      rw [← HV.out]
      first | done | rfl
set_option maxRecDepth 100000 in
set_option maxHeartbeats 8000000 in
theorem spec_count_any (x0 : Int) (l1 : List DpItem.A) (p1 : Option Addr) (n1 c1 : Nat) {S : Nat → Prop} (w : World) (hr : RdD DpItem.E S w p1 n1 l1) (hm : n1 + wts DpItem.E l1 ≤ 1048576) : Calls Try.prog 33 #[.agg #[.int .i64 x0, .slice p1 n1 c1]] w (Val (.int .i64 ((sumBy lC l1 : Nat))) w) := by
  have hb := box1 w (.cells #[.int .i64 x0, .slice p1 n1 c1] 65)
  have HBV := Lib.hid hb
  have HX := Lib.hid (Bx.new w 65 #[.int .i64 x0, .slice p1 n1 c1])
  have HR := Lib.hid (hr.below hb)
  have hle := hr.le
  have HL := Lib.hid hr.len
  have HM := Lib.hid hm
  clear hm
  clear hb hr
  go_enter Try.func33, Try.ntmps33
  go_wp2_with fail
  generalize (w.alloc (.cells #[.int .i64 x0, .slice p1 n1 c1] 65)) = V at HBV HX HR ⊢
  obtain ⟨v0, v1⟩ := DpArchive.bxc HX.out
  go_loopw [3, 4] (fun s i wr => ∃ k q : Nat, k ≤ n1 ∧ i = .int .i64 k ∧ s = .int .i64 q ∧ q ≤ 1048576 ∧ Hid (q = sumBy lC (l1.take k)) ∧ Hid (Below V.heap.size V wr)) (fun _ i _ => n1 - (intOf i).toNat)
  case atStart => exact ⟨0, 0, Nat.zero_le _, rfl, rfl, by omega, Lib.hid rfl, Lib.hid (Below.refl _ _)⟩
  case round =>
    obtain ⟨k, q, hk, rfl, rfl, hq, HQ, HB⟩ := hrel
    clear v0 v1
    obtain ⟨v0, v1⟩ := DpArchive.bxc (HX.out.below HB.out)
    by_cases hlt : k < n1
    · skip
      obtain ⟨b, o, x_e, cs_e, rfl, _, hbwe, hxe, hce, hrde⟩ := HR.out.at_ hlt
      obtain ⟨xe0, xe1, ⟨xe2, le3, le4⟩, ⟨xe5, xe6, xe7, xe8, xe9, xe10, xe11, xe12, xe13⟩, ⟨le14, le15⟩⟩ := x_e
      obtain ⟨pe3, ne3, ce3, pe4, ne4, ce4, pe14, ne14, ce14, pe15, ne15, ce15, rfl, be0, be1, be2, he3, he4, be5, he14, he15⟩ := DpItem.ex hrde
      have hcce : ∀ jj v, [.int .i64 xe0, .int .i64 xe1, .int .i64 xe2, .slice pe3 ne3 ce3, .slice pe4 ne4 ce4, .int .i64 xe5, .int .i64 xe6, .int .i64 xe7, .int .i64 xe8, .int .i64 xe9, .int .i64 xe10, .int .i64 xe11, .int .i64 xe12, .int .i64 xe13, .slice pe14 ne14 ce14, .slice pe15 ne15 ce15][jj]? = some v → wr.cell? ⟨b, o + k * 16 + jj, none⟩ = some v := fun jj v hv => (HB.out.cell (p := ⟨b, o + k * 16 + jj, none⟩) hbwe).trans (hce jj v hv)
      have HXe := Lib.hid hxe
      have HCe := Lib.hid hcce
      have He3 := Lib.hid (he3.below HB.out)
      have hne3 := he3.le
      have He4 := Lib.hid (he4.below HB.out)
      have hne4 := he4.le
      have He14 := Lib.hid (he14.below HB.out)
      have hne14 := he14.le
      have He15 := Lib.hid (he15.below HB.out)
      have hne15 := he15.le
      have Gbe0 := Lib.hid be0
      have Gbe1 := Lib.hid be1
      have Gbe2 := Lib.hid be2
      have Gbe5 := Lib.hid be5
      obtain ⟨u0, u1, u2, u3, u4, u5, u6, u7, u8, u9, u10, u11, u12, u13, u14, u15⟩ := DpItem.at_cells hcce
      clear hcce hce hxe hrde be0 be1 be2 he3 he4 be5 he14 he15
      have hl := He15.out.len
      have hs : q + ne15 = sumBy lC (l1.take (k + 1)) := by rw [sumBy_take (f := lC) HXe.out, HQ.out]; show _ = _ + le15.length; rw [hl]
      have hqb : q + ne15 ≤ 1048576 := by rw [hs]; have h := HM.out; have := sumBy_le (f := lC) l1 (k + 1); have := sC_le l1; omega
      have HN := Lib.hid hs
      clear hl hs
      go_wp2_with fail
      go_roundw
      case rel => exact ⟨k + 1, q + ne15, by omega, by go_num, by go_num, hqb, HN, Lib.hid HB.out⟩
      case measure => simp [intOf]; omega
    · obtain rfl : k = n1 := by omega
      have HV : Hid (q = sumBy lC l1) := Lib.hid (by rw [HQ.out, sumBy_all l1 HL.out])
      have HBf := Lib.hid (HBV.out.trans (HB.out.mono HBV.out.size))
      go_wp2_with fail
      go_ret
      refine val_of ?_ HBf.out
      rw [← HV.out]
      first | done | rfl
set_option maxRecDepth 100000 in
set_option maxHeartbeats 8000000 in
theorem kept_any (x0 : Int) (l1 : List DpItem.A) (p1 : Option Addr) (n1 c1 : Nat) {S : Nat → Prop} (w : World) (hr : RdD DpItem.E S w p1 n1 l1) : Calls Try.prog 38 #[.agg #[.int .i64 x0, .slice p1 n1 c1]] w (Val (.int .i64 (l1.foldl fK (-1))) w) := by
  have hb := box1 w (.cells #[.int .i64 x0, .slice p1 n1 c1] 65)
  have HBV := Lib.hid hb
  have HX := Lib.hid (Bx.new w 65 #[.int .i64 x0, .slice p1 n1 c1])
  have HR := Lib.hid (hr.below hb)
  have hle := hr.le
  have HL := Lib.hid hr.len
  skip
  clear hb hr
  go_enter Try.func38, Try.ntmps38
  go_wp2_with fail
  generalize (w.alloc (.cells #[.int .i64 x0, .slice p1 n1 c1] 65)) = V at HBV HX HR ⊢
  obtain ⟨v0, v1⟩ := DpArchive.bxc HX.out
  go_loopw [3, 9] (fun s i wr => ∃ (k : Nat) (q : Int), k ≤ n1 ∧ i = .int .i64 k ∧ s = .int .i64 q ∧ Hid (q = (l1.take k).foldl fK (-1)) ∧ Hid (Below V.heap.size V wr)) (fun _ i _ => n1 - (intOf i).toNat)
  case atStart => exact ⟨0, -1, Nat.zero_le _, rfl, rfl, Lib.hid rfl, Lib.hid (Below.refl _ _)⟩
  case round =>
    obtain ⟨k, q, hk, rfl, rfl, HQ, HB⟩ := hrel
    by_cases hlt : k < n1
    · skip
      obtain ⟨b, o, x_e, cs_e, rfl, _, hbwe, hxe, hce, hrde⟩ := HR.out.at_ hlt
      obtain ⟨xe0, xe1, ⟨xe2, le3, le4⟩, ⟨xe5, xe6, xe7, xe8, xe9, xe10, xe11, xe12, xe13⟩, ⟨le14, le15⟩⟩ := x_e
      obtain ⟨pe3, ne3, ce3, pe4, ne4, ce4, pe14, ne14, ce14, pe15, ne15, ce15, rfl, be0, be1, be2, he3, he4, be5, he14, he15⟩ := DpItem.ex hrde
      have hcce : ∀ jj v, [.int .i64 xe0, .int .i64 xe1, .int .i64 xe2, .slice pe3 ne3 ce3, .slice pe4 ne4 ce4, .int .i64 xe5, .int .i64 xe6, .int .i64 xe7, .int .i64 xe8, .int .i64 xe9, .int .i64 xe10, .int .i64 xe11, .int .i64 xe12, .int .i64 xe13, .slice pe14 ne14 ce14, .slice pe15 ne15 ce15][jj]? = some v → wr.cell? ⟨b, o + k * 16 + jj, none⟩ = some v := fun jj v hv => (HB.out.cell (p := ⟨b, o + k * 16 + jj, none⟩) hbwe).trans (hce jj v hv)
      have HXe := Lib.hid hxe
      have HCe := Lib.hid hcce
      have He3 := Lib.hid (he3.below HB.out)
      have hne3 := he3.le
      have He4 := Lib.hid (he4.below HB.out)
      have hne4 := he4.le
      have He14 := Lib.hid (he14.below HB.out)
      have hne14 := he14.le
      have He15 := Lib.hid (he15.below HB.out)
      have hne15 := he15.le
      have Gbe0 := Lib.hid be0
      have Gbe1 := Lib.hid be1
      have Gbe2 := Lib.hid be2
      have Gbe5 := Lib.hid be5
      obtain ⟨u0, u1, u2, u3, u4, u5, u6, u7, u8, u9, u10, u11, u12, u13, u14, u15⟩ := DpItem.at_cells hcce
      clear hcce hce hxe hrde be0 be1 be2 he3 he4 be5 he14 he15
      have HN : Hid (Ints.maxI q xe1 = (l1.take (k + 1)).foldl fK (-1)) := Lib.hid (by rw [fold_take (f := fK) HXe.out, HQ.out]; rfl)
      go_wp2_with fail
      refine (Ints.max_any q xe1 _).mono ?_
      rintro e w2 ⟨rfl, rfl⟩
      skip
      clear u0 u1 u2 u3 u4 u5 u6 u7 u8 u9 u10 u11 u12 u13 u14 u15
      have HB2 := Lib.hid ((HB.out.alloc HB.out.size (.cells #[.int .i64 xe0, .int .i64 xe1, .int .i64 xe2, .slice pe3 ne3 ce3, .slice pe4 ne4 ce4, .int .i64 xe5, .int .i64 xe6, .int .i64 xe7, .int .i64 xe8, .int .i64 xe9, .int .i64 xe10, .int .i64 xe11, .int .i64 xe12, .int .i64 xe13, .slice pe14 ne14 ce14, .slice pe15 ne15 ce15] 121)).alloc (Nat.le_trans HB.out.size (by simp)) (.cells #[.int .i64 xe1] 3))
      go_wp2_with fail
      go_roundw
      case rel => exact ⟨k + 1, Ints.maxI q xe1, by omega, by go_num, rfl, HN, HB2⟩
      case measure => simp [intOf]; omega
    · obtain rfl : k = n1 := by omega
      have HV : Hid (q = l1.foldl fK (-1)) := Lib.hid (by rw [HQ.out, fold_all HL.out])
      have HBf := Lib.hid (HBV.out.trans (HB.out.mono HBV.out.size))
      go_wp2_with fail
      go_ret
      refine val_of ?_ HBf.out
      rw [← HV.out]
      first | done | rfl
set_option maxRecDepth 100000 in
set_option maxHeartbeats 8000000 in
theorem spec_kept_any (x0 : Int) (l1 : List DpItem.A) (p1 : Option Addr) (n1 c1 : Nat) {S : Nat → Prop} (w : World) (hr : RdD DpItem.E S w p1 n1 l1) : Calls Try.prog 37 #[.agg #[.int .i64 x0, .slice p1 n1 c1]] w (Val (.int .i64 (l1.foldl fK (-1))) w) := by
  have hb := box1 w (.cells #[.int .i64 x0, .slice p1 n1 c1] 65)
  have HBV := Lib.hid hb
  have HX := Lib.hid (Bx.new w 65 #[.int .i64 x0, .slice p1 n1 c1])
  have HR := Lib.hid (hr.below hb)
  have hle := hr.le
  have HL := Lib.hid hr.len
  skip
  clear hb hr
  go_enter Try.func37, Try.ntmps37
  go_wp2_with fail
  generalize (w.alloc (.cells #[.int .i64 x0, .slice p1 n1 c1] 65)) = V at HBV HX HR ⊢
  obtain ⟨v0, v1⟩ := DpArchive.bxc HX.out
  go_loopw [3, 4] (fun s i wr => ∃ (k : Nat) (q : Int), k ≤ n1 ∧ i = .int .i64 k ∧ s = .int .i64 q ∧ Hid (q = (l1.take k).foldl fK (-1)) ∧ Hid (Below V.heap.size V wr)) (fun _ i _ => n1 - (intOf i).toNat)
  case atStart => exact ⟨0, -1, Nat.zero_le _, rfl, rfl, Lib.hid rfl, Lib.hid (Below.refl _ _)⟩
  case round =>
    obtain ⟨k, q, hk, rfl, rfl, HQ, HB⟩ := hrel
    clear v0 v1
    obtain ⟨v0, v1⟩ := DpArchive.bxc (HX.out.below HB.out)
    by_cases hlt : k < n1
    · skip
      obtain ⟨b, o, x_e, cs_e, rfl, _, hbwe, hxe, hce, hrde⟩ := HR.out.at_ hlt
      obtain ⟨xe0, xe1, ⟨xe2, le3, le4⟩, ⟨xe5, xe6, xe7, xe8, xe9, xe10, xe11, xe12, xe13⟩, ⟨le14, le15⟩⟩ := x_e
      obtain ⟨pe3, ne3, ce3, pe4, ne4, ce4, pe14, ne14, ce14, pe15, ne15, ce15, rfl, be0, be1, be2, he3, he4, be5, he14, he15⟩ := DpItem.ex hrde
      have hcce : ∀ jj v, [.int .i64 xe0, .int .i64 xe1, .int .i64 xe2, .slice pe3 ne3 ce3, .slice pe4 ne4 ce4, .int .i64 xe5, .int .i64 xe6, .int .i64 xe7, .int .i64 xe8, .int .i64 xe9, .int .i64 xe10, .int .i64 xe11, .int .i64 xe12, .int .i64 xe13, .slice pe14 ne14 ce14, .slice pe15 ne15 ce15][jj]? = some v → wr.cell? ⟨b, o + k * 16 + jj, none⟩ = some v := fun jj v hv => (HB.out.cell (p := ⟨b, o + k * 16 + jj, none⟩) hbwe).trans (hce jj v hv)
      have HXe := Lib.hid hxe
      have HCe := Lib.hid hcce
      have He3 := Lib.hid (he3.below HB.out)
      have hne3 := he3.le
      have He4 := Lib.hid (he4.below HB.out)
      have hne4 := he4.le
      have He14 := Lib.hid (he14.below HB.out)
      have hne14 := he14.le
      have He15 := Lib.hid (he15.below HB.out)
      have hne15 := he15.le
      have Gbe0 := Lib.hid be0
      have Gbe1 := Lib.hid be1
      have Gbe2 := Lib.hid be2
      have Gbe5 := Lib.hid be5
      obtain ⟨u0, u1, u2, u3, u4, u5, u6, u7, u8, u9, u10, u11, u12, u13, u14, u15⟩ := DpItem.at_cells hcce
      clear hcce hce hxe hrde be0 be1 be2 he3 he4 be5 he14 he15
      have HN : Hid (Ints.maxI q xe1 = (l1.take (k + 1)).foldl fK (-1)) := Lib.hid (by rw [fold_take (f := fK) HXe.out, HQ.out]; rfl)
      go_wp2_with fail
      refine (Ints.spec_max_any q xe1 _).mono ?_
      rintro e w2 ⟨rfl, hw2⟩
      subst hw2
      clear u0 u1 u2 u3 u4 u5 u6 u7 u8 u9 u10 u11 u12 u13 u14 u15
      have HB2 := HB
      go_wp2_with fail
      go_roundw
      case rel => exact ⟨k + 1, Ints.maxI q xe1, by omega, by go_num, rfl, HN, HB2⟩
      case measure => simp [intOf]; omega
    · obtain rfl : k = n1 := by omega
      have HV : Hid (q = l1.foldl fK (-1)) := Lib.hid (by rw [HQ.out, fold_all HL.out])
      have HBf := Lib.hid (HBV.out.trans (HB.out.mono HBV.out.size))
      go_wp2_with fail
      go_ret
      refine val_of ?_ HBf.out
      rw [← HV.out]
      first | done | rfl
end Go.Proofs.Ytapijjdjaamldaa.Ac
