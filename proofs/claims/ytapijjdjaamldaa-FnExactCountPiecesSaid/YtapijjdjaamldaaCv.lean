/- The pieces of all strands counted; in the program and in the reference. -/
import Derived.Test.YtapijjdjaamldaaDpEvidence
import Derived.Test.YtapijjdjaamldaaEs
import Derived.LoopTactic
import Derived.Outline
namespace Go.Proofs.Ytapijjdjaamldaa.Cv
open Go.ChangeShapes Go.WideShapes Go.ChangeAt Go.RowKit Sl St Ed Dz Es
def lN (x : DpStrand.A) : Nat := x.1.length
theorem sN_le (xs : List DpStrand.A) : sumBy lN xs ≤ wts DpStrand.E xs := by
  have h := sumBy_bound (E := DpStrand.E) (f := lN) 0 1 (fun x => by
    obtain ⟨l0, l1⟩ := x
    rw [DpStrand.wt_eq]
    show l0.length ≤ _
    omega) xs
  omega
set_option maxRecDepth 100000 in
set_option maxHeartbeats 8000000 in
theorem count_any (l0 : List DpStrand.A) (p0 : Option Addr) (n0 c0 : Nat) (p1 : Option Addr) (n1 c1 : Nat) {S : Nat → Prop} (w : World) (hr : RdD DpStrand.E S w p0 n0 l0) (hm : n0 + wts DpStrand.E l0 ≤ 1048576) : Calls Try.prog 23 #[.agg #[.slice p0 n0 c0, .slice p1 n1 c1]] w (Val (.int .i64 (sumBy lN l0 : Nat)) w) := by
  have hb := box1 w (.cells #[.slice p0 n0 c0, .slice p1 n1 c1] 40)
  have HBV := Lib.hid hb
  have HX := Lib.hid (Bx.new w 40 #[.slice p0 n0 c0, .slice p1 n1 c1])
  have HR := Lib.hid (hr.below hb)
  have hle := hr.le
  have HL := Lib.hid hr.len
  have HM := Lib.hid hm
  clear hb hr hm
  go_enter Try.func23, Try.ntmps23
  go_wp2_with fail
  generalize (w.alloc (.cells #[.slice p0 n0 c0, .slice p1 n1 c1] 40)) = V at HBV HX HR ⊢
  obtain ⟨v0, v1⟩ := DpEvidence.bxc HX.out
  go_loopw [3, 9] (fun s i wr => ∃ k q : Nat, k ≤ n0 ∧ i = .int .i64 k ∧ s = .int .i64 q ∧ q ≤ 1048576 ∧ Hid (q = sumBy lN (l0.take k)) ∧ Hid (Below V.heap.size V wr)) (fun _ i _ => n0 - (intOf i).toNat)
  case atStart => exact ⟨0, 0, Nat.zero_le _, rfl, rfl, by omega, Lib.hid rfl, Lib.hid (Below.refl _ _)⟩
  case round =>
    obtain ⟨k, q, hk, rfl, rfl, hq, HQ, HB⟩ := hrel
    by_cases hlt : k < n0
    · skip
      obtain ⟨b, o, x_e, cs_e, rfl, _, hbwe, hxe, hce, hrde⟩ := HR.out.at_ hlt
      obtain ⟨le0, le1⟩ := x_e
      obtain ⟨pe0, ne0, ce0, pe1, ne1, ce1, rfl, he0, he1⟩ := DpStrand.ex hrde
      have hcce : ∀ jj v, [.slice pe0 ne0 ce0, .slice pe1 ne1 ce1][jj]? = some v → wr.cell? ⟨b, o + k * 2 + jj, none⟩ = some v := fun jj v hv => (HB.out.cell (p := ⟨b, o + k * 2 + jj, none⟩) hbwe).trans (hce jj v hv)
      have HXe := Lib.hid hxe
      have HCe := Lib.hid hcce
      have He0 := Lib.hid (he0.below HB.out)
      have hne0 := he0.le
      have He1 := Lib.hid (he1.below HB.out)
      have hne1 := he1.le
      obtain ⟨u0, u1⟩ := DpStrand.at_cells hcce
      clear hcce hce hxe hrde he0 he1
      have hl := He0.out.len
      have hs : q + ne0 = sumBy lN (l0.take (k + 1)) := by rw [sumBy_take (f := lN) HXe.out, HQ.out]; show _ = _ + le0.length; rw [hl]
      have hqb : q + ne0 ≤ 1048576 := by rw [hs]; have h := HM.out; have := sumBy_le (f := lN) l0 (k + 1); have := sN_le l0; omega
      have HN := Lib.hid hs
      clear hl hs
      go_wp2_with fail
      go_roundw
      case rel => exact ⟨k + 1, q + ne0, by omega, by go_num, by go_num, hqb, HN, Lib.hid (HB.out.alloc HB.out.size _)⟩
      case measure => simp [intOf]; omega
    · obtain rfl : k = n0 := by omega
      have HV : Hid (q = sumBy lN l0) := Lib.hid (by rw [HQ.out, sumBy_all l0 HL.out])
      have HBf := Lib.hid (HBV.out.trans (HB.out.mono HBV.out.size))
      go_wp2_with fail
      go_ret
      refine val_of ?_ HBf.out
      rw [← HV.out]
      first | done | rfl
set_option maxRecDepth 100000 in
set_option maxHeartbeats 8000000 in
theorem spec_count_any (l0 : List DpStrand.A) (p0 : Option Addr) (n0 c0 : Nat) (p1 : Option Addr) (n1 c1 : Nat) {S : Nat → Prop} (w : World) (hr : RdD DpStrand.E S w p0 n0 l0) (hm : n0 + wts DpStrand.E l0 ≤ 1048576) : Calls Try.prog 21 #[.agg #[.slice p0 n0 c0, .slice p1 n1 c1]] w (Val (.int .i64 (sumBy lN l0 : Nat)) w) := by
  have hb := box1 w (.cells #[.slice p0 n0 c0, .slice p1 n1 c1] 40)
  have HBV := Lib.hid hb
  have HX := Lib.hid (Bx.new w 40 #[.slice p0 n0 c0, .slice p1 n1 c1])
  have HR := Lib.hid (hr.below hb)
  have hle := hr.le
  have HL := Lib.hid hr.len
  have HM := Lib.hid hm
  clear hb hr hm
  go_enter Try.func21, Try.ntmps21
  go_wp2_with fail
  generalize (w.alloc (.cells #[.slice p0 n0 c0, .slice p1 n1 c1] 40)) = V at HBV HX HR ⊢
  obtain ⟨v0, v1⟩ := DpEvidence.bxc HX.out
  go_loopw [3, 4] (fun s i wr => ∃ k q : Nat, k ≤ n0 ∧ i = .int .i64 k ∧ s = .int .i64 q ∧ q ≤ 1048576 ∧ Hid (q = sumBy lN (l0.take k)) ∧ Hid (Below V.heap.size V wr)) (fun _ i _ => n0 - (intOf i).toNat)
  case atStart => exact ⟨0, 0, Nat.zero_le _, rfl, rfl, by omega, Lib.hid rfl, Lib.hid (Below.refl _ _)⟩
  case round =>
    obtain ⟨k, q, hk, rfl, rfl, hq, HQ, HB⟩ := hrel
    clear v0 v1
    obtain ⟨v0, v1⟩ := DpEvidence.bxc (HX.out.below HB.out)
    by_cases hlt : k < n0
    · skip
      obtain ⟨b, o, x_e, cs_e, rfl, _, hbwe, hxe, hce, hrde⟩ := HR.out.at_ hlt
      obtain ⟨le0, le1⟩ := x_e
      obtain ⟨pe0, ne0, ce0, pe1, ne1, ce1, rfl, he0, he1⟩ := DpStrand.ex hrde
      have hcce : ∀ jj v, [.slice pe0 ne0 ce0, .slice pe1 ne1 ce1][jj]? = some v → wr.cell? ⟨b, o + k * 2 + jj, none⟩ = some v := fun jj v hv => (HB.out.cell (p := ⟨b, o + k * 2 + jj, none⟩) hbwe).trans (hce jj v hv)
      have HXe := Lib.hid hxe
      have HCe := Lib.hid hcce
      have He0 := Lib.hid (he0.below HB.out)
      have hne0 := he0.le
      have He1 := Lib.hid (he1.below HB.out)
      have hne1 := he1.le
      obtain ⟨u0, u1⟩ := DpStrand.at_cells hcce
      clear hcce hce hxe hrde he0 he1
      have hl := He0.out.len
      have hs : q + ne0 = sumBy lN (l0.take (k + 1)) := by rw [sumBy_take (f := lN) HXe.out, HQ.out]; show _ = _ + le0.length; rw [hl]
      have hqb : q + ne0 ≤ 1048576 := by rw [hs]; have h := HM.out; have := sumBy_le (f := lN) l0 (k + 1); have := sN_le l0; omega
      have HN := Lib.hid hs
      clear hl hs
      go_wp2_with fail
      go_roundw
      case rel => exact ⟨k + 1, q + ne0, by omega, by go_num, by go_num, hqb, HN, Lib.hid HB.out⟩
      case measure => simp [intOf]; omega
    · obtain rfl : k = n0 := by omega
      have HV : Hid (q = sumBy lN l0) := Lib.hid (by rw [HQ.out, sumBy_all l0 HL.out])
      have HBf := Lib.hid (HBV.out.trans (HB.out.mono HBV.out.size))
      go_wp2_with fail
      go_ret
      refine val_of ?_ HBf.out
      rw [← HV.out]
      first | done | rfl
end Go.Proofs.Ytapijjdjaamldaa.Cv
