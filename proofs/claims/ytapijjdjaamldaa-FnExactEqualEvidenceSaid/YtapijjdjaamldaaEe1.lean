/- slices.EqualFunc over strands and over lists of stamps. -/
import Derived.Test.YtapijjdjaamldaaEst
import Derived.Test.YtapijjdjaamldaaEqStamp
import Derived.Test.YtapijjdjaamldaaDpEvidence
import Derived.LoopTactic
import Derived.Outline
namespace Go.Proofs.Ytapijjdjaamldaa.Ee1
open Go.ChangeShapes Go.WideShapes Go.ChangeAt Go.RowKit Sl St Ed Dz Ef
noncomputable def eqSt (a b : DpStrand.A) : Bool := Est.eqS a.1 a.2 b.1 b.2
set_option maxRecDepth 100000 in
set_option maxHeartbeats 4000000 in
theorem strands_any (xs ys : List DpStrand.A) (p p' : Option Addr) (n n' c c' : Nat) {S S' : Nat → Prop} (w : World) (hr : RdD DpStrand.E S w p n xs) (hr' : RdD DpStrand.E S' w p' n' ys) : Calls Try.prog 77 #[.slice p n c, .slice p' n' c', .func (.func 78) #[] #[]] w (Val (.bool (eqAll eqSt xs ys)) w) := by
  have HR := Lib.hid hr
  have HR' := Lib.hid hr'
  have hle := hr.le
  have hle' := hr'.le
  clear hr hr'
  by_cases hne : n = n'
  rotate_left
  · have hb1 : ((n : Int) == n') = false := beq_eq_false_iff_ne.2 (by omega)
    have hb2 : ((n : Int) != n') = true := by rw [bne, hb1]; rfl
    have hb3 : (n == n') = false := beq_eq_false_iff_ne.2 hne
    have hb4 : (n != n') = true := by rw [bne, hb3]; rfl
    have HN := Lib.hid (eqAll_len (f := eqSt) (xs := xs) (ys := ys) (by rw [HR.out.len, HR'.out.len]; exact hne))
    clear hne
    go_enter Try.func77, Try.ntmps77
    go_wp2_with fail
    go_ret
    exact val_of (by rw [HN.out]; rfl) (Below.refl _ _)
  subst hne
  go_enter Try.func77, Try.ntmps77
  go_wp2_with fail
  go_loopw [17] (fun i wr => ∃ k : Nat, k ≤ n ∧ i = .int .i64 k ∧ Hid (Upto eqSt xs ys k) ∧ Hid (Below w.heap.size w wr)) (fun i _ => n - (intOf i).toNat)
  case atStart => exact ⟨0, Nat.zero_le _, rfl, Lib.hid upto_zero, Lib.hid (Below.refl _ _)⟩
  case round =>
    obtain ⟨k, hk, rfl, HU, HB⟩ := hrel
    by_cases hlt : k < n
    · skip
      obtain ⟨b, o, x_x, cs_x, rfl, _, hbwx, hxx, hcx, hrdx⟩ := HR.out.at_ hlt
      obtain ⟨lx0, lx1⟩ := x_x
      obtain ⟨px0, nx0, cx0, px1, nx1, cx1, rfl, hx0, hx1⟩ := DpStrand.ex hrdx
      have hccx : ∀ jj v, [.slice px0 nx0 cx0, .slice px1 nx1 cx1][jj]? = some v → wr.cell? ⟨b, o + k * 2 + jj, none⟩ = some v := fun jj v hv => (HB.out.cell (p := ⟨b, o + k * 2 + jj, none⟩) hbwx).trans (hcx jj v hv)
      have HXx := Lib.hid hxx
      have HCx := Lib.hid hccx
      have Hx0 := Lib.hid (hx0.below HB.out)
      have hnx0 := hx0.le
      have Hx1 := Lib.hid (hx1.below HB.out)
      have hnx1 := hx1.le
      obtain ⟨u0, u1⟩ := DpStrand.at_cells hccx
      clear hccx hcx hxx hrdx hx0 hx1
      obtain ⟨b', o', x_y, cs_y, rfl, _, hbwy, hxy, hcy, hrdy⟩ := HR'.out.at_ hlt
      obtain ⟨ly0, ly1⟩ := x_y
      obtain ⟨py0, ny0, cy0, py1, ny1, cy1, rfl, hy0, hy1⟩ := DpStrand.ex hrdy
      have hccy : ∀ jj v, [.slice py0 ny0 cy0, .slice py1 ny1 cy1][jj]? = some v → wr.cell? ⟨b', o' + k * 2 + jj, none⟩ = some v := fun jj v hv => (HB.out.cell (p := ⟨b', o' + k * 2 + jj, none⟩) hbwy).trans (hcy jj v hv)
      have HXy := Lib.hid hxy
      have HCy := Lib.hid hccy
      have Hy0 := Lib.hid (hy0.below HB.out)
      have hny0 := hy0.le
      have Hy1 := Lib.hid (hy1.below HB.out)
      have hny1 := hy1.le
      obtain ⟨v0, v1⟩ := DpStrand.at_cells hccy
      clear hccy hcy hxy hrdy hy0 hy1
      have hlv : b' < wr.heap.size := Nat.lt_of_lt_of_le hbwy HB.out.size
      have hB1 := box1 wr (.cells #[.slice px0 nx0 cx0, .slice px1 nx1 cx1] 53)
      have z0 : (wr.alloc (.cells #[.slice px0 nx0 cx0, .slice px1 nx1 cx1] 53)).cell? ⟨b', o' + k * 2, none⟩ = some (.slice py0 ny0 cy0) := (hB1.cell (p := ⟨b', o' + k * 2 + 0, none⟩) hlv).trans v0
      have z1 : (wr.alloc (.cells #[.slice px0 nx0 cx0, .slice px1 nx1 cx1] 53)).cell? ⟨b', o' + k * 2 + 1, none⟩ = some (.slice py1 ny1 cy1) := (hB1.cell (p := ⟨b', o' + k * 2 + 1, none⟩) hlv).trans v1
      have hB2 : Below wr.heap.size wr ((wr.alloc (.cells #[.slice px0 nx0 cx0, .slice px1 nx1 cx1] 53)).alloc (.cells #[.slice py0 ny0 cy0, .slice py1 ny1 cy1] 53)) := hB1.alloc (by simp) _
      have HB2 := Lib.hid hB2
      have HB3 := Lib.hid (below_on HB.out hB2)
      clear hB1 hB2
      go_wp2_with fail
      refine (Est.equal_any lx0 _ _ _ lx1 _ _ _ ly0 _ _ _ ly1 _ _ _ _ (Hx0.out.below HB2.out) (Hx1.out.below HB2.out) (Hy0.out.below HB2.out) (Hy1.out.below HB2.out)).mono ?_
      rintro e w1 ⟨rfl, hb⟩
      obtain ⟨β, hβ⟩ : ∃ β, eqSt (lx0, lx1) (ly0, ly1) = β := ⟨_, rfl⟩
      have hβ' := hβ
      first | rw [hβ] | (unfold eqSt at hβ; rw [hβ])
      have HE : Hid (eqSt (lx0, lx1) (ly0, ly1) = β) := Lib.hid hβ'
      have HB4 := Lib.hid (below_on HB3.out hb)
      clear hb hβ hβ' u0 v0 z0 u1 v1 z1
      cases β
      · have HF := Lib.hid (eqAll_at HXx.out HXy.out HE.out)
        go_wp2_with fail
        go_ret
        exact val_of (by rw [HF.out]; rfl) HB4.out
      · have HU2 := Lib.hid (upto_next HU.out HXx.out HXy.out HE.out)
        go_wp2_with fail
        go_roundw
        case rel => exact ⟨k + 1, by omega, by go_num, HU2, HB4⟩
        case measure => simp [intOf]; omega
    · obtain rfl : k = n := by omega
      have HF := Lib.hid (eqAll_yes HR.out.len HR'.out.len HU.out)
      go_wp2_with fail
      go_ret
      exact val_of (by rw [HF.out]; rfl) HB.out
set_option maxRecDepth 100000 in
set_option maxHeartbeats 4000000 in
theorem lists_any (xs ys : List (List (Int × Int × Int × Int × Int))) (p p' : Option Addr) (n n' c c' : Nat) {S S' : Nat → Prop} (w : World) (hr : RdD (sl (flat SlStamp.E SlStamp.InR)) S w p n xs) (hr' : RdD (sl (flat SlStamp.E SlStamp.InR)) S' w p' n' ys) : Calls Try.prog 79 #[.slice p n c, .slice p' n' c', .func (.func 80) #[] #[]] w (Val (.bool (eqAll EqStamp.eqL xs ys)) w) := by
  have HR := Lib.hid hr
  have HR' := Lib.hid hr'
  have hle := hr.le
  have hle' := hr'.le
  clear hr hr'
  by_cases hne : n = n'
  rotate_left
  · have hb1 : ((n : Int) == n') = false := beq_eq_false_iff_ne.2 (by omega)
    have hb2 : ((n : Int) != n') = true := by rw [bne, hb1]; rfl
    have hb3 : (n == n') = false := beq_eq_false_iff_ne.2 hne
    have hb4 : (n != n') = true := by rw [bne, hb3]; rfl
    have HN := Lib.hid (eqAll_len (f := EqStamp.eqL) (xs := xs) (ys := ys) (by rw [HR.out.len, HR'.out.len]; exact hne))
    clear hne
    go_enter Try.func79, Try.ntmps79
    go_wp2_with fail
    go_ret
    exact val_of (by rw [HN.out]; rfl) (Below.refl _ _)
  subst hne
  go_enter Try.func79, Try.ntmps79
  go_wp2_with fail
  go_loopw [17] (fun i wr => ∃ k : Nat, k ≤ n ∧ i = .int .i64 k ∧ Hid (Upto EqStamp.eqL xs ys k) ∧ Hid (Below w.heap.size w wr)) (fun i _ => n - (intOf i).toNat)
  case atStart => exact ⟨0, Nat.zero_le _, rfl, Lib.hid upto_zero, Lib.hid (Below.refl _ _)⟩
  case round =>
    obtain ⟨k, hk, rfl, HU, HB⟩ := hrel
    by_cases hlt : k < n
    · skip
      obtain ⟨b, o, xl, cs_x, rfl, _, hbwx, hxx, hcx, hrdx⟩ := HR.out.at_ hlt
      obtain ⟨xp, xn, xc, rfl, hx0⟩ := hrdx
      have u0 : wr.cell? ⟨b, o + k, none⟩ = some (.slice xp xn xc) := by
        have h := (HB.out.cell (p := ⟨b, o + k * 1 + 0, none⟩) hbwx).trans (hcx 0 _ rfl)
        rw [Nat.mul_one] at h
        exact h
      have HXx := Lib.hid hxx
      have Hx0 := Lib.hid (hx0.below HB.out)
      have hnx := hx0.le
      clear hxx hcx hx0
      obtain ⟨b', o', yl, cs_y, rfl, _, hbwy, hxy, hcy, hrdy⟩ := HR'.out.at_ hlt
      obtain ⟨yp, yn, yc, rfl, hy0⟩ := hrdy
      have v0 : wr.cell? ⟨b', o' + k, none⟩ = some (.slice yp yn yc) := by
        have h := (HB.out.cell (p := ⟨b', o' + k * 1 + 0, none⟩) hbwy).trans (hcy 0 _ rfl)
        rw [Nat.mul_one] at h
        exact h
      have HXy := Lib.hid hxy
      have Hy0 := Lib.hid (hy0.below HB.out)
      have hny := hy0.le
      clear hxy hcy hy0
      go_wp2_with fail
      refine (EqStamp.equal_any _ _ _ _ _ _ xl yl _ Hx0.out.rdS Hy0.out.rdS).mono ?_
      rintro e w1 ⟨rfl, hb⟩
      obtain ⟨β, hβ⟩ : ∃ β, EqStamp.eqL xl yl = β := ⟨_, rfl⟩
      rw [hβ]
      have HE := Lib.hid hβ
      have HB4 := Lib.hid (below_on HB.out hb)
      clear hb hβ u0 v0
      cases β
      · have HF := Lib.hid (eqAll_at HXx.out HXy.out HE.out)
        go_wp2_with fail
        go_ret
        exact val_of (by rw [HF.out]; rfl) HB4.out
      · have HU2 := Lib.hid (upto_next HU.out HXx.out HXy.out HE.out)
        go_wp2_with fail
        go_roundw
        case rel => exact ⟨k + 1, by omega, by go_num, HU2, HB4⟩
        case measure => simp [intOf]; omega
    · obtain rfl : k = n := by omega
      have HF := Lib.hid (eqAll_yes HR.out.len HR'.out.len HU.out)
      go_wp2_with fail
      go_ret
      exact val_of (by rw [HF.out]; rfl) HB.out
end Go.Proofs.Ytapijjdjaamldaa.Ee1
