/- slices.EqualFunc over pieces and over renewals. -/
import Derived.Test.YtkmgnicngcandaaGreatDpPiece
import Derived.Test.YtkmgnicngcandaaGreatDpRenewal
import Derived.Test.YtkmgnicngcandaaGreatEs
import Derived.Test.YtkmgnicngcandaaGreatCp
import Derived.Test.YtkmgnicngcandaaGreatCq
import Derived.Test.YtkmgnicngcandaaGreatEr
import Derived.LoopTactic
import Derived.Outline
namespace Go.Proofs.YtkmgnicngcandaaGreat.Ef
open Go.ChangeShapes Go.WideShapes Go.ChangeAt Go.RowKit Sl St Ed Dz
/-- as many, and each pair so -/
noncomputable def eqAll {α : Type} (f : α → α → Bool) (xs ys : List α) : Bool := @decide (xs.length = ys.length ∧ ∀ (i : Nat) (x y : α), xs[i]? = some x → ys[i]? = some y → f x y = true) (Classical.propDecidable _)
section
variable {α : Type} {f : α → α → Bool} {xs ys : List α}
theorem eqAll_len (h : xs.length ≠ ys.length) : eqAll f xs ys = false := @decide_eq_false _ (Classical.propDecidable _) fun ⟨h1, _⟩ => h h1
theorem eqAll_at {k : Nat} {x y : α} (hx : xs[k]? = some x) (hy : ys[k]? = some y) (h : f x y = false) : eqAll f xs ys = false := @decide_eq_false _ (Classical.propDecidable _) fun ⟨_, h2⟩ => by
  have := h2 k x y hx hy
  rw [h] at this
  cases this
def Upto (f : α → α → Bool) (xs ys : List α) (k : Nat) : Prop := ∀ (i : Nat) (x y : α), i < k → xs[i]? = some x → ys[i]? = some y → f x y = true
theorem upto_zero : Upto f xs ys 0 := fun _ _ _ h => absurd h (Nat.not_lt_zero _)
theorem upto_next {k : Nat} {x y : α} (h : Upto f xs ys k) (hx : xs[k]? = some x) (hy : ys[k]? = some y) (hf : f x y = true) : Upto f xs ys (k + 1) := fun i a b hi ha hb => by
  by_cases e : i = k
  · subst e
    rw [hx] at ha
    rw [hy] at hb
    cases ha
    cases hb
    exact hf
  · exact h i a b (by omega) ha hb
theorem eqAll_yes {n : Nat} (h1 : xs.length = n) (h2 : ys.length = n) (h : Upto f xs ys n) : eqAll f xs ys = true := @decide_eq_true _ (Classical.propDecidable _) ⟨h1.trans h2.symm, fun i x y hx hy => h i x y (by have := (List.getElem?_eq_some_iff.1 hx).1; omega) hx hy⟩
end
def eqP (a b : DpPiece.A) : Bool := decide (Cp.cP a.1 b.1 a.2.1 b.2.1 a.2.2 b.2.2 = 0)
set_option maxRecDepth 100000 in
set_option maxHeartbeats 4000000 in
theorem pieces_any (xs ys : List DpPiece.A) (p p' : Option Addr) (n n' c c' : Nat) {S S' : Nat → Prop} (w : World) (hr : RdD DpPiece.E S w p n xs) (hr' : RdD DpPiece.E S' w p' n' ys) : Calls Tryz.prog 67 #[.slice p n c, .slice p' n' c', .func (.func 68) #[] #[]] w (Val (.bool (eqAll eqP xs ys)) w) := by
  have HR := Lib.hid hr
  have HR' := Lib.hid hr'
  have hle := hr.le
  have hle' := hr'.le
  clear hr hr'
  by_cases hne : n = n'
  rotate_left
  · have hb1 : ((n : Int) == n') = false := beq_eq_false_iff_ne.2 (by omega)
    have hb2 : ((n : Int) != n') = true := by rw [bne, hb1]; rfl
    have hb3 : (n == n') = false := beq_eq_false_iff_ne.2 hne
    have hb4 : (n != n') = true := by rw [bne, hb3]; rfl
    have HN := Lib.hid (eqAll_len (f := eqP) (xs := xs) (ys := ys) (by rw [HR.out.len, HR'.out.len]; exact hne))
    clear hne
    go_enter Tryz.func67, Tryz.ntmps67
    go_wp2_with fail
    go_ret
    exact val_of (by rw [HN.out]; rfl) (Below.refl _ _)
  subst hne
  go_enter Tryz.func67, Tryz.ntmps67
  go_wp2_with fail
  go_loopw [17] (fun i wr => ∃ k : Nat, k ≤ n ∧ i = .int .i64 k ∧ Hid (Upto eqP xs ys k) ∧ Hid (Below w.heap.size w wr)) (fun i _ => n - (intOf i).toNat)
  case atStart => exact ⟨0, Nat.zero_le _, rfl, Lib.hid upto_zero, Lib.hid (Below.refl _ _)⟩
  case round =>
    obtain ⟨k, hk, rfl, HU, HB⟩ := hrel
    by_cases hlt : k < n
    · skip
      obtain ⟨b, o, x_x, cs_x, rfl, _, hbwx, hxx, hcx, hrdx⟩ := HR.out.at_ hlt
      obtain ⟨xx0, lx1, xx2⟩ := x_x
      obtain ⟨px1, nx1, cx1, rfl, bx0, hx1, bx2⟩ := DpPiece.ex hrdx
      have hccx : ∀ jj v, [.int .i64 xx0, .slice px1 nx1 cx1, .int .i64 xx2][jj]? = some v → wr.cell? ⟨b, o + k * 3 + jj, none⟩ = some v := fun jj v hv => (HB.out.cell (p := ⟨b, o + k * 3 + jj, none⟩) hbwx).trans (hcx jj v hv)
      have HXx := Lib.hid hxx
      have HCx := Lib.hid hccx
      have Hx1 := Lib.hid (hx1.below HB.out)
      have hnx1 := hx1.le
      have Gbx0 := Lib.hid bx0
      have Gbx2 := Lib.hid bx2
      obtain ⟨u0, u1, u2⟩ := DpPiece.at_cells hccx
      clear hccx hcx hxx hrdx bx0 hx1 bx2
      obtain ⟨b', o', x_y, cs_y, rfl, _, hbwy, hxy, hcy, hrdy⟩ := HR'.out.at_ hlt
      obtain ⟨xy0, ly1, xy2⟩ := x_y
      obtain ⟨py1, ny1, cy1, rfl, by0, hy1, by2⟩ := DpPiece.ex hrdy
      have hccy : ∀ jj v, [.int .i64 xy0, .slice py1 ny1 cy1, .int .i64 xy2][jj]? = some v → wr.cell? ⟨b', o' + k * 3 + jj, none⟩ = some v := fun jj v hv => (HB.out.cell (p := ⟨b', o' + k * 3 + jj, none⟩) hbwy).trans (hcy jj v hv)
      have HXy := Lib.hid hxy
      have HCy := Lib.hid hccy
      have Hy1 := Lib.hid (hy1.below HB.out)
      have hny1 := hy1.le
      have Gby0 := Lib.hid by0
      have Gby2 := Lib.hid by2
      obtain ⟨v0, v1, v2⟩ := DpPiece.at_cells hccy
      clear hccy hcy hxy hrdy by0 hy1 by2
      have hlv : b' < wr.heap.size := Nat.lt_of_lt_of_le hbwy HB.out.size
      have hB1 := box1 wr (.cells #[.int .i64 xx0, .slice px1 nx1 cx1, .int .i64 xx2] 105)
      have z0 : (wr.alloc (.cells #[.int .i64 xx0, .slice px1 nx1 cx1, .int .i64 xx2] 105)).cell? ⟨b', o' + k * 3, none⟩ = some (.int .i64 xy0) := (hB1.cell (p := ⟨b', o' + k * 3 + 0, none⟩) hlv).trans v0
      have z1 : (wr.alloc (.cells #[.int .i64 xx0, .slice px1 nx1 cx1, .int .i64 xx2] 105)).cell? ⟨b', o' + k * 3 + 1, none⟩ = some (.slice py1 ny1 cy1) := (hB1.cell (p := ⟨b', o' + k * 3 + 1, none⟩) hlv).trans v1
      have z2 : (wr.alloc (.cells #[.int .i64 xx0, .slice px1 nx1 cx1, .int .i64 xx2] 105)).cell? ⟨b', o' + k * 3 + 2, none⟩ = some (.int .i64 xy2) := (hB1.cell (p := ⟨b', o' + k * 3 + 2, none⟩) hlv).trans v2
      have hB2 : Below wr.heap.size wr ((wr.alloc (.cells #[.int .i64 xx0, .slice px1 nx1 cx1, .int .i64 xx2] 105)).alloc (.cells #[.int .i64 xy0, .slice py1 ny1 cy1, .int .i64 xy2] 105)) := hB1.alloc (by simp) _
      have HB2 := Lib.hid hB2
      have HB3 := Lib.hid (below_on HB.out hB2)
      clear hB1 hB2
      go_wp2_with fail
      refine (Cp.equal_any xx0 _ _ _ xx2 xy0 _ _ _ xy2 lx1 ly1 _ (Hx1.out.below HB2.out).ints (Hy1.out.below HB2.out).ints).mono ?_
      rintro e w1 ⟨rfl, hb⟩
      obtain ⟨β, hβ⟩ : ∃ β, eqP (xx0, lx1, xx2) (xy0, ly1, xy2) = β := ⟨_, rfl⟩
      have hβ' := hβ
      first | rw [hβ] | (unfold eqP at hβ; rw [hβ])
      have HE : Hid (eqP (xx0, lx1, xx2) (xy0, ly1, xy2) = β) := Lib.hid hβ'
      have HB4 := Lib.hid (below_on HB3.out hb)
      clear hb hβ hβ' u0 v0 z0 u1 v1 z1 u2 v2 z2
      cases β
      · have HF := Lib.hid (eqAll_at HXx.out HXy.out HE.out)
        go_wp2_with fail
        go_ret
        exact val_of (by rw [HF.out]; rfl) HB4.out
      · have HU2 := Lib.hid (upto_next HU.out HXx.out HXy.out HE.out)
        go_wp2_with fail
        go_roundw
        case rel => exact ⟨k + 1, by omega, by go_num, HU2, HB4⟩
        case measure => simp [intOf]; omega
    · obtain rfl : k = n := by omega
      have HF := Lib.hid (eqAll_yes HR.out.len HR'.out.len HU.out)
      go_wp2_with fail
      go_ret
      exact val_of (by rw [HF.out]; rfl) HB.out
set_option maxRecDepth 100000 in
set_option maxHeartbeats 4000000 in
theorem renewals_any (xs ys : List DpRenewal.A) (p p' : Option Addr) (n n' c c' : Nat) {S S' : Nat → Prop} (w : World) (hr : RdD DpRenewal.E S w p n xs) (hr' : RdD DpRenewal.E S' w p' n' ys) : Calls Tryz.prog 69 #[.slice p n c, .slice p' n' c', .func (.func 70) #[] #[]] w (Val (.bool (eqAll Er.eqR xs ys)) w) := by
  have HR := Lib.hid hr
  have HR' := Lib.hid hr'
  have hle := hr.le
  have hle' := hr'.le
  clear hr hr'
  by_cases hne : n = n'
  rotate_left
  · have hb1 : ((n : Int) == n') = false := beq_eq_false_iff_ne.2 (by omega)
    have hb2 : ((n : Int) != n') = true := by rw [bne, hb1]; rfl
    have hb3 : (n == n') = false := beq_eq_false_iff_ne.2 hne
    have hb4 : (n != n') = true := by rw [bne, hb3]; rfl
    have HN := Lib.hid (eqAll_len (f := Er.eqR) (xs := xs) (ys := ys) (by rw [HR.out.len, HR'.out.len]; exact hne))
    clear hne
    go_enter Tryz.func69, Tryz.ntmps69
    go_wp2_with fail
    go_ret
    exact val_of (by rw [HN.out]; rfl) (Below.refl _ _)
  subst hne
  go_enter Tryz.func69, Tryz.ntmps69
  go_wp2_with fail
  go_loopw [17] (fun i wr => ∃ k : Nat, k ≤ n ∧ i = .int .i64 k ∧ Hid (Upto Er.eqR xs ys k) ∧ Hid (Below w.heap.size w wr)) (fun i _ => n - (intOf i).toNat)
  case atStart => exact ⟨0, Nat.zero_le _, rfl, Lib.hid upto_zero, Lib.hid (Below.refl _ _)⟩
  case round =>
    obtain ⟨k, hk, rfl, HU, HB⟩ := hrel
    by_cases hlt : k < n
    · skip
      obtain ⟨b, o, x_x, cs_x, rfl, _, hbwx, hxx, hcx, hrdx⟩ := HR.out.at_ hlt
      obtain ⟨xx0, xx1, xx2, lx3, lx4⟩ := x_x
      obtain ⟨px3, nx3, cx3, px4, nx4, cx4, rfl, bx0, bx1, bx2, hx3, hx4⟩ := DpRenewal.ex hrdx
      have hccx : ∀ jj v, [.int .i64 xx0, .int .i64 xx1, .int .i64 xx2, .slice px3 nx3 cx3, .slice px4 nx4 cx4][jj]? = some v → wr.cell? ⟨b, o + k * 5 + jj, none⟩ = some v := fun jj v hv => (HB.out.cell (p := ⟨b, o + k * 5 + jj, none⟩) hbwx).trans (hcx jj v hv)
      have HXx := Lib.hid hxx
      have HCx := Lib.hid hccx
      have Hx3 := Lib.hid (hx3.below HB.out)
      have hnx3 := hx3.le
      have Hx4 := Lib.hid (hx4.below HB.out)
      have hnx4 := hx4.le
      have Gbx0 := Lib.hid bx0
      have Gbx1 := Lib.hid bx1
      have Gbx2 := Lib.hid bx2
      obtain ⟨u0, u1, u2, u3, u4⟩ := DpRenewal.at_cells hccx
      clear hccx hcx hxx hrdx bx0 bx1 bx2 hx3 hx4
      obtain ⟨b', o', x_y, cs_y, rfl, _, hbwy, hxy, hcy, hrdy⟩ := HR'.out.at_ hlt
      obtain ⟨xy0, xy1, xy2, ly3, ly4⟩ := x_y
      obtain ⟨py3, ny3, cy3, py4, ny4, cy4, rfl, by0, by1, by2, hy3, hy4⟩ := DpRenewal.ex hrdy
      have hccy : ∀ jj v, [.int .i64 xy0, .int .i64 xy1, .int .i64 xy2, .slice py3 ny3 cy3, .slice py4 ny4 cy4][jj]? = some v → wr.cell? ⟨b', o' + k * 5 + jj, none⟩ = some v := fun jj v hv => (HB.out.cell (p := ⟨b', o' + k * 5 + jj, none⟩) hbwy).trans (hcy jj v hv)
      have HXy := Lib.hid hxy
      have HCy := Lib.hid hccy
      have Hy3 := Lib.hid (hy3.below HB.out)
      have hny3 := hy3.le
      have Hy4 := Lib.hid (hy4.below HB.out)
      have hny4 := hy4.le
      have Gby0 := Lib.hid by0
      have Gby1 := Lib.hid by1
      have Gby2 := Lib.hid by2
      obtain ⟨v0, v1, v2, v3, v4⟩ := DpRenewal.at_cells hccy
      clear hccy hcy hxy hrdy by0 by1 by2 hy3 hy4
      have hlv : b' < wr.heap.size := Nat.lt_of_lt_of_le hbwy HB.out.size
      have hB1 := box1 wr (.cells #[.int .i64 xx0, .int .i64 xx1, .int .i64 xx2, .slice px3 nx3 cx3, .slice px4 nx4 cx4] 110)
      have z0 : (wr.alloc (.cells #[.int .i64 xx0, .int .i64 xx1, .int .i64 xx2, .slice px3 nx3 cx3, .slice px4 nx4 cx4] 110)).cell? ⟨b', o' + k * 5, none⟩ = some (.int .i64 xy0) := (hB1.cell (p := ⟨b', o' + k * 5 + 0, none⟩) hlv).trans v0
      have z1 : (wr.alloc (.cells #[.int .i64 xx0, .int .i64 xx1, .int .i64 xx2, .slice px3 nx3 cx3, .slice px4 nx4 cx4] 110)).cell? ⟨b', o' + k * 5 + 1, none⟩ = some (.int .i64 xy1) := (hB1.cell (p := ⟨b', o' + k * 5 + 1, none⟩) hlv).trans v1
      have z2 : (wr.alloc (.cells #[.int .i64 xx0, .int .i64 xx1, .int .i64 xx2, .slice px3 nx3 cx3, .slice px4 nx4 cx4] 110)).cell? ⟨b', o' + k * 5 + 2, none⟩ = some (.int .i64 xy2) := (hB1.cell (p := ⟨b', o' + k * 5 + 2, none⟩) hlv).trans v2
      have z3 : (wr.alloc (.cells #[.int .i64 xx0, .int .i64 xx1, .int .i64 xx2, .slice px3 nx3 cx3, .slice px4 nx4 cx4] 110)).cell? ⟨b', o' + k * 5 + 3, none⟩ = some (.slice py3 ny3 cy3) := (hB1.cell (p := ⟨b', o' + k * 5 + 3, none⟩) hlv).trans v3
      have z4 : (wr.alloc (.cells #[.int .i64 xx0, .int .i64 xx1, .int .i64 xx2, .slice px3 nx3 cx3, .slice px4 nx4 cx4] 110)).cell? ⟨b', o' + k * 5 + 4, none⟩ = some (.slice py4 ny4 cy4) := (hB1.cell (p := ⟨b', o' + k * 5 + 4, none⟩) hlv).trans v4
      have hB2 : Below wr.heap.size wr ((wr.alloc (.cells #[.int .i64 xx0, .int .i64 xx1, .int .i64 xx2, .slice px3 nx3 cx3, .slice px4 nx4 cx4] 110)).alloc (.cells #[.int .i64 xy0, .int .i64 xy1, .int .i64 xy2, .slice py3 ny3 cy3, .slice py4 ny4 cy4] 110)) := hB1.alloc (by simp) _
      have HB2 := Lib.hid hB2
      have HB3 := Lib.hid (below_on HB.out hB2)
      clear hB1 hB2
      go_wp2_with fail
      refine (Er.equal_any xx0 xx1 xx2 lx3 _ _ _ lx4 _ _ _ xy0 xy1 xy2 ly3 _ _ _ ly4 _ _ _ _ (Hx3.out.below HB2.out) (Hx4.out.below HB2.out) (Hy3.out.below HB2.out) (Hy4.out.below HB2.out)).mono ?_
      rintro e w1 ⟨rfl, hb⟩
      obtain ⟨β, hβ⟩ : ∃ β, Er.eqR (xx0, xx1, xx2, lx3, lx4) (xy0, xy1, xy2, ly3, ly4) = β := ⟨_, rfl⟩
      have hβ' := hβ
      first | rw [hβ] | (unfold Er.eqR at hβ; rw [hβ])
      have HE : Hid (Er.eqR (xx0, xx1, xx2, lx3, lx4) (xy0, xy1, xy2, ly3, ly4) = β) := Lib.hid hβ'
      have HB4 := Lib.hid (below_on HB3.out hb)
      clear hb hβ hβ' u0 v0 z0 u1 v1 z1 u2 v2 z2 u3 v3 z3 u4 v4 z4
      cases β
      · have HF := Lib.hid (eqAll_at HXx.out HXy.out HE.out)
        go_wp2_with fail
        go_ret
        exact val_of (by rw [HF.out]; rfl) HB4.out
      · have HU2 := Lib.hid (upto_next HU.out HXx.out HXy.out HE.out)
        go_wp2_with fail
        go_roundw
        case rel => exact ⟨k + 1, by omega, by go_num, HU2, HB4⟩
        case measure => simp [intOf]; omega
    · obtain rfl : k = n := by omega
      have HF := Lib.hid (eqAll_yes HR.out.len HR'.out.len HU.out)
      go_wp2_with fail
      go_ret
      exact val_of (by rw [HF.out]; rfl) HB.out
end Go.Proofs.YtkmgnicngcandaaGreat.Ef
