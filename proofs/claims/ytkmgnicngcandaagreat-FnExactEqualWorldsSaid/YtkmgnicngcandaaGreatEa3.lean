/- slices.EqualFunc over items, and EqualArchives in the program. (items_any': the kernel runs out of memory over it: cut the round.) -/
import Derived.Test.YtkmgnicngcandaaGreatEa1
import Derived.LoopTactic
import Derived.Deep.Cut
import Derived.Outline
namespace Go.Proofs.YtkmgnicngcandaaGreat.Ea3
open Go.ChangeShapes Go.WideShapes Go.ChangeAt Go.RowKit Sl St Ed Dz Ef Ea1
set_option maxRecDepth 100000 in
set_option maxHeartbeats 4000000 in
theorem len_any (xs ys : List DpItem.A) (p p' : Option Addr) (n n' c c' : Nat) {S S' : Nat → Prop} (w : World) (hr : RdD DpItem.E S w p n xs) (hr' : RdD DpItem.E S' w p' n' ys) (hne : ¬ n = n') : Calls Tryz.prog 44 #[.slice p n c, .slice p' n' c', .func (.func 45) #[] #[]] w (Val (.bool (eqAll eqIt xs ys)) w) := by
  have hle := hr.le
  have hle' := hr'.le
  have hb1 : ((n : Int) == n') = false := beq_eq_false_iff_ne.2 (by omega)
  have hb2 : ((n : Int) != n') = true := by rw [bne, hb1]; rfl
  have hb3 : (n == n') = false := beq_eq_false_iff_ne.2 hne
  have hb4 : (n != n') = true := by rw [bne, hb3]; rfl
  have HN := Lib.hid (eqAll_len (f := eqIt) (xs := xs) (ys := ys) (by rw [hr.len, hr'.len]; exact hne))
  clear hne hr hr'
  go_enter Tryz.func44, Tryz.ntmps44
  go_wp2_with fail
  go_ret
  exact val_of (by rw [HN.out]; rfl) (Below.refl _ _)
set_option maxRecDepth 100000 in
set_option maxHeartbeats 4000000 in
theorem items_any' (xs ys : List DpItem.A) (p p' : Option Addr) (n n' c c' : Nat) {S S' : Nat → Prop} (w : World) (hr : RdD DpItem.E S w p n xs) (hr' : RdD DpItem.E S' w p' n' ys) : Calls Tryz.prog 44 #[.slice p n c, .slice p' n' c', .func (.func 45) #[] #[]] w (Val (.bool (eqAll eqIt xs ys)) w) := by
  by_cases hne : n = n'
  rotate_left
  · exact len_any xs ys p p' n n' c c' w hr hr' hne
  subst hne
  have HR := Lib.hid hr
  have HR' := Lib.hid hr'
  have hle := hr.le
  clear hr hr'
  go_enter Tryz.func44, Tryz.ntmps44
  go_wp2_with fail
  go_loopw [17] (fun i wr => ∃ k : Nat, k ≤ n ∧ i = .int .i64 k ∧ Hid (Upto eqIt xs ys k) ∧ Hid (Below w.heap.size w wr)) (fun i _ => n - (intOf i).toNat)
  case atStart => exact ⟨0, Nat.zero_le _, rfl, Lib.hid upto_zero, Lib.hid (Below.refl _ _)⟩
  case round =>
    obtain ⟨k, hk, rfl, HU, HB⟩ := hrel
    by_cases hlt : k < n
    · skip
      obtain ⟨b, o, x_x, cs_x, rfl, _, hbwx, hxx, hcx, hrdx⟩ := HR.out.at_ hlt
      obtain ⟨xx0, xx1, ⟨xx2, lx3, lx4⟩, ⟨xx5, xx6, xx7, xx8, xx9, xx10, xx11, xx12, xx13⟩, ⟨lx14, lx15⟩⟩ := x_x
      obtain ⟨px3, nx3, cx3, px4, nx4, cx4, px14, nx14, cx14, px15, nx15, cx15, rfl, bx0, bx1, bx2, hx3, hx4, bx5, hx14, hx15⟩ := DpItem.ex hrdx
      have hccx : ∀ jj v, [.int .i64 xx0, .int .i64 xx1, .int .i64 xx2, .slice px3 nx3 cx3, .slice px4 nx4 cx4, .int .i64 xx5, .int .i64 xx6, .int .i64 xx7, .int .i64 xx8, .int .i64 xx9, .int .i64 xx10, .int .i64 xx11, .int .i64 xx12, .int .i64 xx13, .slice px14 nx14 cx14, .slice px15 nx15 cx15][jj]? = some v → wr.cell? ⟨b, o + k * 16 + jj, none⟩ = some v := fun jj v hv => (HB.out.cell (p := ⟨b, o + k * 16 + jj, none⟩) hbwx).trans (hcx jj v hv)
      have HXx := Lib.hid hxx
      have HCx := Lib.hid hccx
      have Hx3 := Lib.hid (hx3.below HB.out)
      have hnx3 := hx3.le
      have Hx4 := Lib.hid (hx4.below HB.out)
      have hnx4 := hx4.le
      have Hx14 := Lib.hid (hx14.below HB.out)
      have hnx14 := hx14.le
      have Hx15 := Lib.hid (hx15.below HB.out)
      have hnx15 := hx15.le
      have Gbx0 := Lib.hid bx0
      have Gbx1 := Lib.hid bx1
      have Gbx2 := Lib.hid bx2
      have Gbx5 := Lib.hid bx5
      obtain ⟨u0, u1, u2, u3, u4, u5, u6, u7, u8, u9, u10, u11, u12, u13, u14, u15⟩ := DpItem.at_cells hccx
      clear hccx hcx hxx hrdx bx0 bx1 bx2 hx3 hx4 bx5 hx14 hx15
      obtain ⟨b', o', x_y, cs_y, rfl, _, hbwy, hxy, hcy, hrdy⟩ := HR'.out.at_ hlt
      obtain ⟨xy0, xy1, ⟨xy2, ly3, ly4⟩, ⟨xy5, xy6, xy7, xy8, xy9, xy10, xy11, xy12, xy13⟩, ⟨ly14, ly15⟩⟩ := x_y
      obtain ⟨py3, ny3, cy3, py4, ny4, cy4, py14, ny14, cy14, py15, ny15, cy15, rfl, by0, by1, by2, hy3, hy4, by5, hy14, hy15⟩ := DpItem.ex hrdy
      have hccy : ∀ jj v, [.int .i64 xy0, .int .i64 xy1, .int .i64 xy2, .slice py3 ny3 cy3, .slice py4 ny4 cy4, .int .i64 xy5, .int .i64 xy6, .int .i64 xy7, .int .i64 xy8, .int .i64 xy9, .int .i64 xy10, .int .i64 xy11, .int .i64 xy12, .int .i64 xy13, .slice py14 ny14 cy14, .slice py15 ny15 cy15][jj]? = some v → wr.cell? ⟨b', o' + k * 16 + jj, none⟩ = some v := fun jj v hv => (HB.out.cell (p := ⟨b', o' + k * 16 + jj, none⟩) hbwy).trans (hcy jj v hv)
      have HXy := Lib.hid hxy
      have HCy := Lib.hid hccy
      have Hy3 := Lib.hid (hy3.below HB.out)
      have hny3 := hy3.le
      have Hy4 := Lib.hid (hy4.below HB.out)
      have hny4 := hy4.le
      have Hy14 := Lib.hid (hy14.below HB.out)
      have hny14 := hy14.le
      have Hy15 := Lib.hid (hy15.below HB.out)
      have hny15 := hy15.le
      have Gby0 := Lib.hid by0
      have Gby1 := Lib.hid by1
      have Gby2 := Lib.hid by2
      have Gby5 := Lib.hid by5
      obtain ⟨v0, v1, v2, v3, v4, v5, v6, v7, v8, v9, v10, v11, v12, v13, v14, v15⟩ := DpItem.at_cells hccy
      clear hccy hcy hxy hrdy by0 by1 by2 hy3 hy4 by5 hy14 hy15
      have hlv : b' < wr.heap.size := Nat.lt_of_lt_of_le hbwy HB.out.size
      have hB1 := box1 wr (.cells #[.int .i64 xx0, .int .i64 xx1, .int .i64 xx2, .slice px3 nx3 cx3, .slice px4 nx4 cx4, .int .i64 xx5, .int .i64 xx6, .int .i64 xx7, .int .i64 xx8, .int .i64 xx9, .int .i64 xx10, .int .i64 xx11, .int .i64 xx12, .int .i64 xx13, .slice px14 nx14 cx14, .slice px15 nx15 cx15] 81)
      have hX1 := Bx.new wr 81 #[.int .i64 xx0, .int .i64 xx1, .int .i64 xx2, .slice px3 nx3 cx3, .slice px4 nx4 cx4, .int .i64 xx5, .int .i64 xx6, .int .i64 xx7, .int .i64 xx8, .int .i64 xx9, .int .i64 xx10, .int .i64 xx11, .int .i64 xx12, .int .i64 xx13, .slice px14 nx14 cx14, .slice px15 nx15 cx15]
      go_upto_region 6 with (fail)
      generalize wr.alloc (.cells #[.int .i64 xx0, .int .i64 xx1, .int .i64 xx2, .slice px3 nx3 cx3, .slice px4 nx4 cx4, .int .i64 xx5, .int .i64 xx6, .int .i64 xx7, .int .i64 xx8, .int .i64 xx9, .int .i64 xx10, .int .i64 xx11, .int .i64 xx12, .int .i64 xx13, .slice px14 nx14 cx14, .slice px15 nx15 cx15] 81) = VX at hB1 hX1 ⊢
      have z0 : VX.cell? ⟨b', o' + k * 16, none⟩ = some (.int .i64 xy0) := (hB1.cell (p := ⟨b', o' + k * 16 + 0, none⟩) hlv).trans v0
      have z1 : VX.cell? ⟨b', o' + k * 16 + 1, none⟩ = some (.int .i64 xy1) := (hB1.cell (p := ⟨b', o' + k * 16 + 1, none⟩) hlv).trans v1
      have z2 : VX.cell? ⟨b', o' + k * 16 + 2, none⟩ = some (.int .i64 xy2) := (hB1.cell (p := ⟨b', o' + k * 16 + 2, none⟩) hlv).trans v2
      have z3 : VX.cell? ⟨b', o' + k * 16 + 3, none⟩ = some (.slice py3 ny3 cy3) := (hB1.cell (p := ⟨b', o' + k * 16 + 3, none⟩) hlv).trans v3
      have z4 : VX.cell? ⟨b', o' + k * 16 + 4, none⟩ = some (.slice py4 ny4 cy4) := (hB1.cell (p := ⟨b', o' + k * 16 + 4, none⟩) hlv).trans v4
      have z5 : VX.cell? ⟨b', o' + k * 16 + 5, none⟩ = some (.int .i64 xy5) := (hB1.cell (p := ⟨b', o' + k * 16 + 5, none⟩) hlv).trans v5
      have z6 : VX.cell? ⟨b', o' + k * 16 + 6, none⟩ = some (.int .i64 xy6) := (hB1.cell (p := ⟨b', o' + k * 16 + 6, none⟩) hlv).trans v6
      have z7 : VX.cell? ⟨b', o' + k * 16 + 7, none⟩ = some (.int .i64 xy7) := (hB1.cell (p := ⟨b', o' + k * 16 + 7, none⟩) hlv).trans v7
      have z8 : VX.cell? ⟨b', o' + k * 16 + 8, none⟩ = some (.int .i64 xy8) := (hB1.cell (p := ⟨b', o' + k * 16 + 8, none⟩) hlv).trans v8
      have z9 : VX.cell? ⟨b', o' + k * 16 + 9, none⟩ = some (.int .i64 xy9) := (hB1.cell (p := ⟨b', o' + k * 16 + 9, none⟩) hlv).trans v9
      have z10 : VX.cell? ⟨b', o' + k * 16 + 10, none⟩ = some (.int .i64 xy10) := (hB1.cell (p := ⟨b', o' + k * 16 + 10, none⟩) hlv).trans v10
      have z11 : VX.cell? ⟨b', o' + k * 16 + 11, none⟩ = some (.int .i64 xy11) := (hB1.cell (p := ⟨b', o' + k * 16 + 11, none⟩) hlv).trans v11
      have z12 : VX.cell? ⟨b', o' + k * 16 + 12, none⟩ = some (.int .i64 xy12) := (hB1.cell (p := ⟨b', o' + k * 16 + 12, none⟩) hlv).trans v12
      have z13 : VX.cell? ⟨b', o' + k * 16 + 13, none⟩ = some (.int .i64 xy13) := (hB1.cell (p := ⟨b', o' + k * 16 + 13, none⟩) hlv).trans v13
      have z14 : VX.cell? ⟨b', o' + k * 16 + 14, none⟩ = some (.slice py14 ny14 cy14) := (hB1.cell (p := ⟨b', o' + k * 16 + 14, none⟩) hlv).trans v14
      have z15 : VX.cell? ⟨b', o' + k * 16 + 15, none⟩ = some (.slice py15 ny15 cy15) := (hB1.cell (p := ⟨b', o' + k * 16 + 15, none⟩) hlv).trans v15
      have HB1 := Lib.hid hB1
      have HX1 := Lib.hid hX1
      clear hB1 hX1 u0 v0 u1 v1 u2 v2 u3 v3 u4 v4 u5 v5 u6 v6 u7 v7 u8 v8 u9 v9 u10 v10 u11 v11 u12 v12 u13 v13 u14 v14 u15 v15
      as_aux_lemma =>
        have hY1 := Bx.new VX 81 #[.int .i64 xy0, .int .i64 xy1, .int .i64 xy2, .slice py3 ny3 cy3, .slice py4 ny4 cy4, .int .i64 xy5, .int .i64 xy6, .int .i64 xy7, .int .i64 xy8, .int .i64 xy9, .int .i64 xy10, .int .i64 xy11, .int .i64 xy12, .int .i64 xy13, .slice py14 ny14 cy14, .slice py15 ny15 cy15]
        have hX2 := HX1.out.alloc (.cells #[.int .i64 xy0, .int .i64 xy1, .int .i64 xy2, .slice py3 ny3 cy3, .slice py4 ny4 cy4, .int .i64 xy5, .int .i64 xy6, .int .i64 xy7, .int .i64 xy8, .int .i64 xy9, .int .i64 xy10, .int .i64 xy11, .int .i64 xy12, .int .i64 xy13, .slice py14 ny14 cy14, .slice py15 ny15 cy15] 81)
        have hB2 := HB1.out.alloc HB1.out.size (.cells #[.int .i64 xy0, .int .i64 xy1, .int .i64 xy2, .slice py3 ny3 cy3, .slice py4 ny4 cy4, .int .i64 xy5, .int .i64 xy6, .int .i64 xy7, .int .i64 xy8, .int .i64 xy9, .int .i64 xy10, .int .i64 xy11, .int .i64 xy12, .int .i64 xy13, .slice py14 ny14 cy14, .slice py15 ny15 cy15] 81)
        go_upto_region 7 with (fail)
        generalize VX.alloc (.cells #[.int .i64 xy0, .int .i64 xy1, .int .i64 xy2, .slice py3 ny3 cy3, .slice py4 ny4 cy4, .int .i64 xy5, .int .i64 xy6, .int .i64 xy7, .int .i64 xy8, .int .i64 xy9, .int .i64 xy10, .int .i64 xy11, .int .i64 xy12, .int .i64 xy13, .slice py14 ny14 cy14, .slice py15 ny15 cy15] 81) = VY at hY1 hX2 hB2 ⊢
        clear z0 z1 z2 z3 z4 z5 z6 z7 z8 z9 z10 z11 z12 z13 z14 z15
        have HB2 := Lib.hid hB2
        have HB3 := Lib.hid (below_on HB.out hB2)
        obtain ⟨zx0, zx1, zx2, zx3, zx4, zx5, zx6, zx7, zx8, zx9, zx10, zx11, zx12, zx13, zx14, zx15⟩ := DpItem.bxc hX2
        obtain ⟨zy0, zy1, zy2, zy3, zy4, zy5, zy6, zy7, zy8, zy9, zy10, zy11, zy12, zy13, zy14, zy15⟩ := DpItem.bxc hY1
        clear hB2 hX2 hY1
        as_aux_lemma =>
          go_wp2_with fail
          refine (items_any xx0 xx1 xx2 lx3 _ _ _ lx4 _ _ _ xx5 xx6 xx7 xx8 xx9 xx10 xx11 xx12 xx13 lx14 _ _ _ lx15 _ _ _ xy0 xy1 xy2 ly3 _ _ _ ly4 _ _ _ xy5 xy6 xy7 xy8 xy9 xy10 xy11 xy12 xy13 ly14 _ _ _ ly15 _ _ _ VY (Hx3.out.below HB2.out) (Hx4.out.below HB2.out) (Hx14.out.below HB2.out) (Hx15.out.below HB2.out) (Hy3.out.below HB2.out) (Hy4.out.below HB2.out) (Hy14.out.below HB2.out) (Hy15.out.below HB2.out)).mono ?_
          rintro e w1 ⟨rfl, hb⟩
          obtain ⟨β, hβ⟩ : ∃ β, eqIt (xx0, xx1, (xx2, lx3, lx4), (xx5, xx6, xx7, xx8, xx9, xx10, xx11, xx12, xx13), (lx14, lx15)) (xy0, xy1, (xy2, ly3, ly4), (xy5, xy6, xy7, xy8, xy9, xy10, xy11, xy12, xy13), (ly14, ly15)) = β := ⟨_, rfl⟩
          rw [hβ]
          have HE := Lib.hid hβ
          have HB4 := Lib.hid (below_on HB3.out hb)
          clear hb hβ zx0 zy0 zx1 zy1 zx2 zy2 zx3 zy3 zx4 zy4 zx5 zy5 zx6 zy6 zx7 zy7 zx8 zy8 zx9 zy9 zx10 zy10 zx11 zy11 zx12 zy12 zx13 zy13 zx14 zy14 zx15 zy15
          cases β
          · have HF := Lib.hid (eqAll_at HXx.out HXy.out HE.out)
            go_wp2_with fail
            go_ret
            exact val_of (by rw [HF.out]; rfl) HB4.out
          · have HU2 := Lib.hid (upto_next HU.out HXx.out HXy.out HE.out)
            go_wp2_with fail
            go_roundw
            case rel => exact ⟨k + 1, by omega, by go_num, HU2, HB4⟩
            case measure => simp [intOf]; omega
    · obtain rfl : k = n := by omega
      have HF := Lib.hid (eqAll_yes HR.out.len HR'.out.len HU.out)
      go_wp2_with fail
      go_ret
      exact val_of (by rw [HF.out]; rfl) HB.out
set_option maxRecDepth 100000 in
set_option maxHeartbeats 4000000 in
theorem equal_any (x0 : Int) (l1 : List DpItem.A) (p1 : Option Addr) (n1 c1 : Nat) (y0 : Int) (m1 : List DpItem.A) (q1 : Option Addr) (k1 d1 : Nat) {S T : Nat → Prop} (w : World) (h1 : RdD DpItem.E S w p1 n1 l1) (g1 : RdD DpItem.E T w q1 k1 m1) : Calls Tryz.prog 24 #[.agg #[.int .i64 x0, .slice p1 n1 c1], .agg #[.int .i64 y0, .slice q1 k1 d1]] w (Val (.bool (eqA x0 y0 l1 m1)) w) := by
  have hb : Below w.heap.size w ((w.alloc (.cells #[.int .i64 x0, .slice p1 n1 c1] 54)).alloc (.cells #[.int .i64 y0, .slice q1 k1 d1] 54)) := (box1 w _).alloc (by simp) _
  have hy := Bx.new (w.alloc (.cells #[.int .i64 x0, .slice p1 n1 c1] 54)) 54 #[.int .i64 y0, .slice q1 k1 d1]
  rw [World.size_alloc] at hy
  have HBV := Lib.hid hb
  have HX := Lib.hid ((Bx.new w 54 #[.int .i64 x0, .slice p1 n1 c1]).alloc (.cells #[.int .i64 y0, .slice q1 k1 d1] 54))
  have HY := Lib.hid hy
  have H1 := Lib.hid (h1.below hb)
  have G1 := Lib.hid (g1.below hb)
  have e1 := h1.le
  have e2 := g1.le
  clear hb hy h1 g1
  by_cases a0 : x0 = y0
  rotate_left
  · have HF : Hid (eqA x0 y0 l1 m1 = false) := Lib.hid (by unfold eqA; rw [decide_eq_false a0]; rfl)
    have b1 : (x0 == y0) = false := beq_eq_false_iff_ne.2 a0
    clear a0
    go_enter Tryz.func24, Tryz.ntmps24
    go_wp2_with fail
    go_ret
    exact val_of (by rw [HF.out]; first | done | rfl) HBV.out
  subst a0
  have HV : Hid (eqA x0 x0 l1 m1 = eqAll eqIt l1 m1) := Lib.hid (by unfold eqA; rw [decide_eq_true rfl]; exact Bool.true_and _)
  go_enter Tryz.func24, Tryz.ntmps24
  go_wp2_with fail
  refine (items_any' _ _ _ _ _ _ _ _ _ H1.out G1.out).mono ?_
  rintro e w1 ⟨rfl, hb⟩
  have HB := Lib.hid (below_on HBV.out hb)
  clear hb
  go_wp2_with fail
  go_ret
  exact val_of (by rw [HV.out]; first | done | rfl) HB.out
end Go.Proofs.YtkmgnicngcandaaGreat.Ea3
