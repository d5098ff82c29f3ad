/- Archives compared, in the reference. -/
import Derived.Test.YtkmgnicngcandaaGreatEa1
import Derived.LoopTactic
import Derived.Deep.Cut
import Derived.Outline
namespace Go.Proofs.YtkmgnicngcandaaGreat.Ea2
open Go.ChangeShapes Go.WideShapes Go.ChangeAt Go.RowKit Sl St Ed Dz Ef Ea1
set_option maxRecDepth 100000 in
set_option maxHeartbeats 16000000 in
theorem spec_equal_any (x0 : Int) (l1 : List DpItem.A) (p1 : Option Addr) (n1 c1 : Nat) (y0 : Int) (m1 : List DpItem.A) (q1 : Option Addr) (k1 d1 : Nat) {S T : Nat → Prop} (w : World) (h1 : RdD DpItem.E S w p1 n1 l1) (g1 : RdD DpItem.E T w q1 k1 m1) : Calls Tryz.prog 13 #[.agg #[.int .i64 x0, .slice p1 n1 c1], .agg #[.int .i64 y0, .slice q1 k1 d1]] w (Val (.bool (eqA x0 y0 l1 m1)) w) := by
  have hb : Below w.heap.size w ((w.alloc (.cells #[.int .i64 x0, .slice p1 n1 c1] 54)).alloc (.cells #[.int .i64 y0, .slice q1 k1 d1] 54)) := (box1 w _).alloc (by simp) _
  have hy := Bx.new (w.alloc (.cells #[.int .i64 x0, .slice p1 n1 c1] 54)) 54 #[.int .i64 y0, .slice q1 k1 d1]
  rw [World.size_alloc] at hy
  have HBV := Lib.hid hb
  have HX := Lib.hid ((Bx.new w 54 #[.int .i64 x0, .slice p1 n1 c1]).alloc (.cells #[.int .i64 y0, .slice q1 k1 d1] 54))
  have HY := Lib.hid hy
  have H1 := Lib.hid (h1.below hb)
  have G1 := Lib.hid (g1.below hb)
  have e1 := h1.le
  have e2 := g1.le
  clear hb hy h1 g1
  by_cases a0 : x0 = y0
  rotate_left
  · have HF : Hid (eqA x0 y0 l1 m1 = false) := Lib.hid (by unfold eqA; rw [decide_eq_false a0]; rfl)
    have b1 : (x0 == y0) = false := beq_eq_false_iff_ne.2 a0
    have b2 : (x0 != y0) = true := by rw [bne, b1]; rfl
    clear a0
    go_enter Tryz.func13, Tryz.ntmps13
    go_wp2_with fail
    go_ret
    exact val_of (by rw [HF.out]; first | done | rfl) HBV.out
  subst a0
  have HV : Hid (eqA x0 x0 l1 m1 = eqAll eqIt l1 m1) := Lib.hid (by unfold eqA; rw [decide_eq_true rfl]; exact Bool.true_and _)
  by_cases a1 : n1 = k1
  rotate_left
  · have HN : Hid (eqA x0 x0 l1 m1 = false) := Lib.hid (by rw [HV.out]; exact eqAll_len (by rw [H1.out.len, G1.out.len]; exact a1))
    have b1 : ((n1 : Int) == k1) = false := beq_eq_false_iff_ne.2 (by omega)
    have b2 : ((n1 : Int) != k1) = true := by rw [bne, b1]; rfl
    have b3 : (n1 == k1) = false := beq_eq_false_iff_ne.2 a1
    have b4 : (n1 != k1) = true := by rw [bne, b3]; rfl
    clear a1
    go_enter Tryz.func13, Tryz.ntmps13
    go_wp2_with fail
    go_ret
    exact val_of (by rw [HN.out]; first | done | rfl) HBV.out
  subst a1
  go_enter Tryz.func13, Tryz.ntmps13
  go_wp2_with fail
  generalize ((w.alloc (.cells #[.int .i64 x0, .slice p1 n1 c1] 54)).alloc (.cells #[.int .i64 x0, .slice q1 n1 d1] 54)) = V at HBV HX HY H1 G1 ⊢
  go_loopw [5] (fun i wr => ∃ k : Nat, k ≤ n1 ∧ i = .int .i64 k ∧ Hid (Upto eqIt l1 m1 k) ∧ Hid (Below V.heap.size V wr)) (fun i _ => n1 - (intOf i).toNat)
  case atStart => exact ⟨0, Nat.zero_le _, rfl, Lib.hid upto_zero, Lib.hid (Below.refl _ _)⟩
  case round =>
    obtain ⟨k, hk, rfl, HU, HB⟩ := hrel
    obtain ⟨r0, r1⟩ := DpArchive.bxc (HX.out.below HB.out)
    obtain ⟨s0, s1⟩ := DpArchive.bxc (HY.out.below HB.out)
    by_cases hlt : k < n1
    · skip
      obtain ⟨b, o, x_x, cs_x, rfl, _, hbwx, hxx, hcx, hrdx⟩ := H1.out.at_ hlt
      obtain ⟨xx0, xx1, ⟨xx2, lx3, lx4⟩, ⟨xx5, xx6, xx7, xx8, xx9, xx10, xx11, xx12, xx13⟩, ⟨lx14, lx15⟩⟩ := x_x
      obtain ⟨px3, nx3, cx3, px4, nx4, cx4, px14, nx14, cx14, px15, nx15, cx15, rfl, bx0, bx1, bx2, hx3, hx4, bx5, hx14, hx15⟩ := DpItem.ex hrdx
      have hccx : ∀ jj v, [.int .i64 xx0, .int .i64 xx1, .int .i64 xx2, .slice px3 nx3 cx3, .slice px4 nx4 cx4, .int .i64 xx5, .int .i64 xx6, .int .i64 xx7, .int .i64 xx8, .int .i64 xx9, .int .i64 xx10, .int .i64 xx11, .int .i64 xx12, .int .i64 xx13, .slice px14 nx14 cx14, .slice px15 nx15 cx15][jj]? = some v → wr.cell? ⟨b, o + k * 16 + jj, none⟩ = some v := fun jj v hv => (HB.out.cell (p := ⟨b, o + k * 16 + jj, none⟩) hbwx).trans (hcx jj v hv)
      have HXx := Lib.hid hxx
      have HCx := Lib.hid hccx
      have Hx3 := Lib.hid (hx3.below HB.out)
      have hnx3 := hx3.le
      have Hx4 := Lib.hid (hx4.below HB.out)
      have hnx4 := hx4.le
      have Hx14 := Lib.hid (hx14.below HB.out)
      have hnx14 := hx14.le
      have Hx15 := Lib.hid (hx15.below HB.out)
      have hnx15 := hx15.le
      have Gbx0 := Lib.hid bx0
      have Gbx1 := Lib.hid bx1
      have Gbx2 := Lib.hid bx2
      have Gbx5 := Lib.hid bx5
      obtain ⟨u0, u1, u2, u3, u4, u5, u6, u7, u8, u9, u10, u11, u12, u13, u14, u15⟩ := DpItem.at_cells hccx
      clear hccx hcx hxx hrdx bx0 bx1 bx2 hx3 hx4 bx5 hx14 hx15
      obtain ⟨b', o', x_y, cs_y, rfl, _, hbwy, hxy, hcy, hrdy⟩ := G1.out.at_ hlt
      obtain ⟨xy0, xy1, ⟨xy2, ly3, ly4⟩, ⟨xy5, xy6, xy7, xy8, xy9, xy10, xy11, xy12, xy13⟩, ⟨ly14, ly15⟩⟩ := x_y
      obtain ⟨py3, ny3, cy3, py4, ny4, cy4, py14, ny14, cy14, py15, ny15, cy15, rfl, by0, by1, by2, hy3, hy4, by5, hy14, hy15⟩ := DpItem.ex hrdy
      have hccy : ∀ jj v, [.int .i64 xy0, .int .i64 xy1, .int .i64 xy2, .slice py3 ny3 cy3, .slice py4 ny4 cy4, .int .i64 xy5, .int .i64 xy6, .int .i64 xy7, .int .i64 xy8, .int .i64 xy9, .int .i64 xy10, .int .i64 xy11, .int .i64 xy12, .int .i64 xy13, .slice py14 ny14 cy14, .slice py15 ny15 cy15][jj]? = some v → wr.cell? ⟨b', o' + k * 16 + jj, none⟩ = some v := fun jj v hv => (HB.out.cell (p := ⟨b', o' + k * 16 + jj, none⟩) hbwy).trans (hcy jj v hv)
      have HXy := Lib.hid hxy
      have HCy := Lib.hid hccy
      have Hy3 := Lib.hid (hy3.below HB.out)
      have hny3 := hy3.le
      have Hy4 := Lib.hid (hy4.below HB.out)
      have hny4 := hy4.le
      have Hy14 := Lib.hid (hy14.below HB.out)
      have hny14 := hy14.le
      have Hy15 := Lib.hid (hy15.below HB.out)
      have hny15 := hy15.le
      have Gby0 := Lib.hid by0
      have Gby1 := Lib.hid by1
      have Gby2 := Lib.hid by2
      have Gby5 := Lib.hid by5
      obtain ⟨v0, v1, v2, v3, v4, v5, v6, v7, v8, v9, v10, v11, v12, v13, v14, v15⟩ := DpItem.at_cells hccy
      clear hccy hcy hxy hrdy by0 by1 by2 hy3 hy4 by5 hy14 hy15
      have lx : b < wr.heap.size := Nat.lt_of_lt_of_le hbwx HB.out.size
      have ly : b' < wr.heap.size := Nat.lt_of_lt_of_le hbwy HB.out.size
      have hB1 := box1 wr (.cells #[.int .i64 xx0, .int .i64 xx1, .int .i64 xx2, .slice px3 nx3 cx3, .slice px4 nx4 cx4, .int .i64 xx5, .int .i64 xx6, .int .i64 xx7, .int .i64 xx8, .int .i64 xx9, .int .i64 xx10, .int .i64 xx11, .int .i64 xx12, .int .i64 xx13, .slice px14 nx14 cx14, .slice px15 nx15 cx15] 81)
      have hX1 := Bx.new wr 81 #[.int .i64 xx0, .int .i64 xx1, .int .i64 xx2, .slice px3 nx3 cx3, .slice px4 nx4 cx4, .int .i64 xx5, .int .i64 xx6, .int .i64 xx7, .int .i64 xx8, .int .i64 xx9, .int .i64 xx10, .int .i64 xx11, .int .i64 xx12, .int .i64 xx13, .slice px14 nx14 cx14, .slice px15 nx15 cx15]
      go_upto_region 7 with (fail)
      generalize wr.alloc (.cells #[.int .i64 xx0, .int .i64 xx1, .int .i64 xx2, .slice px3 nx3 cx3, .slice px4 nx4 cx4, .int .i64 xx5, .int .i64 xx6, .int .i64 xx7, .int .i64 xx8, .int .i64 xx9, .int .i64 xx10, .int .i64 xx11, .int .i64 xx12, .int .i64 xx13, .slice px14 nx14 cx14, .slice px15 nx15 cx15] 81) = VX at hB1 hX1 ⊢
      have z0 : VX.cell? ⟨b', o' + k * 16, none⟩ = some (.int .i64 xy0) := (hB1.cell (p := ⟨b', o' + k * 16 + 0, none⟩) ly).trans v0
      have z1 : VX.cell? ⟨b', o' + k * 16 + 1, none⟩ = some (.int .i64 xy1) := (hB1.cell (p := ⟨b', o' + k * 16 + 1, none⟩) ly).trans v1
      have z2 : VX.cell? ⟨b', o' + k * 16 + 2, none⟩ = some (.int .i64 xy2) := (hB1.cell (p := ⟨b', o' + k * 16 + 2, none⟩) ly).trans v2
      have z3 : VX.cell? ⟨b', o' + k * 16 + 3, none⟩ = some (.slice py3 ny3 cy3) := (hB1.cell (p := ⟨b', o' + k * 16 + 3, none⟩) ly).trans v3
      have z4 : VX.cell? ⟨b', o' + k * 16 + 4, none⟩ = some (.slice py4 ny4 cy4) := (hB1.cell (p := ⟨b', o' + k * 16 + 4, none⟩) ly).trans v4
      have z5 : VX.cell? ⟨b', o' + k * 16 + 5, none⟩ = some (.int .i64 xy5) := (hB1.cell (p := ⟨b', o' + k * 16 + 5, none⟩) ly).trans v5
      have z6 : VX.cell? ⟨b', o' + k * 16 + 6, none⟩ = some (.int .i64 xy6) := (hB1.cell (p := ⟨b', o' + k * 16 + 6, none⟩) ly).trans v6
      have z7 : VX.cell? ⟨b', o' + k * 16 + 7, none⟩ = some (.int .i64 xy7) := (hB1.cell (p := ⟨b', o' + k * 16 + 7, none⟩) ly).trans v7
      have z8 : VX.cell? ⟨b', o' + k * 16 + 8, none⟩ = some (.int .i64 xy8) := (hB1.cell (p := ⟨b', o' + k * 16 + 8, none⟩) ly).trans v8
      have z9 : VX.cell? ⟨b', o' + k * 16 + 9, none⟩ = some (.int .i64 xy9) := (hB1.cell (p := ⟨b', o' + k * 16 + 9, none⟩) ly).trans v9
      have z10 : VX.cell? ⟨b', o' + k * 16 + 10, none⟩ = some (.int .i64 xy10) := (hB1.cell (p := ⟨b', o' + k * 16 + 10, none⟩) ly).trans v10
      have z11 : VX.cell? ⟨b', o' + k * 16 + 11, none⟩ = some (.int .i64 xy11) := (hB1.cell (p := ⟨b', o' + k * 16 + 11, none⟩) ly).trans v11
      have z12 : VX.cell? ⟨b', o' + k * 16 + 12, none⟩ = some (.int .i64 xy12) := (hB1.cell (p := ⟨b', o' + k * 16 + 12, none⟩) ly).trans v12
      have z13 : VX.cell? ⟨b', o' + k * 16 + 13, none⟩ = some (.int .i64 xy13) := (hB1.cell (p := ⟨b', o' + k * 16 + 13, none⟩) ly).trans v13
      have z14 : VX.cell? ⟨b', o' + k * 16 + 14, none⟩ = some (.slice py14 ny14 cy14) := (hB1.cell (p := ⟨b', o' + k * 16 + 14, none⟩) ly).trans v14
      have z15 : VX.cell? ⟨b', o' + k * 16 + 15, none⟩ = some (.slice py15 ny15 cy15) := (hB1.cell (p := ⟨b', o' + k * 16 + 15, none⟩) ly).trans v15
      have HB1 := Lib.hid hB1
      have HX1 := Lib.hid hX1
      obtain ⟨t0, t1⟩ := DpArchive.bxc (HY.out.below (below_on HB.out hB1))
      clear hB1 hX1 r0 r1 s0 s1 u0 u1 u2 u3 u4 u5 u6 u7 u8 u9 u10 u11 u12 u13 u14 u15 v0 v1 v2 v3 v4 v5 v6 v7 v8 v9 v10 v11 v12 v13 v14 v15 lx ly
      as_aux_lemma =>
        have hY1 := Bx.new VX 81 #[.int .i64 xy0, .int .i64 xy1, .int .i64 xy2, .slice py3 ny3 cy3, .slice py4 ny4 cy4, .int .i64 xy5, .int .i64 xy6, .int .i64 xy7, .int .i64 xy8, .int .i64 xy9, .int .i64 xy10, .int .i64 xy11, .int .i64 xy12, .int .i64 xy13, .slice py14 ny14 cy14, .slice py15 ny15 cy15]
        have hX2 := HX1.out.alloc (.cells #[.int .i64 xy0, .int .i64 xy1, .int .i64 xy2, .slice py3 ny3 cy3, .slice py4 ny4 cy4, .int .i64 xy5, .int .i64 xy6, .int .i64 xy7, .int .i64 xy8, .int .i64 xy9, .int .i64 xy10, .int .i64 xy11, .int .i64 xy12, .int .i64 xy13, .slice py14 ny14 cy14, .slice py15 ny15 cy15] 81)
        have hB2 := HB1.out.alloc HB1.out.size (.cells #[.int .i64 xy0, .int .i64 xy1, .int .i64 xy2, .slice py3 ny3 cy3, .slice py4 ny4 cy4, .int .i64 xy5, .int .i64 xy6, .int .i64 xy7, .int .i64 xy8, .int .i64 xy9, .int .i64 xy10, .int .i64 xy11, .int .i64 xy12, .int .i64 xy13, .slice py14 ny14 cy14, .slice py15 ny15 cy15] 81)
        go_upto_region 8 with (fail)
        generalize VX.alloc (.cells #[.int .i64 xy0, .int .i64 xy1, .int .i64 xy2, .slice py3 ny3 cy3, .slice py4 ny4 cy4, .int .i64 xy5, .int .i64 xy6, .int .i64 xy7, .int .i64 xy8, .int .i64 xy9, .int .i64 xy10, .int .i64 xy11, .int .i64 xy12, .int .i64 xy13, .slice py14 ny14 cy14, .slice py15 ny15 cy15] 81) = VY at hY1 hX2 hB2 ⊢
        clear z0 z1 z2 z3 z4 z5 z6 z7 z8 z9 z10 z11 z12 z13 z14 z15 t0 t1
        have HB2 := Lib.hid (below_on HB.out hB2)
        have Kx3 := Lib.hid (Hx3.out.below hB2)
        have Kx4 := Lib.hid (Hx4.out.below hB2)
        have Kx14 := Lib.hid (Hx14.out.below hB2)
        have Kx15 := Lib.hid (Hx15.out.below hB2)
        have Ky3 := Lib.hid (Hy3.out.below hB2)
        have Ky4 := Lib.hid (Hy4.out.below hB2)
        have Ky14 := Lib.hid (Hy14.out.below hB2)
        have Ky15 := Lib.hid (Hy15.out.below hB2)
        have QX := Lib.hid hX2
        have QY := Lib.hid hY1
        obtain ⟨wx0, wx1, wx2, wx3, wx4, wx5, wx6, wx7, wx8, wx9, wx10, wx11, wx12, wx13, wx14, wx15⟩ := DpItem.bxc hX2
        obtain ⟨wy0, wy1, wy2, wy3, wy4, wy5, wy6, wy7, wy8, wy9, wy10, wy11, wy12, wy13, wy14, wy15⟩ := DpItem.bxc hY1
        clear hB2 hX2 hY1
        by_cases a0 : xx0 = xy0
        rotate_left
        · have HF : Hid (eqA x0 x0 l1 m1 = false) := Lib.hid (by rw [HV.out]; exact eqAll_at HXx.out HXy.out (by show five (decide (xx0 = xy0)) _ _ _ _ = false; rw [decide_eq_false a0]; exact five0))
          have e1 : (xx0 == xy0) = false := beq_eq_false_iff_ne.2 a0
          have e2 : (xx0 != xy0) = true := by rw [bne, e1]; rfl
          clear a0
          as_aux_lemma =>
            go_wp2_with fail
            go_ret
            exact val_of (by rw [HF.out]; first | done | rfl) (HBV.out.trans (HB2.out.mono HBV.out.size))
        subst a0
        by_cases a1 : xx1 = xy1
        rotate_left
        · have HF : Hid (eqA x0 x0 l1 m1 = false) := Lib.hid (by rw [HV.out]; exact eqAll_at HXx.out HXy.out (by show five _ (decide (xx1 = xy1)) _ _ _ = false; rw [decide_eq_false a1]; exact five1))
          have e1 : (xx1 == xy1) = false := beq_eq_false_iff_ne.2 a1
          have e2 : (xx1 != xy1) = true := by rw [bne, e1]; rfl
          clear a1
          as_aux_lemma =>
            go_wp2_with fail
            go_ret
            exact val_of (by rw [HF.out]; first | done | rfl) (HBV.out.trans (HB2.out.mono HBV.out.size))
        subst a1
        rcases Classical.em ((xx5, xx6, xx7, xx8, xx9, xx10, xx11, xx12, xx13) = (xy5, xy6, xy7, xy8, xy9, xy10, xy11, xy12, xy13)) with hxy | hxy
        rotate_left
        · have HF : Hid (eqA x0 x0 l1 m1 = false) := Lib.hid (by rw [HV.out]; exact eqAll_at HXx.out HXy.out (by show five _ _ _ (eqG (xx5, xx6, xx7, xx8, xx9, xx10, xx11, xx12, xx13) (xy5, xy6, xy7, xy8, xy9, xy10, xy11, xy12, xy13)) _ = false; rw [eqG_no hxy]; exact five3))
          clear HXx HXy HCx HCy
          have hd : (¬ xx5 = xy5) ∨ (xx5 = xy5 ∧ ¬ xx6 = xy6) ∨ (xx5 = xy5 ∧ xx6 = xy6 ∧ ¬ xx7 = xy7) ∨ (xx5 = xy5 ∧ xx6 = xy6 ∧ xx7 = xy7 ∧ ¬ xx8 = xy8) ∨ (xx5 = xy5 ∧ xx6 = xy6 ∧ xx7 = xy7 ∧ xx8 = xy8 ∧ ¬ xx9 = xy9) ∨ (xx5 = xy5 ∧ xx6 = xy6 ∧ xx7 = xy7 ∧ xx8 = xy8 ∧ xx9 = xy9 ∧ ¬ xx10 = xy10) ∨ (xx5 = xy5 ∧ xx6 = xy6 ∧ xx7 = xy7 ∧ xx8 = xy8 ∧ xx9 = xy9 ∧ xx10 = xy10 ∧ ¬ xx11 = xy11) ∨ (xx5 = xy5 ∧ xx6 = xy6 ∧ xx7 = xy7 ∧ xx8 = xy8 ∧ xx9 = xy9 ∧ xx10 = xy10 ∧ xx11 = xy11 ∧ ¬ xx12 = xy12) ∨ (xx5 = xy5 ∧ xx6 = xy6 ∧ xx7 = xy7 ∧ xx8 = xy8 ∧ xx9 = xy9 ∧ xx10 = xy10 ∧ xx11 = xy11 ∧ xx12 = xy12 ∧ ¬ xx13 = xy13) := by
            by_cases e0 : xx5 = xy5
            rotate_left
            · exact Or.inl e0
            by_cases e1 : xx6 = xy6
            rotate_left
            · exact Or.inr (Or.inl ⟨e0, e1⟩)
            by_cases e2 : xx7 = xy7
            rotate_left
            · exact Or.inr (Or.inr (Or.inl ⟨e0, e1, e2⟩))
            by_cases e3 : xx8 = xy8
            rotate_left
            · exact Or.inr (Or.inr (Or.inr (Or.inl ⟨e0, e1, e2, e3⟩)))
            by_cases e4 : xx9 = xy9
            rotate_left
            · exact Or.inr (Or.inr (Or.inr (Or.inr (Or.inl ⟨e0, e1, e2, e3, e4⟩))))
            by_cases e5 : xx10 = xy10
            rotate_left
            · exact Or.inr (Or.inr (Or.inr (Or.inr (Or.inr (Or.inl ⟨e0, e1, e2, e3, e4, e5⟩)))))
            by_cases e6 : xx11 = xy11
            rotate_left
            · exact Or.inr (Or.inr (Or.inr (Or.inr (Or.inr (Or.inr (Or.inl ⟨e0, e1, e2, e3, e4, e5, e6⟩))))))
            by_cases e7 : xx12 = xy12
            rotate_left
            · exact Or.inr (Or.inr (Or.inr (Or.inr (Or.inr (Or.inr (Or.inr (Or.inl ⟨e0, e1, e2, e3, e4, e5, e6, e7⟩)))))))
            by_cases e8 : xx13 = xy13
            rotate_left
            · exact Or.inr (Or.inr (Or.inr (Or.inr (Or.inr (Or.inr (Or.inr (Or.inr (⟨e0, e1, e2, e3, e4, e5, e6, e7, e8⟩))))))))
            exact absurd (by rw [e0, e1, e2, e3, e4, e5, e6, e7, e8]) hxy
          rcases hd with hne | ⟨rfl, hne⟩ | ⟨rfl, rfl, hne⟩ | ⟨rfl, rfl, rfl, hne⟩ | ⟨rfl, rfl, rfl, rfl, hne⟩ | ⟨rfl, rfl, rfl, rfl, rfl, hne⟩ | ⟨rfl, rfl, rfl, rfl, rfl, rfl, hne⟩ | ⟨rfl, rfl, rfl, rfl, rfl, rfl, rfl, hne⟩ | ⟨rfl, rfl, rfl, rfl, rfl, rfl, rfl, rfl, hne⟩
          all_goals clear hxy
          all_goals
            as_aux_lemma =>
              go_wp2_with fail
              go_ret
              exact val_of (by rw [HF.out]; first | done | rfl) (HBV.out.trans (HB2.out.mono HBV.out.size))
        simp only [Prod.mk.injEq] at hxy
        obtain ⟨rfl, rfl, rfl, rfl, rfl, rfl, rfl, rfl, rfl⟩ := hxy
        obtain ⟨β, hβ⟩ : ∃ β, De.eqD (xx2, lx3, lx4) (xy2, ly3, ly4) = β := ⟨_, rfl⟩
        obtain ⟨γ, hγ⟩ : ∃ γ, Est.eqS lx14 lx15 ly14 ly15 = γ := ⟨_, rfl⟩
        have HW : Hid (eqIt (xx0, xx1, (xx2, lx3, lx4), (xx5, xx6, xx7, xx8, xx9, xx10, xx11, xx12, xx13), (lx14, lx15)) (xx0, xx1, (xy2, ly3, ly4), (xx5, xx6, xx7, xx8, xx9, xx10, xx11, xx12, xx13), (ly14, ly15)) = (β && γ)) := Lib.hid (by
          show five (decide (xx0 = xx0)) (decide (xx1 = xx1)) (De.eqD (xx2, lx3, lx4) (xy2, ly3, ly4)) (eqG (xx5, xx6, xx7, xx8, xx9, xx10, xx11, xx12, xx13) (xx5, xx6, xx7, xx8, xx9, xx10, xx11, xx12, xx13)) (Est.eqS lx14 lx15 ly14 ly15) = _
          rw [show decide (xx0 = xx0) = true from decide_eq_true rfl, show decide (xx1 = xx1) = true from decide_eq_true rfl, eqG_yes (rfl : (xx5, xx6, xx7, xx8, xx9, xx10, xx11, xx12, xx13) = (xx5, xx6, xx7, xx8, xx9, xx10, xx11, xx12, xx13)), hβ, hγ]
          cases β <;> cases γ <;> rfl)
        as_aux_lemma =>
          have B1 := Lib.hid hβ
          have B2 := Lib.hid hγ
          clear hβ hγ
          go_wp2_with fail
          refine (De.spec_eqDoc_any xx2 xy2 _ _ _ _ _ _ _ _ _ _ _ _ lx3 ly3 lx4 ly4 _ (RdD.strs SlStr.C_eq SlStr.of_eq (Kx3.out)).1 Kx4.out.ints (RdD.strs SlStr.C_eq SlStr.of_eq (Ky3.out)).1 Ky4.out.ints).mono ?_
          rintro e w1 ⟨rfl, hb⟩
          rw [B1.out]
          have HB3 := Lib.hid (below_on HB2.out hb)
          cases β
          · have HF : Hid (eqA x0 x0 l1 m1 = false) := Lib.hid (by rw [HV.out]; exact eqAll_at HXx.out HXy.out (by rw [HW.out]; rfl))
            clear hb
            as_aux_lemma =>
              go_wp2_with fail
              go_ret
              exact val_of (by rw [HF.out]; first | done | rfl) (HBV.out.trans (HB3.out.mono HBV.out.size))
          obtain ⟨ax0, ax1, ax2, ax3, ax4, ax5, ax6, ax7, ax8, ax9, ax10, ax11, ax12, ax13, ax14, ax15⟩ := DpItem.bxc (QX.out.below hb)
          obtain ⟨ay0, ay1, ay2, ay3, ay4, ay5, ay6, ay7, ay8, ay9, ay10, ay11, ay12, ay13, ay14, ay15⟩ := DpItem.bxc (QY.out.below hb)
          have J1 := Lib.hid (Kx14.out.below hb)
          have J2 := Lib.hid (Kx15.out.below hb)
          have J3 := Lib.hid (Ky14.out.below hb)
          have J4 := Lib.hid (Ky15.out.below hb)
          clear hb
          go_wp2_with fail
          refine (Est.spec_equal_any lx14 _ _ _ lx15 _ _ _ ly14 _ _ _ ly15 _ _ _ _ J1.out J2.out J3.out J4.out).mono ?_
          rintro e w2 ⟨rfl, hb⟩
          rw [B2.out]
          have HB4 := Lib.hid (below_on HB3.out hb)
          clear hb
          cases γ
          · have HF : Hid (eqA x0 x0 l1 m1 = false) := Lib.hid (by rw [HV.out]; exact eqAll_at HXx.out HXy.out (by rw [HW.out]; rfl))
            as_aux_lemma =>
              go_wp2_with fail
              go_ret
              exact val_of (by rw [HF.out]; first | done | rfl) (HBV.out.trans (HB4.out.mono HBV.out.size))
          · have HU2 := Lib.hid (upto_next HU.out HXx.out HXy.out (by rw [HW.out]; rfl))
            clear wx0 wy0 ax0 ay0 wx1 wy1 ax1 ay1 wx2 wy2 ax2 ay2 wx3 wy3 ax3 ay3 wx4 wy4 ax4 ay4 wx5 wy5 ax5 ay5 wx6 wy6 ax6 ay6 wx7 wy7 ax7 ay7 wx8 wy8 ax8 ay8 wx9 wy9 ax9 ay9 wx10 wy10 ax10 ay10 wx11 wy11 ax11 ay11 wx12 wy12 ax12 ay12 wx13 wy13 ax13 ay13 wx14 wy14 ax14 ay14 wx15 wy15 ax15 ay15
            go_wp2_with fail
            go_roundw
            case rel => exact ⟨k + 1, by omega, by go_num, HU2, HB4⟩
            case measure => simp [intOf]; omega
    · obtain rfl : n1 = k := by omega
      have HF : Hid (eqA x0 x0 l1 m1 = true) := Lib.hid (by rw [HV.out]; exact eqAll_yes H1.out.len G1.out.len HU.out)
      go_wp2_with fail
      go_ret
      exact val_of (by rw [HF.out]; first | done | rfl) (HBV.out.trans (HB.out.mono HBV.out.size))
end Go.Proofs.YtkmgnicngcandaaGreat.Ea2
