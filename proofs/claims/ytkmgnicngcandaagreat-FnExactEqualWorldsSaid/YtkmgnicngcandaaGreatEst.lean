/- Strands compared; in the program and in the reference. -/
import Derived.Test.YtkmgnicngcandaaGreatEf
import Derived.Test.YtkmgnicngcandaaGreatDpStrand
import Derived.Deep.RegionHeld3
namespace Go.Proofs.YtkmgnicngcandaaGreat.Est
open Go.ChangeShapes Go.WideShapes Go.ChangeAt Go.RowKit Sl St Ed Dz Ef
noncomputable def eqS (l0 : List DpPiece.A) (l1 : List DpRenewal.A) (m0 : List DpPiece.A) (m1 : List DpRenewal.A) : Bool := eqAll eqP l0 m0 && eqAll Er.eqR l1 m1
set_option maxRecDepth 100000 in
set_option maxHeartbeats 4000000 in
theorem equal_any (l0 : List DpPiece.A) (p0 : Option Addr) (n0 c0 : Nat) (l1 : List DpRenewal.A) (p1 : Option Addr) (n1 c1 : Nat) (m0 : List DpPiece.A) (q0 : Option Addr) (k0 d0 : Nat) (m1 : List DpRenewal.A) (q1 : Option Addr) (k1 d1 : Nat) {S0 S1 S2 S3 : Nat → Prop} (w : World) (h0 : RdD DpPiece.E S0 w p0 n0 l0) (h1 : RdD DpRenewal.E S1 w p1 n1 l1) (g0 : RdD DpPiece.E S2 w q0 k0 m0) (g1 : RdD DpRenewal.E S3 w q1 k1 m1) : Calls Tryz.prog 59 #[.agg #[.slice p0 n0 c0, .slice p1 n1 c1], .agg #[.slice q0 k0 d0, .slice q1 k1 d1]] w (Val (.bool (eqS l0 l1 m0 m1)) w) := by
  have hB : Below w.heap.size w ((w.alloc (.cells #[.slice p0 n0 c0, .slice p1 n1 c1] 79)).alloc (.cells #[.slice q0 k0 d0, .slice q1 k1 d1] 79)) := (box1 w _).alloc (by simp) _
  have hy := Bx.new (w.alloc (.cells #[.slice p0 n0 c0, .slice p1 n1 c1] 79)) 79 #[.slice q0 k0 d0, .slice q1 k1 d1]
  rw [World.size_alloc] at hy
  have HX := Lib.hid ((Bx.new w 79 #[.slice p0 n0 c0, .slice p1 n1 c1]).alloc (.cells #[.slice q0 k0 d0, .slice q1 k1 d1] 79))
  have HY := Lib.hid hy
  have HBV := Lib.hid hB
  have H0 := Lib.hid (h0.below hB)
  have H1 := Lib.hid (h1.below hB)
  have G0 := Lib.hid (g0.below hB)
  have G1 := Lib.hid (g1.below hB)
  have e0 := h0.le
  have e1 := h1.le
  have e2 := g0.le
  have e3 := g1.le
  clear hy hB h0 h1 g0 g1
  obtain ⟨β0, hβ0⟩ : ∃ b, eqAll eqP l0 m0 = b := ⟨_, rfl⟩
  obtain ⟨β1, hβ1⟩ : ∃ b, eqAll Er.eqR l1 m1 = b := ⟨_, rfl⟩
  have HE : Hid (eqS l0 l1 m0 m1 = (β0 && β1)) := Lib.hid (by unfold eqS; rw [hβ0, hβ1])
  have B0 := Lib.hid hβ0
  have B1 := Lib.hid hβ1
  clear hβ0 hβ1
  go_enter Tryz.func59, Tryz.ntmps59
  go_wp2_with fail
  generalize ((w.alloc (.cells #[.slice p0 n0 c0, .slice p1 n1 c1] 79)).alloc (.cells #[.slice q0 k0 d0, .slice q1 k1 d1] 79)) = V at HX HY HBV H0 H1 G0 G1 ⊢
  refine (pieces_any _ _ _ _ _ _ _ _ _ H0.out G0.out).mono ?_
  rintro e w1 ⟨rfl, hb⟩
  rw [B0.out]
  have HB := Lib.hid (below_on HBV.out hb)
  cases β0
  · clear hb
    go_wp2_with fail
    go_ret
    exact val_of (by rw [HE.out]; rfl) HB.out
  obtain ⟨u0, u1⟩ := DpStrand.bxc (HX.out.below hb)
  obtain ⟨v0, v1⟩ := DpStrand.bxc (HY.out.below hb)
  have H12 := Lib.hid (H1.out.below hb)
  have G12 := Lib.hid (G1.out.below hb)
  clear hb
  go_wp2_with fail
  refine (renewals_any _ _ _ _ _ _ _ _ _ H12.out G12.out).mono ?_
  rintro e w2 ⟨rfl, hb⟩
  rw [B1.out]
  have HB2 := Lib.hid (below_on HB.out hb)
  clear hb
  go_wp2_with fail
  go_ret
  exact val_of (by rw [HE.out]; cases β1 <;> rfl) HB2.out
set_option maxRecDepth 100000 in
set_option maxHeartbeats 16000000 in
theorem spec_equal_any (l0 : List DpPiece.A) (p0 : Option Addr) (n0 c0 : Nat) (l1 : List DpRenewal.A) (p1 : Option Addr) (n1 c1 : Nat) (m0 : List DpPiece.A) (q0 : Option Addr) (k0 d0 : Nat) (m1 : List DpRenewal.A) (q1 : Option Addr) (k1 d1 : Nat) {S0 S1 S2 S3 : Nat → Prop} (w : World) (h0 : RdD DpPiece.E S0 w p0 n0 l0) (h1 : RdD DpRenewal.E S1 w p1 n1 l1) (g0 : RdD DpPiece.E S2 w q0 k0 m0) (g1 : RdD DpRenewal.E S3 w q1 k1 m1) : Calls Tryz.prog 34 #[.agg #[.slice p0 n0 c0, .slice p1 n1 c1], .agg #[.slice q0 k0 d0, .slice q1 k1 d1]] w (Val (.bool (eqS l0 l1 m0 m1)) w) := by
  have hB : Below w.heap.size w ((w.alloc (.cells #[.slice p0 n0 c0, .slice p1 n1 c1] 79)).alloc (.cells #[.slice q0 k0 d0, .slice q1 k1 d1] 79)) := (box1 w _).alloc (by simp) _
  have hy := Bx.new (w.alloc (.cells #[.slice p0 n0 c0, .slice p1 n1 c1] 79)) 79 #[.slice q0 k0 d0, .slice q1 k1 d1]
  rw [World.size_alloc] at hy
  have HX := Lib.hid ((Bx.new w 79 #[.slice p0 n0 c0, .slice p1 n1 c1]).alloc (.cells #[.slice q0 k0 d0, .slice q1 k1 d1] 79))
  have HY := Lib.hid hy
  have HBV := Lib.hid hB
  have H0 := Lib.hid (h0.below hB)
  have H1 := Lib.hid (h1.below hB)
  have G0 := Lib.hid (g0.below hB)
  have G1 := Lib.hid (g1.below hB)
  have e0 := h0.le
  have e1 := h1.le
  have e2 := g0.le
  have e3 := g1.le
  clear hy hB h0 h1 g0 g1
  by_cases a0 : n0 = k0
  rotate_left
  · have HN : Hid (eqS l0 l1 m0 m1 = false) := Lib.hid (by unfold eqS; rw [eqAll_len (f := eqP) (xs := l0) (ys := m0) (by rw [H0.out.len, G0.out.len]; exact a0)]; rfl)
    have b1 : ((n0 : Int) == k0) = false := beq_eq_false_iff_ne.2 (by omega)
    have b2 : ((n0 : Int) != k0) = true := by rw [bne, b1]; rfl
    have b3 : (n0 == k0) = false := beq_eq_false_iff_ne.2 a0
    have b4 : (n0 != k0) = true := by rw [bne, b3]; rfl
    skip
    clear a0
    go_enter Tryz.func34, Tryz.ntmps34
    go_wp2_with fail
    go_ret
    exact val_of (by rw [HN.out]; rfl) HBV.out
  by_cases a1 : n1 = k1
  rotate_left
  · have HN : Hid (eqS l0 l1 m0 m1 = false) := Lib.hid (by unfold eqS; rw [eqAll_len (f := Er.eqR) (xs := l1) (ys := m1) (by rw [H1.out.len, G1.out.len]; exact a1)]; exact Bool.and_false _)
    have b1 : ((n1 : Int) == k1) = false := beq_eq_false_iff_ne.2 (by omega)
    have b2 : ((n1 : Int) != k1) = true := by rw [bne, b1]; rfl
    have b3 : (n1 == k1) = false := beq_eq_false_iff_ne.2 a1
    have b4 : (n1 != k1) = true := by rw [bne, b3]; rfl
    subst a0
    clear a1
    go_enter Tryz.func34, Tryz.ntmps34
    go_wp2_with fail
    go_ret
    exact val_of (by rw [HN.out]; rfl) HBV.out
  subst a0 a1
  go_enter Tryz.func34, Tryz.ntmps34
  go_wp2_with fail
  generalize ((w.alloc (.cells #[.slice p0 n0 c0, .slice p1 n1 c1] 79)).alloc (.cells #[.slice q0 n0 d0, .slice q1 n1 d1] 79)) = V at HX HY HBV H0 H1 G0 G1 ⊢
  go_loopw [5] (fun i wr => ∃ k : Nat, k ≤ n0 ∧ i = .int .i64 k ∧ Hid (Upto eqP l0 m0 k) ∧ Hid (Below V.heap.size V wr)) (fun i _ => n0 - (intOf i).toNat)
  case atStart => exact ⟨0, Nat.zero_le _, rfl, Lib.hid upto_zero, Lib.hid (Below.refl _ _)⟩
  case round =>
    obtain ⟨k, hk, rfl, HU, HB⟩ := hrel
    obtain ⟨r0, r1⟩ := DpStrand.bxc (HX.out.below HB.out)
    obtain ⟨s0, s1⟩ := DpStrand.bxc (HY.out.below HB.out)
    by_cases hlt : k < n0
    · skip
      obtain ⟨b, o, x_x, cs_x, rfl, _, hbwx, hxx, hcx, hrdx⟩ := H0.out.at_ hlt
      obtain ⟨xx0, lx1, xx2⟩ := x_x
      obtain ⟨px1, nx1, cx1, rfl, bx0, hx1, bx2⟩ := DpPiece.ex hrdx
      have hccx : ∀ jj v, [.int .i64 xx0, .slice px1 nx1 cx1, .int .i64 xx2][jj]? = some v → wr.cell? ⟨b, o + k * 3 + jj, none⟩ = some v := fun jj v hv => (HB.out.cell (p := ⟨b, o + k * 3 + jj, none⟩) hbwx).trans (hcx jj v hv)
      have HXx := Lib.hid hxx
      have HCx := Lib.hid hccx
      have Hx1 := Lib.hid (hx1.below HB.out)
      have hnx1 := hx1.le
      have Gbx0 := Lib.hid bx0
      have Gbx2 := Lib.hid bx2
      obtain ⟨u0, u1, u2⟩ := DpPiece.at_cells hccx
      clear hccx hcx hxx hrdx bx0 hx1 bx2
      obtain ⟨b', o', x_y, cs_y, rfl, _, hbwy, hxy, hcy, hrdy⟩ := G0.out.at_ hlt
      obtain ⟨xy0, ly1, xy2⟩ := x_y
      obtain ⟨py1, ny1, cy1, rfl, by0, hy1, by2⟩ := DpPiece.ex hrdy
      have hccy : ∀ jj v, [.int .i64 xy0, .slice py1 ny1 cy1, .int .i64 xy2][jj]? = some v → wr.cell? ⟨b', o' + k * 3 + jj, none⟩ = some v := fun jj v hv => (HB.out.cell (p := ⟨b', o' + k * 3 + jj, none⟩) hbwy).trans (hcy jj v hv)
      have HXy := Lib.hid hxy
      have HCy := Lib.hid hccy
      have Hy1 := Lib.hid (hy1.below HB.out)
      have hny1 := hy1.le
      have Gby0 := Lib.hid by0
      have Gby2 := Lib.hid by2
      obtain ⟨t0, t1, t2⟩ := DpPiece.at_cells hccy
      clear hccy hcy hxy hrdy by0 hy1 by2
      have HCC : Hid (∀ w' : World, Below V.heap.size V w' → w'.cell? ⟨w.heap.size, 0, none⟩ = some (.slice (some ⟨b, o, none⟩) n0 c0) ∧ w'.cell? ⟨w.heap.size, 1, none⟩ = some (.slice p1 n1 c1) ∧ w'.cell? ⟨w.heap.size + 1, 0, none⟩ = some (.slice (some ⟨b', o', none⟩) n0 d0) ∧ w'.cell? ⟨w.heap.size + 1, 1, none⟩ = some (.slice q1 n1 d1) ∧ w'.cell? ⟨b, o + k * 3, none⟩ = some (.int .i64 xx0) ∧ w'.cell? ⟨b, o + k * 3 + 1, none⟩ = some (.slice px1 nx1 cx1) ∧ w'.cell? ⟨b, o + k * 3 + 2, none⟩ = some (.int .i64 xx2) ∧ w'.cell? ⟨b', o' + k * 3, none⟩ = some (.int .i64 xy0) ∧ w'.cell? ⟨b', o' + k * 3 + 1, none⟩ = some (.slice py1 ny1 cy1) ∧ w'.cell? ⟨b', o' + k * 3 + 2, none⟩ = some (.int .i64 xy2)) := Lib.hid fun w' hb' => by
        obtain ⟨a1, a2⟩ := DpStrand.bxc (HX.out.below hb')
        obtain ⟨a3, a4⟩ := DpStrand.bxc (HY.out.below hb')
        have h2 := fun q v hv => (hb'.cell (p := ⟨b, o + k * 3 + q, none⟩) hbwx).trans ((HB.out.cell (p := ⟨b, o + k * 3 + q, none⟩) hbwx).symm.trans (HCx.out q v hv))
        have h3 := fun q v hv => (hb'.cell (p := ⟨b', o' + k * 3 + q, none⟩) hbwy).trans ((HB.out.cell (p := ⟨b', o' + k * 3 + q, none⟩) hbwy).symm.trans (HCy.out q v hv))
        exact ⟨a1, a2, a3, a4, h2 0 _ rfl, h2 1 _ rfl, h2 2 _ rfl, h3 0 _ rfl, h3 1 _ rfl, h3 2 _ rfl⟩
      obtain ⟨β, hβ⟩ : ∃ β, eqP (xx0, lx1, xx2) (xy0, ly1, xy2) = β := ⟨_, rfl⟩
      have HE := Lib.hid hβ
      have HBd : Hid (Below V.heap.size V wr.drew) := Lib.hid (below_drewN HB.out 1)
      have i1 : (0 : Int) ≤ (k : Int) := by omega
      have i2 : (k : Int) < (n0 : Int) := by omega
      clear hβ
      go_wp2_with fail
      go_region_held3 (fun w' => w'.cell? ⟨w.heap.size, 0, none⟩ = some (.slice (some ⟨b, o, none⟩) n0 c0) ∧ w'.cell? ⟨w.heap.size, 1, none⟩ = some (.slice p1 n1 c1) ∧ w'.cell? ⟨w.heap.size + 1, 0, none⟩ = some (.slice (some ⟨b', o', none⟩) n0 d0) ∧ w'.cell? ⟨w.heap.size + 1, 1, none⟩ = some (.slice q1 n1 d1) ∧ w'.cell? ⟨b, o + k * 3, none⟩ = some (.int .i64 xx0) ∧ w'.cell? ⟨b, o + k * 3 + 1, none⟩ = some (.slice px1 nx1 cx1) ∧ w'.cell? ⟨b, o + k * 3 + 2, none⟩ = some (.int .i64 xx2) ∧ w'.cell? ⟨b', o' + k * 3, none⟩ = some (.int .i64 xy0) ∧ w'.cell? ⟨b', o' + k * 3 + 1, none⟩ = some (.slice py1 ny1 cy1) ∧ w'.cell? ⟨b', o' + k * 3 + 2, none⟩ = some (.int .i64 xy2)) (first | exact HCC.out _ HB4.out | exact HCC.out _ HBd.out | go_keep) (first | (go_at_call 52; (with_reducible refine (Cq.spec_equal_any xx0 _ _ _ xx2 xy0 _ _ _ xy2 lx1 ly1 _ Hx1.out.drew1.ints Hy1.out.drew1.ints).mono ?_); rintro e w1 ⟨he1, hb⟩; have HB4 : Hid (Below V.heap.size V w1) := Lib.hid (below_on HBd.out hb); have he2 : e = .returned (.bool β) := he1.trans (by rw [← HE.out]; first | done | rfl); subst he2; clear he1 hb) | fail)
      cases β
      · have HF : Hid (eqS l0 l1 m0 m1 = false) := Lib.hid (by unfold eqS; rw [eqAll_at HXx.out HXy.out HE.out]; rfl)
        go_wp2_with fail
        go_ret
        exact val_of (by rw [HF.out]; rfl) (HBV.out.trans (HB4.out.mono HBV.out.size))
      · have HU2 := Lib.hid (upto_next HU.out HXx.out HXy.out HE.out)
        go_wp2_with fail
        go_roundw
        case rel => exact ⟨k + 1, by omega, by go_num, HU2, HB4⟩
        case measure => simp [intOf]; omega
    · obtain rfl : n0 = k := by omega
      have HF0 := Lib.hid (eqAll_yes H0.out.len G0.out.len HU.out)
      go_wp2_with fail
      clear r0 r1 s0 s1
      go_loopw [6] (fun i wr => ∃ k : Nat, k ≤ n1 ∧ i = .int .i64 k ∧ Hid (Upto Er.eqR l1 m1 k) ∧ Hid (Below V.heap.size V wr)) (fun i _ => n1 - (intOf i).toNat)
      case atStart => exact ⟨0, Nat.zero_le _, rfl, Lib.hid upto_zero, HB⟩
      case round =>
        obtain ⟨k, hk, rfl, HU, HB⟩ := hrel
        obtain ⟨r0, r1⟩ := DpStrand.bxc (HX.out.below HB.out)
        obtain ⟨s0, s1⟩ := DpStrand.bxc (HY.out.below HB.out)
        by_cases hlt : k < n1
        · skip
          obtain ⟨b, o, x_x, cs_x, rfl, _, hbwx, hxx, hcx, hrdx⟩ := H1.out.at_ hlt
          obtain ⟨xx0, xx1, xx2, lx3, lx4⟩ := x_x
          obtain ⟨px3, nx3, cx3, px4, nx4, cx4, rfl, bx0, bx1, bx2, hx3, hx4⟩ := DpRenewal.ex hrdx
          have hccx : ∀ jj v, [.int .i64 xx0, .int .i64 xx1, .int .i64 xx2, .slice px3 nx3 cx3, .slice px4 nx4 cx4][jj]? = some v → wr.cell? ⟨b, o + k * 5 + jj, none⟩ = some v := fun jj v hv => (HB.out.cell (p := ⟨b, o + k * 5 + jj, none⟩) hbwx).trans (hcx jj v hv)
          have HXx := Lib.hid hxx
          have HCx := Lib.hid hccx
          have Hx3 := Lib.hid (hx3.below HB.out)
          have hnx3 := hx3.le
          have Hx4 := Lib.hid (hx4.below HB.out)
          have hnx4 := hx4.le
          have Gbx0 := Lib.hid bx0
          have Gbx1 := Lib.hid bx1
          have Gbx2 := Lib.hid bx2
          obtain ⟨u0, u1, u2, u3, u4⟩ := DpRenewal.at_cells hccx
          clear hccx hcx hxx hrdx bx0 bx1 bx2 hx3 hx4
          obtain ⟨b', o', x_y, cs_y, rfl, _, hbwy, hxy, hcy, hrdy⟩ := G1.out.at_ hlt
          obtain ⟨xy0, xy1, xy2, ly3, ly4⟩ := x_y
          obtain ⟨py3, ny3, cy3, py4, ny4, cy4, rfl, by0, by1, by2, hy3, hy4⟩ := DpRenewal.ex hrdy
          have hccy : ∀ jj v, [.int .i64 xy0, .int .i64 xy1, .int .i64 xy2, .slice py3 ny3 cy3, .slice py4 ny4 cy4][jj]? = some v → wr.cell? ⟨b', o' + k * 5 + jj, none⟩ = some v := fun jj v hv => (HB.out.cell (p := ⟨b', o' + k * 5 + jj, none⟩) hbwy).trans (hcy jj v hv)
          have HXy := Lib.hid hxy
          have HCy := Lib.hid hccy
          have Hy3 := Lib.hid (hy3.below HB.out)
          have hny3 := hy3.le
          have Hy4 := Lib.hid (hy4.below HB.out)
          have hny4 := hy4.le
          have Gby0 := Lib.hid by0
          have Gby1 := Lib.hid by1
          have Gby2 := Lib.hid by2
          obtain ⟨t0, t1, t2, t3, t4⟩ := DpRenewal.at_cells hccy
          clear hccy hcy hxy hrdy by0 by1 by2 hy3 hy4
          have HCC : Hid (∀ w' : World, Below V.heap.size V w' → w'.cell? ⟨w.heap.size, 0, none⟩ = some (.slice p0 n0 c0) ∧ w'.cell? ⟨w.heap.size, 1, none⟩ = some (.slice (some ⟨b, o, none⟩) n1 c1) ∧ w'.cell? ⟨w.heap.size + 1, 0, none⟩ = some (.slice q0 n0 d0) ∧ w'.cell? ⟨w.heap.size + 1, 1, none⟩ = some (.slice (some ⟨b', o', none⟩) n1 d1) ∧ w'.cell? ⟨b, o + k * 5, none⟩ = some (.int .i64 xx0) ∧ w'.cell? ⟨b, o + k * 5 + 1, none⟩ = some (.int .i64 xx1) ∧ w'.cell? ⟨b, o + k * 5 + 2, none⟩ = some (.int .i64 xx2) ∧ w'.cell? ⟨b, o + k * 5 + 3, none⟩ = some (.slice px3 nx3 cx3) ∧ w'.cell? ⟨b, o + k * 5 + 4, none⟩ = some (.slice px4 nx4 cx4) ∧ w'.cell? ⟨b', o' + k * 5, none⟩ = some (.int .i64 xy0) ∧ w'.cell? ⟨b', o' + k * 5 + 1, none⟩ = some (.int .i64 xy1) ∧ w'.cell? ⟨b', o' + k * 5 + 2, none⟩ = some (.int .i64 xy2) ∧ w'.cell? ⟨b', o' + k * 5 + 3, none⟩ = some (.slice py3 ny3 cy3) ∧ w'.cell? ⟨b', o' + k * 5 + 4, none⟩ = some (.slice py4 ny4 cy4)) := Lib.hid fun w' hb' => by
            obtain ⟨a1, a2⟩ := DpStrand.bxc (HX.out.below hb')
            obtain ⟨a3, a4⟩ := DpStrand.bxc (HY.out.below hb')
            have h2 := fun q v hv => (hb'.cell (p := ⟨b, o + k * 5 + q, none⟩) hbwx).trans ((HB.out.cell (p := ⟨b, o + k * 5 + q, none⟩) hbwx).symm.trans (HCx.out q v hv))
            have h3 := fun q v hv => (hb'.cell (p := ⟨b', o' + k * 5 + q, none⟩) hbwy).trans ((HB.out.cell (p := ⟨b', o' + k * 5 + q, none⟩) hbwy).symm.trans (HCy.out q v hv))
            exact ⟨a1, a2, a3, a4, h2 0 _ rfl, h2 1 _ rfl, h2 2 _ rfl, h2 3 _ rfl, h2 4 _ rfl, h3 0 _ rfl, h3 1 _ rfl, h3 2 _ rfl, h3 3 _ rfl, h3 4 _ rfl⟩
          obtain ⟨β, hβ⟩ : ∃ β, Er.eqR (xx0, xx1, xx2, lx3, lx4) (xy0, xy1, xy2, ly3, ly4) = β := ⟨_, rfl⟩
          have HE := Lib.hid hβ
          have HBd : Hid (Below V.heap.size V wr.drew) := Lib.hid (below_drewN HB.out 1)
          have i1 : (0 : Int) ≤ (k : Int) := by omega
          have i2 : (k : Int) < (n1 : Int) := by omega
          clear hβ
          go_wp2_with fail
          go_region_held3 (fun w' => w'.cell? ⟨w.heap.size, 0, none⟩ = some (.slice p0 n0 c0) ∧ w'.cell? ⟨w.heap.size, 1, none⟩ = some (.slice (some ⟨b, o, none⟩) n1 c1) ∧ w'.cell? ⟨w.heap.size + 1, 0, none⟩ = some (.slice q0 n0 d0) ∧ w'.cell? ⟨w.heap.size + 1, 1, none⟩ = some (.slice (some ⟨b', o', none⟩) n1 d1) ∧ w'.cell? ⟨b, o + k * 5, none⟩ = some (.int .i64 xx0) ∧ w'.cell? ⟨b, o + k * 5 + 1, none⟩ = some (.int .i64 xx1) ∧ w'.cell? ⟨b, o + k * 5 + 2, none⟩ = some (.int .i64 xx2) ∧ w'.cell? ⟨b, o + k * 5 + 3, none⟩ = some (.slice px3 nx3 cx3) ∧ w'.cell? ⟨b, o + k * 5 + 4, none⟩ = some (.slice px4 nx4 cx4) ∧ w'.cell? ⟨b', o' + k * 5, none⟩ = some (.int .i64 xy0) ∧ w'.cell? ⟨b', o' + k * 5 + 1, none⟩ = some (.int .i64 xy1) ∧ w'.cell? ⟨b', o' + k * 5 + 2, none⟩ = some (.int .i64 xy2) ∧ w'.cell? ⟨b', o' + k * 5 + 3, none⟩ = some (.slice py3 ny3 cy3) ∧ w'.cell? ⟨b', o' + k * 5 + 4, none⟩ = some (.slice py4 ny4 cy4)) (first | exact HCC.out _ HB4.out | exact HCC.out _ HBd.out | go_keep) (first | (go_at_call 53; (with_reducible refine (Er.spec_equal_any xx0 xx1 xx2 lx3 _ _ _ lx4 _ _ _ xy0 xy1 xy2 ly3 _ _ _ ly4 _ _ _ _ Hx3.out.drew1 Hx4.out.drew1 Hy3.out.drew1 Hy4.out.drew1).mono ?_); rintro e w1 ⟨he1, hb⟩; have HB4 : Hid (Below V.heap.size V w1) := Lib.hid (below_on HBd.out hb); have he2 : e = .returned (.bool β) := he1.trans (by rw [← HE.out]; first | done | rfl); subst he2; clear he1 hb) | fail)
          cases β
          · have HF : Hid (eqS l0 l1 m0 m1 = false) := Lib.hid (by unfold eqS; rw [eqAll_at HXx.out HXy.out HE.out]; exact Bool.and_false _)
            go_wp2_with fail
            go_ret
            exact val_of (by rw [HF.out]; rfl) (HBV.out.trans (HB4.out.mono HBV.out.size))
          · have HU2 := Lib.hid (upto_next HU.out HXx.out HXy.out HE.out)
            go_wp2_with fail
            go_roundw
            case rel => exact ⟨k + 1, by omega, by go_num, HU2, HB4⟩
            case measure => simp [intOf]; omega
        · obtain rfl : n1 = k := by omega
          have HF1 := Lib.hid (eqAll_yes H1.out.len G1.out.len HU.out)
          have HFF : Hid (eqS l0 l1 m0 m1 = true) := Lib.hid (by unfold eqS; rw [HF0.out, HF1.out]; rfl)
          go_wp2_with fail
          go_ret
          exact val_of (by rw [HFF.out]; rfl) (HBV.out.trans (HB.out.mono HBV.out.size))
end Go.Proofs.YtkmgnicngcandaaGreat.Est
