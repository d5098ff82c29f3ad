/- Evidence compared; in the program and in the reference. -/
import Derived.Test.YtapijjdjaamldaaEe1
import Derived.Test.YtapijjdjaamldaaLs
import Derived.Deep.RegionHeld3
namespace Go.Proofs.Ytapijjdjaamldaa.Ee2
open Go.ChangeShapes Go.WideShapes Go.ChangeAt Go.RowKit Sl St Ed Dz Ef Ee1
noncomputable def eqE (l0 : List DpStrand.A) (l1 : List (List (Int × Int × Int × Int × Int))) (m0 : List DpStrand.A) (m1 : List (List (Int × Int × Int × Int × Int))) : Bool := eqAll eqSt l0 m0 && eqAll EqStamp.eqL l1 m1
set_option maxRecDepth 100000 in
set_option maxHeartbeats 4000000 in
theorem equal_any (l0 : List DpStrand.A) (p0 : Option Addr) (n0 c0 : Nat) (l1 : List (List (Int × Int × Int × Int × Int))) (p1 : Option Addr) (n1 c1 : Nat) (m0 : List DpStrand.A) (q0 : Option Addr) (k0 d0 : Nat) (m1 : List (List (Int × Int × Int × Int × Int))) (q1 : Option Addr) (k1 d1 : Nat) {S0 S1 S2 S3 : Nat → Prop} (w : World) (h0 : RdD DpStrand.E S0 w p0 n0 l0) (h1 : RdD (sl (flat SlStamp.E SlStamp.InR)) S1 w p1 n1 l1) (g0 : RdD DpStrand.E S2 w q0 k0 m0) (g1 : RdD (sl (flat SlStamp.E SlStamp.InR)) S3 w q1 k1 m1) : Calls Try.prog 31 #[.agg #[.slice p0 n0 c0, .slice p1 n1 c1], .agg #[.slice q0 k0 d0, .slice q1 k1 d1]] w (Val (.bool (eqE l0 l1 m0 m1)) w) := by
  have hB : Below w.heap.size w ((w.alloc (.cells #[.slice p0 n0 c0, .slice p1 n1 c1] 40)).alloc (.cells #[.slice q0 k0 d0, .slice q1 k1 d1] 40)) := (box1 w _).alloc (by simp) _
  have hy := Bx.new (w.alloc (.cells #[.slice p0 n0 c0, .slice p1 n1 c1] 40)) 40 #[.slice q0 k0 d0, .slice q1 k1 d1]
  rw [World.size_alloc] at hy
  have HX := Lib.hid ((Bx.new w 40 #[.slice p0 n0 c0, .slice p1 n1 c1]).alloc (.cells #[.slice q0 k0 d0, .slice q1 k1 d1] 40))
  have HY := Lib.hid hy
  have HBV := Lib.hid hB
  have H0 := Lib.hid (h0.below hB)
  have H1 := Lib.hid (h1.below hB)
  have G0 := Lib.hid (g0.below hB)
  have G1 := Lib.hid (g1.below hB)
  have e0 := h0.le
  have e1 := h1.le
  have e2 := g0.le
  have e3 := g1.le
  clear hy hB h0 h1 g0 g1
  obtain ⟨β0, hβ0⟩ : ∃ b, eqAll eqSt l0 m0 = b := ⟨_, rfl⟩
  obtain ⟨β1, hβ1⟩ : ∃ b, eqAll EqStamp.eqL l1 m1 = b := ⟨_, rfl⟩
  have HE : Hid (eqE l0 l1 m0 m1 = (β0 && β1)) := Lib.hid (by unfold eqE; rw [hβ0, hβ1])
  have B0 := Lib.hid hβ0
  have B1 := Lib.hid hβ1
  clear hβ0 hβ1
  go_enter Try.func31, Try.ntmps31
  go_wp2_with fail
  generalize ((w.alloc (.cells #[.slice p0 n0 c0, .slice p1 n1 c1] 40)).alloc (.cells #[.slice q0 k0 d0, .slice q1 k1 d1] 40)) = V at HX HY HBV H0 H1 G0 G1 ⊢
  refine (strands_any _ _ _ _ _ _ _ _ _ H0.out G0.out).mono ?_
  rintro e w1 ⟨rfl, hb⟩
  rw [B0.out]
  have HB := Lib.hid (below_on HBV.out hb)
  cases β0
  · clear hb
    go_wp2_with fail
    go_ret
    exact val_of (by rw [HE.out]; rfl) HB.out
  obtain ⟨u0, u1⟩ := DpStrand.bxc (HX.out.below hb)
  obtain ⟨v0, v1⟩ := DpStrand.bxc (HY.out.below hb)
  have H12 := Lib.hid (H1.out.below hb)
  have G12 := Lib.hid (G1.out.below hb)
  clear hb
  go_wp2_with fail
  refine (lists_any _ _ _ _ _ _ _ _ _ H12.out G12.out).mono ?_
  rintro e w2 ⟨rfl, hb⟩
  rw [B1.out]
  have HB2 := Lib.hid (below_on HB.out hb)
  clear hb
  go_wp2_with fail
  go_ret
  exact val_of (by rw [HE.out]; cases β1 <;> rfl) HB2.out
set_option maxRecDepth 100000 in
set_option maxHeartbeats 16000000 in
theorem spec_equal_any (l0 : List DpStrand.A) (p0 : Option Addr) (n0 c0 : Nat) (l1 : List (List (Int × Int × Int × Int × Int))) (p1 : Option Addr) (n1 c1 : Nat) (m0 : List DpStrand.A) (q0 : Option Addr) (k0 d0 : Nat) (m1 : List (List (Int × Int × Int × Int × Int))) (q1 : Option Addr) (k1 d1 : Nat) {S0 S1 S2 S3 : Nat → Prop} (w : World) (h0 : RdD DpStrand.E S0 w p0 n0 l0) (h1 : RdD (sl (flat SlStamp.E SlStamp.InR)) S1 w p1 n1 l1) (g0 : RdD DpStrand.E S2 w q0 k0 m0) (g1 : RdD (sl (flat SlStamp.E SlStamp.InR)) S3 w q1 k1 m1) : Calls Try.prog 30 #[.agg #[.slice p0 n0 c0, .slice p1 n1 c1], .agg #[.slice q0 k0 d0, .slice q1 k1 d1]] w (Val (.bool (eqE l0 l1 m0 m1)) w) := by
  have hB : Below w.heap.size w ((w.alloc (.cells #[.slice p0 n0 c0, .slice p1 n1 c1] 40)).alloc (.cells #[.slice q0 k0 d0, .slice q1 k1 d1] 40)) := (box1 w _).alloc (by simp) _
  have hy := Bx.new (w.alloc (.cells #[.slice p0 n0 c0, .slice p1 n1 c1] 40)) 40 #[.slice q0 k0 d0, .slice q1 k1 d1]
  rw [World.size_alloc] at hy
  have HX := Lib.hid ((Bx.new w 40 #[.slice p0 n0 c0, .slice p1 n1 c1]).alloc (.cells #[.slice q0 k0 d0, .slice q1 k1 d1] 40))
  have HY := Lib.hid hy
  have HBV := Lib.hid hB
  have H0 := Lib.hid (h0.below hB)
  have H1 := Lib.hid (h1.below hB)
  have G0 := Lib.hid (g0.below hB)
  have G1 := Lib.hid (g1.below hB)
  have e0 := h0.le
  have e1 := h1.le
  have e2 := g0.le
  have e3 := g1.le
  clear hy hB h0 h1 g0 g1
  by_cases a0 : n0 = k0
  rotate_left
  · have HN : Hid (eqE l0 l1 m0 m1 = false) := Lib.hid (by unfold eqE; rw [eqAll_len (f := eqSt) (xs := l0) (ys := m0) (by rw [H0.out.len, G0.out.len]; exact a0)]; rfl)
    have b1 : ((n0 : Int) == k0) = false := beq_eq_false_iff_ne.2 (by omega)
    have b2 : ((n0 : Int) != k0) = true := by rw [bne, b1]; rfl
    have b3 : (n0 == k0) = false := beq_eq_false_iff_ne.2 a0
    have b4 : (n0 != k0) = true := by rw [bne, b3]; rfl
    skip
    clear a0
    go_enter Try.func30, Try.ntmps30
    go_wp2_with fail
    go_ret
    exact val_of (by rw [HN.out]; rfl) HBV.out
  by_cases a1 : n1 = k1
  rotate_left
  · have HN : Hid (eqE l0 l1 m0 m1 = false) := Lib.hid (by unfold eqE; rw [eqAll_len (f := EqStamp.eqL) (xs := l1) (ys := m1) (by rw [H1.out.len, G1.out.len]; exact a1)]; exact Bool.and_false _)
    have b1 : ((n1 : Int) == k1) = false := beq_eq_false_iff_ne.2 (by omega)
    have b2 : ((n1 : Int) != k1) = true := by rw [bne, b1]; rfl
    have b3 : (n1 == k1) = false := beq_eq_false_iff_ne.2 a1
    have b4 : (n1 != k1) = true := by rw [bne, b3]; rfl
    subst a0
    clear a1
    go_enter Try.func30, Try.ntmps30
    go_wp2_with fail
    go_ret
    exact val_of (by rw [HN.out]; rfl) HBV.out
  subst a0 a1
  go_enter Try.func30, Try.ntmps30
  go_wp2_with fail
  generalize ((w.alloc (.cells #[.slice p0 n0 c0, .slice p1 n1 c1] 40)).alloc (.cells #[.slice q0 n0 d0, .slice q1 n1 d1] 40)) = V at HX HY HBV H0 H1 G0 G1 ⊢
  go_loopw [5] (fun i wr => ∃ k : Nat, k ≤ n0 ∧ i = .int .i64 k ∧ Hid (Upto eqSt l0 m0 k) ∧ Hid (Below V.heap.size V wr)) (fun i _ => n0 - (intOf i).toNat)
  case atStart => exact ⟨0, Nat.zero_le _, rfl, Lib.hid upto_zero, Lib.hid (Below.refl _ _)⟩
  case round =>
    obtain ⟨k, hk, rfl, HU, HB⟩ := hrel
    obtain ⟨r0, r1⟩ := DpStrand.bxc (HX.out.below HB.out)
    obtain ⟨s0, s1⟩ := DpStrand.bxc (HY.out.below HB.out)
    by_cases hlt : k < n0
    · skip
      obtain ⟨b, o, x_x, cs_x, rfl, _, hbwx, hxx, hcx, hrdx⟩ := H0.out.at_ hlt
      obtain ⟨lx0, lx1⟩ := x_x
      obtain ⟨px0, nx0, cx0, px1, nx1, cx1, rfl, hx0, hx1⟩ := DpStrand.ex hrdx
      have hccx : ∀ jj v, [.slice px0 nx0 cx0, .slice px1 nx1 cx1][jj]? = some v → wr.cell? ⟨b, o + k * 2 + jj, none⟩ = some v := fun jj v hv => (HB.out.cell (p := ⟨b, o + k * 2 + jj, none⟩) hbwx).trans (hcx jj v hv)
      have HXx := Lib.hid hxx
      have HCx := Lib.hid hccx
      have Hx0 := Lib.hid (hx0.below HB.out)
      have hnx0 := hx0.le
      have Hx1 := Lib.hid (hx1.below HB.out)
      have hnx1 := hx1.le
      obtain ⟨u0, u1⟩ := DpStrand.at_cells hccx
      clear hccx hcx hxx hrdx hx0 hx1
      obtain ⟨b', o', x_y, cs_y, rfl, _, hbwy, hxy, hcy, hrdy⟩ := G0.out.at_ hlt
      obtain ⟨ly0, ly1⟩ := x_y
      obtain ⟨py0, ny0, cy0, py1, ny1, cy1, rfl, hy0, hy1⟩ := DpStrand.ex hrdy
      have hccy : ∀ jj v, [.slice py0 ny0 cy0, .slice py1 ny1 cy1][jj]? = some v → wr.cell? ⟨b', o' + k * 2 + jj, none⟩ = some v := fun jj v hv => (HB.out.cell (p := ⟨b', o' + k * 2 + jj, none⟩) hbwy).trans (hcy jj v hv)
      have HXy := Lib.hid hxy
      have HCy := Lib.hid hccy
      have Hy0 := Lib.hid (hy0.below HB.out)
      have hny0 := hy0.le
      have Hy1 := Lib.hid (hy1.below HB.out)
      have hny1 := hy1.le
      obtain ⟨t0, t1⟩ := DpStrand.at_cells hccy
      clear hccy hcy hxy hrdy hy0 hy1
      have HP0 := Lib.hid u0
      have HQ0 := Lib.hid t0
      have HP1 := Lib.hid u1
      have HQ1 := Lib.hid t1
      have lx : b < wr.heap.size := Nat.lt_of_lt_of_le hbwx HB.out.size
      have ly : b' < wr.heap.size := Nat.lt_of_lt_of_le hbwy HB.out.size
      have HCC : Hid (∀ w' : World, Below wr.heap.size wr w' → w'.cell? ⟨w.heap.size, 0, none⟩ = some (.slice (some ⟨b, o, none⟩) n0 c0) ∧ w'.cell? ⟨w.heap.size, 1, none⟩ = some (.slice p1 n1 c1) ∧ w'.cell? ⟨w.heap.size + 1, 0, none⟩ = some (.slice (some ⟨b', o', none⟩) n0 d0) ∧ w'.cell? ⟨w.heap.size + 1, 1, none⟩ = some (.slice q1 n1 d1) ∧ w'.cell? ⟨b, o + k * 2, none⟩ = some (.slice px0 nx0 cx0) ∧ w'.cell? ⟨b, o + k * 2 + 1, none⟩ = some (.slice px1 nx1 cx1) ∧ w'.cell? ⟨b', o' + k * 2, none⟩ = some (.slice py0 ny0 cy0) ∧ w'.cell? ⟨b', o' + k * 2 + 1, none⟩ = some (.slice py1 ny1 cy1)) := Lib.hid fun w' hb' => by
        obtain ⟨a1, a2⟩ := DpStrand.bxc ((HX.out.below HB.out).below hb')
        obtain ⟨a3, a4⟩ := DpStrand.bxc ((HY.out.below HB.out).below hb')
        exact ⟨a1, a2, a3, a4, (hb'.cell (p := ⟨b, o + k * 2, none⟩) lx).trans HP0.out, (hb'.cell (p := ⟨b, o + k * 2 + 1, none⟩) lx).trans HP1.out, (hb'.cell (p := ⟨b', o' + k * 2, none⟩) ly).trans HQ0.out, (hb'.cell (p := ⟨b', o' + k * 2 + 1, none⟩) ly).trans HQ1.out⟩
      obtain ⟨β, hβ⟩ : ∃ β, eqSt (lx0, lx1) (ly0, ly1) = β := ⟨_, rfl⟩
      have HE := Lib.hid hβ
      have HBd : Hid (Below wr.heap.size wr wr.drew) := Lib.hid (below_drewN (Below.refl _ _) 1)
      have i1 : (0 : Int) ≤ (k : Int) := by omega
      have i2 : (k : Int) < (n0 : Int) := by omega
      clear hβ
      go_wp2_with fail
      go_region_held3 (fun w' => w'.cell? ⟨w.heap.size, 0, none⟩ = some (.slice (some ⟨b, o, none⟩) n0 c0) ∧ w'.cell? ⟨w.heap.size, 1, none⟩ = some (.slice p1 n1 c1) ∧ w'.cell? ⟨w.heap.size + 1, 0, none⟩ = some (.slice (some ⟨b', o', none⟩) n0 d0) ∧ w'.cell? ⟨w.heap.size + 1, 1, none⟩ = some (.slice q1 n1 d1) ∧ w'.cell? ⟨b, o + k * 2, none⟩ = some (.slice px0 nx0 cx0) ∧ w'.cell? ⟨b, o + k * 2 + 1, none⟩ = some (.slice px1 nx1 cx1) ∧ w'.cell? ⟨b', o' + k * 2, none⟩ = some (.slice py0 ny0 cy0) ∧ w'.cell? ⟨b', o' + k * 2 + 1, none⟩ = some (.slice py1 ny1 cy1)) (first | exact HCC.out _ HB5.out | exact HCC.out _ HBd.out | go_keep) (first | (go_at_call 75; (with_reducible refine (Est.spec_equal_any lx0 _ _ _ lx1 _ _ _ ly0 _ _ _ ly1 _ _ _ _ Hx0.out.drew1 Hx1.out.drew1 Hy0.out.drew1 Hy1.out.drew1).mono ?_); rintro e w1 ⟨he1, hb⟩; have HB5 : Hid (Below wr.heap.size wr w1) := Lib.hid (below_on HBd.out hb); have he2 : e = .returned (.bool β) := he1.trans (by rw [← HE.out]; first | done | rfl); subst he2; clear he1 hb) | fail)
      all_goals have HB4 := Lib.hid (below_on HB.out HB5.out)
      cases β
      · have HF : Hid (eqE l0 l1 m0 m1 = false) := Lib.hid (by unfold eqE; rw [eqAll_at HXx.out HXy.out HE.out]; rfl)
        go_wp2_with fail
        go_ret
        exact val_of (by rw [HF.out]; rfl) (HBV.out.trans (HB4.out.mono HBV.out.size))
      · have HU2 := Lib.hid (upto_next HU.out HXx.out HXy.out HE.out)
        go_wp2_with fail
        go_roundw
        case rel => exact ⟨k + 1, by omega, by go_num, HU2, HB4⟩
        case measure => simp [intOf]; omega
    · obtain rfl : n0 = k := by omega
      have HF0 := Lib.hid (eqAll_yes H0.out.len G0.out.len HU.out)
      go_wp2_with fail
      clear r0 r1 s0 s1
      go_loopw [6] (fun i wr => ∃ k : Nat, k ≤ n1 ∧ i = .int .i64 k ∧ Hid (Upto EqStamp.eqL l1 m1 k) ∧ Hid (Below V.heap.size V wr)) (fun i _ => n1 - (intOf i).toNat)
      case atStart => exact ⟨0, Nat.zero_le _, rfl, Lib.hid upto_zero, HB⟩
      case round =>
        obtain ⟨k, hk, rfl, HU, HB⟩ := hrel
        obtain ⟨r0, r1⟩ := DpStrand.bxc (HX.out.below HB.out)
        obtain ⟨s0, s1⟩ := DpStrand.bxc (HY.out.below HB.out)
        by_cases hlt : k < n1
        · skip
          obtain ⟨b, o, xl, cs_x, rfl, _, hbwx, hxx, hcx, hrdx⟩ := H1.out.at_ hlt
          obtain ⟨xp, xn, xc, rfl, hx0⟩ := hrdx
          have u0 : wr.cell? ⟨b, o + k, none⟩ = some (.slice xp xn xc) := by
            have h := (HB.out.cell (p := ⟨b, o + k * 1 + 0, none⟩) hbwx).trans (hcx 0 _ rfl)
            rw [Nat.mul_one] at h
            exact h
          have HXx := Lib.hid hxx
          have Hx0 := Lib.hid (hx0.below HB.out)
          have hnx := hx0.le
          clear hxx hcx hx0
          obtain ⟨b', o', yl, cs_y, rfl, _, hbwy, hxy, hcy, hrdy⟩ := G1.out.at_ hlt
          obtain ⟨yp, yn, yc, rfl, hy0⟩ := hrdy
          have t0 : wr.cell? ⟨b', o' + k, none⟩ = some (.slice yp yn yc) := by
            have h := (HB.out.cell (p := ⟨b', o' + k * 1 + 0, none⟩) hbwy).trans (hcy 0 _ rfl)
            rw [Nat.mul_one] at h
            exact h
          have HXy := Lib.hid hxy
          have Hy0 := Lib.hid (hy0.below HB.out)
          have hny := hy0.le
          clear hxy hcy hy0
          have HP0 := Lib.hid u0
          have HQ0 := Lib.hid t0
          have lx : b < wr.heap.size := Nat.lt_of_lt_of_le hbwx HB.out.size
          have ly : b' < wr.heap.size := Nat.lt_of_lt_of_le hbwy HB.out.size
          have HCC : Hid (∀ w' : World, Below wr.heap.size wr w' → w'.cell? ⟨w.heap.size, 0, none⟩ = some (.slice p0 n0 c0) ∧ w'.cell? ⟨w.heap.size, 1, none⟩ = some (.slice (some ⟨b, o, none⟩) n1 c1) ∧ w'.cell? ⟨w.heap.size + 1, 0, none⟩ = some (.slice q0 n0 d0) ∧ w'.cell? ⟨w.heap.size + 1, 1, none⟩ = some (.slice (some ⟨b', o', none⟩) n1 d1) ∧ w'.cell? ⟨b, o + k, none⟩ = some (.slice xp xn xc) ∧ w'.cell? ⟨b', o' + k, none⟩ = some (.slice yp yn yc)) := Lib.hid fun w' hb' => by
            obtain ⟨a1, a2⟩ := DpStrand.bxc ((HX.out.below HB.out).below hb')
            obtain ⟨a3, a4⟩ := DpStrand.bxc ((HY.out.below HB.out).below hb')
            exact ⟨a1, a2, a3, a4, (hb'.cell (p := ⟨b, o + k, none⟩) lx).trans HP0.out, (hb'.cell (p := ⟨b', o' + k, none⟩) ly).trans HQ0.out⟩
          obtain ⟨β, hβ⟩ : ∃ β, EqStamp.eqL xl yl = β := ⟨_, rfl⟩
          have HE := Lib.hid hβ
          have HBd : Hid (Below wr.heap.size wr wr.drew) := Lib.hid (below_drewN (Below.refl _ _) 1)
          have i1 : (0 : Int) ≤ (k : Int) := by omega
          have i2 : (k : Int) < (n1 : Int) := by omega
          clear hβ
          go_wp2_with fail
          go_region_held3 (fun w' => w'.cell? ⟨w.heap.size, 0, none⟩ = some (.slice p0 n0 c0) ∧ w'.cell? ⟨w.heap.size, 1, none⟩ = some (.slice (some ⟨b, o, none⟩) n1 c1) ∧ w'.cell? ⟨w.heap.size + 1, 0, none⟩ = some (.slice q0 n0 d0) ∧ w'.cell? ⟨w.heap.size + 1, 1, none⟩ = some (.slice (some ⟨b', o', none⟩) n1 d1) ∧ w'.cell? ⟨b, o + k, none⟩ = some (.slice xp xn xc) ∧ w'.cell? ⟨b', o' + k, none⟩ = some (.slice yp yn yc)) (first | exact HCC.out _ HB5.out | exact HCC.out _ HBd.out | go_keep) (first | (go_at_call 76; (with_reducible refine (Ls.stamps_any _ _ _ _ _ _ xl yl _ Hx0.out.drew1.rdS Hy0.out.drew1.rdS).mono ?_); rintro e w1 ⟨he1, hb⟩; have HB5 : Hid (Below wr.heap.size wr w1) := Lib.hid (below_on HBd.out hb); have he2 : e = .returned (.bool β) := he1.trans (by rw [← HE.out]; first | done | rfl); subst he2; clear he1 hb) | fail)
          all_goals have HB4 := Lib.hid (below_on HB.out HB5.out)
          cases β
          · have HF : Hid (eqE l0 l1 m0 m1 = false) := Lib.hid (by unfold eqE; rw [eqAll_at HXx.out HXy.out HE.out]; exact Bool.and_false _)
            go_wp2_with fail
            go_ret
            exact val_of (by rw [HF.out]; rfl) (HBV.out.trans (HB4.out.mono HBV.out.size))
          · have HU2 := Lib.hid (upto_next HU.out HXx.out HXy.out HE.out)
            go_wp2_with fail
            go_roundw
            case rel => exact ⟨k + 1, by omega, by go_num, HU2, HB4⟩
            case measure => simp [intOf]; omega
        · obtain rfl : n1 = k := by omega
          have HF1 := Lib.hid (eqAll_yes H1.out.len G1.out.len HU.out)
          have HFF : Hid (eqE l0 l1 m0 m1 = true) := Lib.hid (by unfold eqE; rw [HF0.out, HF1.out]; rfl)
          go_wp2_with fail
          go_ret
          exact val_of (by rw [HFF.out]; rfl) (HBV.out.trans (HB.out.mono HBV.out.size))
end Go.Proofs.Ytapijjdjaamldaa.Ee2
