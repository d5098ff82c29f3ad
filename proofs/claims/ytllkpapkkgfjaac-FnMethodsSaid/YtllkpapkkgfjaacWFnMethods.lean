/- The walk of the law FnMethods. -/
import Derived.Test.YtllkpapkkgfjaacMt
import Derived.Test.YtllkpapkkgfjaacMz
import Derived.Test.YtllkpapkkgfjaacHj
import Derived.Test.YtllkpapkkgfjaacDrawMf
import Derived.Deep.DeepCutAuto
import Derived.OpenShut
namespace Go.Proofs.Ytllkpapkkgfjaac.fnMethods
open Go.ChangeShapes Go.WideShapes Go.ChangeAt Go.RowKit Sl St Mn SlMethod Mm Mb Mq Mv Mt Hs Dg

theorem best_in {l : List Me} (hR : ∀ x ∈ l, InR x) (t : Int) : -9223372036854775808 ≤ best l t ∧ best l t ≤ 9223372036854775807 := by
  rcases best_cases l t with ⟨h, _⟩ | ⟨b, hb, _, h⟩
  · omega
  · rw [h]
    exact (hR _ (getD_mem z4 hb)).1
theorem own_set {T : TypeId} {w : World} {lo hi g n c i : Nat} {zs : List Int} {v : Int} (h : Ow .i64 T w lo hi (some ⟨g, 0, none⟩) n c zs) (hv : inK .i64 v) : Ow .i64 T (w.setCell ⟨g, i, none⟩ (.int .i64 v)) lo hi (some ⟨g, 0, none⟩) n c (zs.set i v) ∧ w.grownBy (w.setCell ⟨g, i, none⟩ (.int .i64 v)) (some g) := by
  obtain ⟨h1, h2⟩ := h.own.stored i (.int .i64 v)
  rw [← List.map_set] at h1
  refine ⟨⟨h1, fun x hx => ?_, Nat.le_trans h.2.2.1 h2.size, h.2.2.2⟩, h2⟩
  rcases List.mem_or_eq_of_mem_set hx with hx | rfl
  · exact h.all x hx
  · exact hv
theorem own_some {T : TypeId} {w : World} {lo hi n c : Nat} {p : Option Addr} {zs : List Int} (h : Ow .i64 T w lo hi p n c zs) (hn : 0 < n) : ∃ g, p = some ⟨g, 0, none⟩ ∧ lo ≤ g ∧ g < hi := by
  rcases h.form with ⟨_, h0, _⟩ | ⟨g, h1, h2, h3, _⟩
  · omega
  · exact ⟨g, h1, h2, h3⟩
set_option maxRecDepth 100000 in
set_option maxHeartbeats 16000000 in
theorem walk {H : Type} {enc : TypeId × Value → H} (W : World) (base : Nat)
    (v0 : Value) (d0 : DataW H) (p0 : List MemPlace) (h0 : DataW.Trod enc Try.prog W 0 (fun _ => true) true 22 v0 d0 p0) (k0 : Value.okWide Try.prog W .any base 22 v0)
    (_hsz : (DataW.weightsEach Try.prog [22] [d0]).all (· ≤ reachBytes) = true) :
    Calls Try.prog 18 #[v0] W fun e w' => e = .returned (.bool true) ∧ Below W.heap.size W w' := by
  obtain ⟨i0, hi, hz0, hz1, hz2⟩ := info_parts SlI.info
  obtain ⟨n, hcode⟩ := Cur.code_of h0 k0
  have HC := Lib.hid hcode
  clear h0 k0 hcode _hsz
  rcases hbig : decide (1048576 < n) with _ | _
  rotate_left
  · have HBig := Lib.hid hbig
    clear hbig
    go_enter Try.func18, Try.ntmps18
    go_wp2_with fail
    refine (Cur.big_any _ _ _ _ HC.out HBig.out).mono ?_
    rintro e w' ⟨rfl, rfl⟩
    go_wp2_with fail
    go_ret
    exact ⟨rfl, Below.refl _ _⟩
  have HBig := Lib.hid hbig
  clear hbig
  go_enter Try.func18, Try.ntmps18
  go_wp2_with fail
  refine (Cur.big_any _ _ _ _ HC.out HBig.out).mono ?_
  rintro e w' ⟨rfl, rfl⟩
  go_wp2_with fail
  refine (Cur.drawAlive_any _ _ _ HC.out).mono ?_
  rintro e w1 ⟨p1, m1, c1, zs, id, t, rfl, hms, hid, ht, hb1⟩
  have HR1 := Lib.hid hms.1
  have HI1 := Lib.hid hms.2.1
  have hm1 := hms.2.2
  have HID := Lib.hid hid
  have HB1 := Lib.hid hb1
  have HC1 := Lib.hid (HC.out.on hb1)
  clear hms hb1 hid ht
  go_upto_region 4 with fail
  go_cut [49] from 23 to 49 (fun s wx => s = .bool false ∧ Hid (Below w1.heap.size w1 wx))
  case first =>
    obtain ⟨B, hB⟩ : ∃ B, brk zs id = B := ⟨_, rfl⟩
    have HBr := Lib.hid hB
    have HFn : Hid (¬ B = 0 → ¬ fnd zs id < 0) := Lib.hid (by rw [← hB]; exact brk_fnd)
    have HAl : Hid (alive zs id t = true → t < B) := Lib.hid (by rw [← hB]; exact alive_brk)
    clear hB
    go_wp2_with fail
    refine (spec_areMethods_any _ _ _ _ _ HR1.out).mono ?_
    rintro e w2 ⟨rfl, hb2⟩
    have HB2 := Lib.hid hb2
    clear hb2
    rcases hα : areM zs with _ | _
    · clear hα
      go_wp2_with fail
      refine (brk_any _ _ _ _ HI1.out _ HID.out _ (HR1.out.below HB2.out)).mono ?_
      rintro e w3 ⟨rfl, hb3⟩
      rw [HBr.out]
      have HB3 := Lib.hid (below_on HB2.out hb3)
      clear hb3
      by_cases hz : B = 0
      · go_wp2_with fail
        go_meet
        exact ⟨rfl, HB3⟩
      · have hfn := HFn.out hz
        go_wp2_with fail
        refine (find_any _ _ _ _ HI1.out _ HID.out _ (HR1.out.below HB3.out)).mono ?_
        rintro e w4 ⟨rfl, hb4⟩
        generalize fnd zs id = F at hfn
        have HB4 := Lib.hid (below_on HB3.out hb4)
        clear hb4
        go_wp2_with fail
        go_meet
        exact ⟨by first | rfl | (congr 1; simp; omega), HB4⟩
    · clear hα
      go_wp2_with fail
      refine (alive_any _ _ _ _ HI1.out _ HID.out t _ (HR1.out.below HB2.out)).mono ?_
      rintro e w3 ⟨rfl, hb3⟩
      replace HB2 := Lib.hid (below_on HB2.out hb3)
      clear hb3
      rcases hβ : alive zs id t with _ | _
      · clear hβ
        go_wp2_with fail
        refine (brk_any _ _ _ _ HI1.out _ HID.out _ (HR1.out.below HB2.out)).mono ?_
        rintro e w3 ⟨rfl, hb3⟩
        rw [HBr.out]
        have HB3 := Lib.hid (below_on HB2.out hb3)
        clear hb3
        by_cases hz : B = 0
        · go_wp2_with fail
          go_meet
          exact ⟨by first | rfl | (congr 1; simp; omega), HB3⟩
        · have hfn := HFn.out hz
          go_wp2_with fail
          refine (find_any _ _ _ _ HI1.out _ HID.out _ (HR1.out.below HB3.out)).mono ?_
          rintro e w4 ⟨rfl, hb4⟩
          generalize fnd zs id = F at hfn
          have HB4 := Lib.hid (below_on HB3.out hb4)
          clear hb4
          go_wp2_with fail
          go_meet
          exact ⟨by first | rfl | (congr 1; simp; omega), HB4⟩
      · have hlt := HAl.out hβ
        have hle : ¬ B ≤ t := by omega
        clear hβ
        go_wp2_with fail
        refine (brk_any _ _ _ _ HI1.out _ HID.out _ (HR1.out.below HB2.out)).mono ?_
        rintro e w3 ⟨rfl, hb3⟩
        rw [HBr.out]
        replace HB2 := Lib.hid (below_on HB2.out hb3)
        clear hb3
        go_wp2_with fail
        refine (brk_any _ _ _ _ HI1.out _ HID.out _ (HR1.out.below HB2.out)).mono ?_
        rintro e w3 ⟨rfl, hb3⟩
        rw [HBr.out]
        have HB3 := Lib.hid (below_on HB2.out hb3)
        clear hb3
        by_cases hz : B = 0
        · go_wp2_with fail
          go_meet
          exact ⟨by first | rfl | (congr 1; simp; omega), HB3⟩
        · have hfn := HFn.out hz
          go_wp2_with fail
          refine (find_any _ _ _ _ HI1.out _ HID.out _ (HR1.out.below HB3.out)).mono ?_
          rintro e w4 ⟨rfl, hb4⟩
          generalize fnd zs id = F at hfn
          have HB4 := Lib.hid (below_on HB3.out hb4)
          clear hb4
          go_wp2_with fail
          go_meet
          exact ⟨by first | rfl | (congr 1; simp; omega), HB4⟩
  case rest =>
    obtain ⟨rfl, HX1⟩ := hcut
    have HB2 := Lib.hid (below_on HB1.out HX1.out)
    have HC2 := Lib.hid (HC1.out.on HX1.out)
    clear HX1
    go_wp2_with fail
    refine (Cur.drawBest_any _ _ _ HC2.out).mono ?_
    rintro e w3 ⟨p3, m3, c3, ys, u, rfl, hms, hu, hb3⟩
    have HR3 := Lib.hid hms.1
    have HI3 := Lib.hid hms.2.1
    have hm3 := hms.2.2
    have HL3 := Lib.hid hms.1.len
    have HB3 := Lib.hid (below_on HB2.out hb3)
    have HC3 := Lib.hid (HC2.out.on hb3)
    have HBI := Lib.hid (best_in hms.2.1 u)
    clear hms hb3 hu
    go_wp2_with fail
    refine (best_any _ _ _ _ u _ HR3.out).mono ?_
    rintro e w4 ⟨rfl, hb4⟩
    have HR4 := Lib.hid (HR3.out.below hb4)
    have HB4 := Lib.hid (below_on HB3.out hb4)
    have HC4 := Lib.hid (HC3.out.on hb4)
    clear hb4
    obtain ⟨Z, hZ⟩ : ∃ Z, best ys u = Z := ⟨_, rfl⟩
    have HZ := Lib.hid hZ
    rw [hZ]
    clear hZ
    go_wp2_with fail
    refine (find_any _ _ _ _ HI3.out Z (by rw [← HZ.out]; exact HBI.out) _ HR4.out).mono ?_
    rintro e w5 ⟨rfl, hb5⟩
    have HR5 := Lib.hid (HR4.out.below hb5)
    have HB5 := Lib.hid (below_on HB4.out hb5)
    have HC5 := Lib.hid (HC4.out.on hb5)
    clear hb5
    obtain ⟨F, hF⟩ : ∃ F, fnd ys Z = F := ⟨_, rfl⟩
    have HF := Lib.hid hF
    rw [hF]
    clear hF
    go_upto_region 9 with fail
    go_cut [88] from 61 to 88 (fun s wx => s = .bool false ∧ Hid (Below w5.heap.size w5 wx))
    case first =>
      by_cases hZ0 : 0 ≤ Z
      rotate_left
      · go_wp2_with fail
        go_meet
        exact ⟨by first | rfl | (congr 1; simp; omega), Lib.hid (Below.refl _ _)⟩
      rcases hα : areM ys with _ | _
      · have HA := Lib.hid hα
        clear hα
        go_wp2_with fail
        refine (areMethods_any _ _ _ _ _ HR5.out).mono ?_
        rintro e w6 ⟨rfl, hb6⟩
        rw [HA.out]
        have HB6 := Lib.hid hb6
        clear hb6
        go_wp2_with fail
        go_meet
        exact ⟨rfl, HB6⟩
      · obtain ⟨b, hb, hbn, hbe⟩ : ∃ b, b < ys.length ∧ bestN ys u ys.length = some b ∧ best ys u = (ys.getD b z4).1 := by
          rcases best_cases ys u with ⟨h, _⟩ | h
          · rw [HZ.out] at h; omega
          · exact h
        have hFb : F = (b : Int) := by rw [← HF.out, ← HZ.out, hbe]; exact fnd_self hα hb
        have hu := best_inUse hbn
        rw [HL3.out] at hb
        have HA := Lib.hid hα
        subst hFb
        clear hα hbn hbe
        go_wp2_with fail
        refine (areMethods_any _ _ _ _ _ HR5.out).mono ?_
        rintro e w6 ⟨rfl, hb6⟩
        rw [HA.out]
        obtain ⟨bb, oo, x0, x1, x2, x3, rfl, _, hx, hat⟩ := c4_at (HR5.out.below hb6) hb
        rw [hx] at hu
        have hu1 : x1 ≤ u := hu.1
        have hu2 : u < x2 := hu.2
        have HB6 := Lib.hid hb6
        obtain ⟨g0, g1, g2, g3⟩ := hat
        clear hb6 hx hu
        go_wp2_with fail
        go_meet
        exact ⟨by first | rfl | (congr 1; simp; omega), HB6⟩
    case rest =>
      obtain ⟨rfl, HX5⟩ := hcut
      have HB6 := Lib.hid (below_on HB5.out HX5.out)
      have HC6 := Lib.hid (HC5.out.on HX5.out)
      have HR6 := Lib.hid (HR5.out.below HX5.out)
      clear HX5
      go_wp2_with fail
      go_loopw [10] (fun i wr => ∃ k : Nat, k ≤ m3 ∧ i = .int .i64 k ∧ Hid (Below wc.heap.size wc wr)) (fun i _ => m3 - (intOf i).toNat)
      case atStart => exact ⟨0, Nat.zero_le _, rfl, Lib.hid (Below.refl _ _)⟩
      case round =>
        obtain ⟨k, hk, rfl, HK⟩ := hrel
        have HRk := Lib.hid (HR6.out.below HK.out)
        by_cases hlt : k < m3
        · rcases hα : areM ys with _ | _
          · have HA := Lib.hid hα
            clear hα
            go_wp2_with fail
            refine (areMethods_any _ _ _ _ _ HRk.out).mono ?_
            rintro e w7 ⟨rfl, hb7⟩
            rw [HA.out]
            have HB7 := Lib.hid (below_on HB6.out (below_on HK.out hb7))
            have HC7 := Lib.hid (HC6.out.on (below_on HK.out hb7))
            clear hb7
            go_wp2_with fail
            refine (Cur.drawDigest_any _ _ _ HC7.out).mono ?_
            rintro e w8 ⟨x, pd, md, cd, is, rfl, hx, hrd, his, hmd, hb8⟩
            have HB8 := Lib.hid (below_on HB7.out hb8)
            have HRD := Lib.hid hrd
            have HIS := Lib.hid his
            have HLD := Lib.hid hrd.len
            obtain ⟨x0', x4'⟩ := hx
            have HDN : Hid (dig x is ≠ dig (x + 1) is) := Lib.hid (Hj.dig_id is (by omega))
            have hw1 : IntKind.i64.wrap (x + 1) = x + 1 := IntWalk.i64_in _ (by omega)
            clear hrd his hb8
            go_wp2_with fail
            go_loopw [13] (fun i wr => ∃ k : Nat, k ≤ md ∧ i = .int .i64 k ∧ Hid (Below w8.heap.size w8 wr)) (fun i _ => md - (intOf i).toNat)
            case atStart => exact ⟨0, Nat.zero_le _, rfl, Lib.hid (Below.refl _ _)⟩
            case round =>
              obtain ⟨j, hj, rfl, HJ⟩ := hrel
              by_cases hjl : j < md
              · have HRj := Lib.hid (HRD.out.below HJ.out)
                have HE := Lib.hid (Cur.empty5 wr wr.heap.size (Nat.le_refl _))
                have HEB := Lib.hid ((Below.refl wr.heap.size wr).alloc (Nat.le_refl _) (.cells #[] 3))
                have hz := HIS.out (is.getD j 0) (getD_mem 0 (by rw [HLD.out]; exact hjl))
                have HNE : Hid (dig x (is.set j (is.getD j 0 + 1)) ≠ dig x is) := Lib.hid (Hj.dig_set x (by rw [HLD.out]; exact hjl) (by omega))
                generalize hzz : is.getD j 0 = z at hz HNE
                have HZZ := Lib.hid hzz
                obtain ⟨z0, z8⟩ := hz
                have hw2 : IntKind.i64.wrap (z + 1) = z + 1 := IntWalk.i64_in _ (by omega)
                have j1 : (0 : Int) ≤ (j : Int) := by omega
                have j2 : (j : Int) < (md : Int) := by omega
                clear hzz
                go_wp2_with (at_builtin; refine wpList_appR rfl (.tmp 143) (.tmp 144) 26 rfl i0 _ 8 Try.underlying26 hi hz0 hz1 hz2 rfl rfl HE.out pd md cd is rfl (HRj.out.alloc _) (by simp) (by omega) (by omega) ?_; intro p5 c5 w9 how5 hg5; rw [Nat.zero_add, List.nil_append] at how5; obtain ⟨g5, rfl, hg5a, hg5b⟩ := own_some how5 (by omega); have hcell : w9.cell? ⟨g5, j, none⟩ = some (.int .i64 z) := (by have h := how5.cell (i := j) hjl; rw [HZZ.out] at h; exact h); have hfree : w9.frozen? ⟨g5, j, none⟩ = false := how5.free; have hset := own_set (i := j) (v := z + 1) how5 ⟨by omega, by omega⟩; have HS9 := Lib.hid hset.1.rd; have HB9 := Lib.hid ((below_on HJ.out (below_row HEB.out HE.out hg5 (Nat.le_refl _))).setCell (p := ⟨g5, j, none⟩) (Nat.le_trans HJ.out.size hg5a) (.int .i64 (z + 1))); clear how5 hg5 hset)
                refine (dig_any _ _ _ _ _ _ HS9.out).mono ?_
                rintro e w10 ⟨rfl, rfl⟩
                go_wp2_with fail
                refine (dig_any _ _ _ _ _ _ (HRD.out.below HB9.out)).mono ?_
                rintro e w10 ⟨rfl, rfl⟩
                have hne := HNE.out
                generalize dig x (is.set j (z + 1)) = D1 at hne
                generalize dig x is = D2 at hne
                go_wp2_with fail
                go_roundw
                case rel => exact ⟨j + 1, by omega, by go_num, HB9⟩
                case measure => simp [intOf]; omega
              · obtain rfl : j = md := by omega
                go_wp2_with fail
                refine (dig_any _ _ _ _ _ _ (HRD.out.below HJ.out)).mono ?_
                rintro e w10 ⟨rfl, rfl⟩
                go_wp2_with fail
                refine (dig_any _ _ _ _ _ _ (HRD.out.below HJ.out)).mono ?_
                rintro e w10 ⟨rfl, rfl⟩
                have hne := HDN.out
                generalize dig x is = D1 at hne
                generalize dig (x + 1) is = D2 at hne
                go_wp2_with fail
                go_ret
                exact ⟨by simp [hne], below_on HB8.out HJ.out⟩
          · have HA := Lib.hid hα
            go_wp2_with fail
            refine (areMethods_any _ _ _ _ _ HRk.out).mono ?_
            rintro e w7 ⟨rfl, hb7⟩
            rw [HA.out]
            have HK7 := Lib.hid (below_on HK.out hb7)
            obtain ⟨bb, oo, x0, x1, x2, x3, rfl, _, hx, hat⟩ := c4_at (HRk.out.below hb7) hlt
            obtain ⟨_, g1, g2, _⟩ := hat
            clear hb7
            have k1 : (0 : Int) ≤ (k : Int) := by omega
            have k2 : (k : Int) < (m3 : Int) := by omega
            by_cases h1 : x1 ≤ u
            rotate_left
            · have d1 := decide_eq_false h1
              clear hα hx
              go_wp2_with fail
              go_quiet (fail)
              go_wp2_with fail
              go_roundw
              case rel => exact ⟨k + 1, by omega, by go_num, Lib.hid (below_drewN HK7.out _)⟩
              case measure => simp [intOf]; omega
            have d1 := decide_eq_true h1
            by_cases h2 : u < x2
            rotate_left
            · have d2 := decide_eq_false h2
              clear hα hx
              go_wp2_with fail
              go_quiet (fail)
              go_wp2_with fail
              go_roundw
              case rel => exact ⟨k + 1, by omega, by go_num, Lib.hid (below_drewN HK7.out _)⟩
              case measure => simp [intOf]; omega
            have d2 := decide_eq_true h2
            obtain ⟨b, hbn, hend⟩ := best_last (l := ys) (t := u) (by rw [HL3.out]; exact hlt) (by rw [hx]; exact ⟨h1, h2⟩)
            have hb := bestN_lt hbn
            have hbe := best_at hbn
            have hFb : F = (b : Int) := by rw [← HF.out, ← HZ.out, hbe]; exact fnd_self hα hb
            have hZ0 : 0 ≤ Z := by rw [← HZ.out, hbe]; exact best_id hα hb
            have d3 : decide (Z < 0) = false := decide_eq_false (by omega)
            rw [hx] at hend
            subst hFb
            rw [HL3.out] at hb
            obtain ⟨b', o', y0, y1, y2, y3, e', _, hy, hat'⟩ := c4_at (HR6.out.below HK7.out) (k := b) hb
            simp only [Option.some.injEq, Addr.mk.injEq, and_true] at e'
            obtain ⟨rfl, rfl⟩ := e'
            rw [hy] at hend
            have hle : x2 ≤ y2 := hend
            have hnlt : ¬ y2 < x2 := by omega
            have d4 := decide_eq_false hnlt
            obtain ⟨_, _, q2, _⟩ := hat'
            have b1 : (0 : Int) ≤ (b : Int) := by omega
            have b2 : (b : Int) < (m3 : Int) := by omega
            clear hα hx hy hbn hbe hend
            go_wp2_with fail
            go_quiet (fail)
            go_wp2_with fail
            go_roundw
            case rel => exact ⟨k + 1, by omega, by go_num, Lib.hid (below_drewN HK7.out _)⟩
            case measure => simp [intOf]; omega
        · obtain rfl : k = m3 := by omega
          have HB7 := Lib.hid (below_on HB6.out HK.out)
          have HC7 := Lib.hid (HC6.out.on HK.out)
          go_wp2_with fail
          refine (Cur.drawDigest_any _ _ _ HC7.out).mono ?_
          rintro e w8 ⟨x, pd, md, cd, is, rfl, hx, hrd, his, hmd, hb8⟩
          have HB8 := Lib.hid (below_on HB7.out hb8)
          have HRD := Lib.hid hrd
          have HIS := Lib.hid his
          have HLD := Lib.hid hrd.len
          obtain ⟨x0', x4'⟩ := hx
          have HDN : Hid (dig x is ≠ dig (x + 1) is) := Lib.hid (Hj.dig_id is (by omega))
          have hw1 : IntKind.i64.wrap (x + 1) = x + 1 := IntWalk.i64_in _ (by omega)
          clear hrd his hb8
          go_wp2_with fail
          go_loopw [13] (fun i wr => ∃ k : Nat, k ≤ md ∧ i = .int .i64 k ∧ Hid (Below w8.heap.size w8 wr)) (fun i _ => md - (intOf i).toNat)
          case atStart => exact ⟨0, Nat.zero_le _, rfl, Lib.hid (Below.refl _ _)⟩
          case round =>
            obtain ⟨j, hj, rfl, HJ⟩ := hrel
            by_cases hjl : j < md
            · have HRj := Lib.hid (HRD.out.below HJ.out)
              have HE := Lib.hid (Cur.empty5 wr wr.heap.size (Nat.le_refl _))
              have HEB := Lib.hid ((Below.refl wr.heap.size wr).alloc (Nat.le_refl _) (.cells #[] 3))
              have hz := HIS.out (is.getD j 0) (getD_mem 0 (by rw [HLD.out]; exact hjl))
              have HNE : Hid (dig x (is.set j (is.getD j 0 + 1)) ≠ dig x is) := Lib.hid (Hj.dig_set x (by rw [HLD.out]; exact hjl) (by omega))
              generalize hzz : is.getD j 0 = z at hz HNE
              have HZZ := Lib.hid hzz
              obtain ⟨z0, z8⟩ := hz
              have hw2 : IntKind.i64.wrap (z + 1) = z + 1 := IntWalk.i64_in _ (by omega)
              have j1 : (0 : Int) ≤ (j : Int) := by omega
              have j2 : (j : Int) < (md : Int) := by omega
              clear hzz
              go_wp2_with (at_builtin; refine wpList_appR rfl (.tmp 143) (.tmp 144) 26 rfl i0 _ 8 Try.underlying26 hi hz0 hz1 hz2 rfl rfl HE.out pd md cd is rfl (HRj.out.alloc _) (by simp) (by omega) (by omega) ?_; intro p5 c5 w9 how5 hg5; rw [Nat.zero_add, List.nil_append] at how5; obtain ⟨g5, rfl, hg5a, hg5b⟩ := own_some how5 (by omega); have hcell : w9.cell? ⟨g5, j, none⟩ = some (.int .i64 z) := (by have h := how5.cell (i := j) hjl; rw [HZZ.out] at h; exact h); have hfree : w9.frozen? ⟨g5, j, none⟩ = false := how5.free; have hset := own_set (i := j) (v := z + 1) how5 ⟨by omega, by omega⟩; have HS9 := Lib.hid hset.1.rd; have HB9 := Lib.hid ((below_on HJ.out (below_row HEB.out HE.out hg5 (Nat.le_refl _))).setCell (p := ⟨g5, j, none⟩) (Nat.le_trans HJ.out.size hg5a) (.int .i64 (z + 1))); clear how5 hg5 hset)
              refine (dig_any _ _ _ _ _ _ HS9.out).mono ?_
              rintro e w10 ⟨rfl, rfl⟩
              go_wp2_with fail
              refine (dig_any _ _ _ _ _ _ (HRD.out.below HB9.out)).mono ?_
              rintro e w10 ⟨rfl, rfl⟩
              have hne := HNE.out
              generalize dig x (is.set j (z + 1)) = D1 at hne
              generalize dig x is = D2 at hne
              go_wp2_with fail
              go_roundw
              case rel => exact ⟨j + 1, by omega, by go_num, HB9⟩
              case measure => simp [intOf]; omega
            · obtain rfl : j = md := by omega
              go_wp2_with fail
              refine (dig_any _ _ _ _ _ _ (HRD.out.below HJ.out)).mono ?_
              rintro e w10 ⟨rfl, rfl⟩
              go_wp2_with fail
              refine (dig_any _ _ _ _ _ _ (HRD.out.below HJ.out)).mono ?_
              rintro e w10 ⟨rfl, rfl⟩
              have hne := HDN.out
              generalize dig x is = D1 at hne
              generalize dig (x + 1) is = D2 at hne
              go_wp2_with fail
              go_ret
              exact ⟨by simp [hne], below_on HB8.out HJ.out⟩
end Go.Proofs.Ytllkpapkkgfjaac.fnMethods
