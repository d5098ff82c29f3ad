/- Stamps of a renewal: whether one is not right, whether they ascend; what is of no program and what is of the program. -/
import Derived.Test.YtnkpioaaabnlcaaDpRenewal
import Derived.Test.YtnkpioaaabnlcaaMStamp
import Derived.Test.YtnkpioaaabnlcaaEs
import Derived.Test.YtnkpioaaabnlcaaFp
import Derived.Deep.QuietTactic
import Derived.BigQuiet
import Derived.LoopTactic
import Derived.Outline
namespace Go.Proofs.Ytnkpioaaabnlcaa.Cr1
open Go.ChangeShapes Go.WideShapes Go.ChangeAt Go.RowKit Sl St Ed Dz Es Fnd
def ok (ks : List I5) (us : List I3) (root : Int) : I5 → Bool := fun (x0, x1, x2, x3, x4) => decide (x3 = root) && MStamp.chk ks us (x0, x1, x2, x3, x4)
def bad (ks : List I5) (us : List I3) (root : Int) (s : I5) : Bool := !(ok ks us root s)
theorem ok_no {ks : List I5} {us : List I3} {root x0 x1 x2 x3 x4 : Int} (h : ¬ x3 = root) : bad ks us root (x0, x1, x2, x3, x4) = true := by
  show (!(decide (x3 = root) && _)) = true
  rw [decide_eq_false h]
  rfl
theorem ok_yes {ks : List I5} {us : List I3} {x0 x1 x2 x3 x4 : Int} : bad ks us x3 (x0, x1, x2, x3, x4) = !(MStamp.chk ks us (x0, x1, x2, x3, x4)) := by
  show (!(decide (x3 = x3) && _)) = _
  rw [decide_eq_true rfl, Bool.true_and]
def AscTo (xs : List I5) (k : Nat) : Prop := ∀ (i : Nat) (s t : I5), i + 1 < k → xs[i]? = some s → xs[i + 1]? = some t → s.1 < t.1
noncomputable def asc (xs : List I5) : Bool := @decide (AscTo xs xs.length) (Classical.propDecidable _)
theorem asc_one (xs : List I5) : AscTo xs 1 := fun _ _ _ h => absurd h (by omega)
theorem asc_zero (xs : List I5) : AscTo xs 0 := fun _ _ _ h => absurd h (by omega)
theorem asc_next {xs : List I5} {k : Nat} {s t : I5} (h : AscTo xs (k + 1)) (hs : xs[k]? = some s) (ht : xs[k + 1]? = some t) (hl : s.1 < t.1) : AscTo xs (k + 1 + 1) := fun i y z hi hy hz => by
  rcases Nat.lt_or_ge (i + 1) (k + 1) with h1 | h1
  · exact h i y z h1 hy hz
  · obtain rfl : i = k := by omega
    rw [hs] at hy
    rw [ht] at hz
    cases hy
    cases hz
    exact hl
theorem asc_yes {xs : List I5} {k n : Nat} (h : AscTo xs k) (hn : xs.length = n) (hk : n ≤ k) : asc xs = true := @decide_eq_true _ (Classical.propDecidable _) fun i s t hi => h i s t (by omega)
theorem asc_no {xs : List I5} {k : Nat} {s t : I5} (hs : xs[k]? = some s) (ht : xs[k + 1]? = some t) (hl : ¬ s.1 < t.1) : asc xs = false := @decide_eq_false _ (Classical.propDecidable _) fun h => hl (h k s t ((List.getElem?_eq_some_iff.1 ht).1) hs ht)
set_option maxRecDepth 100000 in
set_option maxHeartbeats 4000000 in
theorem clo_any (gr gk ga : Nat) (ks : List I5) (pk : Option Addr) (nk ck : Nat) (us : List I3) (pa : Option Addr) (na ca : Nat) (r0 r1 root : Int) (p3 : Option Addr) (n3 c3 : Nat) (p4 : Option Addr) (n4 c4 : Nat) (x0 x1 x2 x3 x4 : Int) (hx : SlStamp.InR (x0, x1, x2, x3, x4)) {SK SA : Nat → Prop} (w : World) (hk : RdD (flat SlKey.E SlKey.InR) SK w pk nk ks) (ha : RdD (flat SlAuthority.E SlAuthority.InR) SA w pa na us) (hr : Bx w gr 55 #[.int .i64 r0, .int .i64 r1, .int .i64 root, .slice p3 n3 c3, .slice p4 n4 c4]) (hgk : Bx w gk 48 #[.slice pk nk ck]) (hga : Bx w ga 50 #[.slice pa na ca]) : Calls Try.prog 49 #[.agg #[.int .i64 x0, .int .i64 x1, .int .i64 x2, .int .i64 x3, .int .i64 x4], .pointer (some ⟨gr, 0, none⟩), .pointer (some ⟨gk, 0, none⟩), .pointer (some ⟨ga, 0, none⟩)] w (Val (.bool (bad ks us root (x0, x1, x2, x3, x4))) w) := by
  have hb := box1 w (.cells #[.int .i64 x0, .int .i64 x1, .int .i64 x2, .int .i64 x3, .int .i64 x4] 76)
  have HBV := Lib.hid hb
  have HX := Lib.hid (Bx.new w 76 #[.int .i64 x0, .int .i64 x1, .int .i64 x2, .int .i64 x3, .int .i64 x4])
  have HK := Lib.hid (hk.below hb)
  have HA := Lib.hid (ha.below hb)
  have HR := Lib.hid (hr.below hb)
  have HGK := Lib.hid (hgk.below hb)
  have HGA := Lib.hid (hga.below hb)
  have lr := hr.lt
  have lk := hgk.lt
  have la := hga.lt
  have HXI := Lib.hid hx
  clear hb hk ha hr hgk hga hx
  obtain ⟨v0, v1, v2, v3, v4⟩ := DpRenewal.bxc HR.out
  have k0 := HGK.out.cell (j := 0) rfl
  have a0 := HGA.out.cell (j := 0) rfl
  by_cases he : x3 = root
  · subst he
    have HS := Lib.hid (ok_yes (ks := ks) (us := us) (x0 := x0) (x1 := x1) (x2 := x2) (x3 := x3) (x4 := x4))
    obtain ⟨β, hβ⟩ : ∃ b, MStamp.chk ks us (x0, x1, x2, x3, x4) = b := ⟨_, rfl⟩
    rw [hβ] at HS
    have HC := Lib.hid hβ
    clear hβ
    have e1 : (x3 != x3) = false := by simp
    have e2 : (x3 == x3) = true := by simp
    go_enter Try.func49, Try.ntmps49
    go_wp2_with fail
    refine (MStamp.check_any pk nk ck ks HK.out.allP pa na ca us HA.out.allP x0 x1 x2 x3 x4 HXI.out.1 HXI.out.2.1 HXI.out.2.2.1 HXI.out.2.2.2.1 HXI.out.2.2.2.2 _ HK.out.rdS HA.out.rdS).mono ?_
    rintro e w1 ⟨rfl, hb⟩
    rw [HC.out]
    have HB := Lib.hid (below_on HBV.out hb)
    clear hb v0 v1 v2 v3 v4 k0 a0
    go_wp2_with fail
    go_ret
    exact val_of (by rw [HS.out]; first | done | rfl) HB.out
  · have HS := Lib.hid (ok_no (ks := ks) (us := us) (x0 := x0) (x1 := x1) (x2 := x2) (x4 := x4) he)
    have e1 : (x3 != root) = true := bne_iff_ne.2 he
    have e2 : (x3 == root) = false := beq_eq_false_iff_ne.2 he
    clear he
    go_enter Try.func49, Try.ntmps49
    go_wp2_with fail
    go_ret
    exact val_of (by rw [HS.out]; first | done | rfl) HBV.out
set_option maxRecDepth 100000 in
set_option maxHeartbeats 4000000 in
theorem index_any (gr gk ga : Nat) (ks : List I5) (pk : Option Addr) (nk ck : Nat) (us : List I3) (pa : Option Addr) (na ca : Nat) (r0 r1 root : Int) (p3 : Option Addr) (n3 c3 : Nat) (p4 : Option Addr) (n4 c4 : Nat) (xs : List I5) (p : Option Addr) (n c : Nat) {SK SA S : Nat → Prop} (w : World) (hk : RdD (flat SlKey.E SlKey.InR) SK w pk nk ks) (ha : RdD (flat SlAuthority.E SlAuthority.InR) SA w pa na us) (hr : Bx w gr 55 #[.int .i64 r0, .int .i64 r1, .int .i64 root, .slice p3 n3 c3, .slice p4 n4 c4]) (hgk : Bx w gk 48 #[.slice pk nk ck]) (hga : Bx w ga 50 #[.slice pa na ca]) (hs : RdD (flat SlStamp.E SlStamp.InR) S w p n xs) : Calls Try.prog 69 #[.slice p n c, .func (.func 49) #[] #[.pointer (some ⟨gr, 0, none⟩), .pointer (some ⟨gk, 0, none⟩), .pointer (some ⟨ga, 0, none⟩)]] w fun e w' => ∃ r : Int, e = .returned (.int .i64 r) ∧ decide (0 ≤ r) = xs.any (bad ks us root) ∧ -1 ≤ r ∧ r ≤ 9223372036854775807 ∧ Below w.heap.size w w' := by
  have HS := Lib.hid hs
  have hle := hs.le
  have HK := Lib.hid hk
  have HA := Lib.hid ha
  have HR := Lib.hid hr
  have HGK := Lib.hid hgk
  have HGA := Lib.hid hga
  clear hs hk ha hr hgk hga
  go_enter Try.func69, Try.ntmps69
  go_wp2_with fail
  go_loopw [8] (fun i wr => ∃ k : Nat, k ≤ n ∧ i = .int .i64 k ∧ Hid (noneB (bad ks us root) xs k) ∧ Hid (Below w.heap.size w wr)) (fun i _ => n - (intOf i).toNat)
  case atStart => exact ⟨0, Nat.zero_le _, rfl, Lib.hid (noneB_zero _), Lib.hid (Below.refl _ _)⟩
  case round =>
    obtain ⟨k, hk, rfl, HN, HB⟩ := hrel
    by_cases hlt : k < n
    · skip
      obtain ⟨b, o, x_e, cs_e, rfl, _, hbwe, hxe, hce, hrde⟩ := HS.out.at_ hlt
      obtain ⟨xe0, xe1, xe2, xe3, xe4⟩ := x_e
      obtain ⟨rfl, hine⟩ := hrde
      have HIe := Lib.hid hine
      have hcce : ∀ jj v, [.int .i64 xe0, .int .i64 xe1, .int .i64 xe2, .int .i64 xe3, .int .i64 xe4][jj]? = some v → wr.cell? ⟨b, o + k * 5 + jj, none⟩ = some v := fun jj v hv => (HB.out.cell (p := ⟨b, o + k * 5 + jj, none⟩) hbwe).trans (hce jj v hv)
      have HXe := Lib.hid hxe
      have HCe := Lib.hid hcce
      have u0 : wr.cell? ⟨b, o + k * 5, none⟩ = some (.int .i64 xe0) := hcce 0 _ rfl
      have u1 : wr.cell? ⟨b, o + k * 5 + 1, none⟩ = some (.int .i64 xe1) := hcce 1 _ rfl
      have u2 : wr.cell? ⟨b, o + k * 5 + 2, none⟩ = some (.int .i64 xe2) := hcce 2 _ rfl
      have u3 : wr.cell? ⟨b, o + k * 5 + 3, none⟩ = some (.int .i64 xe3) := hcce 3 _ rfl
      have u4 : wr.cell? ⟨b, o + k * 5 + 4, none⟩ = some (.int .i64 xe4) := hcce 4 _ rfl
      clear hcce hce hxe hine
      go_wp2_with fail
      refine (clo_any gr gk ga ks _ _ _ us _ _ _ r0 r1 root _ _ _ _ _ _ xe0 xe1 xe2 xe3 xe4 HIe.out _ (HK.out.below HB.out) (HA.out.below HB.out) (HR.out.below HB.out) (HGK.out.below HB.out) (HGA.out.below HB.out)).mono ?_
      rintro e1 w1 ⟨rfl, hb⟩
      obtain ⟨β, hβ⟩ : ∃ b, bad ks us root (xe0, xe1, xe2, xe3, xe4) = b := ⟨_, rfl⟩
      rw [hβ]
      have HP := Lib.hid hβ
      have HB1 := Lib.hid (below_on HB.out hb)
      clear hβ hb u0 u1 u2 u3 u4
      cases β
      · have HN1 := Lib.hid (noneB_next HN.out HXe.out HP.out)
        go_wp2_with fail
        go_roundw
        case rel => exact ⟨k + 1, by omega, by go_num, HN1, HB1⟩
        case measure => simp [intOf]; omega
      · have HY := Lib.hid (any_yes HXe.out HP.out)
        go_wp2_with fail
        go_ret
        exact ⟨k, rfl, by rw [HY.out]; exact decide_eq_true (by omega), by omega, by omega, HB1.out⟩
    · obtain rfl : k = n := by omega
      have HY := Lib.hid (any_no HN.out HS.out.len)
      go_wp2_with fail
      go_ret
      exact ⟨-1, rfl, by rw [HY.out]; rfl, by omega, by omega, HB.out⟩
set_option maxRecDepth 100000 in
theorem contains_any (gr gk ga : Nat) (ks : List I5) (pk : Option Addr) (nk ck : Nat) (us : List I3) (pa : Option Addr) (na ca : Nat) (r0 r1 root : Int) (p3 : Option Addr) (n3 c3 : Nat) (p4 : Option Addr) (n4 c4 : Nat) (xs : List I5) (p : Option Addr) (n c : Nat) {SK SA S : Nat → Prop} (w : World) (hk : RdD (flat SlKey.E SlKey.InR) SK w pk nk ks) (ha : RdD (flat SlAuthority.E SlAuthority.InR) SA w pa na us) (hr : Bx w gr 55 #[.int .i64 r0, .int .i64 r1, .int .i64 root, .slice p3 n3 c3, .slice p4 n4 c4]) (hgk : Bx w gk 48 #[.slice pk nk ck]) (hga : Bx w ga 50 #[.slice pa na ca]) (hs : RdD (flat SlStamp.E SlStamp.InR) S w p n xs) : Calls Try.prog 48 #[.slice p n c, .func (.func 49) #[] #[.pointer (some ⟨gr, 0, none⟩), .pointer (some ⟨gk, 0, none⟩), .pointer (some ⟨ga, 0, none⟩)]] w (Val (.bool (xs.any (bad ks us root))) w) := by
  have HS := Lib.hid hs
  have HK := Lib.hid hk
  have HA := Lib.hid ha
  have HR := Lib.hid hr
  have HGK := Lib.hid hgk
  have HGA := Lib.hid hga
  clear hs hk ha hr hgk hga
  go_enter Try.func48, Try.ntmps48
  go_wp2_with fail
  refine (index_any gr gk ga ks _ _ _ us _ _ _ r0 r1 root _ _ _ _ _ _ xs _ _ _ _ HK.out HA.out HR.out HGK.out HGA.out HS.out).mono ?_
  rintro e w1 ⟨r, rfl, hd, h1, h2, hb⟩
  have HD := Lib.hid hd
  have HB := Lib.hid hb
  clear hd hb
  go_wp2_with fail
  go_ret
  exact val_of (by rw [← HD.out]; rfl) HB.out
set_option maxRecDepth 100000 in
set_option maxHeartbeats 4000000 in
theorem asc_any (xs : List I5) (p : Option Addr) (n c : Nat) {S : Nat → Prop} (w : World) (hs : RdD (flat SlStamp.E SlStamp.InR) S w p n xs) : Calls Try.prog 47 #[.slice p n c] w (Val (.bool (asc xs)) w) := by
  have HS := Lib.hid hs
  have hle := hs.le
  have HL := Lib.hid hs.len
  clear hs
  go_enter Try.func47, Try.ntmps47
  go_wp2_with fail
  go_loopw [3] (fun i wr => ∃ k : Nat, k ≤ n ∧ i = .int .i64 ((k : Int) + 1) ∧ Hid (AscTo xs (k + 1)) ∧ Hid (Below w.heap.size w wr)) (fun i _ => n + 1 - (intOf i).toNat)
  case atStart => exact ⟨0, Nat.zero_le _, rfl, Lib.hid (asc_one _), Lib.hid (Below.refl _ _)⟩
  case round =>
    obtain ⟨k, hk, rfl, HN, HB⟩ := hrel
    by_cases hlt : k + 1 < n
    · have hlt0 : k < n := by omega
      have hin : (k : Int) + 1 < (n : Int) := by omega
      obtain ⟨b, o, x_e, cs_e, rfl, _, hbwe, hxe, hce, hrde⟩ := HS.out.at_ hlt
      obtain ⟨xe0, xe1, xe2, xe3, xe4⟩ := x_e
      obtain ⟨rfl, hine⟩ := hrde
      have HIe := Lib.hid hine
      have hcce : ∀ jj v, [.int .i64 xe0, .int .i64 xe1, .int .i64 xe2, .int .i64 xe3, .int .i64 xe4][jj]? = some v → wr.cell? ⟨b, o + (k + 1) * 5 + jj, none⟩ = some v := fun jj v hv => (HB.out.cell (p := ⟨b, o + (k + 1) * 5 + jj, none⟩) hbwe).trans (hce jj v hv)
      have HXe := Lib.hid hxe
      have HCe := Lib.hid hcce
      have u0 : wr.cell? ⟨b, o + (k + 1) * 5, none⟩ = some (.int .i64 xe0) := hcce 0 _ rfl
      have u1 : wr.cell? ⟨b, o + (k + 1) * 5 + 1, none⟩ = some (.int .i64 xe1) := hcce 1 _ rfl
      have u2 : wr.cell? ⟨b, o + (k + 1) * 5 + 2, none⟩ = some (.int .i64 xe2) := hcce 2 _ rfl
      have u3 : wr.cell? ⟨b, o + (k + 1) * 5 + 3, none⟩ = some (.int .i64 xe3) := hcce 3 _ rfl
      have u4 : wr.cell? ⟨b, o + (k + 1) * 5 + 4, none⟩ = some (.int .i64 xe4) := hcce 4 _ rfl
      clear hcce hce hxe hine
      obtain ⟨b2, o2, x_y, cs_y, ey, _, hbwy, hxy, hcy, hrdy⟩ := HS.out.at_ hlt0
      simp only [Option.some.injEq, Addr.mk.injEq, and_true] at ey
      obtain ⟨rfl, rfl⟩ := ey
      obtain ⟨xy0, xy1, xy2, xy3, xy4⟩ := x_y
      obtain ⟨rfl, hiny⟩ := hrdy
      have HIy := Lib.hid hiny
      have hccy : ∀ jj v, [.int .i64 xy0, .int .i64 xy1, .int .i64 xy2, .int .i64 xy3, .int .i64 xy4][jj]? = some v → wr.cell? ⟨b, o + k * 5 + jj, none⟩ = some v := fun jj v hv => (HB.out.cell (p := ⟨b, o + k * 5 + jj, none⟩) hbwy).trans (hcy jj v hv)
      have HXy := Lib.hid hxy
      have HCy := Lib.hid hccy
      have v0 : wr.cell? ⟨b, o + k * 5, none⟩ = some (.int .i64 xy0) := hccy 0 _ rfl
      have v1 : wr.cell? ⟨b, o + k * 5 + 1, none⟩ = some (.int .i64 xy1) := hccy 1 _ rfl
      have v2 : wr.cell? ⟨b, o + k * 5 + 2, none⟩ = some (.int .i64 xy2) := hccy 2 _ rfl
      have v3 : wr.cell? ⟨b, o + k * 5 + 3, none⟩ = some (.int .i64 xy3) := hccy 3 _ rfl
      have v4 : wr.cell? ⟨b, o + k * 5 + 4, none⟩ = some (.int .i64 xy4) := hccy 4 _ rfl
      clear hccy hcy hxy hiny
      have jw : IntKind.i64.wrap (k : Int) = (k : Int) := IntWalk.i64_in _ (by omega)
      have i1 : (0 : Int) ≤ (k : Int) := by omega
      have i2 : (k : Int) < (n : Int) := by omega
      have i3 : (0 : Int) ≤ (k : Int) + 1 := by omega
      clear u1 u2 u3 u4 v1 v2 v3 v4
      have HBd := Lib.hid (below_drewN HB.out 1)
      by_cases hl : xy0 < xe0
      · have HN2 := Lib.hid (asc_next HN.out HXy.out HXe.out hl)
        have t1 : decide (xe0 ≤ xy0) = false := decide_eq_false (by omega)
        clear hl
        go_wp2_with fail
        go_quiet (fail)
        go_wp2_with fail
        go_roundw
        case rel => exact ⟨k + 1, by omega, by go_num, HN2, Lib.hid (below_drewN HB.out _)⟩
        case measure => simp [intOf]; omega
      · have HA := Lib.hid (asc_no HXy.out HXe.out hl)
        have t1 : decide (xe0 ≤ xy0) = true := decide_eq_true (by omega)
        clear hl
        go_wp2_with fail
        go_quiet (fail)
        go_wp2_with fail
        go_ret
        exact val_of (by rw [HA.out]; first | done | rfl) (below_drewN HB.out _)
    · have hin : ¬ (k : Int) + 1 < (n : Int) := by omega
      have HA := Lib.hid (asc_yes HN.out HL.out (by omega))
      go_wp2_with fail
      go_ret
      exact val_of (by rw [HA.out]; first | done | rfl) HB.out
noncomputable def chk (ks : List I5) (us : List I3) (r : DpRenewal.A) (leaf : Int) : Bool :=
  decide ((r.2.2.2.1.length : Int) ≤ 4) && (decide (Fp.fp r.2.1 leaf r.2.2.2.1 = r.2.2.1) && (decide (1 ≤ (r.2.2.2.2.length : Int) ∧ (r.2.2.2.2.length : Int) ≤ 6) && (asc r.2.2.2.2 && !(r.2.2.2.2.any (bad ks us r.2.2.1)))))
theorem chk_eq {ks : List I5} {us : List I3} {r0 r1 root leaf : Int} {l3 : List (Int × Bool)} {l4 : List I5} {n3 n4 : Nat} (h3 : l3.length = n3) (h4 : l4.length = n4) : chk ks us (r0, r1, root, l3, l4) leaf = (decide ((n3 : Int) ≤ 4) && (decide (Fp.fp r1 leaf l3 = root) && (decide (1 ≤ (n4 : Int) ∧ (n4 : Int) ≤ 6) && (asc l4 && !(l4.any (bad ks us root)))))) := by rw [← h3, ← h4]; rfl
end Go.Proofs.Ytnkpioaaabnlcaa.Cr1
