/- Stamps of a renewal: whether one is not right, whether they ascend; what is of no program and what is of the program. Whether a renewal checks, in the program. Whether a renewal checks, in the reference. -/
import Derived.Test.YtfojilogcecphaaGreatDpRenewal
import Derived.Test.YtfojilogcecphaaGreatKStA
import Derived.Test.YtfojilogcecphaaGreatEs
import Derived.Test.YtfojilogcecphaaGreatPdA
import Derived.Deep.QuietTactic
import Derived.BigQuiet
import Derived.LoopTactic
import Derived.Outline
import Derived.Test.YtfojilogcecphaaGreatQrA
import Derived.Test.YtfojilogcecphaaGreatInt
namespace Go.Proofs.YtfojilogcecphaaGreat.Cr1
open Go.ChangeShapes Go.WideShapes Go.ChangeAt Go.RowKit Sl St Ed Dz Es Fnd
def ok (ks : List I5) (us : List I3) (root : Int) : I5 → Bool := fun (x0, x1, x2, x3, x4) => decide (x3 = root) && MStamp.chk ks us (x0, x1, x2, x3, x4)
def bad (ks : List I5) (us : List I3) (root : Int) (s : I5) : Bool := !(ok ks us root s)
theorem ok_no {ks : List I5} {us : List I3} {root x0 x1 x2 x3 x4 : Int} (h : ¬ x3 = root) : bad ks us root (x0, x1, x2, x3, x4) = true := by
  show (!(decide (x3 = root) && _)) = true
  rw [decide_eq_false h]
  rfl
theorem ok_yes {ks : List I5} {us : List I3} {x0 x1 x2 x3 x4 : Int} : bad ks us x3 (x0, x1, x2, x3, x4) = !(MStamp.chk ks us (x0, x1, x2, x3, x4)) := by
  show (!(decide (x3 = x3) && _)) = _
  rw [decide_eq_true rfl, Bool.true_and]
def AscTo (xs : List I5) (k : Nat) : Prop := ∀ (i : Nat) (s t : I5), i + 1 < k → xs[i]? = some s → xs[i + 1]? = some t → s.1 < t.1
noncomputable def asc (xs : List I5) : Bool := @decide (AscTo xs xs.length) (Classical.propDecidable _)
theorem asc_one (xs : List I5) : AscTo xs 1 := fun _ _ _ h => absurd h (by omega)
theorem asc_zero (xs : List I5) : AscTo xs 0 := fun _ _ _ h => absurd h (by omega)
theorem asc_next {xs : List I5} {k : Nat} {s t : I5} (h : AscTo xs (k + 1)) (hs : xs[k]? = some s) (ht : xs[k + 1]? = some t) (hl : s.1 < t.1) : AscTo xs (k + 1 + 1) := fun i y z hi hy hz => by
  rcases Nat.lt_or_ge (i + 1) (k + 1) with h1 | h1
  · exact h i y z h1 hy hz
  · obtain rfl : i = k := by omega
    rw [hs] at hy
    rw [ht] at hz
    cases hy
    cases hz
    exact hl
theorem asc_yes {xs : List I5} {k n : Nat} (h : AscTo xs k) (hn : xs.length = n) (hk : n ≤ k) : asc xs = true := @decide_eq_true _ (Classical.propDecidable _) fun i s t hi => h i s t (by omega)
theorem asc_no {xs : List I5} {k : Nat} {s t : I5} (hs : xs[k]? = some s) (ht : xs[k + 1]? = some t) (hl : ¬ s.1 < t.1) : asc xs = false := @decide_eq_false _ (Classical.propDecidable _) fun h => hl (h k s t ((List.getElem?_eq_some_iff.1 ht).1) hs ht)
set_option maxRecDepth 100000 in
set_option maxHeartbeats 4000000 in
theorem clo_any (gr gk ga : Nat) (ks : List I5) (pk : Option Addr) (nk ck : Nat) (us : List I3) (pa : Option Addr) (na ca : Nat) (r0 r1 root : Int) (p3 : Option Addr) (n3 c3 : Nat) (p4 : Option Addr) (n4 c4 : Nat) (x0 x1 x2 x3 x4 : Int) (hx : SlStamp.InR (x0, x1, x2, x3, x4)) {SK SA : Nat → Prop} (w : World) (hk : RdD (flat SlKey.E SlKey.InR) SK w pk nk ks) (ha : RdD (flat SlAuthority.E SlAuthority.InR) SA w pa na us) (hr : Bx w gr 103 #[.int .i64 r0, .int .i64 r1, .int .i64 root, .slice p3 n3 c3, .slice p4 n4 c4]) (hgk : Bx w gk 35 #[.slice pk nk ck]) (hga : Bx w ga 36 #[.slice pa na ca]) : Calls Tryz.prog 109 #[.agg #[.int .i64 x0, .int .i64 x1, .int .i64 x2, .int .i64 x3, .int .i64 x4], .pointer (some ⟨gr, 0, none⟩), .pointer (some ⟨gk, 0, none⟩), .pointer (some ⟨ga, 0, none⟩)] w (Val (.bool (bad ks us root (x0, x1, x2, x3, x4))) w) := by
  have hb := box1 w (.cells #[.int .i64 x0, .int .i64 x1, .int .i64 x2, .int .i64 x3, .int .i64 x4] 154)
  have HBV := Lib.hid hb
  have HX := Lib.hid (Bx.new w 154 #[.int .i64 x0, .int .i64 x1, .int .i64 x2, .int .i64 x3, .int .i64 x4])
  have HK := Lib.hid (hk.below hb)
  have HA := Lib.hid (ha.below hb)
  have HR := Lib.hid (hr.below hb)
  have HGK := Lib.hid (hgk.below hb)
  have HGA := Lib.hid (hga.below hb)
  have lr := hr.lt
  have lk := hgk.lt
  have la := hga.lt
  have HXI := Lib.hid hx
  clear hb hk ha hr hgk hga hx
  obtain ⟨v0, v1, v2, v3, v4⟩ := DpRenewal.bxc HR.out
  have k0 := HGK.out.cell (j := 0) rfl
  have a0 := HGA.out.cell (j := 0) rfl
  by_cases he : x3 = root
  · subst he
    have HS := Lib.hid (ok_yes (ks := ks) (us := us) (x0 := x0) (x1 := x1) (x2 := x2) (x3 := x3) (x4 := x4))
    obtain ⟨β, hβ⟩ : ∃ b, MStamp.chk ks us (x0, x1, x2, x3, x4) = b := ⟨_, rfl⟩
    rw [hβ] at HS
    have HC := Lib.hid hβ
    clear hβ
    have e1 : (x3 != x3) = false := by simp
    have e2 : (x3 == x3) = true := by simp
    go_enter Tryz.func109, Tryz.ntmps109
    go_wp2_with fail
    refine (MStamp.check_any pk nk ck ks HK.out.allP pa na ca us HA.out.allP x0 x1 x2 x3 x4 HXI.out.1 HXI.out.2.1 HXI.out.2.2.1 HXI.out.2.2.2.1 HXI.out.2.2.2.2 _ HK.out.rdS HA.out.rdS).mono ?_
    rintro e w1 ⟨rfl, hb⟩
    rw [HC.out]
    have HB := Lib.hid (below_on HBV.out hb)
    clear hb v0 v1 v2 v3 v4 k0 a0
    go_wp2_with fail
    go_ret
    exact val_of (by rw [HS.out]; first | done | rfl) HB.out
  · have HS := Lib.hid (ok_no (ks := ks) (us := us) (x0 := x0) (x1 := x1) (x2 := x2) (x4 := x4) he)
    have e1 : (x3 != root) = true := bne_iff_ne.2 he
    have e2 : (x3 == root) = false := beq_eq_false_iff_ne.2 he
    clear he
    go_enter Tryz.func109, Tryz.ntmps109
    go_wp2_with fail
    go_ret
    exact val_of (by rw [HS.out]; first | done | rfl) HBV.out
set_option maxRecDepth 100000 in
set_option maxHeartbeats 4000000 in
theorem index_any (gr gk ga : Nat) (ks : List I5) (pk : Option Addr) (nk ck : Nat) (us : List I3) (pa : Option Addr) (na ca : Nat) (r0 r1 root : Int) (p3 : Option Addr) (n3 c3 : Nat) (p4 : Option Addr) (n4 c4 : Nat) (xs : List I5) (p : Option Addr) (n c : Nat) {SK SA S : Nat → Prop} (w : World) (hk : RdD (flat SlKey.E SlKey.InR) SK w pk nk ks) (ha : RdD (flat SlAuthority.E SlAuthority.InR) SA w pa na us) (hr : Bx w gr 103 #[.int .i64 r0, .int .i64 r1, .int .i64 root, .slice p3 n3 c3, .slice p4 n4 c4]) (hgk : Bx w gk 35 #[.slice pk nk ck]) (hga : Bx w ga 36 #[.slice pa na ca]) (hs : RdD (flat SlStamp.E SlStamp.InR) S w p n xs) : Calls Tryz.prog 139 #[.slice p n c, .func (.func 109) #[] #[.pointer (some ⟨gr, 0, none⟩), .pointer (some ⟨gk, 0, none⟩), .pointer (some ⟨ga, 0, none⟩)]] w fun e w' => ∃ r : Int, e = .returned (.int .i64 r) ∧ decide (0 ≤ r) = xs.any (bad ks us root) ∧ -1 ≤ r ∧ r ≤ 9223372036854775807 ∧ Below w.heap.size w w' := by
  have HS := Lib.hid hs
  have hle := hs.le
  have HK := Lib.hid hk
  have HA := Lib.hid ha
  have HR := Lib.hid hr
  have HGK := Lib.hid hgk
  have HGA := Lib.hid hga
  clear hs hk ha hr hgk hga
  go_enter Tryz.func139, Tryz.ntmps139
  go_wp2_with fail
  go_loopw [8] (fun i wr => ∃ k : Nat, k ≤ n ∧ i = .int .i64 k ∧ Hid (noneB (bad ks us root) xs k) ∧ Hid (Below w.heap.size w wr)) (fun i _ => n - (intOf i).toNat)
  case atStart => exact ⟨0, Nat.zero_le _, rfl, Lib.hid (noneB_zero _), Lib.hid (Below.refl _ _)⟩
  case round =>
    obtain ⟨k, hk, rfl, HN, HB⟩ := hrel
    by_cases hlt : k < n
    · skip
      obtain ⟨b, o, x_e, cs_e, rfl, _, hbwe, hxe, hce, hrde⟩ := HS.out.at_ hlt
      obtain ⟨xe0, xe1, xe2, xe3, xe4⟩ := x_e
      obtain ⟨rfl, hine⟩ := hrde
      have HIe := Lib.hid hine
      have hcce : ∀ jj v, [.int .i64 xe0, .int .i64 xe1, .int .i64 xe2, .int .i64 xe3, .int .i64 xe4][jj]? = some v → wr.cell? ⟨b, o + k * 5 + jj, none⟩ = some v := fun jj v hv => (HB.out.cell (p := ⟨b, o + k * 5 + jj, none⟩) hbwe).trans (hce jj v hv)
      have HXe := Lib.hid hxe
      have HCe := Lib.hid hcce
      have u0 : wr.cell? ⟨b, o + k * 5, none⟩ = some (.int .i64 xe0) := hcce 0 _ rfl
      have u1 : wr.cell? ⟨b, o + k * 5 + 1, none⟩ = some (.int .i64 xe1) := hcce 1 _ rfl
      have u2 : wr.cell? ⟨b, o + k * 5 + 2, none⟩ = some (.int .i64 xe2) := hcce 2 _ rfl
      have u3 : wr.cell? ⟨b, o + k * 5 + 3, none⟩ = some (.int .i64 xe3) := hcce 3 _ rfl
      have u4 : wr.cell? ⟨b, o + k * 5 + 4, none⟩ = some (.int .i64 xe4) := hcce 4 _ rfl
      clear hcce hce hxe hine
      go_wp2_with fail
      refine (clo_any gr gk ga ks _ _ _ us _ _ _ r0 r1 root _ _ _ _ _ _ xe0 xe1 xe2 xe3 xe4 HIe.out _ (HK.out.below HB.out) (HA.out.below HB.out) (HR.out.below HB.out) (HGK.out.below HB.out) (HGA.out.below HB.out)).mono ?_
      rintro e1 w1 ⟨rfl, hb⟩
      obtain ⟨β, hβ⟩ : ∃ b, bad ks us root (xe0, xe1, xe2, xe3, xe4) = b := ⟨_, rfl⟩
      rw [hβ]
      have HP := Lib.hid hβ
      have HB1 := Lib.hid (below_on HB.out hb)
      clear hβ hb u0 u1 u2 u3 u4
      cases β
      · have HN1 := Lib.hid (noneB_next HN.out HXe.out HP.out)
        go_wp2_with fail
        go_roundw
        case rel => exact ⟨k + 1, by omega, by go_num, HN1, HB1⟩
        case measure => simp [intOf]; omega
      · have HY := Lib.hid (any_yes HXe.out HP.out)
        go_wp2_with fail
        go_ret
        exact ⟨k, rfl, by rw [HY.out]; exact decide_eq_true (by omega), by omega, by omega, HB1.out⟩
    · obtain rfl : k = n := by omega
      have HY := Lib.hid (any_no HN.out HS.out.len)
      go_wp2_with fail
      go_ret
      exact ⟨-1, rfl, by rw [HY.out]; rfl, by omega, by omega, HB.out⟩
set_option maxRecDepth 100000 in
theorem contains_any (gr gk ga : Nat) (ks : List I5) (pk : Option Addr) (nk ck : Nat) (us : List I3) (pa : Option Addr) (na ca : Nat) (r0 r1 root : Int) (p3 : Option Addr) (n3 c3 : Nat) (p4 : Option Addr) (n4 c4 : Nat) (xs : List I5) (p : Option Addr) (n c : Nat) {SK SA S : Nat → Prop} (w : World) (hk : RdD (flat SlKey.E SlKey.InR) SK w pk nk ks) (ha : RdD (flat SlAuthority.E SlAuthority.InR) SA w pa na us) (hr : Bx w gr 103 #[.int .i64 r0, .int .i64 r1, .int .i64 root, .slice p3 n3 c3, .slice p4 n4 c4]) (hgk : Bx w gk 35 #[.slice pk nk ck]) (hga : Bx w ga 36 #[.slice pa na ca]) (hs : RdD (flat SlStamp.E SlStamp.InR) S w p n xs) : Calls Tryz.prog 108 #[.slice p n c, .func (.func 109) #[] #[.pointer (some ⟨gr, 0, none⟩), .pointer (some ⟨gk, 0, none⟩), .pointer (some ⟨ga, 0, none⟩)]] w (Val (.bool (xs.any (bad ks us root))) w) := by
  have HS := Lib.hid hs
  have HK := Lib.hid hk
  have HA := Lib.hid ha
  have HR := Lib.hid hr
  have HGK := Lib.hid hgk
  have HGA := Lib.hid hga
  clear hs hk ha hr hgk hga
  go_enter Tryz.func108, Tryz.ntmps108
  go_wp2_with fail
  refine (index_any gr gk ga ks _ _ _ us _ _ _ r0 r1 root _ _ _ _ _ _ xs _ _ _ _ HK.out HA.out HR.out HGK.out HGA.out HS.out).mono ?_
  rintro e w1 ⟨r, rfl, hd, h1, h2, hb⟩
  have HD := Lib.hid hd
  have HB := Lib.hid hb
  clear hd hb
  go_wp2_with fail
  go_ret
  exact val_of (by rw [← HD.out]; rfl) HB.out
set_option maxRecDepth 100000 in
set_option maxHeartbeats 4000000 in
theorem asc_any (xs : List I5) (p : Option Addr) (n c : Nat) {S : Nat → Prop} (w : World) (hs : RdD (flat SlStamp.E SlStamp.InR) S w p n xs) : Calls Tryz.prog 107 #[.slice p n c] w (Val (.bool (asc xs)) w) := by
  have HS := Lib.hid hs
  have hle := hs.le
  have HL := Lib.hid hs.len
  clear hs
  go_enter Tryz.func107, Tryz.ntmps107
  go_wp2_with fail
  go_loopw [3] (fun i wr => ∃ k : Nat, k ≤ n ∧ i = .int .i64 ((k : Int) + 1) ∧ Hid (AscTo xs (k + 1)) ∧ Hid (Below w.heap.size w wr)) (fun i _ => n + 1 - (intOf i).toNat)
  case atStart => exact ⟨0, Nat.zero_le _, rfl, Lib.hid (asc_one _), Lib.hid (Below.refl _ _)⟩
  case round =>
    obtain ⟨k, hk, rfl, HN, HB⟩ := hrel
    by_cases hlt : k + 1 < n
    · have hlt0 : k < n := by omega
      have hin : (k : Int) + 1 < (n : Int) := by omega
      obtain ⟨b, o, x_e, cs_e, rfl, _, hbwe, hxe, hce, hrde⟩ := HS.out.at_ hlt
      obtain ⟨xe0, xe1, xe2, xe3, xe4⟩ := x_e
      obtain ⟨rfl, hine⟩ := hrde
      have HIe := Lib.hid hine
      have hcce : ∀ jj v, [.int .i64 xe0, .int .i64 xe1, .int .i64 xe2, .int .i64 xe3, .int .i64 xe4][jj]? = some v → wr.cell? ⟨b, o + (k + 1) * 5 + jj, none⟩ = some v := fun jj v hv => (HB.out.cell (p := ⟨b, o + (k + 1) * 5 + jj, none⟩) hbwe).trans (hce jj v hv)
      have HXe := Lib.hid hxe
      have HCe := Lib.hid hcce
      have u0 : wr.cell? ⟨b, o + (k + 1) * 5, none⟩ = some (.int .i64 xe0) := hcce 0 _ rfl
      have u1 : wr.cell? ⟨b, o + (k + 1) * 5 + 1, none⟩ = some (.int .i64 xe1) := hcce 1 _ rfl
      have u2 : wr.cell? ⟨b, o + (k + 1) * 5 + 2, none⟩ = some (.int .i64 xe2) := hcce 2 _ rfl
      have u3 : wr.cell? ⟨b, o + (k + 1) * 5 + 3, none⟩ = some (.int .i64 xe3) := hcce 3 _ rfl
      have u4 : wr.cell? ⟨b, o + (k + 1) * 5 + 4, none⟩ = some (.int .i64 xe4) := hcce 4 _ rfl
      clear hcce hce hxe hine
      obtain ⟨b2, o2, x_y, cs_y, ey, _, hbwy, hxy, hcy, hrdy⟩ := HS.out.at_ hlt0
      simp only [Option.some.injEq, Addr.mk.injEq, and_true] at ey
      obtain ⟨rfl, rfl⟩ := ey
      obtain ⟨xy0, xy1, xy2, xy3, xy4⟩ := x_y
      obtain ⟨rfl, hiny⟩ := hrdy
      have HIy := Lib.hid hiny
      have hccy : ∀ jj v, [.int .i64 xy0, .int .i64 xy1, .int .i64 xy2, .int .i64 xy3, .int .i64 xy4][jj]? = some v → wr.cell? ⟨b, o + k * 5 + jj, none⟩ = some v := fun jj v hv => (HB.out.cell (p := ⟨b, o + k * 5 + jj, none⟩) hbwy).trans (hcy jj v hv)
      have HXy := Lib.hid hxy
      have HCy := Lib.hid hccy
      have v0 : wr.cell? ⟨b, o + k * 5, none⟩ = some (.int .i64 xy0) := hccy 0 _ rfl
      have v1 : wr.cell? ⟨b, o + k * 5 + 1, none⟩ = some (.int .i64 xy1) := hccy 1 _ rfl
      have v2 : wr.cell? ⟨b, o + k * 5 + 2, none⟩ = some (.int .i64 xy2) := hccy 2 _ rfl
      have v3 : wr.cell? ⟨b, o + k * 5 + 3, none⟩ = some (.int .i64 xy3) := hccy 3 _ rfl
      have v4 : wr.cell? ⟨b, o + k * 5 + 4, none⟩ = some (.int .i64 xy4) := hccy 4 _ rfl
      clear hccy hcy hxy hiny
      have jw : IntKind.i64.wrap (k : Int) = (k : Int) := IntWalk.i64_in _ (by omega)
      have i1 : (0 : Int) ≤ (k : Int) := by omega
      have i2 : (k : Int) < (n : Int) := by omega
      have i3 : (0 : Int) ≤ (k : Int) + 1 := by omega
      clear u1 u2 u3 u4 v1 v2 v3 v4
      have HBd := Lib.hid (below_drewN HB.out 1)
      by_cases hl : xy0 < xe0
      · have HN2 := Lib.hid (asc_next HN.out HXy.out HXe.out hl)
        have t1 : decide (xe0 ≤ xy0) = false := decide_eq_false (by omega)
        clear hl
        go_wp2_with fail
        go_quiet (fail)
        go_wp2_with fail
        go_roundw
        case rel => exact ⟨k + 1, by omega, by go_num, HN2, Lib.hid (below_drewN HB.out _)⟩
        case measure => simp [intOf]; omega
      · have HA := Lib.hid (asc_no HXy.out HXe.out hl)
        have t1 : decide (xe0 ≤ xy0) = true := decide_eq_true (by omega)
        clear hl
        go_wp2_with fail
        go_quiet (fail)
        go_wp2_with fail
        go_ret
        exact val_of (by rw [HA.out]; first | done | rfl) (below_drewN HB.out _)
    · have hin : ¬ (k : Int) + 1 < (n : Int) := by omega
      have HA := Lib.hid (asc_yes HN.out HL.out (by omega))
      go_wp2_with fail
      go_ret
      exact val_of (by rw [HA.out]; first | done | rfl) HB.out
noncomputable def chk (ks : List I5) (us : List I3) (r : DpRenewal.A) (leaf : Int) : Bool :=
  decide ((r.2.2.2.1.length : Int) ≤ 4) && (decide (Fp.fp r.2.1 leaf r.2.2.2.1 = r.2.2.1) && (decide (1 ≤ (r.2.2.2.2.length : Int) ∧ (r.2.2.2.2.length : Int) ≤ 6) && (asc r.2.2.2.2 && !(r.2.2.2.2.any (bad ks us r.2.2.1)))))
theorem chk_eq {ks : List I5} {us : List I3} {r0 r1 root leaf : Int} {l3 : List (Int × Bool)} {l4 : List I5} {n3 n4 : Nat} (h3 : l3.length = n3) (h4 : l4.length = n4) : chk ks us (r0, r1, root, l3, l4) leaf = (decide ((n3 : Int) ≤ 4) && (decide (Fp.fp r1 leaf l3 = root) && (decide (1 ≤ (n4 : Int) ∧ (n4 : Int) ≤ 6) && (asc l4 && !(l4.any (bad ks us root)))))) := by rw [← h3, ← h4]; rfl
end Go.Proofs.YtfojilogcecphaaGreat.Cr1

namespace Go.Proofs.YtfojilogcecphaaGreat.Cr2
open Go.ChangeShapes Go.WideShapes Go.ChangeAt Go.RowKit Sl St Ed Dz Es Fnd Cr1
theorem five {w : World} {g : Nat} {T : TypeId} {y0 y1 y2 y3 y4 : Value} (h : Bx w g T #[y0, y1, y2, y3, y4]) : w.cell? ⟨g, 1, none⟩ = some y1 ∧ w.cell? ⟨g, 2, none⟩ = some y2 ∧ w.cell? ⟨g, 3, none⟩ = some y3 ∧ w.cell? ⟨g, 4, none⟩ = some y4 := ⟨h.cell rfl, h.cell rfl, h.cell rfl, h.cell rfl⟩
set_option maxRecDepth 100000 in
set_option maxHeartbeats 8000000 in
theorem check_any (ks : List I5) (pk : Option Addr) (nk ck : Nat) (us : List I3) (pa : Option Addr) (na ca : Nat) (r0 r1 root : Int) (l3 : List (Int × Bool)) (p3 : Option Addr) (n3 c3 : Nat) (l4 : List I5) (p4 : Option Addr) (n4 c4 : Nat) (leaf : Int) (hr1 : InI r1) (hlf : InI leaf) {SK SA S3 S4 : Nat → Prop} (w : World) (hk : RdD (flat SlKey.E SlKey.InR) SK w pk nk ks) (ha : RdD (flat SlAuthority.E SlAuthority.InR) SA w pa na us) (h3 : RdD (flat SlStep.E SlStep.InR) S3 w p3 n3 l3) (h4 : RdD (flat SlStamp.E SlStamp.InR) S4 w p4 n4 l4) : Calls Tryz.prog 77 #[.slice pk nk ck, .slice pa na ca, .agg #[.int .i64 r0, .int .i64 r1, .int .i64 root, .slice p3 n3 c3, .slice p4 n4 c4], .int .i64 leaf] w (Val (.bool (chk ks us (r0, r1, root, l3, l4) leaf)) w) := by
  have hb : Below w.heap.size w (((w.alloc (.cells #[.slice pk nk ck] 35)).alloc (.cells #[.slice pa na ca] 36)).alloc (.cells #[.int .i64 r0, .int .i64 r1, .int .i64 root, .slice p3 n3 c3, .slice p4 n4 c4] 103)) := ((box1 w _).alloc (by simp) _).alloc (by simp; omega) _
  have x1 := ((Bx.new w 35 #[.slice pk nk ck]).alloc (.cells #[.slice pa na ca] 36)).alloc (.cells #[.int .i64 r0, .int .i64 r1, .int .i64 root, .slice p3 n3 c3, .slice p4 n4 c4] 103)
  have x2 := (Bx.new (w.alloc (.cells #[.slice pk nk ck] 35)) 36 #[.slice pa na ca]).alloc (.cells #[.int .i64 r0, .int .i64 r1, .int .i64 root, .slice p3 n3 c3, .slice p4 n4 c4] 103)
  have x3 := Bx.new ((w.alloc (.cells #[.slice pk nk ck] 35)).alloc (.cells #[.slice pa na ca] 36)) 103 #[.int .i64 r0, .int .i64 r1, .int .i64 root, .slice p3 n3 c3, .slice p4 n4 c4]
  rw [World.size_alloc] at x2
  rw [World.size_alloc, World.size_alloc] at x3
  have HBV := Lib.hid hb
  have HGK := Lib.hid x1
  have HGA := Lib.hid x2
  have HGR := Lib.hid x3
  have HK := Lib.hid (hk.below hb)
  have HA := Lib.hid (ha.below hb)
  have H3 := Lib.hid (h3.below hb)
  have H4 := Lib.hid (h4.below hb)
  have HCQ := Lib.hid (chk_eq (ks := ks) (us := us) (r0 := r0) (r1 := r1) (root := root) (leaf := leaf) h3.len h4.len)
  have hle3 := h3.le
  have hle4 := h4.le
  have HR1 : Hid (InI r1) := Lib.hid hr1
  have HLF : Hid (InI leaf) := Lib.hid hlf
  clear hb x1 x2 x3 hk ha h3 h4 hr1 hlf
  obtain ⟨φ, hφ⟩ : ∃ z, Fp.fp r1 leaf l3 = z := ⟨_, rfl⟩
  rw [hφ] at HCQ
  have HF := Lib.hid hφ
  obtain ⟨β4, hβ4⟩ : ∃ z, asc l4 = z := ⟨_, rfl⟩
  rw [hβ4] at HCQ
  have HB4 := Lib.hid hβ4
  obtain ⟨β5, hβ5⟩ : ∃ z, l4.any (bad ks us root) = z := ⟨_, rfl⟩
  rw [hβ5] at HCQ
  have HB5 := Lib.hid hβ5
  clear hφ hβ4 hβ5
  by_cases h3 : (n3 : Int) ≤ 4
  rotate_left
  · have HS : Hid (chk ks us (r0, r1, root, l3, l4) leaf = false) := Lib.hid (by rw [HCQ.out, decide_eq_false h3]; rfl)
    have t3 : decide ((n3 : Int) ≤ 4) = false := decide_eq_false h3
    clear h3
    go_enter Tryz.func77, Tryz.ntmps77
    go_wp2_with fail
    generalize (((w.alloc (.cells #[.slice pk nk ck] 35)).alloc (.cells #[.slice pa na ca] 36)).alloc (.cells #[.int .i64 r0, .int .i64 r1, .int .i64 root, .slice p3 n3 c3, .slice p4 n4 c4] 103)) = V at HBV HGK HGA HGR HK HA H3 H4 ⊢
    have HC : Hid (∀ w', Qt.Keeps (V) w' → w'.cell? ⟨w.heap.size + 1 + 1, 1, none⟩ = some (.int .i64 r1) ∧ w'.cell? ⟨w.heap.size + 1 + 1, 2, none⟩ = some (.int .i64 root) ∧ w'.cell? ⟨w.heap.size + 1 + 1, 3, none⟩ = some (.slice p3 n3 c3) ∧ w'.cell? ⟨w.heap.size + 1 + 1, 4, none⟩ = some (.slice p4 n4 c4)) := Lib.hid fun w' hw => five (HGR.out.below hw)
    refine Qt.region (Qt.Keeps (V)) (by kernel_rfl) (by kernel_rfl) (Qt.Keeps.drew _) ?_
    repeat (first
      | go_big_quiet_skip
      | (go_big_quiet_want
         refine Qt.val (v := ?_) (fun w hw => ?_) ?_
         rotate_left
         · obtain ⟨s1, s2, s3, s4⟩ := HC.out w hw
           go_simp
           rfl
         simp only [Act.put, List.setIfInBounds_toArray, List.set_cons_zero, List.set_cons_succ]
         go_big_quiet_on))
    refine wpQuiet_nil ?_
    intro w2 hw2
    have HB2 := Lib.hid (below_on HBV.out hw2)
    clear hw2
    go_wp2_with fail
    go_ret
    exact val_of (by rw [HS.out]; first | done | rfl) HB2.out
  have t3 : decide ((n3 : Int) ≤ 4) = true := decide_eq_true h3
  by_cases he : φ = root
  rotate_left
  · have HS : Hid (chk ks us (r0, r1, root, l3, l4) leaf = false) := Lib.hid (by rw [HCQ.out, decide_eq_true h3, decide_eq_false he]; rfl)
    have e1 : (φ == root) = false := beq_eq_false_iff_ne.2 he
    have e2 : (φ != root) = true := bne_iff_ne.2 he
    clear he
    go_enter Tryz.func77, Tryz.ntmps77
    go_wp2_with fail
    generalize (((w.alloc (.cells #[.slice pk nk ck] 35)).alloc (.cells #[.slice pa na ca] 36)).alloc (.cells #[.int .i64 r0, .int .i64 r1, .int .i64 root, .slice p3 n3 c3, .slice p4 n4 c4] 103)) = V at HBV HGK HGA HGR HK HA H3 H4 ⊢
    have HC : Hid (∀ w', Qt.Keeps (V) w' → w'.cell? ⟨w.heap.size + 1 + 1, 1, none⟩ = some (.int .i64 r1) ∧ w'.cell? ⟨w.heap.size + 1 + 1, 2, none⟩ = some (.int .i64 root) ∧ w'.cell? ⟨w.heap.size + 1 + 1, 3, none⟩ = some (.slice p3 n3 c3) ∧ w'.cell? ⟨w.heap.size + 1 + 1, 4, none⟩ = some (.slice p4 n4 c4)) := Lib.hid fun w' hw => five (HGR.out.below hw)
    refine Qt.region (Qt.Keeps (V)) (by kernel_rfl) (by kernel_rfl) (Qt.Keeps.drew _) ?_
    repeat (first
      | go_big_quiet_skip
      | (go_big_quiet_want
         refine Qt.val (v := ?_) (fun w hw => ?_) ?_
         rotate_left
         · obtain ⟨s1, s2, s3, s4⟩ := HC.out w hw
           go_simp
           rfl
         simp only [Act.put, List.setIfInBounds_toArray, List.set_cons_zero, List.set_cons_succ]
         go_big_quiet_on)
      | (go_big_quiet_want
         refine Qt.call (v := .int .i64 φ) (f := 105) (args := #[.int .i64 r1, .int .i64 leaf, .slice p3 n3 c3]) (fun w hw => ?_) (fun w hw => ?_) ?_
         · go_simp
         · refine (Fp.follow_any r1 leaf _ _ _ l3 _ (H3.out.below hw).rdS H3.out.allP HR1.out HLF.out).mono ?_
           rintro e w1 ⟨rfl, hb1⟩
           rw [HF.out]
           exact ⟨rfl, hw.then hb1⟩
         simp only [Act.put, List.setIfInBounds_toArray, List.set_cons_zero, List.set_cons_succ]
         go_big_quiet_on))
    refine wpQuiet_nil ?_
    intro w2 hw2
    have HB2 := Lib.hid (below_on HBV.out hw2)
    clear hw2
    go_wp2_with fail
    go_ret
    exact val_of (by rw [HS.out]; first | done | rfl) HB2.out
  have e1 : (φ == root) = true := beq_iff_eq.2 he
  have e2 : (φ != root) = false := by rw [he]; simp
  have HE := Lib.hid he
  clear he
  by_cases h4 : 1 ≤ (n4 : Int) ∧ (n4 : Int) ≤ 6
  rotate_left
  · have HS : Hid (chk ks us (r0, r1, root, l3, l4) leaf = false) := Lib.hid (by rw [HCQ.out, decide_eq_true h3, decide_eq_true HE.out, decide_eq_false h4]; rfl)
    have HT3 : Hid (decide (1 ≤ (n4 : Int) ∧ (n4 : Int) ≤ 6) = false) := Lib.hid (decide_eq_false h4)
    clear h4
    go_enter Tryz.func77, Tryz.ntmps77
    go_wp2_with fail
    generalize (((w.alloc (.cells #[.slice pk nk ck] 35)).alloc (.cells #[.slice pa na ca] 36)).alloc (.cells #[.int .i64 r0, .int .i64 r1, .int .i64 root, .slice p3 n3 c3, .slice p4 n4 c4] 103)) = V at HBV HGK HGA HGR HK HA H3 H4 ⊢
    have HC : Hid (∀ w', Qt.Keeps (V) w' → w'.cell? ⟨w.heap.size + 1 + 1, 1, none⟩ = some (.int .i64 r1) ∧ w'.cell? ⟨w.heap.size + 1 + 1, 2, none⟩ = some (.int .i64 root) ∧ w'.cell? ⟨w.heap.size + 1 + 1, 3, none⟩ = some (.slice p3 n3 c3) ∧ w'.cell? ⟨w.heap.size + 1 + 1, 4, none⟩ = some (.slice p4 n4 c4)) := Lib.hid fun w' hw => five (HGR.out.below hw)
    refine Qt.region (Qt.Keeps (V)) (by kernel_rfl) (by kernel_rfl) (Qt.Keeps.drew _) ?_
    repeat (first
      | go_big_quiet_skip
      | (go_big_quiet_want
         refine Qt.val (v := ?_) (fun w hw => ?_) ?_
         rotate_left
         · obtain ⟨s1, s2, s3, s4⟩ := HC.out w hw
           go_simp
           rfl
         simp only [Act.put, List.setIfInBounds_toArray, List.set_cons_zero, List.set_cons_succ]
         go_big_quiet_on)
      | (go_big_quiet_want
         refine Qt.call (v := .int .i64 φ) (f := 105) (args := #[.int .i64 r1, .int .i64 leaf, .slice p3 n3 c3]) (fun w hw => ?_) (fun w hw => ?_) ?_
         · go_simp
         · refine (Fp.follow_any r1 leaf _ _ _ l3 _ (H3.out.below hw).rdS H3.out.allP HR1.out HLF.out).mono ?_
           rintro e w1 ⟨rfl, hb1⟩
           rw [HF.out]
           exact ⟨rfl, hw.then hb1⟩
         simp only [Act.put, List.setIfInBounds_toArray, List.set_cons_zero, List.set_cons_succ]
         go_big_quiet_on)
      | (go_big_quiet_want
         refine Qt.call (v := .bool false) (f := 106) (args := #[.int .i64 n4, .int .i64 1, .int .i64 6]) (fun w hw => ?_) (fun w hw => ?_) ?_
         · go_simp
         · refine (Ints.inRange_any n4 1 6 _ HT3.out _).mono ?_
           rintro e w1 ⟨rfl, rfl⟩
           exact ⟨rfl, hw⟩
         simp only [Act.put, List.setIfInBounds_toArray, List.set_cons_zero, List.set_cons_succ]
         go_big_quiet_on))
    refine wpQuiet_nil ?_
    intro w2 hw2
    have HB2 := Lib.hid (below_on HBV.out hw2)
    clear hw2
    go_wp2_with fail
    go_ret
    exact val_of (by rw [HS.out]; first | done | rfl) HB2.out
  have HT3 : Hid (decide (1 ≤ (n4 : Int) ∧ (n4 : Int) ≤ 6) = true) := Lib.hid (decide_eq_true h4)
  have HS1 : Hid (chk ks us (r0, r1, root, l3, l4) leaf = (β4 && !β5)) := Lib.hid (by rw [HCQ.out, decide_eq_true h3, decide_eq_true HE.out, HT3.out, Bool.true_and, Bool.true_and, Bool.true_and])
  clear h4
  cases β4
  · have HS : Hid (chk ks us (r0, r1, root, l3, l4) leaf = false) := HS1
    go_enter Tryz.func77, Tryz.ntmps77
    go_wp2_with fail
    generalize (((w.alloc (.cells #[.slice pk nk ck] 35)).alloc (.cells #[.slice pa na ca] 36)).alloc (.cells #[.int .i64 r0, .int .i64 r1, .int .i64 root, .slice p3 n3 c3, .slice p4 n4 c4] 103)) = V at HBV HGK HGA HGR HK HA H3 H4 ⊢
    have HC : Hid (∀ w', Qt.Keeps (V) w' → w'.cell? ⟨w.heap.size + 1 + 1, 1, none⟩ = some (.int .i64 r1) ∧ w'.cell? ⟨w.heap.size + 1 + 1, 2, none⟩ = some (.int .i64 root) ∧ w'.cell? ⟨w.heap.size + 1 + 1, 3, none⟩ = some (.slice p3 n3 c3) ∧ w'.cell? ⟨w.heap.size + 1 + 1, 4, none⟩ = some (.slice p4 n4 c4)) := Lib.hid fun w' hw => five (HGR.out.below hw)
    refine Qt.region (Qt.Keeps (V)) (by kernel_rfl) (by kernel_rfl) (Qt.Keeps.drew _) ?_
    repeat (first
      | go_big_quiet_skip
      | (go_big_quiet_want
         refine Qt.val (v := ?_) (fun w hw => ?_) ?_
         rotate_left
         · obtain ⟨s1, s2, s3, s4⟩ := HC.out w hw
           go_simp
           rfl
         simp only [Act.put, List.setIfInBounds_toArray, List.set_cons_zero, List.set_cons_succ]
         go_big_quiet_on)
      | (go_big_quiet_want
         refine Qt.call (v := .int .i64 φ) (f := 105) (args := #[.int .i64 r1, .int .i64 leaf, .slice p3 n3 c3]) (fun w hw => ?_) (fun w hw => ?_) ?_
         · go_simp
         · refine (Fp.follow_any r1 leaf _ _ _ l3 _ (H3.out.below hw).rdS H3.out.allP HR1.out HLF.out).mono ?_
           rintro e w1 ⟨rfl, hb1⟩
           rw [HF.out]
           exact ⟨rfl, hw.then hb1⟩
         simp only [Act.put, List.setIfInBounds_toArray, List.set_cons_zero, List.set_cons_succ]
         go_big_quiet_on)
      | (go_big_quiet_want
         refine Qt.call (v := .bool true) (f := 106) (args := #[.int .i64 n4, .int .i64 1, .int .i64 6]) (fun w hw => ?_) (fun w hw => ?_) ?_
         · go_simp
         · refine (Ints.inRange_any n4 1 6 _ HT3.out _).mono ?_
           rintro e w1 ⟨rfl, rfl⟩
           exact ⟨rfl, hw⟩
         simp only [Act.put, List.setIfInBounds_toArray, List.set_cons_zero, List.set_cons_succ]
         go_big_quiet_on)
      | (go_big_quiet_want
         refine Qt.call (v := .bool false) (f := 107) (args := #[.slice p4 n4 c4]) (fun w hw => ?_) (fun w hw => ?_) ?_
         · go_simp
         · refine (asc_any l4 _ _ _ _ (H4.out.below hw)).mono ?_
           rintro e w1 ⟨rfl, hb1⟩
           rw [HB4.out]
           exact ⟨rfl, hw.then hb1⟩
         simp only [Act.put, List.setIfInBounds_toArray, List.set_cons_zero, List.set_cons_succ]
         go_big_quiet_on))
    refine wpQuiet_nil ?_
    intro w2 hw2
    have HB2 := Lib.hid (below_on HBV.out hw2)
    clear hw2
    go_wp2_with fail
    go_ret
    exact val_of (by rw [HS.out]; first | done | rfl) HB2.out
  · have HS : Hid (chk ks us (r0, r1, root, l3, l4) leaf = !β5) := HS1
    go_enter Tryz.func77, Tryz.ntmps77
    go_wp2_with fail
    generalize (((w.alloc (.cells #[.slice pk nk ck] 35)).alloc (.cells #[.slice pa na ca] 36)).alloc (.cells #[.int .i64 r0, .int .i64 r1, .int .i64 root, .slice p3 n3 c3, .slice p4 n4 c4] 103)) = V at HBV HGK HGA HGR HK HA H3 H4 ⊢
    have HC : Hid (∀ w', Qt.Keeps (V) w' → w'.cell? ⟨w.heap.size + 1 + 1, 1, none⟩ = some (.int .i64 r1) ∧ w'.cell? ⟨w.heap.size + 1 + 1, 2, none⟩ = some (.int .i64 root) ∧ w'.cell? ⟨w.heap.size + 1 + 1, 3, none⟩ = some (.slice p3 n3 c3) ∧ w'.cell? ⟨w.heap.size + 1 + 1, 4, none⟩ = some (.slice p4 n4 c4)) := Lib.hid fun w' hw => five (HGR.out.below hw)
    refine Qt.region (Qt.Keeps (V)) (by kernel_rfl) (by kernel_rfl) (Qt.Keeps.drew _) ?_
    repeat (first
      | go_big_quiet_skip
      | (go_big_quiet_want
         refine Qt.val (v := ?_) (fun w hw => ?_) ?_
         rotate_left
         · obtain ⟨s1, s2, s3, s4⟩ := HC.out w hw
           go_simp
           rfl
         simp only [Act.put, List.setIfInBounds_toArray, List.set_cons_zero, List.set_cons_succ]
         go_big_quiet_on)
      | (go_big_quiet_want
         refine Qt.call (v := .int .i64 φ) (f := 105) (args := #[.int .i64 r1, .int .i64 leaf, .slice p3 n3 c3]) (fun w hw => ?_) (fun w hw => ?_) ?_
         · go_simp
         · refine (Fp.follow_any r1 leaf _ _ _ l3 _ (H3.out.below hw).rdS H3.out.allP HR1.out HLF.out).mono ?_
           rintro e w1 ⟨rfl, hb1⟩
           rw [HF.out]
           exact ⟨rfl, hw.then hb1⟩
         simp only [Act.put, List.setIfInBounds_toArray, List.set_cons_zero, List.set_cons_succ]
         go_big_quiet_on)
      | (go_big_quiet_want
         refine Qt.call (v := .bool true) (f := 106) (args := #[.int .i64 n4, .int .i64 1, .int .i64 6]) (fun w hw => ?_) (fun w hw => ?_) ?_
         · go_simp
         · refine (Ints.inRange_any n4 1 6 _ HT3.out _).mono ?_
           rintro e w1 ⟨rfl, rfl⟩
           exact ⟨rfl, hw⟩
         simp only [Act.put, List.setIfInBounds_toArray, List.set_cons_zero, List.set_cons_succ]
         go_big_quiet_on)
      | (go_big_quiet_want
         refine Qt.call (v := .bool true) (f := 107) (args := #[.slice p4 n4 c4]) (fun w hw => ?_) (fun w hw => ?_) ?_
         · go_simp
         · refine (asc_any l4 _ _ _ _ (H4.out.below hw)).mono ?_
           rintro e w1 ⟨rfl, hb1⟩
           rw [HB4.out]
           exact ⟨rfl, hw.then hb1⟩
         simp only [Act.put, List.setIfInBounds_toArray, List.set_cons_zero, List.set_cons_succ]
         go_big_quiet_on)
      | (go_big_quiet_want
         refine Qt.call (v := .bool β5) (f := 108) (args := #[.slice p4 n4 c4, .func (.func 109) #[] #[.pointer (some ⟨w.heap.size + 1 + 1, 0, none⟩), .pointer (some ⟨w.heap.size, 0, none⟩), .pointer (some ⟨w.heap.size + 1, 0, none⟩)]]) (fun w hw => ?_) (fun w hw => ?_) ?_
         · go_simp
         · refine (contains_any _ _ _ ks _ _ _ us _ _ _ r0 r1 root _ _ _ _ _ _ l4 _ _ _ _ (HK.out.below hw) (HA.out.below hw) (HGR.out.below hw) (HGK.out.below hw) (HGA.out.below hw) (H4.out.below hw)).mono ?_
           rintro e w1 ⟨rfl, hb1⟩
           rw [HB5.out]
           exact ⟨rfl, hw.then hb1⟩
         simp only [Act.put, List.setIfInBounds_toArray, List.set_cons_zero, List.set_cons_succ]
         go_big_quiet_on))
    refine wpQuiet_nil ?_
    intro w2 hw2
    have HB2 := Lib.hid (below_on HBV.out hw2)
    clear hw2
    go_wp2_with fail
    go_ret
    exact val_of (by rw [HS.out]; first | done | rfl) HB2.out
end Go.Proofs.YtfojilogcecphaaGreat.Cr2

namespace Go.Proofs.YtfojilogcecphaaGreat.Cr3
open Go.ChangeShapes Go.WideShapes Go.ChangeAt Go.RowKit Sl St Ed Dz Es Fnd Cr1
theorem any_of {ks : List I5} {us : List I3} {root : Int} {xs : List I5} {k : Nat} {x : I5} (hx : xs[k]? = some x) (h : bad ks us root x = true) {β : Bool} : (β && !(xs.any (bad ks us root))) = false := by rw [any_yes hx h]; cases β <;> rfl
set_option maxRecDepth 100000 in
set_option maxHeartbeats 8000000 in
theorem spec_check_any (ks : List I5) (pk : Option Addr) (nk ck : Nat) (us : List I3) (pa : Option Addr) (na ca : Nat) (r0 r1 root : Int) (l3 : List (Int × Bool)) (p3 : Option Addr) (n3 c3 : Nat) (l4 : List I5) (p4 : Option Addr) (n4 c4 : Nat) (leaf : Int) (hr1 : InI r1) (hlf : InI leaf) {SK SA S3 S4 : Nat → Prop} (w : World) (hk : RdD (flat SlKey.E SlKey.InR) SK w pk nk ks) (ha : RdD (flat SlAuthority.E SlAuthority.InR) SA w pa na us) (h3 : RdD (flat SlStep.E SlStep.InR) S3 w p3 n3 l3) (h4 : RdD (flat SlStamp.E SlStamp.InR) S4 w p4 n4 l4) : Calls Tryz.prog 69 #[.slice pk nk ck, .slice pa na ca, .agg #[.int .i64 r0, .int .i64 r1, .int .i64 root, .slice p3 n3 c3, .slice p4 n4 c4], .int .i64 leaf] w (Val (.bool (chk ks us (r0, r1, root, l3, l4) leaf)) w) := by
  have hb := box1 w (.cells #[.int .i64 r0, .int .i64 r1, .int .i64 root, .slice p3 n3 c3, .slice p4 n4 c4] 103)
  have HBV := Lib.hid hb
  have HGR := Lib.hid (Bx.new w 103 #[.int .i64 r0, .int .i64 r1, .int .i64 root, .slice p3 n3 c3, .slice p4 n4 c4])
  have HK := Lib.hid (hk.below hb)
  have HA := Lib.hid (ha.below hb)
  have H3 := Lib.hid (h3.below hb)
  have H4 := Lib.hid (h4.below hb)
  have HL := Lib.hid h4.len
  have HCQ := Lib.hid (chk_eq (ks := ks) (us := us) (r0 := r0) (r1 := r1) (root := root) (leaf := leaf) h3.len h4.len)
  have hle3 := h3.le
  have hle4 := h4.le
  have HR1 : Hid (InI r1) := Lib.hid hr1
  have HLF : Hid (InI leaf) := Lib.hid hlf
  clear hb hk ha h3 h4 hr1 hlf
  obtain ⟨φ, hφ⟩ : ∃ z, Fp.fp r1 leaf l3 = z := ⟨_, rfl⟩
  rw [hφ] at HCQ
  have HF := Lib.hid hφ
  clear hφ
  by_cases h3 : (n3 : Int) ≤ 4
  rotate_left
  · have HS : Hid (chk ks us (r0, r1, root, l3, l4) leaf = false) := Lib.hid (by rw [HCQ.out, decide_eq_false h3]; rfl)
    have t3 : decide (4 < (n3 : Int)) = true := decide_eq_true (by omega)
    clear h3
    go_enter Tryz.func69, Tryz.ntmps69
    go_wp2_with fail
    generalize (w.alloc (.cells #[.int .i64 r0, .int .i64 r1, .int .i64 root, .slice p3 n3 c3, .slice p4 n4 c4] 103)) = V at HBV HGR HK HA H3 H4 ⊢
    have HC : Hid (∀ w', Qt.Keeps (V) w' → w'.cell? ⟨w.heap.size, 1, none⟩ = some (.int .i64 r1) ∧ w'.cell? ⟨w.heap.size, 2, none⟩ = some (.int .i64 root) ∧ w'.cell? ⟨w.heap.size, 3, none⟩ = some (.slice p3 n3 c3) ∧ w'.cell? ⟨w.heap.size, 4, none⟩ = some (.slice p4 n4 c4)) := Lib.hid fun w' hw => Cr2.five (HGR.out.below hw)
    refine Qt.region (Qt.Keeps (V)) (by kernel_rfl) (by kernel_rfl) (Qt.Keeps.drew _) ?_
    repeat (first
      | go_big_quiet_skip
      | (go_big_quiet_want
         refine Qt.val (v := ?_) (fun w hw => ?_) ?_
         rotate_left
         · obtain ⟨s1, s2, s3, s4⟩ := HC.out w hw
           go_simp
           rfl
         simp only [Act.put, List.setIfInBounds_toArray, List.set_cons_zero, List.set_cons_succ]
         go_big_quiet_on))
    refine wpQuiet_nil ?_
    intro w2 hw2
    have HB2 := Lib.hid (below_on HBV.out hw2)
    clear hw2
    go_wp2_with fail
    go_ret
    exact val_of (by rw [HS.out]; first | done | rfl) HB2.out
  have t3 : decide (4 < (n3 : Int)) = false := decide_eq_false (by omega)
  by_cases he : φ = root
  rotate_left
  · have HS : Hid (chk ks us (r0, r1, root, l3, l4) leaf = false) := Lib.hid (by rw [HCQ.out, decide_eq_true h3, decide_eq_false he]; rfl)
    have e1 : (φ == root) = false := beq_eq_false_iff_ne.2 he
    have e2 : (φ != root) = true := bne_iff_ne.2 he
    clear he
    go_enter Tryz.func69, Tryz.ntmps69
    go_wp2_with fail
    generalize (w.alloc (.cells #[.int .i64 r0, .int .i64 r1, .int .i64 root, .slice p3 n3 c3, .slice p4 n4 c4] 103)) = V at HBV HGR HK HA H3 H4 ⊢
    have HC : Hid (∀ w', Qt.Keeps (V) w' → w'.cell? ⟨w.heap.size, 1, none⟩ = some (.int .i64 r1) ∧ w'.cell? ⟨w.heap.size, 2, none⟩ = some (.int .i64 root) ∧ w'.cell? ⟨w.heap.size, 3, none⟩ = some (.slice p3 n3 c3) ∧ w'.cell? ⟨w.heap.size, 4, none⟩ = some (.slice p4 n4 c4)) := Lib.hid fun w' hw => Cr2.five (HGR.out.below hw)
    refine Qt.region (Qt.Keeps (V)) (by kernel_rfl) (by kernel_rfl) (Qt.Keeps.drew _) ?_
    repeat (first
      | go_big_quiet_skip
      | (go_big_quiet_want
         refine Qt.val (v := ?_) (fun w hw => ?_) ?_
         rotate_left
         · obtain ⟨s1, s2, s3, s4⟩ := HC.out w hw
           go_simp
           rfl
         simp only [Act.put, List.setIfInBounds_toArray, List.set_cons_zero, List.set_cons_succ]
         go_big_quiet_on)
      | (go_big_quiet_want
         refine Qt.call (v := .int .i64 φ) (f := 98) (args := #[.int .i64 r1, .int .i64 leaf, .slice p3 n3 c3]) (fun w hw => ?_) (fun w hw => ?_) ?_
         · go_simp
         · refine (Fp.spec_follow_any r1 leaf _ _ _ l3 _ (H3.out.below hw).rdS H3.out.allP HR1.out HLF.out).mono ?_
           rintro e w1 ⟨rfl, hb1⟩
           rw [HF.out]
           exact ⟨rfl, hw.then hb1⟩
         simp only [Act.put, List.setIfInBounds_toArray, List.set_cons_zero, List.set_cons_succ]
         go_big_quiet_on))
    refine wpQuiet_nil ?_
    intro w2 hw2
    have HB2 := Lib.hid (below_on HBV.out hw2)
    clear hw2
    go_wp2_with fail
    go_ret
    exact val_of (by rw [HS.out]; first | done | rfl) HB2.out
  have e1 : (φ == root) = true := beq_iff_eq.2 he
  have e2 : (φ != root) = false := by rw [he]; simp
  have HE := Lib.hid he
  clear he
  by_cases h4 : 1 ≤ (n4 : Int) ∧ (n4 : Int) ≤ 6
  rotate_left
  · have HS : Hid (chk ks us (r0, r1, root, l3, l4) leaf = false) := Lib.hid (by rw [HCQ.out, decide_eq_true h3, decide_eq_true HE.out, decide_eq_false h4]; rfl)
    have HT3 : Hid (decide (1 ≤ (n4 : Int) ∧ (n4 : Int) ≤ 6) = false) := Lib.hid (decide_eq_false h4)
    clear h4
    go_enter Tryz.func69, Tryz.ntmps69
    go_wp2_with fail
    generalize (w.alloc (.cells #[.int .i64 r0, .int .i64 r1, .int .i64 root, .slice p3 n3 c3, .slice p4 n4 c4] 103)) = V at HBV HGR HK HA H3 H4 ⊢
    have HC : Hid (∀ w', Qt.Keeps (V) w' → w'.cell? ⟨w.heap.size, 1, none⟩ = some (.int .i64 r1) ∧ w'.cell? ⟨w.heap.size, 2, none⟩ = some (.int .i64 root) ∧ w'.cell? ⟨w.heap.size, 3, none⟩ = some (.slice p3 n3 c3) ∧ w'.cell? ⟨w.heap.size, 4, none⟩ = some (.slice p4 n4 c4)) := Lib.hid fun w' hw => Cr2.five (HGR.out.below hw)
    refine Qt.region (Qt.Keeps (V)) (by kernel_rfl) (by kernel_rfl) (Qt.Keeps.drew _) ?_
    repeat (first
      | go_big_quiet_skip
      | (go_big_quiet_want
         refine Qt.val (v := ?_) (fun w hw => ?_) ?_
         rotate_left
         · obtain ⟨s1, s2, s3, s4⟩ := HC.out w hw
           go_simp
           rfl
         simp only [Act.put, List.setIfInBounds_toArray, List.set_cons_zero, List.set_cons_succ]
         go_big_quiet_on)
      | (go_big_quiet_want
         refine Qt.call (v := .int .i64 φ) (f := 98) (args := #[.int .i64 r1, .int .i64 leaf, .slice p3 n3 c3]) (fun w hw => ?_) (fun w hw => ?_) ?_
         · go_simp
         · refine (Fp.spec_follow_any r1 leaf _ _ _ l3 _ (H3.out.below hw).rdS H3.out.allP HR1.out HLF.out).mono ?_
           rintro e w1 ⟨rfl, hb1⟩
           rw [HF.out]
           exact ⟨rfl, hw.then hb1⟩
         simp only [Act.put, List.setIfInBounds_toArray, List.set_cons_zero, List.set_cons_succ]
         go_big_quiet_on)
      | (go_big_quiet_want
         refine Qt.call (v := .bool false) (f := 96) (args := #[.int .i64 n4, .int .i64 1, .int .i64 6]) (fun w hw => ?_) (fun w hw => ?_) ?_
         · go_simp
         · refine (Ints.l1In_any n4 1 6 _ HT3.out _).mono ?_
           rintro e w1 ⟨rfl, rfl⟩
           exact ⟨rfl, hw⟩
         simp only [Act.put, List.setIfInBounds_toArray, List.set_cons_zero, List.set_cons_succ]
         go_big_quiet_on))
    refine wpQuiet_nil ?_
    intro w2 hw2
    have HB2 := Lib.hid (below_on HBV.out hw2)
    clear hw2
    go_wp2_with fail
    go_ret
    exact val_of (by rw [HS.out]; first | done | rfl) HB2.out
  have HT3 : Hid (decide (1 ≤ (n4 : Int) ∧ (n4 : Int) ≤ 6) = true) := Lib.hid (decide_eq_true h4)
  have HS1 : Hid (chk ks us (r0, r1, root, l3, l4) leaf = (asc l4 && !(l4.any (bad ks us root)))) := Lib.hid (by rw [HCQ.out, decide_eq_true h3, decide_eq_true HE.out, HT3.out, Bool.true_and, Bool.true_and, Bool.true_and])
  clear h4
  go_enter Tryz.func69, Tryz.ntmps69
  go_wp2_with fail
  generalize (w.alloc (.cells #[.int .i64 r0, .int .i64 r1, .int .i64 root, .slice p3 n3 c3, .slice p4 n4 c4] 103)) = V at HBV HGR HK HA H3 H4 ⊢
  have HC : Hid (∀ w', Qt.Keeps (V) w' → w'.cell? ⟨w.heap.size, 1, none⟩ = some (.int .i64 r1) ∧ w'.cell? ⟨w.heap.size, 2, none⟩ = some (.int .i64 root) ∧ w'.cell? ⟨w.heap.size, 3, none⟩ = some (.slice p3 n3 c3) ∧ w'.cell? ⟨w.heap.size, 4, none⟩ = some (.slice p4 n4 c4)) := Lib.hid fun w' hw => Cr2.five (HGR.out.below hw)
  refine Qt.region (Qt.Keeps (V)) (by kernel_rfl) (by kernel_rfl) (Qt.Keeps.drew _) ?_
  repeat (first
    | go_big_quiet_skip
    | (go_big_quiet_want
       refine Qt.val (v := ?_) (fun w hw => ?_) ?_
       rotate_left
       · obtain ⟨s1, s2, s3, s4⟩ := HC.out w hw
         go_simp
         rfl
       simp only [Act.put, List.setIfInBounds_toArray, List.set_cons_zero, List.set_cons_succ]
       go_big_quiet_on)
    | (go_big_quiet_want
       refine Qt.call (v := .int .i64 φ) (f := 98) (args := #[.int .i64 r1, .int .i64 leaf, .slice p3 n3 c3]) (fun w hw => ?_) (fun w hw => ?_) ?_
       · go_simp
       · refine (Fp.spec_follow_any r1 leaf _ _ _ l3 _ (H3.out.below hw).rdS H3.out.allP HR1.out HLF.out).mono ?_
         rintro e w1 ⟨rfl, hb1⟩
         rw [HF.out]
         exact ⟨rfl, hw.then hb1⟩
       simp only [Act.put, List.setIfInBounds_toArray, List.set_cons_zero, List.set_cons_succ]
       go_big_quiet_on)
    | (go_big_quiet_want
       refine Qt.call (v := .bool true) (f := 96) (args := #[.int .i64 n4, .int .i64 1, .int .i64 6]) (fun w hw => ?_) (fun w hw => ?_) ?_
       · go_simp
       · refine (Ints.l1In_any n4 1 6 _ HT3.out _).mono ?_
         rintro e w1 ⟨rfl, rfl⟩
         exact ⟨rfl, hw⟩
       simp only [Act.put, List.setIfInBounds_toArray, List.set_cons_zero, List.set_cons_succ]
       go_big_quiet_on))
  refine wpQuiet_nil ?_
  intro w2 hw2
  have HB2 := Lib.hid hw2
  clear hw2 e1 e2
  go_wp2_with fail
  go_loopw [9] (fun i wr => ∃ k : Nat, k ≤ n4 ∧ i = .int .i64 k ∧ Hid (noneB (bad ks us root) l4 k) ∧ Hid (AscTo l4 k) ∧ Hid (Below V.heap.size V wr)) (fun i _ => n4 - (intOf i).toNat)
  case atStart => exact ⟨0, Nat.zero_le _, rfl, Lib.hid (noneB_zero _), Lib.hid (asc_zero _), HB2⟩
  case round =>
    obtain ⟨k, hk, rfl, HN, HO, HB⟩ := hrel
    obtain ⟨s0, s1, s2, s3, s4⟩ := DpRenewal.bxc (HGR.out.below HB.out)
    by_cases hlt : k < n4
    · skip
      obtain ⟨b, o, x_e, cs_e, rfl, _, hbwe, hxe, hce, hrde⟩ := H4.out.at_ hlt
      obtain ⟨xe0, xe1, xe2, xe3, xe4⟩ := x_e
      obtain ⟨rfl, hine⟩ := hrde
      have HIe := Lib.hid hine
      have hcce : ∀ jj v, [.int .i64 xe0, .int .i64 xe1, .int .i64 xe2, .int .i64 xe3, .int .i64 xe4][jj]? = some v → wr.cell? ⟨b, o + k * 5 + jj, none⟩ = some v := fun jj v hv => (HB.out.cell (p := ⟨b, o + k * 5 + jj, none⟩) hbwe).trans (hce jj v hv)
      have HXe := Lib.hid hxe
      have HCe := Lib.hid hcce
      have u0 : wr.cell? ⟨b, o + k * 5, none⟩ = some (.int .i64 xe0) := hcce 0 _ rfl
      have u1 : wr.cell? ⟨b, o + k * 5 + 1, none⟩ = some (.int .i64 xe1) := hcce 1 _ rfl
      have u2 : wr.cell? ⟨b, o + k * 5 + 2, none⟩ = some (.int .i64 xe2) := hcce 2 _ rfl
      have u3 : wr.cell? ⟨b, o + k * 5 + 3, none⟩ = some (.int .i64 xe3) := hcce 3 _ rfl
      have u4 : wr.cell? ⟨b, o + k * 5 + 4, none⟩ = some (.int .i64 xe4) := hcce 4 _ rfl
      clear hcce hce hxe hine
      have hbW : b < wr.heap.size := Nat.lt_of_lt_of_le hbwe HB.out.size
      have HBX := Lib.hid (Bx.new wr 154 #[.int .i64 xe0, .int .i64 xe1, .int .i64 xe2, .int .i64 xe3, .int .i64 xe4])
      have HB3 := Lib.hid (HB.out.alloc HB.out.size (.cells #[.int .i64 xe0, .int .i64 xe1, .int .i64 xe2, .int .i64 xe3, .int .i64 xe4] 154))
      have i1 : (0 : Int) ≤ (k : Int) := by omega
      have i2 : (k : Int) < (n4 : Int) := by omega
      go_wp2_with fail
      generalize (wr.alloc (.cells #[.int .i64 xe0, .int .i64 xe1, .int .i64 xe2, .int .i64 xe3, .int .i64 xe4] 154)) = W3 at HBX HB3 ⊢
      clear u0 u1 u2 u3 u4 s0 s1 s2 s3 s4
      by_cases he3 : xe3 = root
      rotate_left
      · have HS : Hid (chk ks us (r0, r1, root, l3, l4) leaf = false) := Lib.hid (by rw [HS1.out]; exact any_of HXe.out (ok_no he3))
        have e1 : (xe3 != root) = true := bne_iff_ne.2 he3
        have e2 : (xe3 == root) = false := beq_eq_false_iff_ne.2 he3
        clear he3
        have HC : Hid (∀ w', Qt.Keeps (W3) w' → w'.cell? ⟨wr.heap.size, 0, none⟩ = some (.int .i64 xe0) ∧ w'.cell? ⟨wr.heap.size, 1, none⟩ = some (.int .i64 xe1) ∧ w'.cell? ⟨wr.heap.size, 2, none⟩ = some (.int .i64 xe2) ∧ w'.cell? ⟨wr.heap.size, 3, none⟩ = some (.int .i64 xe3) ∧ w'.cell? ⟨wr.heap.size, 4, none⟩ = some (.int .i64 xe4) ∧ w'.cell? ⟨w.heap.size, 2, none⟩ = some (.int .i64 root) ∧ w'.cell? ⟨w.heap.size, 4, none⟩ = some (.slice (some ⟨b, o, none⟩) n4 c4)) := Lib.hid fun w' hw => let h := SlStamp.bxc (HBX.out.below hw); let g := Cr2.five (HGR.out.below (below_on HB3.out hw)); ⟨h.1, h.2.1, h.2.2.1, h.2.2.2.1, h.2.2.2.2, g.2.1, g.2.2.2⟩
        refine Qt.region (Qt.Keeps (W3)) (by kernel_rfl) (by kernel_rfl) (Qt.Keeps.drew _) ?_
        repeat (first
          | go_big_quiet_skip
          | (go_big_quiet_want
             refine Qt.val (v := ?_) (fun w hw => ?_) ?_
             rotate_left
             · obtain ⟨t0, t1, t2, t3, t4, s2, s4⟩ := HC.out w hw
               go_simp
               rfl
             simp only [Act.put, List.setIfInBounds_toArray, List.set_cons_zero, List.set_cons_succ]
             go_big_quiet_on))
        refine wpQuiet_nil ?_
        intro w5 hw5
        have HB5 := Lib.hid (below_on HB3.out hw5)
        clear hw5
        go_wp2_with fail
        go_ret
        exact val_of (by rw [HS.out]; first | done | rfl) (HBV.out.trans (HB5.out.mono HBV.out.size))
      subst he3
      have e1 : (xe3 != xe3) = false := by simp
      have e2 : (xe3 == xe3) = true := by simp
      obtain ⟨β, hβ⟩ : ∃ z, MStamp.chk ks us (xe0, xe1, xe2, xe3, xe4) = z := ⟨_, rfl⟩
      have HCH := Lib.hid hβ
      have HBD : Hid (bad ks us xe3 (xe0, xe1, xe2, xe3, xe4) = !β) := Lib.hid (by rw [ok_yes, hβ])
      clear hβ
      cases k with
      | zero =>
        cases β
        · have HS : Hid (chk ks us (r0, r1, xe3, l3, l4) leaf = false) := Lib.hid (by rw [HS1.out]; exact any_of HXe.out HBD.out)
          have HC : Hid (∀ w', Qt.Keeps (W3) w' → w'.cell? ⟨wr.heap.size, 0, none⟩ = some (.int .i64 xe0) ∧ w'.cell? ⟨wr.heap.size, 1, none⟩ = some (.int .i64 xe1) ∧ w'.cell? ⟨wr.heap.size, 2, none⟩ = some (.int .i64 xe2) ∧ w'.cell? ⟨wr.heap.size, 3, none⟩ = some (.int .i64 xe3) ∧ w'.cell? ⟨wr.heap.size, 4, none⟩ = some (.int .i64 xe4) ∧ w'.cell? ⟨w.heap.size, 2, none⟩ = some (.int .i64 xe3) ∧ w'.cell? ⟨w.heap.size, 4, none⟩ = some (.slice (some ⟨b, o, none⟩) n4 c4)) := Lib.hid fun w' hw => let h := SlStamp.bxc (HBX.out.below hw); let g := Cr2.five (HGR.out.below (below_on HB3.out hw)); ⟨h.1, h.2.1, h.2.2.1, h.2.2.2.1, h.2.2.2.2, g.2.1, g.2.2.2⟩
          refine Qt.region (Qt.Keeps (W3)) (by kernel_rfl) (by kernel_rfl) (Qt.Keeps.drew _) ?_
          repeat (first
            | go_big_quiet_skip
            | (go_big_quiet_want
               refine Qt.val (v := ?_) (fun w hw => ?_) ?_
               rotate_left
               · obtain ⟨t0, t1, t2, t3, t4, s2, s4⟩ := HC.out w hw
                 go_simp
                 rfl
               simp only [Act.put, List.setIfInBounds_toArray, List.set_cons_zero, List.set_cons_succ]
               go_big_quiet_on)
            | (go_big_quiet_want
               refine Qt.call (v := .bool false) (f := 99) (args := #[.slice pk nk ck, .slice pa na ca, .agg #[.int .i64 xe0, .int .i64 xe1, .int .i64 xe2, .int .i64 xe3, .int .i64 xe4]]) (fun w hw => ?_) (fun w hw => ?_) ?_
               · go_simp
               · refine (MStamp.spec_check_any pk nk ck ks HK.out.allP pa na ca us xe0 xe1 xe2 xe3 xe4 HIe.out.1 HIe.out.2.1 HIe.out.2.2.1 HIe.out.2.2.2.1 HIe.out.2.2.2.2 _ (HK.out.below (below_on HB3.out hw)).rdS (HA.out.below (below_on HB3.out hw)).rdS).mono ?_
                 rintro e w1 ⟨rfl, hb1⟩
                 rw [HCH.out]
                 exact ⟨rfl, hw.then hb1⟩
               simp only [Act.put, List.setIfInBounds_toArray, List.set_cons_zero, List.set_cons_succ]
               go_big_quiet_on))
          refine wpQuiet_nil ?_
          intro w5 hw5
          have HB5 := Lib.hid (below_on HB3.out hw5)
          clear hw5
          go_wp2_with fail
          go_ret
          exact val_of (by rw [HS.out]; first | done | rfl) (HBV.out.trans (HB5.out.mono HBV.out.size))
        · have HN2 := Lib.hid (noneB_next HN.out HXe.out HBD.out)
          have HO2 := Lib.hid (asc_one l4)
          have HC : Hid (∀ w', Qt.Keeps (W3) w' → w'.cell? ⟨wr.heap.size, 0, none⟩ = some (.int .i64 xe0) ∧ w'.cell? ⟨wr.heap.size, 1, none⟩ = some (.int .i64 xe1) ∧ w'.cell? ⟨wr.heap.size, 2, none⟩ = some (.int .i64 xe2) ∧ w'.cell? ⟨wr.heap.size, 3, none⟩ = some (.int .i64 xe3) ∧ w'.cell? ⟨wr.heap.size, 4, none⟩ = some (.int .i64 xe4) ∧ w'.cell? ⟨w.heap.size, 2, none⟩ = some (.int .i64 xe3) ∧ w'.cell? ⟨w.heap.size, 4, none⟩ = some (.slice (some ⟨b, o, none⟩) n4 c4)) := Lib.hid fun w' hw => let h := SlStamp.bxc (HBX.out.below hw); let g := Cr2.five (HGR.out.below (below_on HB3.out hw)); ⟨h.1, h.2.1, h.2.2.1, h.2.2.2.1, h.2.2.2.2, g.2.1, g.2.2.2⟩
          refine Qt.region (Qt.Keeps (W3)) (by kernel_rfl) (by kernel_rfl) (Qt.Keeps.drew _) ?_
          repeat (first
            | go_big_quiet_skip
            | (go_big_quiet_want
               refine Qt.val (v := ?_) (fun w hw => ?_) ?_
               rotate_left
               · obtain ⟨t0, t1, t2, t3, t4, s2, s4⟩ := HC.out w hw
                 go_simp
                 rfl
               simp only [Act.put, List.setIfInBounds_toArray, List.set_cons_zero, List.set_cons_succ]
               go_big_quiet_on)
            | (go_big_quiet_want
               refine Qt.call (v := .bool true) (f := 99) (args := #[.slice pk nk ck, .slice pa na ca, .agg #[.int .i64 xe0, .int .i64 xe1, .int .i64 xe2, .int .i64 xe3, .int .i64 xe4]]) (fun w hw => ?_) (fun w hw => ?_) ?_
               · go_simp
               · refine (MStamp.spec_check_any pk nk ck ks HK.out.allP pa na ca us xe0 xe1 xe2 xe3 xe4 HIe.out.1 HIe.out.2.1 HIe.out.2.2.1 HIe.out.2.2.2.1 HIe.out.2.2.2.2 _ (HK.out.below (below_on HB3.out hw)).rdS (HA.out.below (below_on HB3.out hw)).rdS).mono ?_
                 rintro e w1 ⟨rfl, hb1⟩
                 rw [HCH.out]
                 exact ⟨rfl, hw.then hb1⟩
               simp only [Act.put, List.setIfInBounds_toArray, List.set_cons_zero, List.set_cons_succ]
               go_big_quiet_on))
          refine wpQuiet_nil ?_
          intro w5 hw5
          have HB5 := Lib.hid (below_on HB3.out hw5)
          clear hw5
          go_wp2_with fail
          go_roundw
          case rel => exact ⟨1, by omega, by go_num, HN2, HO2, HB5⟩
          case measure => simp [intOf]; omega
      | succ j =>
        obtain ⟨b2, o2, x_y, cs_y, ey, _, hbwy, hxy, hcy, hrdy⟩ := H4.out.at_ (i := j) (by omega)
        simp only [Option.some.injEq, Addr.mk.injEq, and_true] at ey
        obtain ⟨rfl, rfl⟩ := ey
        obtain ⟨xy0, xy1, xy2, xy3, xy4⟩ := x_y
        obtain ⟨rfl, _⟩ := hrdy
        have HY0 : Hid (V.cell? ⟨b, o + j * 5, none⟩ = some (.int .i64 xy0)) := Lib.hid (hcy 0 _ rfl)
        have HXy := Lib.hid hxy
        have jw : IntKind.i64.wrap (j : Int) = (j : Int) := IntWalk.i64_in _ (by omega)
        have j1 : (0 : Int) ≤ (j : Int) := by omega
        have j2 : (j : Int) < (n4 : Int) := by omega
        have j3 : (0 : Int) < (j : Int) + 1 := by omega
        clear hbwy hxy hcy
        by_cases hl : xy0 < xe0
        rotate_left
        · have HS : Hid (chk ks us (r0, r1, xe3, l3, l4) leaf = false) := Lib.hid (by rw [HS1.out, asc_no HXy.out HXe.out hl]; rfl)
          have t1 : decide (xe0 ≤ xy0) = true := decide_eq_true (by omega)
          clear hl
          have HC : Hid (∀ w', Qt.Keeps (W3) w' → w'.cell? ⟨wr.heap.size, 0, none⟩ = some (.int .i64 xe0) ∧ w'.cell? ⟨wr.heap.size, 1, none⟩ = some (.int .i64 xe1) ∧ w'.cell? ⟨wr.heap.size, 2, none⟩ = some (.int .i64 xe2) ∧ w'.cell? ⟨wr.heap.size, 3, none⟩ = some (.int .i64 xe3) ∧ w'.cell? ⟨wr.heap.size, 4, none⟩ = some (.int .i64 xe4) ∧ w'.cell? ⟨w.heap.size, 2, none⟩ = some (.int .i64 xe3) ∧ w'.cell? ⟨w.heap.size, 4, none⟩ = some (.slice (some ⟨b, o, none⟩) n4 c4) ∧ w'.cell? ⟨b, o + j * 5, none⟩ = some (.int .i64 xy0)) := Lib.hid fun w' hw => let h := SlStamp.bxc (HBX.out.below hw); let g := Cr2.five (HGR.out.below (below_on HB3.out hw)); ⟨h.1, h.2.1, h.2.2.1, h.2.2.2.1, h.2.2.2.2, g.2.1, g.2.2.2, ((below_on HB3.out hw).cell (p := ⟨b, o + j * 5, none⟩) hbwe).trans HY0.out⟩
          refine Qt.region (Qt.Keeps (W3)) (by kernel_rfl) (by kernel_rfl) (Qt.Keeps.drew _) ?_
          repeat (first
            | go_big_quiet_skip
            | (go_big_quiet_want
               refine Qt.val (v := ?_) (fun w hw => ?_) ?_
               rotate_left
               · obtain ⟨t0, t1, t2, t3, t4, s2, s4, y0⟩ := HC.out w hw
                 go_simp
                 rfl
               simp only [Act.put, List.setIfInBounds_toArray, List.set_cons_zero, List.set_cons_succ]
               go_big_quiet_on))
          refine wpQuiet_nil ?_
          intro w5 hw5
          have HB5 := Lib.hid (below_on HB3.out hw5)
          clear hw5
          go_wp2_with fail
          go_ret
          exact val_of (by rw [HS.out]; first | done | rfl) (HBV.out.trans (HB5.out.mono HBV.out.size))
        have HO2 := Lib.hid (asc_next HO.out HXy.out HXe.out hl)
        have t1 : decide (xe0 ≤ xy0) = false := decide_eq_false (by omega)
        clear hl
        cases β
        · have HS : Hid (chk ks us (r0, r1, xe3, l3, l4) leaf = false) := Lib.hid (by rw [HS1.out]; exact any_of HXe.out HBD.out)
          have HC : Hid (∀ w', Qt.Keeps (W3) w' → w'.cell? ⟨wr.heap.size, 0, none⟩ = some (.int .i64 xe0) ∧ w'.cell? ⟨wr.heap.size, 1, none⟩ = some (.int .i64 xe1) ∧ w'.cell? ⟨wr.heap.size, 2, none⟩ = some (.int .i64 xe2) ∧ w'.cell? ⟨wr.heap.size, 3, none⟩ = some (.int .i64 xe3) ∧ w'.cell? ⟨wr.heap.size, 4, none⟩ = some (.int .i64 xe4) ∧ w'.cell? ⟨w.heap.size, 2, none⟩ = some (.int .i64 xe3) ∧ w'.cell? ⟨w.heap.size, 4, none⟩ = some (.slice (some ⟨b, o, none⟩) n4 c4) ∧ w'.cell? ⟨b, o + j * 5, none⟩ = some (.int .i64 xy0)) := Lib.hid fun w' hw => let h := SlStamp.bxc (HBX.out.below hw); let g := Cr2.five (HGR.out.below (below_on HB3.out hw)); ⟨h.1, h.2.1, h.2.2.1, h.2.2.2.1, h.2.2.2.2, g.2.1, g.2.2.2, ((below_on HB3.out hw).cell (p := ⟨b, o + j * 5, none⟩) hbwe).trans HY0.out⟩
          refine Qt.region (Qt.Keeps (W3)) (by kernel_rfl) (by kernel_rfl) (Qt.Keeps.drew _) ?_
          repeat (first
            | go_big_quiet_skip
            | (go_big_quiet_want
               refine Qt.val (v := ?_) (fun w hw => ?_) ?_
               rotate_left
               · obtain ⟨t0, t1, t2, t3, t4, s2, s4, y0⟩ := HC.out w hw
                 go_simp
                 rfl
               simp only [Act.put, List.setIfInBounds_toArray, List.set_cons_zero, List.set_cons_succ]
               go_big_quiet_on)
            | (go_big_quiet_want
               refine Qt.call (v := .bool false) (f := 99) (args := #[.slice pk nk ck, .slice pa na ca, .agg #[.int .i64 xe0, .int .i64 xe1, .int .i64 xe2, .int .i64 xe3, .int .i64 xe4]]) (fun w hw => ?_) (fun w hw => ?_) ?_
               · go_simp
               · refine (MStamp.spec_check_any pk nk ck ks HK.out.allP pa na ca us xe0 xe1 xe2 xe3 xe4 HIe.out.1 HIe.out.2.1 HIe.out.2.2.1 HIe.out.2.2.2.1 HIe.out.2.2.2.2 _ (HK.out.below (below_on HB3.out hw)).rdS (HA.out.below (below_on HB3.out hw)).rdS).mono ?_
                 rintro e w1 ⟨rfl, hb1⟩
                 rw [HCH.out]
                 exact ⟨rfl, hw.then hb1⟩
               simp only [Act.put, List.setIfInBounds_toArray, List.set_cons_zero, List.set_cons_succ]
               go_big_quiet_on))
          refine wpQuiet_nil ?_
          intro w5 hw5
          have HB5 := Lib.hid (below_on HB3.out hw5)
          clear hw5
          go_wp2_with fail
          go_ret
          exact val_of (by rw [HS.out]; first | done | rfl) (HBV.out.trans (HB5.out.mono HBV.out.size))
        · have HN2 := Lib.hid (noneB_next HN.out HXe.out HBD.out)
          have HC : Hid (∀ w', Qt.Keeps (W3) w' → w'.cell? ⟨wr.heap.size, 0, none⟩ = some (.int .i64 xe0) ∧ w'.cell? ⟨wr.heap.size, 1, none⟩ = some (.int .i64 xe1) ∧ w'.cell? ⟨wr.heap.size, 2, none⟩ = some (.int .i64 xe2) ∧ w'.cell? ⟨wr.heap.size, 3, none⟩ = some (.int .i64 xe3) ∧ w'.cell? ⟨wr.heap.size, 4, none⟩ = some (.int .i64 xe4) ∧ w'.cell? ⟨w.heap.size, 2, none⟩ = some (.int .i64 xe3) ∧ w'.cell? ⟨w.heap.size, 4, none⟩ = some (.slice (some ⟨b, o, none⟩) n4 c4) ∧ w'.cell? ⟨b, o + j * 5, none⟩ = some (.int .i64 xy0)) := Lib.hid fun w' hw => let h := SlStamp.bxc (HBX.out.below hw); let g := Cr2.five (HGR.out.below (below_on HB3.out hw)); ⟨h.1, h.2.1, h.2.2.1, h.2.2.2.1, h.2.2.2.2, g.2.1, g.2.2.2, ((below_on HB3.out hw).cell (p := ⟨b, o + j * 5, none⟩) hbwe).trans HY0.out⟩
          refine Qt.region (Qt.Keeps (W3)) (by kernel_rfl) (by kernel_rfl) (Qt.Keeps.drew _) ?_
          repeat (first
            | go_big_quiet_skip
            | (go_big_quiet_want
               refine Qt.val (v := ?_) (fun w hw => ?_) ?_
               rotate_left
               · obtain ⟨t0, t1, t2, t3, t4, s2, s4, y0⟩ := HC.out w hw
                 go_simp
                 rfl
               simp only [Act.put, List.setIfInBounds_toArray, List.set_cons_zero, List.set_cons_succ]
               go_big_quiet_on)
            | (go_big_quiet_want
               refine Qt.call (v := .bool true) (f := 99) (args := #[.slice pk nk ck, .slice pa na ca, .agg #[.int .i64 xe0, .int .i64 xe1, .int .i64 xe2, .int .i64 xe3, .int .i64 xe4]]) (fun w hw => ?_) (fun w hw => ?_) ?_
               · go_simp
               · refine (MStamp.spec_check_any pk nk ck ks HK.out.allP pa na ca us xe0 xe1 xe2 xe3 xe4 HIe.out.1 HIe.out.2.1 HIe.out.2.2.1 HIe.out.2.2.2.1 HIe.out.2.2.2.2 _ (HK.out.below (below_on HB3.out hw)).rdS (HA.out.below (below_on HB3.out hw)).rdS).mono ?_
                 rintro e w1 ⟨rfl, hb1⟩
                 rw [HCH.out]
                 exact ⟨rfl, hw.then hb1⟩
               simp only [Act.put, List.setIfInBounds_toArray, List.set_cons_zero, List.set_cons_succ]
               go_big_quiet_on))
          refine wpQuiet_nil ?_
          intro w5 hw5
          have HB5 := Lib.hid (below_on HB3.out hw5)
          clear hw5
          go_wp2_with fail
          go_roundw
          case rel => exact ⟨j + 1 + 1, by omega, by go_num, HN2, HO2, HB5⟩
          case measure => simp [intOf]; omega
    · obtain rfl : k = n4 := by omega
      have HS : Hid (chk ks us (r0, r1, root, l3, l4) leaf = true) := Lib.hid (by rw [HS1.out, asc_yes HO.out HL.out (Nat.le_refl _), any_no HN.out HL.out]; rfl)
      go_wp2_with fail
      go_ret
      exact val_of (by rw [HS.out]; first | done | rfl) (HBV.out.trans (HB.out.mono HBV.out.size))
end Go.Proofs.YtfojilogcecphaaGreat.Cr3
