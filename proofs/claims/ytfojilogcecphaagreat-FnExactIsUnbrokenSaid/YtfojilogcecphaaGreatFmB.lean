/- The least time of the methods that a renewal needs (of no program), and a map of Bools of the call's own. The end of a method; the closures that tell a method's time. The least time of the methods that a renewal needs, in the program, with the closure RenewalBreak$1. The least time of the methods that a renewal needs, in the reference. -/
import Derived.Test.YtfojilogcecphaaGreatDpRenewal
import Derived.Test.YtfojilogcecphaaGreatEs
import Derived.Test.YtfojilogcecphaaGreatAo
import Derived.Test.YtfojilogcecphaaGreatKrA
import Derived.Test.YtfojilogcecphaaGreatMmA
import Derived.Test.YtfojilogcecphaaGreatMin
import Derived.Maps.Own
import Derived.Maps.OwnSet
import Derived.Test.YtfojilogcecphaaGreatDpFrame
import Derived.Outline
import Derived.LoopTactic
import Derived.Test.YtfojilogcecphaaGreatQrA
namespace Go.Proofs.YtfojilogcecphaaGreat.Fm0
open Go.ChangeShapes Go.WideShapes Go.ChangeAt Go.RowKit Sl St Ed Dz Es Fnd Kn Kr
def num (us : List I3) (s : I5) : Int := (Ao.aut us s.1).1.2.1
def lost (ks : List I5) (us : List I3) (s : I5) : Bool := !(ring ks (num us s)).isSome
def meth (ks : List I5) (us : List I3) (s : I5) : Int := match ring ks (num us s) with | some k => k.2.2.1 | none => 0
def stpM (ks : List I5) (us : List I3) (t : Int → Int) (a : Int) (s : I5) : Int := Ints.minI a (t (meth ks us s))
def firstM (ks : List I5) (us : List I3) (t : Int → Int) (m : Int) (xs : List I5) : Int := if xs.any (lost ks us) = true then 0 else xs.foldl (stpM ks us t) (t m)
section
variable {ks : List I5} {us : List I3} {t : Int → Int} {m : Int} {xs : List I5}
theorem fold_next {β : Type} {f : β → I5 → β} {z : β} {k : Nat} {x : I5} (h : xs[k]? = some x) : (xs.take (k + 1)).foldl f z = f ((xs.take k).foldl f z) x := by
  rw [List.take_add_one, h]
  simp
theorem first_lost {k : Nat} {x : I5} (hx : xs[k]? = some x) (hl : ring ks (num us x) = none) : firstM ks us t m xs = 0 := if_pos (any_yes hx (by unfold lost; rw [hl]; rfl))
theorem first_all {n : Nat} (h : noneB (lost ks us) xs n) (hn : xs.length = n) : firstM ks us t m xs = (xs.take n).foldl (stpM ks us t) (t m) := by
  unfold firstM
  rw [any_no h hn, if_neg (by simp), ← hn, List.take_length]
theorem not_lost {x : I5} {k : I5} (h : ring ks (num us x) = some k) : lost ks us x = false := by unfold lost; rw [h]; rfl
theorem meth_of {x : I5} {k : I5} (h : ring ks (num us x) = some k) : meth ks us x = k.2.2.1 := by unfold meth; rw [h]
theorem num_in (hA : ∀ a ∈ us, SlAuthority.InR a) (x : I5) : -9223372036854775808 ≤ num us x ∧ num us x ≤ 9223372036854775807 := by
  unfold num
  rcases hq : Ao.aut us x.1 with ⟨⟨a0, a1, a2⟩, b⟩
  rcases Ao.aut_cases us x.1 hq with ⟨k, hk, _, hx, _⟩ | ⟨_, rfl, rfl, rfl, _⟩
  · have h := hA _ (getD_mem Ao.z3 hk)
    rw [hx] at h
    exact h.2.1
  · exact ⟨by show (-9223372036854775808 : Int) ≤ 0; decide, by show (0 : Int) ≤ 9223372036854775807; decide⟩
end
theorem min_self {a b : Int} (h : a ≤ b) : Ints.minI a b = a := Ints.minI_ge (by omega)
theorem min_l (a b : Int) : Ints.minI a b ≤ a := by unfold Ints.minI; split <;> omega
theorem min_r (a b : Int) : Ints.minI a b ≤ b := by unfold Ints.minI; split <;> omega
/-! ### a map of Bools -/
def bR : Value → Option (DataW Unit × List MemPlace)
  | .bool b => some (.lit (.bool b), [])
  | _ => none
theorem bR_inv {v : Value} {b : Bool} {ps : List MemPlace} (h : bR v = some (.lit (.bool b), ps)) : v = .bool b := by
  unfold bR at h
  split at h
  · simp only [Option.some.injEq, Prod.mk.injEq, DataW.lit.injEq, Lit.bool.injEq] at h
    rw [h.1]
  · cases h
theorem zeroB (w : World) : (zeroValue 4).run Tryz.prog w = .ok (.bool false) w := by kernel_rfl
def Met (S : Int → Bool) (g n : Nat) (w : World) : Prop := ∃ D, w.ownsMap Tryz.prog 3 bR g n D ∧ ∀ id, D.atKey (.int .i64 id) (.lit (.bool false)) = .lit (.bool (S id))
section
variable {S : Int → Bool} {g n : Nat} {w w' : World}
theorem Met.made (w : World) : Met (fun _ => false) w.heap.size 0 (w.alloc (.map #[] 0)) := ⟨_, World.ownsMap_made _ _ _ _, fun _ => Maps.atKey_of_not_has rfl _⟩
theorem Met.grown {row : Option Nat} (h : Met S g n w) (hg : w.grownBy w' row) (hne : some g ≠ row) : Met S g n w' := by
  obtain ⟨D, h1, h2⟩ := h
  exact ⟨D, h1.kept hg hne, h2⟩
theorem Met.below (h : Met S g n w) (hb : Below w.heap.size w w') : Met S g n w' := h.grown (Sl.below_grown hb none) (by simp)
theorem Met.alloc (h : Met S g n w) (o : Obj) : Met S g n (w.alloc o) := h.below ((Below.refl _ _).alloc (Nat.le_refl _) _)
theorem Met.lt (h : Met S g n w) : g < w.heap.size := by obtain ⟨D, h1, _⟩ := h; exact h1.lt
theorem Met.put (h : Met S g n w) (hn : n < maxLen) {id : Int} (hid : -9223372036854775808 ≤ id ∧ id ≤ 9223372036854775807) : ∃ w', (Instr.mapUpdate 238 (.map (some g)) (.int .i64 id) (.bool true)).run Tryz.prog w = .ok () w' ∧ Met (fun i => S i || decide (i = id)) g (n + 1) w' ∧ w.grownBy w' (some g) := by
  obtain ⟨D, h1, h2⟩ := h
  obtain ⟨w', hrun, h3, h4⟩ := h1.store (Maps.int_keyed Tryz.underlying3) Tryz.underlying238 hn (Maps.keyOf_int_mk (a := id) Tryz.underlying3 (WalkArith.wf_i64 hid)) (show bR (.bool true) = some (.lit (.bool true), []) from rfl)
  refine ⟨w', hrun, ⟨_, h3, fun i => ?_⟩, h4.grown⟩
  by_cases he : i = id
  · subst he
    rw [Maps.atKey_put_same h1.isMap (int_key _)]
    simp
  · rw [Maps.atKey_put_other (fun e => he (by simp only [Lit.int.injEq, true_and] at e; exact e)), h2]
    simp [he]
theorem Met.get (h : Met S g n w) {id : Int} (hid : -9223372036854775808 ≤ id ∧ id ≤ 9223372036854775807) : (Instr.lookup 238 (.map (some g)) (.int .i64 id) false).run Tryz.prog w = .ok (.bool (S id)) w := by
  obtain ⟨D, h1, h2⟩ := h
  obtain ⟨v, ps, hrun, hv⟩ := h1.lookup (Maps.int_keyed Tryz.underlying3) Tryz.underlying238 (zeroB _) (show bR (.bool false) = some (.lit (.bool false), []) from rfl) (Maps.keyOf_int_mk (a := id) Tryz.underlying3 (WalkArith.wf_i64 hid))
  rw [h2] at hv
  rw [hrun, bR_inv hv]
end
theorem keyField (k0 k1 k2 k3 k4 : Int) (w : World) : (Instr.field 130 (.agg #[.int .i64 k0, .int .i64 k1, .int .i64 k2, .int .i64 k3, .int .i64 k4]) 2).run Tryz.prog w = .ok (.int .i64 k2) w := by kernel_rfl
theorem ring_get {ks : List I5} {g : Nat} {w : World} (h : Holds ks g w) {n x0 x1 x2 x3 x4 : Int} (hn : -9223372036854775808 ≤ n ∧ n ≤ 9223372036854775807) (hs : ring ks n = some (x0, x1, x2, x3, x4)) : (Instr.lookup 201 (.map (some g)) (.int .i64 n) false).run Tryz.prog w = .ok (.agg #[.int .i64 x0, .int .i64 x1, .int .i64 x2, .int .i64 x3, .int .i64 x4]) w := by
  obtain ⟨m', D, hown, hD⟩ := h
  obtain ⟨v, ps, h1, h2⟩ := hown.lookup (Maps.int_keyed Tryz.underlying3) Tryz.underlying201 (zeroE _) (kR_kv z5) (Maps.keyOf_int_mk (a := n) Tryz.underlying3 (WalkArith.wf_i64 hn))
  rcases hD n with ⟨k', g1, g2, g3⟩ | ⟨g1, _⟩
  · rw [hs, Option.some.injEq] at g1
    subst g1
    rw [g3] at h2
    rw [h1, kR_inv h2]
    rfl
  · rw [hs] at g1
    cases g1
/-! ### the end of a method -/
open Mn in
def ends (l : List Me) (id : Int) : Int := if fnd l id < 0 then 0 else (l.getD (fnd l id).toNat z4).2.2.1
open Mn in
theorem ends_none {l : List Me} {id : Int} (h : fnd l id = -1) : ends l id = 0 := by unfold ends; rw [if_pos (by omega)]
open Mn in
theorem ends_at {l : List Me} {id : Int} {k : Nat} (h : fnd l id = k) : ends l id = (l.getD k z4).2.2.1 := by unfold ends; rw [h, if_neg (by omega), Int.toNat_natCast]
end Go.Proofs.YtfojilogcecphaaGreat.Fm0

namespace Go.Proofs.YtfojilogcecphaaGreat.Fm1
open Go.ChangeShapes Go.WideShapes Go.ChangeAt Go.RowKit Sl St Mn SlMethod Mb Mq Fm0
open Ed Dz
set_option maxRecDepth 100000 in
theorem brkClo_any (g : Nat) (ms : List Me) (pm : Option Addr) (nm cm : Nat) (id : Int) (hid : InI id) {S : Nat → Prop} (w : World) (hm : RdD (flat SlMethod.E SlMethod.InR) S w pm nm ms) (hg : Bx w g 37 #[.slice pm nm cm]) : Calls Tryz.prog 147 #[.int .i64 id, .pointer (some ⟨g, 0, none⟩)] w (Dz.Val (.int .i64 (brk ms id)) w) := by
  have HM := Lib.hid hm
  have HI := Lib.hid hid
  have c0 := hg.cell (j := 0) rfl
  clear hm hid
  go_enter Tryz.func147, Tryz.ntmps147
  go_wp2_with fail
  refine (Mq.brk_any _ _ _ ms HM.out.allP id HI.out _ HM.out.rdS).mono ?_
  rintro e w1 ⟨rfl, hb⟩
  have HB := Lib.hid hb
  clear hb
  go_wp2_with fail
  go_ret
  exact Dz.val_of rfl HB.out
end Go.Proofs.YtfojilogcecphaaGreat.Fm1

namespace Go.Proofs.YtfojilogcecphaaGreat.Fm2B
open Go.ChangeShapes Go.WideShapes Go.ChangeAt Go.RowKit Sl St Ed Dz Es Fnd Kn Kr Fm0
set_option maxRecDepth 100000 in
set_option maxHeartbeats 8000000 in
theorem first_any (g : Nat) (ms : List Mn.Me) (pm : Option Addr) (nm cm : Nat) (ks : List I5) (pk : Option Addr) (nk ck : Nat) (us : List I3) (pa : Option Addr) (na ca : Nat) (r0 r1 r2 : Int) (hr1 : InI r1) (p3 : Option Addr) (n3 c3 : Nat) (l4 : List I5) (p4 : Option Addr) (n4 c4 : Nat) {SM SK SA S4 : Nat → Prop} (w : World) (hm : RdD (flat SlMethod.E SlMethod.InR) SM w pm nm ms) (hg : Bx w g 37 #[.slice pm nm cm]) (hk : RdD (flat SlKey.E SlKey.InR) SK w pk nk ks) (ha : RdD (flat SlAuthority.E SlAuthority.InR) SA w pa na us) (h4 : RdD (flat SlStamp.E SlStamp.InR) S4 w p4 n4 l4) (hn4 : n4 ≤ 1048576) : Calls Tryz.prog 146 #[.slice pk nk ck, .slice pa na ca, .agg #[.int .i64 r0, .int .i64 r1, .int .i64 r2, .slice p3 n3 c3, .slice p4 n4 c4], .func (.func 147) #[] #[.pointer (some ⟨g, 0, none⟩)]] w (Dz.Val (.int .i64 (firstM ks us (Mn.brk ms) r1 l4)) w) := by
  have hmm := @run_makeMap Tryz.prog
  have hb := box1 w (.cells #[.int .i64 r0, .int .i64 r1, .int .i64 r2, .slice p3 n3 c3, .slice p4 n4 c4] 103)
  have HBV := Lib.hid hb
  have HX := Lib.hid (Bx.new w 103 #[.int .i64 r0, .int .i64 r1, .int .i64 r2, .slice p3 n3 c3, .slice p4 n4 c4])
  have HM := Lib.hid (hm.below hb)
  have HG := Lib.hid (hg.below hb)
  have HK := Lib.hid (hk.below hb)
  have HA := Lib.hid (ha.below hb)
  have H4 := Lib.hid (h4.below hb)
  have HI1 : Hid (InI r1) := Lib.hid hr1
  have hle4 := h4.le
  have L4 := Lib.hid h4.len
  clear hb hm hg hk ha h4 hr1
  go_enter Tryz.func146, Tryz.ntmps146
  go_wp2_with fail
  generalize (w.alloc (.cells #[.int .i64 r0, .int .i64 r1, .int .i64 r2, .slice p3 n3 c3, .slice p4 n4 c4] 103)) = V at HBV HX HM HG HK HA H4 ⊢
  refine (ringOf_any pk nk ck ks HK.out.allP _ HK.out.rdS).mono ?_
  rintro e w1 ⟨rfl, hh, hb⟩
  have HH := Lib.hid hh
  have HB1 := Lib.hid hb
  clear hh hb
  obtain ⟨v0, v1, v2, v3, v4⟩ := DpRenewal.bxc (HX.out.below HB1.out)
  go_wp2_with fail
  refine (Fm1.brkClo_any g ms _ _ _ r1 HI1.out _ (HM.out.below HB1.out) (HG.out.below HB1.out)).mono ?_
  rintro e w2 ⟨rfl, hb⟩
  have HB2 := Lib.hid (below_on HB1.out hb)
  have HH2 := Lib.hid (HH.out.below hb)
  clear hb v0 v1 v2 v3 v4
  have lR : V.heap.size < w2.heap.size := HH2.out.lt
  have hbm := box1 w2 (.map #[] 0)
  obtain ⟨w3, hrun, hmet, hgr⟩ := (Fm0.Met.made w2).put (by unfold maxLen; omega) HI1.out
  have HMET := Lib.hid hmet
  have HH3 := Lib.hid ((HH2.out.below hbm).grown hgr (by intro e; simp only [Option.some.injEq] at e; omega))
  have HB3 := Lib.hid ((below_on HB2.out hbm).grown hgr (below_on HB2.out hbm).size (fun k e => by cases e; exact HB2.out.size))
  obtain ⟨v0, v1, v2, v3, v4⟩ := DpRenewal.bxc (HX.out.below (below_on HB2.out hbm))
  obtain ⟨y0, y1, y2, y3, y4⟩ := DpRenewal.bxc (HX.out.below HB3.out)
  clear hmet hgr hbm
  go_wp2_with fail
  clear hrun v0 v1 v2 v3 v4 y0 y1 y2 y3 y4
  go_loopw [10, 29] (fun v i wr => ∃ (k : Nat) (y : Int), k ≤ n4 ∧ i = .int .i64 k ∧ v = .int .i64 y ∧ Hid (y = (l4.take k).foldl (stpM ks us (Mn.brk ms)) ((Mn.brk ms) r1)) ∧ Hid (noneB (lost ks us) l4 k) ∧ Hid (∃ (S : Int → Bool) (q : Nat), q ≤ k + 1 ∧ Fm0.Met S w2.heap.size q wr ∧ ∀ id, S id = true → y ≤ (Mn.brk ms) id) ∧ Hid (Holds ks V.heap.size wr) ∧ Hid (Below V.heap.size V wr) ∧ w2.heap.size < wr.heap.size) (fun _ i _ => n4 - (intOf i).toNat)
  case atStart =>
    refine ⟨0, (Mn.brk ms) r1, Nat.zero_le _, rfl, rfl, Lib.hid rfl, Lib.hid (noneB_zero _), Lib.hid ⟨_, _, by omega, HMET.out, fun id h => ?_⟩, HH3, HB3, HMET.out.lt⟩
    simp only [Bool.false_or, decide_eq_true_eq] at h
    rw [h]
    exact Int.le_refl _
  case round =>
    obtain ⟨k, y, hk, rfl, rfl, HY, HN, HS, HH, HB, lM⟩ := hrel
    by_cases hlt : k < n4
    · skip
      obtain ⟨b, o, x_e, cs_e, rfl, _, hbwe, hxe, hce, hrde⟩ := H4.out.at_ hlt
      obtain ⟨xe0, xe1, xe2, xe3, xe4⟩ := x_e
      obtain ⟨rfl, hine⟩ := hrde
      have HIe := Lib.hid hine
      have hcce : ∀ jj v, [.int .i64 xe0, .int .i64 xe1, .int .i64 xe2, .int .i64 xe3, .int .i64 xe4][jj]? = some v → wr.cell? ⟨b, o + k * 5 + jj, none⟩ = some v := fun jj v hv => (HB.out.cell (p := ⟨b, o + k * 5 + jj, none⟩) hbwe).trans (hce jj v hv)
      have HXe := Lib.hid hxe
      have HCe := Lib.hid hcce
      have u0 : wr.cell? ⟨b, o + k * 5, none⟩ = some (.int .i64 xe0) := hcce 0 _ rfl
      have u1 : wr.cell? ⟨b, o + k * 5 + 1, none⟩ = some (.int .i64 xe1) := hcce 1 _ rfl
      have u2 : wr.cell? ⟨b, o + k * 5 + 2, none⟩ = some (.int .i64 xe2) := hcce 2 _ rfl
      have u3 : wr.cell? ⟨b, o + k * 5 + 3, none⟩ = some (.int .i64 xe3) := hcce 3 _ rfl
      have u4 : wr.cell? ⟨b, o + k * 5 + 4, none⟩ = some (.int .i64 xe4) := hcce 4 _ rfl
      clear hcce hce hxe hine
      have HBX := Lib.hid (Bx.new wr 154 #[.int .i64 xe0, .int .i64 xe1, .int .i64 xe2, .int .i64 xe3, .int .i64 xe4])
      have hbx := box1 wr (.cells #[.int .i64 xe0, .int .i64 xe1, .int .i64 xe2, .int .i64 xe3, .int .i64 xe4] 154)
      have HB4 := Lib.hid (below_on HB.out hbx)
      have HH4 := Lib.hid (HH.out.below hbx)
      have HQ4 := Lib.hid hbx
      have HIN := Lib.hid (num_in HA.out.allP (xe0, xe1, xe2, xe3, xe4))
      clear hbx
      go_wp2_with fail
      generalize (wr.alloc (.cells #[.int .i64 xe0, .int .i64 xe1, .int .i64 xe2, .int .i64 xe3, .int .i64 xe4] 154)) = W4 at HBX HB4 HH4 HQ4 ⊢
      obtain ⟨q0, q1, q2, q3, q4⟩ := SlStamp.bxc HBX.out
      go_wp2_with fail
      refine (Ao.stampKey_any pa na ca us xe0 xe1 xe2 xe3 xe4 _ (HA.out.below HB4.out).rdS).mono ?_
      rintro e w5 ⟨rfl, hb⟩
      have HB5 := Lib.hid (below_on HB4.out hb)
      have HH5 := Lib.hid (HH4.out.below hb)
      have HQ5 := Lib.hid (below_on HQ4.out hb)
      clear hb q0 q1 q2 q3 q4 u0 u1 u2 u3 u4
      obtain ⟨z, hz⟩ : ∃ z, (Ao.aut us xe0).1.2.1 = z := ⟨_, rfl⟩
      have HZ : Hid (num us (xe0, xe1, xe2, xe3, xe4) = z) := Lib.hid hz
      have HZI : Hid (-9223372036854775808 ≤ z ∧ z ≤ 9223372036854775807) := Lib.hid (by rw [← hz]; exact HIN.out)
      rw [hz]
      clear hz HIN
      go_wp2_with fail
      refine (Ko.has_any ks _ z HZI.out _ HH5.out).mono ?_
      rintro e w6 ⟨rfl, hb⟩
      have HB6 := Lib.hid (below_on HB5.out hb)
      have HH6 := Lib.hid (HH5.out.below hb)
      have HQ6 := Lib.hid (below_on HQ5.out hb)
      clear hb
      rcases hs : ring ks z with _ | κ
      · have HF := Lib.hid (first_lost (ks := ks) (us := us) (t := (Mn.brk ms)) (m := r1) HXe.out (by rw [HZ.out]; exact hs))
        clear hs
        go_wp2_with fail
        go_ret
        exact Dz.val_of (by rw [HF.out]; first | done | rfl) (below_on HBV.out HB6.out)
      · have hκ := Ko.inr_key HK.out.allP hs
        obtain ⟨k0, k1, k2, k3, k4⟩ := κ
        have HKI : Hid (InI k2) := Lib.hid hκ.2.2.1
        have HR := Lib.hid hs
        have HN2 := Lib.hid (noneB_next HN.out HXe.out (not_lost (by rw [HZ.out]; exact hs)))
        have HME : Hid (meth ks us (xe0, xe1, xe2, xe3, xe4) = k2) := Lib.hid (meth_of (by rw [HZ.out]; exact hs))
        have hrg := ring_get HH6.out HZI.out hs
        have hkf := keyField k0 k1 k2 k3 k4
        obtain ⟨S, q, hq, hmet, hS⟩ := HS.out
        have hmet6 := hmet.below HQ6.out
        have hget := hmet6.get HKI.out
        have HM6 := Lib.hid hmet6
        have HSS := Lib.hid hS
        clear hs hκ hmet hmet6 hS
        obtain ⟨β, hβ⟩ : ∃ b, S k2 = b := ⟨_, rfl⟩
        rw [hβ] at hget
        have HBE := Lib.hid hβ
        clear hβ
        cases β
        · obtain ⟨w7, hput, hmet7, hgr⟩ := HM6.out.put (by unfold maxLen; omega) HKI.out
          have HM7 := Lib.hid hmet7
          have HH7 := Lib.hid (HH6.out.grown hgr (by intro e; simp only [Option.some.injEq] at e; omega))
          have HB7 := Lib.hid (HB6.out.grown hgr HB6.out.size (fun k e => by cases e; omega))
          clear hmet7 hgr
          go_wp2_with fail
          clear hrg hkf hget hput
          refine (Fm1.brkClo_any g ms _ _ _ k2 HKI.out _ (HM.out.below HB7.out) (HG.out.below HB7.out)).mono ?_
          rintro e w8 ⟨rfl, hb⟩
          have HB8 := Lib.hid (below_on HB7.out hb)
          have HH8 := Lib.hid (HH7.out.below hb)
          have HM8 := Lib.hid (HM7.out.below hb)
          clear hb
          go_wp2_with fail
          refine (Mm.min_b _ _ _).mono ?_
          rintro e w9 ⟨rfl, hb⟩
          have HB9 := Lib.hid (below_on HB8.out hb)
          have HH9 := Lib.hid (HH8.out.below hb)
          have HM9 := Lib.hid (HM8.out.below hb)
          clear hb
          have HY2 : Hid (Ints.minI y ((Mn.brk ms) k2) = (l4.take (k + 1)).foldl (stpM ks us (Mn.brk ms)) ((Mn.brk ms) r1)) := Lib.hid (by rw [fold_next HXe.out, ← HY.out]; unfold stpM; rw [HME.out])
          have HS9 : Hid (∃ (S : Int → Bool) (q : Nat), q ≤ k + 1 + 1 ∧ Fm0.Met S w2.heap.size q w9 ∧ ∀ id, S id = true → Ints.minI y ((Mn.brk ms) k2) ≤ (Mn.brk ms) id) := Lib.hid ⟨_, _, by omega, HM9.out, fun id h => by
            simp only [Bool.or_eq_true, decide_eq_true_eq] at h
            rcases h with h | h
            · exact Int.le_trans (min_l _ _) (HSS.out id h)
            · rw [h]; exact min_r _ _⟩
          have lM9 := HM9.out.lt
          generalize Ints.minI y ((Mn.brk ms) k2) = y2 at HY2 HS9 ⊢
          clear HBE HSS HS HM6 HM7 HM8 HM9
          go_wp2_with fail
          go_roundw
          case rel => exact ⟨k + 1, y2, by omega, by go_num, rfl, HY2, HN2, HS9, HH9, HB9, lM9⟩
          case measure => simp [intOf]; omega
        · have HY2 : Hid (y = (l4.take (k + 1)).foldl (stpM ks us (Mn.brk ms)) ((Mn.brk ms) r1)) := Lib.hid (by rw [fold_next HXe.out, ← HY.out]; unfold stpM; rw [HME.out, min_self (HSS.out k2 HBE.out)])
          have HS9 : Hid (∃ (S : Int → Bool) (q : Nat), q ≤ k + 1 + 1 ∧ Fm0.Met S w2.heap.size q w6 ∧ ∀ id, S id = true → y ≤ (Mn.brk ms) id) := Lib.hid ⟨_, _, by omega, HM6.out, HSS.out⟩
          have lM9 := HM6.out.lt
          clear HBE HSS HS HM6
          go_wp2_with fail
          go_roundw
          case rel => exact ⟨k + 1, y, by omega, by go_num, rfl, HY2, HN2, HS9, HH6, HB6, lM9⟩
          case measure => simp [intOf]; omega
    · obtain rfl : k = n4 := by omega
      have HF := Lib.hid (first_all (t := (Mn.brk ms)) (m := r1) HN.out L4.out)
      have HV : Hid (y = firstM ks us (Mn.brk ms) r1 l4) := Lib.hid (by rw [HF.out, HY.out])
      go_wp2_with fail
      go_ret
      exact Dz.val_of (by rw [← HV.out]; first | done | rfl) (below_on HBV.out HB.out)
set_option maxRecDepth 100000 in
set_option maxHeartbeats 4000000 in
theorem break_any (ks : List I5) (pk : Option Addr) (nk ck : Nat) (us : List I3) (pa : Option Addr) (na ca : Nat) (ms : List Mn.Me) (pm : Option Addr) (nm cm : Nat) (r0 r1 r2 : Int) (l3 : List (Int × Bool)) (p3 : Option Addr) (n3 c3 : Nat) (l4 : List I5) (p4 : Option Addr) (n4 c4 : Nat) (hr1 : InI r1) {SM SK SA S3 S4 : Nat → Prop} (w : World) (hk : RdD (flat SlKey.E SlKey.InR) SK w pk nk ks) (ha : RdD (flat SlAuthority.E SlAuthority.InR) SA w pa na us) (hm : RdD (flat SlMethod.E SlMethod.InR) SM w pm nm ms) (_h3 : RdD (flat SlStep.E SlStep.InR) S3 w p3 n3 l3) (h4 : RdD (flat SlStamp.E SlStamp.InR) S4 w p4 n4 l4) (hn4 : n4 ≤ 1048576) : Calls Tryz.prog 113 #[.slice pk nk ck, .slice pa na ca, .slice pm nm cm, .agg #[.int .i64 r0, .int .i64 r1, .int .i64 r2, .slice p3 n3 c3, .slice p4 n4 c4]] w (Dz.Val (.int .i64 (firstM ks us (Mn.brk ms) r1 l4)) w) := by
  have hb : Below w.heap.size w ((w.alloc (.cells #[.slice pm nm cm] 37)).alloc (.cells #[.int .i64 r0, .int .i64 r1, .int .i64 r2, .slice p3 n3 c3, .slice p4 n4 c4] 103)) := (box1 w _).alloc (by simp) _
  have x1 := (Bx.new w 37 #[.slice pm nm cm]).alloc (.cells #[.int .i64 r0, .int .i64 r1, .int .i64 r2, .slice p3 n3 c3, .slice p4 n4 c4] 103)
  have x2 := Bx.new (w.alloc (.cells #[.slice pm nm cm] 37)) 103 #[.int .i64 r0, .int .i64 r1, .int .i64 r2, .slice p3 n3 c3, .slice p4 n4 c4]
  rw [World.size_alloc] at x2
  have HBV := Lib.hid hb
  have HG := Lib.hid x1
  have HX := Lib.hid x2
  have HM := Lib.hid (hm.below hb)
  have HK := Lib.hid (hk.below hb)
  have HA := Lib.hid (ha.below hb)
  have H4 := Lib.hid (h4.below hb)
  clear hb x1 x2 hm hk ha h4
  obtain ⟨v0, v1, v2, v3, v4⟩ := DpRenewal.bxc HX.out
  go_enter Tryz.func113, Tryz.ntmps113
  go_wp2_with fail
  generalize ((w.alloc (.cells #[.slice pm nm cm] 37)).alloc (.cells #[.int .i64 r0, .int .i64 r1, .int .i64 r2, .slice p3 n3 c3, .slice p4 n4 c4] 103)) = V at HBV HG HX HM HK HA H4 ⊢
  refine (first_any w.heap.size ms _ _ _ ks _ _ _ us _ _ _ r0 r1 r2 hr1 _ _ _ l4 _ _ _ _ HM.out HG.out HK.out HA.out H4.out hn4).mono ?_
  rintro e w1 ⟨rfl, hb⟩
  have HB := Lib.hid (below_on HBV.out hb)
  clear hb v0 v1 v2 v3 v4
  go_wp2_with fail
  go_ret
  exact Dz.val_of rfl HB.out
end Go.Proofs.YtfojilogcecphaaGreat.Fm2B

namespace Go.Proofs.YtfojilogcecphaaGreat.Fm3
open Go.ChangeShapes Go.WideShapes Go.ChangeAt Go.RowKit Sl St Ed Dz Es Fnd Kn Kr Fm0
theorem key_at {ks : List I5} {w : World} {S : Nat → Prop} {p : Option Addr} {n k : Nat} {z : Int} (h : RdD (flat SlKey.E SlKey.InR) S w p n ks) (hk : k < n) (hf : find ks z = k) : ∃ b o x0 x1 x2 x3 x4, p = some ⟨b, o, none⟩ ∧ b < w.heap.size ∧ ring ks z = some (x0, x1, x2, x3, x4) ∧ w.cell? ⟨b, o + k * 5 + 2, none⟩ = some (.int .i64 x2) := by
  obtain ⟨b, o, ⟨x0, x1, x2, x3, x4⟩, cs, rfl, _, hb, hx, hc, rfl, _⟩ := h.at_ hk
  refine ⟨b, o, x0, x1, x2, x3, x4, rfl, hb, ?_, hc 2 _ rfl⟩
  rcases ring_cases ks z with ⟨j, hj, h1, h2, _, _⟩ | ⟨h1, _, _⟩
  · rw [hf] at h1
    obtain rfl : k = j := by omega
    rw [h2, List.getD_eq_getElem?_getD, hx]
    rfl
  · rw [hf] at h1
    omega
theorem SlStamp_at {w : World} {b q : Nat} {v0 v1 v2 v3 v4 : Value} (h : ∀ j v, [v0, v1, v2, v3, v4][j]? = some v → w.cell? ⟨b, q + j, none⟩ = some v) : w.cell? ⟨b, q, none⟩ = some v0 ∧ w.cell? ⟨b, q + 1, none⟩ = some v1 ∧ w.cell? ⟨b, q + 2, none⟩ = some v2 ∧ w.cell? ⟨b, q + 3, none⟩ = some v3 ∧ w.cell? ⟨b, q + 4, none⟩ = some v4 := ⟨h 0 _ rfl, h 1 _ rfl, h 2 _ rfl, h 3 _ rfl, h 4 _ rfl⟩
set_option maxRecDepth 100000 in
set_option maxHeartbeats 8000000 in
theorem spec_break_any (ks : List I5) (pk : Option Addr) (nk ck : Nat) (us : List I3) (pa : Option Addr) (na ca : Nat) (ms : List Mn.Me) (pm : Option Addr) (nm cm : Nat) (r0 r1 r2 : Int) (l3 : List (Int × Bool)) (p3 : Option Addr) (n3 c3 : Nat) (l4 : List I5) (p4 : Option Addr) (n4 c4 : Nat) {SM SK SA S3 S4 : Nat → Prop} (w : World) (hk : RdD (flat SlKey.E SlKey.InR) SK w pk nk ks) (ha : RdD (flat SlAuthority.E SlAuthority.InR) SA w pa na us) (hm : RdD (flat SlMethod.E SlMethod.InR) SM w pm nm ms) (_h3 : RdD (flat SlStep.E SlStep.InR) S3 w p3 n3 l3) (h4 : RdD (flat SlStamp.E SlStamp.InR) S4 w p4 n4 l4) : Calls Tryz.prog 97 #[.slice pk nk ck, .slice pa na ca, .slice pm nm cm, .agg #[.int .i64 r0, .int .i64 r1, .int .i64 r2, .slice p3 n3 c3, .slice p4 n4 c4]] w (Dz.Val (.int .i64 (firstM ks us (Mn.brk ms) r1 l4)) w) := by
  have hb : Below w.heap.size w (w.alloc (.cells #[.int .i64 r0, .int .i64 r1, .int .i64 r2, .slice p3 n3 c3, .slice p4 n4 c4] 103)) := box1 w _
  have x2 := Bx.new w 103 #[.int .i64 r0, .int .i64 r1, .int .i64 r2, .slice p3 n3 c3, .slice p4 n4 c4]
  have HBV := Lib.hid hb
  have HX := Lib.hid x2
  have HM := Lib.hid (hm.below hb)
  have HK := Lib.hid (hk.below hb)
  have HA := Lib.hid (ha.below hb)
  have H4 := Lib.hid (h4.below hb)
  have hle4 := h4.le
  have hlek := hk.le
  have L4 := Lib.hid h4.len
  clear hb x2 hm hk ha h4
  obtain ⟨v0, v1, v2, v3, v4⟩ := DpRenewal.bxc HX.out
  go_enter Tryz.func97, Tryz.ntmps97
  go_wp2_with fail
  generalize (w.alloc (.cells #[.int .i64 r0, .int .i64 r1, .int .i64 r2, .slice p3 n3 c3, .slice p4 n4 c4] 103)) = V at HBV HX HM HK HA H4 ⊢
  refine (Mq.spec_brk_any _ _ _ ms r1 _ HM.out.rdS).mono ?_
  rintro e w1 ⟨rfl, hb⟩
  have HB1 := Lib.hid hb
  clear hb v0 v1 v2 v3 v4
  go_wp2_with fail
  go_loopw [9, 10] (fun v i wr => ∃ (k : Nat) (y : Int), k ≤ n4 ∧ i = .int .i64 k ∧ v = .int .i64 y ∧ Hid (y = (l4.take k).foldl (stpM ks us (Mn.brk ms)) ((Mn.brk ms) r1)) ∧ Hid (noneB (lost ks us) l4 k) ∧ Hid (Below V.heap.size V wr)) (fun _ i _ => n4 - (intOf i).toNat)
  case atStart => exact ⟨0, (Mn.brk ms) r1, Nat.zero_le _, rfl, rfl, Lib.hid rfl, Lib.hid (noneB_zero _), HB1⟩
  case round =>
    obtain ⟨k, y, hk, rfl, rfl, HY, HN, HB⟩ := hrel
    obtain ⟨v0, v1, v2, v3, v4⟩ := DpRenewal.bxc (HX.out.below HB.out)
    by_cases hlt : k < n4
    · skip
      obtain ⟨b, o, x_e, cs_e, rfl, _, hbwe, hxe, hce, hrde⟩ := H4.out.at_ hlt
      obtain ⟨xe0, xe1, xe2, xe3, xe4⟩ := x_e
      obtain ⟨rfl, hine⟩ := hrde
      have HIe := Lib.hid hine
      have hcce : ∀ jj v, [.int .i64 xe0, .int .i64 xe1, .int .i64 xe2, .int .i64 xe3, .int .i64 xe4][jj]? = some v → wr.cell? ⟨b, o + k * 5 + jj, none⟩ = some v := fun jj v hv => (HB.out.cell (p := ⟨b, o + k * 5 + jj, none⟩) hbwe).trans (hce jj v hv)
      have HXe := Lib.hid hxe
      have HCe := Lib.hid hcce
      have u0 : wr.cell? ⟨b, o + k * 5, none⟩ = some (.int .i64 xe0) := hcce 0 _ rfl
      have u1 : wr.cell? ⟨b, o + k * 5 + 1, none⟩ = some (.int .i64 xe1) := hcce 1 _ rfl
      have u2 : wr.cell? ⟨b, o + k * 5 + 2, none⟩ = some (.int .i64 xe2) := hcce 2 _ rfl
      have u3 : wr.cell? ⟨b, o + k * 5 + 3, none⟩ = some (.int .i64 xe3) := hcce 3 _ rfl
      have u4 : wr.cell? ⟨b, o + k * 5 + 4, none⟩ = some (.int .i64 xe4) := hcce 4 _ rfl
      clear hcce hce hxe hine
      obtain ⟨z, hz⟩ : ∃ z, (Ao.aut us xe0).1.2.1 = z := ⟨_, rfl⟩
      have HZ : Hid (num us (xe0, xe1, xe2, xe3, xe4) = z) := Lib.hid hz
      have HZ2 := Lib.hid hz
      clear hz
      have i1 : (0 : Int) ≤ (k : Int) := by omega
      have i2 : (k : Int) < (n4 : Int) := by omega
      go_wp2_with fail
      refine (Ao.spec_stampKey_any pa na ca us xe0 xe1 xe2 xe3 xe4 _ (HA.out.below HB.out).rdS).mono ?_
      rintro e w5 ⟨rfl, hb⟩
      rw [HZ2.out]
      have HB5 := Lib.hid (below_on HB.out hb)
      clear hb v0 v1 v2 v3 v4 u0 u1 u2 u3 u4
      go_wp2_with fail
      refine (FKey.spec_find_val pk nk ck ks z _ (HK.out.below HB5.out).rdS).mono ?_
      rintro e w6 ⟨rfl, hb⟩
      have HB6 := Lib.hid (below_on HB5.out hb)
      clear hb
      rcases ring_cases ks z with ⟨j, hj, hf, _, _, _⟩ | ⟨hf, hr, _⟩
      rotate_left
      · have HF := Lib.hid (first_lost (ks := ks) (us := us) (t := (Mn.brk ms)) (m := r1) HXe.out (by rw [HZ.out]; exact hr))
        rw [hf]
        clear hf hr
        go_wp2_with fail
        go_ret
        exact Dz.val_of (by rw [HF.out]; first | done | rfl) (below_on HBV.out HB6.out)
      · obtain ⟨bk, ok, k0, k1, k2, k3, k4, rfl, hbk, hrk, hck⟩ := key_at HK.out (by rw [← HK.out.len]; exact hj) hf
        have hjn : j < nk := by rw [← HK.out.len]; exact hj
        have HN2 := Lib.hid (noneB_next HN.out HXe.out (not_lost (by rw [HZ.out]; exact hrk)))
        have HME : Hid (meth ks us (xe0, xe1, xe2, xe3, xe4) = k2) := Lib.hid (meth_of (by rw [HZ.out]; exact hrk))
        have HCK := Lib.hid hck
        have HBK := Lib.hid hbk
        rw [hf]
        have j1 : (0 : Int) ≤ (j : Int) := by omega
        have j2 : (j : Int) < (nk : Int) := by omega
        clear hf hrk hj hck hbk
        have hc6 := (HB6.out.cell (p := ⟨bk, ok + j * 5 + 2, none⟩) HBK.out).trans HCK.out
        go_wp2_with fail
        refine (Mq.spec_brk_any _ _ _ ms k2 _ (HM.out.below HB6.out).rdS).mono ?_
        rintro e w7 ⟨rfl, hb⟩
        have HB7 := Lib.hid (below_on HB6.out hb)
        clear hb hc6
        go_wp2_with fail
        refine (Ints.spec_min_any _ _ _).mono ?_
        rintro e w8 ⟨rfl, hw8⟩
        subst hw8
        have HY2 : Hid (Ints.minI y ((Mn.brk ms) k2) = (l4.take (k + 1)).foldl (stpM ks us (Mn.brk ms)) ((Mn.brk ms) r1)) := Lib.hid (by rw [fold_next HXe.out, ← HY.out]; unfold stpM; rw [HME.out])
        generalize Ints.minI y ((Mn.brk ms) k2) = y2 at HY2 ⊢
        go_wp2_with fail
        go_roundw
        case rel => exact ⟨k + 1, y2, by omega, by go_num, rfl, HY2, HN2, HB7⟩
        case measure => simp [intOf]; omega
    · obtain rfl : k = n4 := by omega
      have HF := Lib.hid (first_all (t := (Mn.brk ms)) (m := r1) HN.out L4.out)
      have HV : Hid (y = firstM ks us (Mn.brk ms) r1 l4) := Lib.hid (by rw [HF.out, HY.out])
      go_wp2_with fail
      go_ret
      exact Dz.val_of (by rw [← HV.out]; first | done | rfl) (below_on HBV.out HB.out)
end Go.Proofs.YtfojilogcecphaaGreat.Fm3
