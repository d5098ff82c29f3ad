/- The walk of the law FnExactRedactDocument. -/
import Derived.Test.YtjlckfbacphblaaOs
import Derived.Test.YtjlckfbacphblaaOm
import Derived.Test.YtjlckfbacphblaaSlDoc
import Derived.ChangeMaps5
import Derived.Deep.RegionHeld3
import Derived.OpenShut
namespace Go.Proofs.Ytjlckfbacphblaa.fnExactRedactDocument
open Go.ChangeShapes Go.WideShapes Go.ChangeAt Go.RowKit Go.ChangeMaps Sl St Tn Dm Dk SlDoc Mk Dt Dl SlRed Rr Od Om
theorem turnLo {S : Nat → Prop} {lo : Nat} {w w' : World} {a : Ra} {D : Rc} {hs : List SlL.Hd} (h : OwRh lo w a D hs) (ht : Turn S w w') (hS : ∀ i, S i → i < lo) : OwRh lo w' a D hs :=
  ⟨h.t, owI_t h.ms ht (fun g e x => by have := h.ms.far g e; have := hS g x; omega), owS_t h.sh ht (fun g e x => by have := h.sh.far g e; have := hS g x; omega), owS_t h.ps ht (fun g e x => by have := h.ps.far g e; have := hS g x; omega), owI_t h.ss ht (fun g e x => by have := h.ss.far g e; have := hS g x; omega), owS_t h.ds ht (fun g e x => by have := h.ds.far g e; have := hS g x; omega), h.len,
    fun i k x e1 e2 => owI_t (h.inn i k x e1 e2) ht (fun g e x2 => by have := (h.inn i k x e1 e2).far g e; have := hS g x2; omega), h.dis, h.m_s, h.m_i, h.s_i⟩
theorem turn_two {lo hi : Nat} {w w' : World} (h : Two lo hi w w') : Turn (fun i => lo ≤ i ∧ i < hi) w w' := by
  obtain ⟨_, _, _, g1, g2, h1, h2⟩ := h
  exact ((Turn.of_grown g1).mono fun i e => h1 i e).trans ((Turn.of_grown g2).mono fun i e => h2 i e)
theorem tl_app (xs ys : List (List Int)) : SlL.tl (xs ++ ys) = SlL.tl xs + SlL.tl ys := by unfold SlL.tl; rw [List.map_append, List.sum_append]
theorem tl_rows (f : Nat → List Int) (N : Nat) (h : ∀ k, (f k).length ≤ N) : ∀ k, SlL.tl ((List.range k).map f) ≤ k * N
  | 0 => by simp [SlL.tl]
  | k + 1 => by
    have h1 := tl_rows f N h k
    have h2 := h k
    rw [List.range_succ, List.map_append, tl_app, Nat.succ_mul]
    have h3 : SlL.tl (List.map f [k]) = (f k).length := by simp [SlL.tl]
    omega
theorem rowD_len (ms : List Int) (D : Dc) (hide : List Int) (k : Nat) : (rowD ms D hide k).length ≤ ms.length := by
  unfold rowD
  split
  · simp [eachD]
  · simp
theorem total_le {ms : List Int} {D : Dc} {hide : List Int} (hm : ms.length ≤ 1048576) {lo : Nat} {w : World} {a : Ra} {hs : List SlL.Hd} (h : OwRh lo w a (redR ms D hide) hs) : total a (redR ms D hide) ≤ 10000000 := by
  have e1 := h.ms.len
  have e2 := h.sh.len
  have e3 := h.ps.len
  have e4 := h.ss.len
  unfold total
  rcases hok : docOk D with _ | _
  · rw [redR_no hok] at e1 e2 e3 e4 ⊢
    simp [SlL.tl] at e1 e2 e3 e4 ⊢
    omega
  · rw [redR_yes hok] at e1 e2 e3 e4 ⊢
    have hl : D.2.1.length ≤ 6 := (Dm.docOk_says hok).2.1.2
    unfold redK at e1 e2 e3 e4 ⊢
    simp only [len_map] at e1 e2 e3 e4 ⊢
    have h5 := tl_rows (rowD ms D hide) ms.length (rowD_len ms D hide) D.2.1.length
    have h6 : D.2.1.length * ms.length ≤ 6 * ms.length := Nat.mul_le_mul_right _ hl
    omega
theorem stored {B g lo : Nat} {w0 w : World} {D : Rc} {hs : List SlL.Hd} {t : Int} {msp : Option Addr} {msn msc : Nat} {shp : Option Addr} {shn shc : Nat} {psp : Option Addr} {psn psc : Nat} {ssp : Option Addr} {ssn ssc : Nat} {dsp : Option Addr} {dsn dsc : Nat} {x0 x1 x2 x3 x4 x5 : Value} (h : OwRh lo w ⟨t, msp, msn, msc, shp, shn, shc, psp, psn, psc, ssp, ssn, ssc, dsp, dsn, dsc⟩ D hs) (hX : Bx w g 43 #[x0, x1, x2, x3, x4, x5]) (hb : Below B w0 w) (hB : B ≤ g) :
    RdR (st6 w g (.int .i64 t) (.slice msp msn msc) (.slice shp shn shc) (.slice psp psn psc) (.slice ssp ssn ssc) (.slice dsp dsn dsc)) ⟨t, msp, msn, msc, shp, shn, shc, psp, psn, psc, ssp, ssn, ssc, dsp, dsn, dsc⟩ D ∧ Bx (st6 w g (.int .i64 t) (.slice msp msn msc) (.slice shp shn shc) (.slice psp psn psc) (.slice ssp ssn ssc) (.slice dsp dsn dsc)) g 43 #[.int .i64 t, .slice msp msn msc, .slice shp shn shc, .slice psp psn psc, .slice ssp ssn ssc, .slice dsp dsn dsc] ∧ Below B w0 (st6 w g (.int .i64 t) (.slice msp msn msc) (.slice shp shn shc) (.slice psp psn psc) (.slice ssp ssn ssc) (.slice dsp dsn dsc)) ∧ g < (st6 w g (.int .i64 t) (.slice msp msn msc) (.slice shp shn shc) (.slice psp psn psc) (.slice ssp ssn ssc) (.slice dsp dsn dsc)).heap.size :=
  ⟨(st6_own h hX _ _ _ _ _ _).rd, st6_box hX _ _ _ _ _ _, hb.trans ((st6_turn (S := fun i => i = g) w g rfl _ _ _ _ _ _).below (B := B) (fun i e => by omega) (by have := hX.lt; omega)), by rw [st6_size]; exact hX.lt⟩
theorem fresh {B lo : Nat} {w0 w : World} {D : Rc} {hs : List SlL.Hd} {t : Int} {msp : Option Addr} {msn msc : Nat} {shp : Option Addr} {shn shc : Nat} {psp : Option Addr} {psn psc : Nat} {ssp : Option Addr} {ssn ssc : Nat} {dsp : Option Addr} {dsn dsc : Nat} (h : OwRh lo w ⟨t, msp, msn, msc, shp, shn, shc, psp, psn, psc, ssp, ssn, ssc, dsp, dsn, dsc⟩ D hs) (hb : Below B w0 w) (hB : B ≤ w.heap.size) :
    RdR (w.alloc (.cells #[.int .i64 t, .slice msp msn msc, .slice shp shn shc, .slice psp psn psc, .slice ssp ssn ssc, .slice dsp dsn dsc] 43)) ⟨t, msp, msn, msc, shp, shn, shc, psp, psn, psc, ssp, ssn, ssc, dsp, dsn, dsc⟩ D ∧ Bx (w.alloc (.cells #[.int .i64 t, .slice msp msn msc, .slice shp shn shc, .slice psp psn psc, .slice ssp ssn ssc, .slice dsp dsn dsc] 43)) w.heap.size 43 #[.int .i64 t, .slice msp msn msc, .slice shp shn shc, .slice psp psn psc, .slice ssp ssn ssc, .slice dsp dsn dsc] ∧ Below B w0 (w.alloc (.cells #[.int .i64 t, .slice msp msn msc, .slice shp shn shc, .slice psp psn psc, .slice ssp ssn ssc, .slice dsp dsn dsc] 43)) ∧ w.heap.size < (w.alloc (.cells #[.int .i64 t, .slice msp msn msc, .slice shp shn shc, .slice psp psn psc, .slice ssp ssn ssc, .slice dsp dsn dsc] 43)).heap.size :=
  ⟨h.rd.alloc _, Bx.new _ _ _, hb.alloc hB _, by simp⟩
def GivesF (D : Rc) (b : Bool) (w : World) (e : Ending) (w' : World) : Prop := ∃ (t : Int) (msp : Option Addr) (msn msc : Nat) (shp : Option Addr) (shn shc : Nat) (psp : Option Addr) (psn psc : Nat) (ssp : Option Addr) (ssn ssc : Nat) (dsp : Option Addr) (dsn dsc : Nat) (hs : List SlL.Hd), e = .returned (.tuple #[.agg #[.int .i64 t, .slice msp msn msc, .slice shp shn shc, .slice psp psn psc, .slice ssp ssn ssc, .slice dsp dsn dsc], .bool b]) ∧ OwRh w.heap.size w' ⟨t, msp, msn, msc, shp, shn, shc, psp, psn, psc, ssp, ssn, ssc, dsp, dsn, dsc⟩ D hs ∧ Below w.heap.size w w'
theorem givesF {D : Rc} {b : Bool} {w : World} {e : Ending} {w' : World} (h : Od.GivesRB D b w e w') : GivesF D b w e w' := by
  obtain ⟨⟨t, msp, msn, msc, shp, shn, shc, psp, psn, psc, ssp, ssn, ssc, dsp, dsn, dsc⟩, hs, h1, h2, h3⟩ := h
  exact ⟨t, msp, msn, msc, shp, shn, shc, psp, psn, psc, ssp, ssn, ssc, dsp, dsn, dsc, hs, h1, h2, h3⟩
theorem keep3 {w : World} {b g : Nat} {T : TypeId} {x0 x1 x2 y0 y1 y2 y3 y4 y5 : Value} (h : Bx w b T #[x0, x1, x2]) (hn : b ≠ g) :
    ((((((w.setCell ⟨g, 0, none⟩ y0).setCell ⟨g, 1, none⟩ y1).setCell ⟨g, 2, none⟩ y2).setCell ⟨g, 3, none⟩ y3).setCell ⟨g, 4, none⟩ y4).setCell ⟨g, 5, none⟩ y5).cell? ⟨b, 0, none⟩ = some x0 ∧ ((((((w.setCell ⟨g, 0, none⟩ y0).setCell ⟨g, 1, none⟩ y1).setCell ⟨g, 2, none⟩ y2).setCell ⟨g, 3, none⟩ y3).setCell ⟨g, 4, none⟩ y4).setCell ⟨g, 5, none⟩ y5).cell? ⟨b, 1, none⟩ = some x1 ∧ ((((((w.setCell ⟨g, 0, none⟩ y0).setCell ⟨g, 1, none⟩ y1).setCell ⟨g, 2, none⟩ y2).setCell ⟨g, 3, none⟩ y3).setCell ⟨g, 4, none⟩ y4).setCell ⟨g, 5, none⟩ y5).cell? ⟨b, 2, none⟩ = some x2 :=
  bx3 (bx_turn h (st6_turn (S := fun i => i = g) w g rfl y0 y1 y2 y3 y4 y5) hn)
theorem bdrew {B : Nat} {a w : World} (h : Below B a w) : Below B a w.drew := below_drewN h 1
set_option maxRecDepth 100000 in
set_option maxHeartbeats 8000000 in
theorem walk {H : Type} {enc : TypeId × Value → H} (W : World) (base : Nat)
    (v0 : Value) (d0 : DataW H) (p0 : List MemPlace) (h0 : DataW.Trod enc Try.prog W 0 (fun _ => true) true 25 v0 d0 p0) (k0 : Value.okWide Try.prog W .any base 25 v0)
    (v1 : Value) (d1 : DataW H) (p1 : List MemPlace) (h1 : DataW.Trod enc Try.prog W 0 (fun _ => true) true 53 v1 d1 p1) (k1 : Value.okWide Try.prog W .any base 53 v1)
    (v2 : Value) (d2 : DataW H) (p2 : List MemPlace) (h2 : DataW.Trod enc Try.prog W 0 (fun _ => true) true 25 v2 d2 p2) (k2 : Value.okWide Try.prog W .any base 25 v2)
    (_hsz : (DataW.weightsEach Try.prog [25, 53, 25] [d0, d1, d2]).all (· ≤ reachBytes) = true) :
    Calls Try.prog 5 #[v0, v1, v2] W fun e w' => e = .returned (.bool true) ∧ Below W.heap.size W w' := by
  obtain ⟨pm, nm, cm, ms, rfl, hr0⟩ := SlI.open_arg h0 k0
  obtain ⟨t0, a0, n0, c0, b0, m0, e0, pl, sl, rfl, hr1, hs1, hz0, _⟩ := SlDoc.open_val h1 k1
  obtain ⟨ph, nh, ch, hide, rfl, hr2⟩ := SlI.open_arg h2 k2
  have HM := Lib.hid hr0
  have HP := Lib.hid hr1
  have HQ := Lib.hid hs1
  have HH := Lib.hid hr2
  have HLm := Lib.hid hr0.len
  have HLn := Lib.hid hr1.len
  have HLq := Lib.hid hs1.len
  have HLh := Lib.hid hr2.len
  have hn0 := hr0.le
  have hn2 := hr2.le
  clear h0 k0 h1 k1 h2 k2 hr0 hr1 hs1 hr2 _hsz
  by_cases hbignm : 1048576 < nm
  · go_enter Try.func5, Try.ntmps5
    go_wp2_with fail
    go_ret
    exact ⟨rfl, box1 W (.cells #[.int .i64 t0, .slice a0 n0 c0, .slice b0 m0 e0] 53)⟩
  by_cases hbignh : 1048576 < nh
  · go_enter Try.func5, Try.ntmps5
    go_wp2_with fail
    go_ret
    exact ⟨rfl, box1 W (.cells #[.int .i64 t0, .slice a0 n0 c0, .slice b0 m0 e0] 53)⟩
  have HB := Lib.hid (box1 W (.cells #[.int .i64 t0, .slice a0 n0 c0, .slice b0 m0 e0] 53))
  have A := Lib.hid (Bx.new W 53 #[.int .i64 t0, .slice a0 n0 c0, .slice b0 m0 e0])
  by_cases hf : SlDoc.fits pl sl 1048576
  rotate_left
  · go_enter Try.func5, Try.ntmps5
    go_wp2_with fail
    refine (SlDoc.sz_bigL _ _ _ _ _ _ _ _ pl sl 1048576 rfl _ (HP.out.below HB.out) (HQ.out.below HB.out) hz0 (by omega) hf).mono ?_
    rintro e w0 ⟨rfl, hb⟩
    replace HB := Lib.hid (below_on HB.out hb)
    clear hb
    go_wp2_with fail
    go_ret
    exact ⟨rfl, HB.out⟩
  have hlim : n0 + SlStr.tot pl + m0 ≤ 1048576 := by have h := hf; unfold SlDoc.fits at h; have h1 := HLn.out; have h2 := HLq.out; omega
  have HTT : Hid (∀ (lo : Nat) (w : World) (a : Ra) (hs : List SlL.Hd), OwRh lo w a (redR ms (t0, pl, sl) hide) hs → total a (redR ms (t0, pl, sl) hide) ≤ 10000000) := Lib.hid fun lo w a hs h => total_le (by rw [HLm.out]; omega) h
  obtain ⟨D, hD⟩ : ∃ x, redR ms (t0, pl, sl) hide = x := ⟨_, rfl⟩
  obtain ⟨β, hβ⟩ : ∃ x, docOk (t0, pl, sl) = x := ⟨_, rfl⟩
  have SP : Hid (∀ (p1 : Option Addr) (c1 : Nat) (p2 : Option Addr) (c2 : Nat) (q2 : Option Addr) (d2 : Nat) (p3 : Option Addr) (c3 : Nat) (w : World), Rd .i64 w p1 nm ms → RdS SlStr.E w p2 n0 pl → Rd .i64 w q2 m0 sl → Rd .i64 w p3 nh hide → Calls Try.prog 20 #[.slice p1 nm c1, .agg #[.int .i64 t0, .slice p2 n0 c2, .slice q2 m0 d2], .slice p3 nh c3] w (GivesF D β w)) := Lib.hid fun p1 c1 p2 c2 q2 d2 p3 c3 w h1 h2 h3 h4 => by
    have h := Od.spec_red_any ms p1 nm c1 t0 p2 n0 c2 q2 m0 d2 pl sl p3 nh c3 hide w h1 h2 h3 h4 (by omega)
    rw [hD, hβ] at h
    exact h.mono fun _ _ => givesF
  have IM : Hid (∀ (p1 : Option Addr) (c1 : Nat) (p2 : Option Addr) (c2 : Nat) (q2 : Option Addr) (d2 : Nat) (p3 : Option Addr) (c3 : Nat) (w : World), Rd .i64 w p1 nm ms → RdS SlStr.E w p2 n0 pl → Rd .i64 w q2 m0 sl → Rd .i64 w p3 nh hide → Calls Try.prog 19 #[.slice p1 nm c1, .agg #[.int .i64 t0, .slice p2 n0 c2, .slice q2 m0 d2], .slice p3 nh c3] w (GivesF D β w)) := Lib.hid fun p1 c1 p2 c2 q2 d2 p3 c3 w h1 h2 h3 h4 => by
    have h := Od.red_any ms p1 nm c1 t0 p2 n0 c2 q2 m0 d2 pl sl p3 nh c3 hide w h1 h2 h3 h4 (by omega)
    rw [hD, hβ] at h
    exact h.mono fun _ _ => givesF
  have lnm : nm ≤ 17592186044416 := by omega
  have lnh : nh ≤ 17592186044416 := by omega
  have ln0 : n0 ≤ 1048576 := by omega
  have lm0 : m0 ≤ 1048576 := by omega
  rw [hD] at HTT
  clear hD hβ
  obtain ⟨τ, hτ⟩ : ∃ τ, SlStr.tot pl = τ := ⟨_, rfl⟩
  have HT := Lib.hid hτ
  rw [hτ] at hlim
  clear hτ
  go_enter Try.func5, Try.ntmps5
  obtain ⟨u0, u1, u2⟩ := bx3 A.out
  go_wp2_with fail
  refine (SlDoc.sz_fitsL _ _ _ _ _ _ _ _ pl sl 1048576 rfl _ (HP.out.below HB.out) (HQ.out.below HB.out) hz0 (by omega) hf).mono ?_
  rintro e w1 ⟨rfl, hb⟩
  replace HB := Lib.hid (below_on HB.out hb)
  replace A := Lib.hid (A.out.below hb)
  clear hb u0 u1 u2
  rw [HT.out]
  go_wp2_with fail
  go_cut [8, 9] from 31 to 40 (fun s8 s9 wx => ∃ (R : Nat) (a : Ra), s8 = .pointer (some ⟨R, 0, none⟩) ∧ s9 = .bool β ∧ R < wx.heap.size ∧ Hid (RdR wx a D ∧ Bx wx R 43 a.cells ∧ Below w1.heap.size w1 wx))
  case first =>
    obtain ⟨u0, u1, u2⟩ := bx3 A.out
    have hW : W.heap.size < w1.heap.size := A.out.lt
    go_region_held3 (fun w' => w'.cell? ⟨W.heap.size, 0, none⟩ = some (.int .i64 t0) ∧ w'.cell? ⟨W.heap.size, 1, none⟩ = some (.slice a0 n0 c0) ∧ w'.cell? ⟨W.heap.size, 2, none⟩ = some (.slice b0 m0 e0)) (first | with_reducible exact bx3 KA4.out | with_reducible exact bx3 (KA4.out.alloc _) | with_reducible exact bx3 KA3.out | with_reducible exact bx3 (KA3.out.alloc _) | with_reducible exact bx3 KA2.out | with_reducible exact bx3 (KA2.out.alloc _) | with_reducible exact bx3 KA1.out | with_reducible exact bx3 (KA1.out.alloc _) | with_reducible exact bx3 A.out.drew1 | with_reducible exact bx3 (A.out.alloc _).drew1 | with_reducible exact keep3 (g := w1.heap.size) KA4.out (by omega) | with_reducible exact keep3 (g := v1.heap.size) KA4.out (by omega) | with_reducible exact keep3 (g := v2.heap.size) KA4.out (by omega) | with_reducible exact keep3 (g := v3.heap.size) KA4.out (by omega) | go_keep) (first
    | (go_at_call 28; (with_reducible refine (SlI.to_any pm nm cm ms _ (HM.out.below (below_on HB.out (bdrew (Below.refl w1.heap.size w1)))) lnm).mono ?_); rintro e v1 ⟨q1, y1, c1, rfl, ho, hb⟩; obtain rfl : nm = y1 := HLm.out.symm.trans ho.len; have KB1 := Lib.hid (below_on (bdrew (Below.refl w1.heap.size w1)) hb); have z1s := KB1.out.size; have KA1 := Lib.hid ((A.out.drew1).below hb); have O1 := Lib.hid ho; clear ho hb)
    | (go_at_call 28; (with_reducible refine (SlI.to_any pm nm cm ms _ (HM.out.below (below_on HB.out (bdrew (box1 w1 (.cells #[.int .i64 0, .slice none 0 0, .slice none 0 0, .slice none 0 0, .slice none 0 0, .slice none 0 0] 43))))) lnm).mono ?_); rintro e v1 ⟨q1, y1, c1, rfl, ho, hb⟩; obtain rfl : nm = y1 := HLm.out.symm.trans ho.len; have KB1 := Lib.hid (below_on (bdrew (box1 w1 (.cells #[.int .i64 0, .slice none 0 0, .slice none 0 0, .slice none 0 0, .slice none 0 0, .slice none 0 0] 43))) hb); have z1s := KB1.out.size; have KA1 := Lib.hid (((A.out.alloc (.cells #[.int .i64 0, .slice none 0 0, .slice none 0 0, .slice none 0 0, .slice none 0 0, .slice none 0 0] 43)).drew1).below hb); have HZ : Hid (Bx v1 w1.heap.size 43 #[.int .i64 0, .slice none 0 0, .slice none 0 0, .slice none 0 0, .slice none 0 0, .slice none 0 0]) := Lib.hid ((Bx.new w1 43 #[.int .i64 0, .slice none 0 0, .slice none 0 0, .slice none 0 0, .slice none 0 0, .slice none 0 0]).drew1.below hb); have O1 := Lib.hid ho; clear ho hb)
    | (go_at_call 29; (with_reducible refine (toD_any t0 a0 n0 c0 b0 m0 e0 pl sl _ (HP.out.below (below_on HB.out KB1.out)) (HQ.out.below (below_on HB.out KB1.out)) ln0 lm0).mono ?_); rintro e v2 ⟨p2, y2, c2, q2, z2, d2, rfl, ho, hb⟩; obtain rfl : n0 = y2 := HLn.out.symm.trans ho.2.1.len; obtain rfl : m0 = z2 := HLq.out.symm.trans ho.2.2.len; have KB2 := Lib.hid (below_on KB1.out hb); have z2s := KB2.out.size; have KA2 := Lib.hid ((KA1.out).below hb); replace O1 := Lib.hid ((O1.out).below hb); (try replace HZ := Lib.hid (HZ.out.below hb)); have O2 := Lib.hid ho; clear ho hb)
    | (go_at_call 29; (with_reducible refine (toD_any t0 a0 n0 c0 b0 m0 e0 pl sl _ (HP.out.below (below_on HB.out (KB1.out.alloc KB1.out.size (.cells #[.int .i64 0, .slice none 0 0, .slice none 0 0, .slice none 0 0, .slice none 0 0, .slice none 0 0] 43)))) (HQ.out.below (below_on HB.out (KB1.out.alloc KB1.out.size (.cells #[.int .i64 0, .slice none 0 0, .slice none 0 0, .slice none 0 0, .slice none 0 0, .slice none 0 0] 43)))) ln0 lm0).mono ?_); rintro e v2 ⟨p2, y2, c2, q2, z2, d2, rfl, ho, hb⟩; obtain rfl : n0 = y2 := HLn.out.symm.trans ho.2.1.len; obtain rfl : m0 = z2 := HLq.out.symm.trans ho.2.2.len; have KB2 := Lib.hid (below_on (KB1.out.alloc KB1.out.size (.cells #[.int .i64 0, .slice none 0 0, .slice none 0 0, .slice none 0 0, .slice none 0 0, .slice none 0 0] 43)) hb); have z2s := KB2.out.size; have KA2 := Lib.hid ((KA1.out.alloc (.cells #[.int .i64 0, .slice none 0 0, .slice none 0 0, .slice none 0 0, .slice none 0 0, .slice none 0 0] 43)).below hb); replace O1 := Lib.hid (((O1.out).below (box1 v1 (.cells #[.int .i64 0, .slice none 0 0, .slice none 0 0, .slice none 0 0, .slice none 0 0, .slice none 0 0] 43))).below hb); have HZ : Hid (Bx v2 v1.heap.size 43 #[.int .i64 0, .slice none 0 0, .slice none 0 0, .slice none 0 0, .slice none 0 0, .slice none 0 0]) := Lib.hid ((Bx.new v1 43 #[.int .i64 0, .slice none 0 0, .slice none 0 0, .slice none 0 0, .slice none 0 0, .slice none 0 0]).below hb); have O2 := Lib.hid ho; clear ho hb)
    | (go_at_call 28; (with_reducible refine (SlI.to_any ph nh ch hide _ (HH.out.below (below_on HB.out KB2.out)) lnh).mono ?_); rintro e v3 ⟨q3, y3, c3, rfl, ho, hb⟩; obtain rfl : nh = y3 := HLh.out.symm.trans ho.len; have KB3 := Lib.hid (below_on KB2.out hb); have z3s := KB3.out.size; have KA3 := Lib.hid ((KA2.out).below hb); replace O1 := Lib.hid ((O1.out).below hb); replace O2 := Lib.hid ((O2.out).below hb); (try replace HZ := Lib.hid (HZ.out.below hb)); have O3 := Lib.hid ho; clear ho hb)
    | (go_at_call 28; (with_reducible refine (SlI.to_any ph nh ch hide _ (HH.out.below (below_on HB.out (KB2.out.alloc KB2.out.size (.cells #[.int .i64 0, .slice none 0 0, .slice none 0 0, .slice none 0 0, .slice none 0 0, .slice none 0 0] 43)))) lnh).mono ?_); rintro e v3 ⟨q3, y3, c3, rfl, ho, hb⟩; obtain rfl : nh = y3 := HLh.out.symm.trans ho.len; have KB3 := Lib.hid (below_on (KB2.out.alloc KB2.out.size (.cells #[.int .i64 0, .slice none 0 0, .slice none 0 0, .slice none 0 0, .slice none 0 0, .slice none 0 0] 43)) hb); have z3s := KB3.out.size; have KA3 := Lib.hid ((KA2.out.alloc (.cells #[.int .i64 0, .slice none 0 0, .slice none 0 0, .slice none 0 0, .slice none 0 0, .slice none 0 0] 43)).below hb); replace O1 := Lib.hid (((O1.out).below (box1 v2 (.cells #[.int .i64 0, .slice none 0 0, .slice none 0 0, .slice none 0 0, .slice none 0 0, .slice none 0 0] 43))).below hb); replace O2 := Lib.hid (((O2.out).below (box1 v2 (.cells #[.int .i64 0, .slice none 0 0, .slice none 0 0, .slice none 0 0, .slice none 0 0, .slice none 0 0] 43))).below hb); have HZ : Hid (Bx v3 v2.heap.size 43 #[.int .i64 0, .slice none 0 0, .slice none 0 0, .slice none 0 0, .slice none 0 0, .slice none 0 0]) := Lib.hid ((Bx.new v2 43 #[.int .i64 0, .slice none 0 0, .slice none 0 0, .slice none 0 0, .slice none 0 0, .slice none 0 0]).below hb); have O3 := Lib.hid ho; clear ho hb)
    | (go_at_call 20; (with_reducible refine (SP.out q1 c1 p2 c2 q2 d2 q3 c3 _ (O1.out).rd (O2.out).rdS (O2.out).rdI (O3.out).rd).mono ?_); rintro e v4 ⟨tr, mspr, msnr, mscr, shpr, shnr, shcr, pspr, psnr, pscr, sspr, ssnr, sscr, dspr, dsnr, dscr, hsr, rfl, ho, hb⟩; have KB4 := Lib.hid (below_on KB3.out hb); have z4s := KB4.out.size; have KA4 := Lib.hid ((KA3.out).below hb); (try replace HZ := Lib.hid (HZ.out.below hb)); have O4 := Lib.hid ho; (try (obtain ⟨r0, r1, r2, r3, r4, r5⟩ := bx6 HZ.out; have f0 := HZ.out.free 0; have f1 := HZ.out.free 1; have f2 := HZ.out.free 2; have f3 := HZ.out.free 3; have f4 := HZ.out.free 4; have f5 := HZ.out.free 5)); clear ho hb)
    | (go_at_call 20; (with_reducible refine (SP.out q1 c1 p2 c2 q2 d2 q3 c3 _ ((O1.out).below (box1 v3 (.cells #[.int .i64 0, .slice none 0 0, .slice none 0 0, .slice none 0 0, .slice none 0 0, .slice none 0 0] 43))).rd ((O2.out).below (box1 v3 (.cells #[.int .i64 0, .slice none 0 0, .slice none 0 0, .slice none 0 0, .slice none 0 0, .slice none 0 0] 43))).rdS ((O2.out).below (box1 v3 (.cells #[.int .i64 0, .slice none 0 0, .slice none 0 0, .slice none 0 0, .slice none 0 0, .slice none 0 0] 43))).rdI ((O3.out).below (box1 v3 (.cells #[.int .i64 0, .slice none 0 0, .slice none 0 0, .slice none 0 0, .slice none 0 0, .slice none 0 0] 43))).rd).mono ?_); rintro e v4 ⟨tr, mspr, msnr, mscr, shpr, shnr, shcr, pspr, psnr, pscr, sspr, ssnr, sscr, dspr, dsnr, dscr, hsr, rfl, ho, hb⟩; have KB4 := Lib.hid (below_on (KB3.out.alloc KB3.out.size (.cells #[.int .i64 0, .slice none 0 0, .slice none 0 0, .slice none 0 0, .slice none 0 0, .slice none 0 0] 43)) hb); have z4s := KB4.out.size; have KA4 := Lib.hid ((KA3.out.alloc (.cells #[.int .i64 0, .slice none 0 0, .slice none 0 0, .slice none 0 0, .slice none 0 0, .slice none 0 0] 43)).below hb); have HZ : Hid (Bx v4 v3.heap.size 43 #[.int .i64 0, .slice none 0 0, .slice none 0 0, .slice none 0 0, .slice none 0 0, .slice none 0 0]) := Lib.hid ((Bx.new v3 43 #[.int .i64 0, .slice none 0 0, .slice none 0 0, .slice none 0 0, .slice none 0 0, .slice none 0 0]).below hb); have O4 := Lib.hid ho; (try (obtain ⟨r0, r1, r2, r3, r4, r5⟩ := bx6 HZ.out; have f0 := HZ.out.free 0; have f1 := HZ.out.free 1; have f2 := HZ.out.free 2; have f3 := HZ.out.free 3; have f4 := HZ.out.free 4; have f5 := HZ.out.free 5)); clear ho hb))
    all_goals clear u0 u1 u2
    all_goals first
      | (have h := stored (g := w1.heap.size) O4.out HZ.out KB4.out (by omega); clear r0 r1 r2 r3 r4 r5 f0 f1 f2 f3 f4 f5; rw [st6_def]; generalize st6 v4 (w1.heap.size) (.int .i64 tr) (.slice mspr msnr mscr) (.slice shpr shnr shcr) (.slice pspr psnr pscr) (.slice sspr ssnr sscr) (.slice dspr dsnr dscr) = V at h ⊢; clear HZ; go_wp2_with fail; go_meet; exact ⟨_, ⟨tr, mspr, msnr, mscr, shpr, shnr, shcr, pspr, psnr, pscr, sspr, ssnr, sscr, dspr, dsnr, dscr⟩, rfl, rfl, h.2.2.2, Lib.hid ⟨h.1, h.2.1, h.2.2.1⟩⟩)
      | (have h := stored (g := v1.heap.size) O4.out HZ.out KB4.out (by omega); clear r0 r1 r2 r3 r4 r5 f0 f1 f2 f3 f4 f5; rw [st6_def]; generalize st6 v4 (v1.heap.size) (.int .i64 tr) (.slice mspr msnr mscr) (.slice shpr shnr shcr) (.slice pspr psnr pscr) (.slice sspr ssnr sscr) (.slice dspr dsnr dscr) = V at h ⊢; clear HZ; go_wp2_with fail; go_meet; exact ⟨_, ⟨tr, mspr, msnr, mscr, shpr, shnr, shcr, pspr, psnr, pscr, sspr, ssnr, sscr, dspr, dsnr, dscr⟩, rfl, rfl, h.2.2.2, Lib.hid ⟨h.1, h.2.1, h.2.2.1⟩⟩)
      | (have h := stored (g := v2.heap.size) O4.out HZ.out KB4.out (by omega); clear r0 r1 r2 r3 r4 r5 f0 f1 f2 f3 f4 f5; rw [st6_def]; generalize st6 v4 (v2.heap.size) (.int .i64 tr) (.slice mspr msnr mscr) (.slice shpr shnr shcr) (.slice pspr psnr pscr) (.slice sspr ssnr sscr) (.slice dspr dsnr dscr) = V at h ⊢; clear HZ; go_wp2_with fail; go_meet; exact ⟨_, ⟨tr, mspr, msnr, mscr, shpr, shnr, shcr, pspr, psnr, pscr, sspr, ssnr, sscr, dspr, dsnr, dscr⟩, rfl, rfl, h.2.2.2, Lib.hid ⟨h.1, h.2.1, h.2.2.1⟩⟩)
      | (have h := stored (g := v3.heap.size) O4.out HZ.out KB4.out (by omega); clear r0 r1 r2 r3 r4 r5 f0 f1 f2 f3 f4 f5; rw [st6_def]; generalize st6 v4 (v3.heap.size) (.int .i64 tr) (.slice mspr msnr mscr) (.slice shpr shnr shcr) (.slice pspr psnr pscr) (.slice sspr ssnr sscr) (.slice dspr dsnr dscr) = V at h ⊢; clear HZ; go_wp2_with fail; go_meet; exact ⟨_, ⟨tr, mspr, msnr, mscr, shpr, shnr, shcr, pspr, psnr, pscr, sspr, ssnr, sscr, dspr, dsnr, dscr⟩, rfl, rfl, h.2.2.2, Lib.hid ⟨h.1, h.2.1, h.2.2.1⟩⟩)
      | (have h := fresh O4.out KB4.out z4s; generalize v4.alloc (.cells #[.int .i64 tr, .slice mspr msnr mscr, .slice shpr shnr shcr, .slice pspr psnr pscr, .slice sspr ssnr sscr, .slice dspr dsnr dscr] 43) = V at h ⊢; go_wp2_with fail; go_meet; exact ⟨_, ⟨tr, mspr, msnr, mscr, shpr, shnr, shcr, pspr, psnr, pscr, sspr, ssnr, sscr, dspr, dsnr, dscr⟩, rfl, rfl, h.2.2.2, Lib.hid ⟨h.1, h.2.1, h.2.2.1⟩⟩)
  case rest =>
    obtain ⟨Rr, ⟨tr, mspr, msnr, mscr, shpr, shnr, shcr, pspr, psnr, pscr, sspr, ssnr, sscr, dspr, dsnr, dscr⟩, rfl, rfl, hRr, hcut⟩ := hcut
    obtain ⟨Vr, rfl⟩ : ∃ V, V = wc := ⟨_, rfl⟩
    have K9 : Hid (∀ w', Below Vr.heap.size Vr w' → RdR w' ⟨tr, mspr, msnr, mscr, shpr, shnr, shcr, pspr, psnr, pscr, sspr, ssnr, sscr, dspr, dsnr, dscr⟩ D ∧ Bx w' Rr 43 #[.int .i64 tr, .slice mspr msnr mscr, .slice shpr shnr shcr, .slice pspr psnr pscr, .slice sspr ssnr sscr, .slice dspr dsnr dscr] ∧ Bx w' W.heap.size 53 #[.int .i64 t0, .slice a0 n0 c0, .slice b0 m0 e0] ∧ Below W.heap.size W w') := Lib.hid fun w' hb => ⟨hcut.out.1.below hb, hcut.out.2.1.below hb, (A.out.below hcut.out.2.2).below hb, below_on (below_on HB.out hcut.out.2.2) hb⟩
    clear hcut A HB
    have HC := Lib.hid (Below.refl Vr.heap.size Vr)
    go_wp2_with fail
    refine (SlI.to_any pm nm cm ms _ (HM.out.below (K9.out _ HC.out).2.2.2) (by omega)).mono ?_
    rintro e w2 ⟨qO0, yO0, cO0, rfl, ho, hb⟩
    have hsw2 := hb.size
    (try rw [World.size_alloc] at hsw2)
    replace HC := Lib.hid (below_on HC.out hb)
    obtain rfl : nm = yO0 := HLm.out.symm.trans ho.len
    (try rw [World.size_alloc] at ho)
    have O0 := Lib.hid ho
    clear ho
    clear hb 
    obtain ⟨uA0, uA1, uA2⟩ := bx3 (K9.out _ HC.out).2.2.1
    go_wp2_with fail
    refine (toD_any t0 a0 n0 c0 b0 m0 e0 pl sl _ (HP.out.below (K9.out _ HC.out).2.2.2) (HQ.out.below (K9.out _ HC.out).2.2.2) (by omega) (by omega)).mono ?_
    rintro e w3 ⟨p1, y1, c1, q1, z1, d1, rfl, ho, hb⟩
    have hsw3 := hb.size
    (try rw [World.size_alloc] at hsw3)
    replace HC := Lib.hid (below_on HC.out hb)
    replace O0 := Lib.hid (O0.out.below hb)
    obtain rfl : n0 = y1 := HLn.out.symm.trans ho.2.1.len
    obtain rfl : m0 = z1 := HLq.out.symm.trans ho.2.2.len
    have O1 := Lib.hid ho
    clear ho
    clear hb uA0 uA1 uA2
    have X1N := Lib.hid (Bx.new w3 27 #[.int .i64 t0, .slice p1 n0 c1, .slice q1 m0 d1])
    replace HC := Lib.hid (HC.out.alloc HC.out.size (.cells #[.int .i64 t0, .slice p1 n0 c1, .slice q1 m0 d1] 27))
    replace O0 := Lib.hid (O0.out.below (box1 w3 (.cells #[.int .i64 t0, .slice p1 n0 c1, .slice q1 m0 d1] 27)))
    replace O1 := Lib.hid (O1.out.below (box1 w3 (.cells #[.int .i64 t0, .slice p1 n0 c1, .slice q1 m0 d1] 27)))
    have X1 := X1N
    clear X1N
    go_wp2_with fail
    refine (SlI.to_any ph nh ch hide _ (HH.out.below (K9.out _ HC.out).2.2.2) (by omega)).mono ?_
    rintro e w4 ⟨qO2, yO2, cO2, rfl, ho, hb⟩
    have hsw4 := hb.size
    (try rw [World.size_alloc] at hsw4)
    replace HC := Lib.hid (below_on HC.out hb)
    replace O0 := Lib.hid (O0.out.below hb)
    replace O1 := Lib.hid (O1.out.below hb)
    replace X1 := Lib.hid (X1.out.below hb)
    obtain rfl : nh = yO2 := HLh.out.symm.trans ho.len
    (try rw [World.size_alloc] at ho)
    have O2 := Lib.hid ho
    clear ho
    clear hb 
    obtain ⟨uX0, uX1, uX2⟩ := bx3 X1.out
    go_wp2_with fail
    refine (IM.out qO0 cO0 p1 c1 q1 d1 qO2 cO2 _ O0.out.rd O1.out.rdS O1.out.rdI O2.out.rd).mono ?_
    rintro e w5 ⟨tg, mspg, msng, mscg, shpg, shng, shcg, pspg, psng, pscg, sspg, ssng, sscg, dspg, dsng, dscg, hsg, rfl, ho, hb⟩
    have hsw5 := hb.size
    (try rw [World.size_alloc] at hsw5)
    replace HC := Lib.hid (below_on HC.out hb)
    replace O0 := Lib.hid (O0.out.below hb)
    replace O1 := Lib.hid (O1.out.below hb)
    replace X1 := Lib.hid (X1.out.below hb)
    replace O2 := Lib.hid (O2.out.below hb)
    have OG := Lib.hid ho
    clear ho
    clear hb uX0 uX1 uX2
    have XGN := Lib.hid (Bx.new w5 43 #[.int .i64 tg, .slice mspg msng mscg, .slice shpg shng shcg, .slice pspg psng pscg, .slice sspg ssng sscg, .slice dspg dsng dscg])
    replace HC := Lib.hid (HC.out.alloc HC.out.size (.cells #[.int .i64 tg, .slice mspg msng mscg, .slice shpg shng shcg, .slice pspg psng pscg, .slice sspg ssng sscg, .slice dspg dsng dscg] 43))
    replace O0 := Lib.hid (O0.out.below (box1 w5 (.cells #[.int .i64 tg, .slice mspg msng mscg, .slice shpg shng shcg, .slice pspg psng pscg, .slice sspg ssng sscg, .slice dspg dsng dscg] 43)))
    replace O1 := Lib.hid (O1.out.below (box1 w5 (.cells #[.int .i64 tg, .slice mspg msng mscg, .slice shpg shng shcg, .slice pspg psng pscg, .slice sspg ssng sscg, .slice dspg dsng dscg] 43)))
    replace X1 := Lib.hid (X1.out.below (box1 w5 (.cells #[.int .i64 tg, .slice mspg msng mscg, .slice shpg shng shcg, .slice pspg psng pscg, .slice sspg ssng sscg, .slice dspg dsng dscg] 43)))
    replace O2 := Lib.hid (O2.out.below (box1 w5 (.cells #[.int .i64 tg, .slice mspg msng mscg, .slice shpg shng shcg, .slice pspg psng pscg, .slice sspg ssng sscg, .slice dspg dsng dscg] 43)))
    replace OG := Lib.hid (OG.out.below (box1 w5 (.cells #[.int .i64 tg, .slice mspg msng mscg, .slice shpg shng shcg, .slice pspg psng pscg, .slice sspg ssng sscg, .slice dspg dsng dscg] 43)))
    have XG := XGN
    clear XGN
    obtain ⟨uG0, uG1, uG2, uG3, uG4, uG5⟩ := bx6 XG.out
    obtain ⟨uR0, uR1, uR2, uR3, uR4, uR5⟩ := bx6 (K9.out _ HC.out).2.1
    go_wp2_with fail
    refine (SlRed.eq_x _ _ _ _ _ _ _ _ _ _ _ _ _ _ _ _ _ _ _ _ _ _ _ _ _ _ _ _ _ _ _ _ D _ OG.out.rd (K9.out _ HC.out).1).mono ?_
    rintro e w6 ⟨rfl, hb⟩
    have hsw6 := hb.size
    (try rw [World.size_alloc] at hsw6)
    replace HC := Lib.hid (below_on HC.out hb)
    replace O0 := Lib.hid (O0.out.below hb)
    replace O1 := Lib.hid (O1.out.below hb)
    replace X1 := Lib.hid (X1.out.below hb)
    replace O2 := Lib.hid (O2.out.below hb)
    replace OG := Lib.hid (OG.out.below hb)
    replace XG := Lib.hid (XG.out.below hb)
    clear hb uG0 uG1 uG2 uG3 uG4 uG5 uR0 uR1 uR2 uR3 uR4 uR5
    go_wp2_with fail
    refine (SlI.to_any pm nm cm ms _ (HM.out.below (K9.out _ HC.out).2.2.2) (by omega)).mono ?_
    rintro e w7 ⟨qe, ye, ce, rfl, ho, hb⟩
    have hsw7 := hb.size
    (try rw [World.size_alloc] at hsw7)
    replace HC := Lib.hid (below_on HC.out hb)
    replace O0 := Lib.hid (O0.out.below hb)
    replace O1 := Lib.hid (O1.out.below hb)
    replace X1 := Lib.hid (X1.out.below hb)
    replace O2 := Lib.hid (O2.out.below hb)
    replace OG := Lib.hid (OG.out.below hb)
    replace XG := Lib.hid (XG.out.below hb)
    obtain rfl : nm = ye := HLm.out.symm.trans ho.len
    have OE := Lib.hid ho.rd
    clear ho
    clear hb 
    go_wp2_with fail
    refine (SlI.eq_any _ _ _ _ _ ms _ O0.out.rd OE.out).mono ?_
    rintro e w8 ⟨rfl, hb⟩
    have hsw8 := hb.size
    (try rw [World.size_alloc] at hsw8)
    replace HC := Lib.hid (below_on HC.out hb)
    replace O0 := Lib.hid (O0.out.below hb)
    replace O1 := Lib.hid (O1.out.below hb)
    replace X1 := Lib.hid (X1.out.below hb)
    replace O2 := Lib.hid (O2.out.below hb)
    replace OG := Lib.hid (OG.out.below hb)
    replace XG := Lib.hid (XG.out.below hb)
    clear OE
    clear hb 
    have K0 : Hid (Below w8.heap.size w8 w8.drew) := Lib.hid (below_drewN (Below.refl _ _) 1)
    have A8 := Lib.hid (K9.out _ HC.out).2.2.1
    have P8 := Lib.hid (K9.out _ HC.out).2.2.2
    obtain ⟨uX0, uX1, uX2⟩ := bx3 X1.out
    obtain ⟨uA0, uA1, uA2⟩ := bx3 A8.out
    go_wp2_with fail
    go_region_held3 (fun w' => w'.cell? ⟨w3.heap.size, 0, none⟩ = some (.int .i64 t0) ∧ w'.cell? ⟨w3.heap.size, 1, none⟩ = some (.slice p1 n0 c1) ∧ w'.cell? ⟨w3.heap.size, 2, none⟩ = some (.slice q1 m0 d1) ∧ w'.cell? ⟨W.heap.size, 0, none⟩ = some (.int .i64 t0) ∧ w'.cell? ⟨W.heap.size, 1, none⟩ = some (.slice a0 n0 c0) ∧ w'.cell? ⟨W.heap.size, 2, none⟩ = some (.slice b0 m0 e0)) (first | exact SlDoc.two3 (X1.out.below K2.out) (A8.out.below K2.out) | exact SlDoc.two3 (X1.out.below K1.out) (A8.out.below K1.out) | exact SlDoc.two3 (X1.out.below K0.out) (A8.out.below K0.out) | go_keep) (first
    | (go_at_call 29; refine (toD_any t0 _ _ _ _ _ _ pl sl _ (HP.out.below (below_on P8.out K0.out)) (HQ.out.below (below_on P8.out K0.out)) (by omega) (by omega)).mono ?_; rintro e v1 ⟨pe, ye, ce, qe, ze, de, rfl, ho, hb⟩; obtain rfl : n0 = ye := HLn.out.symm.trans ho.2.1.len; obtain rfl : m0 = ze := HLq.out.symm.trans ho.2.2.len; have K1 := Lib.hid (below_on K0.out hb); have Pe := Lib.hid ho.rdS; have Qe := Lib.hid ho.rdI; clear ho hb)
    | (go_at_call 32; refine (SlDoc.eq_any t0 _ _ _ _ _ _ _ _ _ _ pl sl _ (O1.out.below K1.out).rdS Pe.out (O1.out.below K1.out).rdI Qe.out).mono ?_; rintro e v2 ⟨rfl, hb⟩; have K2 := Lib.hid (below_on K1.out hb); clear hb))
    have hb := K2.out
    have hsv2 := hb.size
    replace HC := Lib.hid (below_on HC.out hb)
    replace O0 := Lib.hid (O0.out.below hb)
    replace O1 := Lib.hid (O1.out.below hb)
    replace X1 := Lib.hid (X1.out.below hb)
    replace O2 := Lib.hid (O2.out.below hb)
    replace OG := Lib.hid (OG.out.below hb)
    replace XG := Lib.hid (XG.out.below hb)
    clear hb K0 K1 K2 A8 P8 uX0 uX1 uX2 uA0 uA1 uA2 Pe Qe
    go_wp2_with fail
    refine (SlI.to_any ph nh ch hide _ (HH.out.below (K9.out _ HC.out).2.2.2) (by omega)).mono ?_
    rintro e w9 ⟨qe, ye, ce, rfl, ho, hb⟩
    have hsw9 := hb.size
    (try rw [World.size_alloc] at hsw9)
    replace HC := Lib.hid (below_on HC.out hb)
    replace O0 := Lib.hid (O0.out.below hb)
    replace O1 := Lib.hid (O1.out.below hb)
    replace X1 := Lib.hid (X1.out.below hb)
    replace O2 := Lib.hid (O2.out.below hb)
    replace OG := Lib.hid (OG.out.below hb)
    replace XG := Lib.hid (XG.out.below hb)
    obtain rfl : nh = ye := HLh.out.symm.trans ho.len
    have OE := Lib.hid ho.rd
    clear ho
    clear hb 
    go_wp2_with fail
    refine (SlI.eq_any _ _ _ _ _ hide _ O2.out.rd OE.out).mono ?_
    rintro e w10 ⟨rfl, hb⟩
    have hsw10 := hb.size
    (try rw [World.size_alloc] at hsw10)
    replace HC := Lib.hid (below_on HC.out hb)
    replace O0 := Lib.hid (O0.out.below hb)
    replace O1 := Lib.hid (O1.out.below hb)
    replace X1 := Lib.hid (X1.out.below hb)
    replace O2 := Lib.hid (O2.out.below hb)
    replace OG := Lib.hid (OG.out.below hb)
    replace XG := Lib.hid (XG.out.below hb)
    clear OE
    clear hb 
    go_wp2_with fail
    refine (SlI.mark_any _ _ qO0 nm cO0 ms 1 _ O0.out (by omega) (by omega)).mono ?_
    rintro e w11 ⟨rfl, ho, hg⟩
    have ht := Turn.of_grown hg
    have far := O0.out.far
    have hsw11 := ht.size
    replace HC := Lib.hid (Turn.on HC.out (Nat.le_refl _) ht (fun i e => by have := far i e; omega))
    replace O1 := Lib.hid (O1.out.kept hg (fun g e => by have := far g e; omega))
    replace X1 := Lib.hid (bx_turn X1.out ht (fun e => by have := far _ e; omega))
    replace O2 := Lib.hid (owI_far O2.out ht (fun g e => by have := far g e; omega))
    replace OG := Lib.hid (turnLo OG.out ht (fun i e => by have := far i e; omega))
    replace XG := Lib.hid (bx_turn XG.out ht (fun e => by have := far _ e; omega))
    clear ho hg ht far O0 
    obtain ⟨uX0, uX1, uX2⟩ := bx3 X1.out
    rw [show ((1 : Int) + (nm : Int)) = ((1 + nm : Nat) : Int) by omega]
    go_wp2_with fail
    refine (markD_any _ _ t0 _ _ _ _ _ _ pl sl (1 + nm) _ O1.out (by omega) (by omega)).mono ?_
    rintro e w12 ⟨rfl, ho, hg⟩
    have ht := turn_two hg
    have far : ∀ i, (w2.heap.size ≤ i ∧ i < w3.heap.size) → w2.heap.size ≤ i ∧ i < w3.heap.size := fun i e => e
    have hsw12 := ht.size
    replace HC := Lib.hid (Turn.on HC.out (Nat.le_refl _) ht (fun i e => by have := far i e; omega))
    replace X1 := Lib.hid (bx_turn X1.out ht (fun e => by have := far _ e; omega))
    replace O2 := Lib.hid (owI_far O2.out ht (fun g e => by have := far g e; omega))
    replace OG := Lib.hid (turnLo OG.out ht (fun i e => by have := far i e; omega))
    replace XG := Lib.hid (bx_turn XG.out ht (fun e => by have := far _ e; omega))
    clear ho hg ht far O1 uX0 uX1 uX2
    clear X1
    go_wp2_with fail
    refine (SlI.mark_any _ _ qO2 nh cO2 hide _ _ O2.out (by omega) (by omega)).mono ?_
    rintro e w13 ⟨rfl, ho, hg⟩
    have ht := Turn.of_grown hg
    have far := O2.out.far
    have hsw13 := ht.size
    replace HC := Lib.hid (Turn.on HC.out (Nat.le_refl _) ht (fun i e => by have := far i e; omega))
    replace OG := Lib.hid (turnLo OG.out ht (fun i e => by have := far i e; omega))
    replace XG := Lib.hid (bx_turn XG.out ht (fun e => by have := far _ e; omega))
    clear ho hg ht far O2 
    obtain ⟨uG0, uG1, uG2, uG3, uG4, uG5⟩ := bx6 XG.out
    obtain ⟨uR0, uR1, uR2, uR3, uR4, uR5⟩ := bx6 (K9.out _ HC.out).2.1
    go_wp2_with fail
    refine (SlRed.eq_x _ _ _ _ _ _ _ _ _ _ _ _ _ _ _ _ _ _ _ _ _ _ _ _ _ _ _ _ _ _ _ _ D _ OG.out.rd (K9.out _ HC.out).1).mono ?_
    rintro e w14 ⟨rfl, hb⟩
    have hsw14 := hb.size
    (try rw [World.size_alloc] at hsw14)
    replace HC := Lib.hid (below_on HC.out hb)
    replace OG := Lib.hid (OG.out.below hb)
    replace XG := Lib.hid (XG.out.below hb)
    clear hb uG0 uG1 uG2 uG3 uG4 uG5 uR0 uR1 uR2 uR3 uR4 uR5
    have htt := HTT.out _ _ _ _ OG.out
    obtain ⟨tt, htt2⟩ : ∃ x, total ⟨tg, mspg, msng, mscg, shpg, shng, shcg, pspg, psng, pscg, sspg, ssng, sscg, dspg, dsng, dscg⟩ D = x := ⟨_, rfl⟩
    have HTV := Lib.hid htt2
    rw [htt2] at htt
    clear htt2
    obtain ⟨uG0, uG1, uG2, uG3, uG4, uG5⟩ := bx6 XG.out
    go_wp2_with fail
    refine (markR_any _ ⟨tg, mspg, msng, mscg, shpg, shng, shcg, pspg, psng, pscg, sspg, ssng, sscg, dspg, dsng, dscg⟩ D hsg 1 _ OG.out (Nat.le_refl _) (by rw [HTV.out]; omega)).mono ?_
    rintro e w15 ⟨rfl, ho, ht⟩
    rw [HTV.out]
    have hsw15 := ht.size
    replace HC := Lib.hid (Turn.on HC.out (Nat.le_refl _) ht (fun i e => by have := OwRh.far OG.out e; omega))
    replace XG := Lib.hid (bx_turn XG.out ht (OwRh.notBox OG.out XG.out (by decide) (by decide) (by decide)))
    replace OG := Lib.hid ho
    clear ho ht uG0 uG1 uG2 uG3 uG4 uG5
    obtain ⟨uG0, uG1, uG2, uG3, uG4, uG5⟩ := bx6 XG.out
    go_wp2_with fail
    refine (heldR_any ⟨tg, mspg, msng, mscg, shpg, shng, shcg, pspg, psng, pscg, sspg, ssng, sscg, dspg, dsng, dscg⟩ D 1 _ OG.out.rd (Nat.le_refl _) (by rw [HTV.out]; omega)).mono ?_
    rintro e w16 ⟨rfl, hb⟩
    have hsw16 := hb.size
    (try rw [World.size_alloc] at hsw16)
    replace HC := Lib.hid (below_on HC.out hb)
    replace OG := Lib.hid (OG.out.below hb)
    replace XG := Lib.hid (XG.out.below hb)
    rw [HTV.out]
    clear hb uG0 uG1 uG2 uG3 uG4 uG5
    have A := Lib.hid (K9.out _ HC.out).2.2.1
    have HB := Lib.hid (K9.out _ HC.out).2.2.2
    go_wp2_with fail
    go_cut [18, 19] from 111 to 120 (fun s8 s9 wx => ∃ (R : Nat) (a : Ra), s8 = .pointer (some ⟨R, 0, none⟩) ∧ s9 = .bool β ∧ R < wx.heap.size ∧ Hid (RdR wx a D ∧ Bx wx R 43 a.cells ∧ Below w16.heap.size w16 wx))
    case first =>
      obtain ⟨u0, u1, u2⟩ := bx3 A.out
      have hW : W.heap.size < w16.heap.size := A.out.lt
      go_region_held3 (fun w' => w'.cell? ⟨W.heap.size, 0, none⟩ = some (.int .i64 t0) ∧ w'.cell? ⟨W.heap.size, 1, none⟩ = some (.slice a0 n0 c0) ∧ w'.cell? ⟨W.heap.size, 2, none⟩ = some (.slice b0 m0 e0)) (first | with_reducible exact bx3 KA4.out | with_reducible exact bx3 (KA4.out.alloc _) | with_reducible exact bx3 KA3.out | with_reducible exact bx3 (KA3.out.alloc _) | with_reducible exact bx3 KA2.out | with_reducible exact bx3 (KA2.out.alloc _) | with_reducible exact bx3 KA1.out | with_reducible exact bx3 (KA1.out.alloc _) | with_reducible exact bx3 A.out.drew1 | with_reducible exact bx3 (A.out.alloc _).drew1 | with_reducible exact keep3 (g := w16.heap.size) KA4.out (by omega) | with_reducible exact keep3 (g := v1.heap.size) KA4.out (by omega) | with_reducible exact keep3 (g := v2.heap.size) KA4.out (by omega) | with_reducible exact keep3 (g := v3.heap.size) KA4.out (by omega) | go_keep) (first
    | (go_at_call 28; (with_reducible refine (SlI.to_any pm nm cm ms _ (HM.out.below (below_on HB.out (bdrew (Below.refl w16.heap.size w16)))) lnm).mono ?_); rintro e v1 ⟨q1, y1, c1, rfl, ho, hb⟩; obtain rfl : nm = y1 := HLm.out.symm.trans ho.len; have KB1 := Lib.hid (below_on (bdrew (Below.refl w16.heap.size w16)) hb); have z1s := KB1.out.size; have KA1 := Lib.hid ((A.out.drew1).below hb); have O1 := Lib.hid ho; clear ho hb)
    | (go_at_call 28; (with_reducible refine (SlI.to_any pm nm cm ms _ (HM.out.below (below_on HB.out (bdrew (box1 w16 (.cells #[.int .i64 0, .slice none 0 0, .slice none 0 0, .slice none 0 0, .slice none 0 0, .slice none 0 0] 43))))) lnm).mono ?_); rintro e v1 ⟨q1, y1, c1, rfl, ho, hb⟩; obtain rfl : nm = y1 := HLm.out.symm.trans ho.len; have KB1 := Lib.hid (below_on (bdrew (box1 w16 (.cells #[.int .i64 0, .slice none 0 0, .slice none 0 0, .slice none 0 0, .slice none 0 0, .slice none 0 0] 43))) hb); have z1s := KB1.out.size; have KA1 := Lib.hid (((A.out.alloc (.cells #[.int .i64 0, .slice none 0 0, .slice none 0 0, .slice none 0 0, .slice none 0 0, .slice none 0 0] 43)).drew1).below hb); have HZ : Hid (Bx v1 w16.heap.size 43 #[.int .i64 0, .slice none 0 0, .slice none 0 0, .slice none 0 0, .slice none 0 0, .slice none 0 0]) := Lib.hid ((Bx.new w16 43 #[.int .i64 0, .slice none 0 0, .slice none 0 0, .slice none 0 0, .slice none 0 0, .slice none 0 0]).drew1.below hb); have O1 := Lib.hid ho; clear ho hb)
    | (go_at_call 29; (with_reducible refine (toD_any t0 a0 n0 c0 b0 m0 e0 pl sl _ (HP.out.below (below_on HB.out KB1.out)) (HQ.out.below (below_on HB.out KB1.out)) ln0 lm0).mono ?_); rintro e v2 ⟨p2, y2, c2, q2, z2, d2, rfl, ho, hb⟩; obtain rfl : n0 = y2 := HLn.out.symm.trans ho.2.1.len; obtain rfl : m0 = z2 := HLq.out.symm.trans ho.2.2.len; have KB2 := Lib.hid (below_on KB1.out hb); have z2s := KB2.out.size; have KA2 := Lib.hid ((KA1.out).below hb); replace O1 := Lib.hid ((O1.out).below hb); (try replace HZ := Lib.hid (HZ.out.below hb)); have O2 := Lib.hid ho; clear ho hb)
    | (go_at_call 29; (with_reducible refine (toD_any t0 a0 n0 c0 b0 m0 e0 pl sl _ (HP.out.below (below_on HB.out (KB1.out.alloc KB1.out.size (.cells #[.int .i64 0, .slice none 0 0, .slice none 0 0, .slice none 0 0, .slice none 0 0, .slice none 0 0] 43)))) (HQ.out.below (below_on HB.out (KB1.out.alloc KB1.out.size (.cells #[.int .i64 0, .slice none 0 0, .slice none 0 0, .slice none 0 0, .slice none 0 0, .slice none 0 0] 43)))) ln0 lm0).mono ?_); rintro e v2 ⟨p2, y2, c2, q2, z2, d2, rfl, ho, hb⟩; obtain rfl : n0 = y2 := HLn.out.symm.trans ho.2.1.len; obtain rfl : m0 = z2 := HLq.out.symm.trans ho.2.2.len; have KB2 := Lib.hid (below_on (KB1.out.alloc KB1.out.size (.cells #[.int .i64 0, .slice none 0 0, .slice none 0 0, .slice none 0 0, .slice none 0 0, .slice none 0 0] 43)) hb); have z2s := KB2.out.size; have KA2 := Lib.hid ((KA1.out.alloc (.cells #[.int .i64 0, .slice none 0 0, .slice none 0 0, .slice none 0 0, .slice none 0 0, .slice none 0 0] 43)).below hb); replace O1 := Lib.hid (((O1.out).below (box1 v1 (.cells #[.int .i64 0, .slice none 0 0, .slice none 0 0, .slice none 0 0, .slice none 0 0, .slice none 0 0] 43))).below hb); have HZ : Hid (Bx v2 v1.heap.size 43 #[.int .i64 0, .slice none 0 0, .slice none 0 0, .slice none 0 0, .slice none 0 0, .slice none 0 0]) := Lib.hid ((Bx.new v1 43 #[.int .i64 0, .slice none 0 0, .slice none 0 0, .slice none 0 0, .slice none 0 0, .slice none 0 0]).below hb); have O2 := Lib.hid ho; clear ho hb)
    | (go_at_call 28; (with_reducible refine (SlI.to_any ph nh ch hide _ (HH.out.below (below_on HB.out KB2.out)) lnh).mono ?_); rintro e v3 ⟨q3, y3, c3, rfl, ho, hb⟩; obtain rfl : nh = y3 := HLh.out.symm.trans ho.len; have KB3 := Lib.hid (below_on KB2.out hb); have z3s := KB3.out.size; have KA3 := Lib.hid ((KA2.out).below hb); replace O1 := Lib.hid ((O1.out).below hb); replace O2 := Lib.hid ((O2.out).below hb); (try replace HZ := Lib.hid (HZ.out.below hb)); have O3 := Lib.hid ho; clear ho hb)
    | (go_at_call 28; (with_reducible refine (SlI.to_any ph nh ch hide _ (HH.out.below (below_on HB.out (KB2.out.alloc KB2.out.size (.cells #[.int .i64 0, .slice none 0 0, .slice none 0 0, .slice none 0 0, .slice none 0 0, .slice none 0 0] 43)))) lnh).mono ?_); rintro e v3 ⟨q3, y3, c3, rfl, ho, hb⟩; obtain rfl : nh = y3 := HLh.out.symm.trans ho.len; have KB3 := Lib.hid (below_on (KB2.out.alloc KB2.out.size (.cells #[.int .i64 0, .slice none 0 0, .slice none 0 0, .slice none 0 0, .slice none 0 0, .slice none 0 0] 43)) hb); have z3s := KB3.out.size; have KA3 := Lib.hid ((KA2.out.alloc (.cells #[.int .i64 0, .slice none 0 0, .slice none 0 0, .slice none 0 0, .slice none 0 0, .slice none 0 0] 43)).below hb); replace O1 := Lib.hid (((O1.out).below (box1 v2 (.cells #[.int .i64 0, .slice none 0 0, .slice none 0 0, .slice none 0 0, .slice none 0 0, .slice none 0 0] 43))).below hb); replace O2 := Lib.hid (((O2.out).below (box1 v2 (.cells #[.int .i64 0, .slice none 0 0, .slice none 0 0, .slice none 0 0, .slice none 0 0, .slice none 0 0] 43))).below hb); have HZ : Hid (Bx v3 v2.heap.size 43 #[.int .i64 0, .slice none 0 0, .slice none 0 0, .slice none 0 0, .slice none 0 0, .slice none 0 0]) := Lib.hid ((Bx.new v2 43 #[.int .i64 0, .slice none 0 0, .slice none 0 0, .slice none 0 0, .slice none 0 0, .slice none 0 0]).below hb); have O3 := Lib.hid ho; clear ho hb)
    | (go_at_call 19; (with_reducible refine (IM.out q1 c1 p2 c2 q2 d2 q3 c3 _ (O1.out).rd (O2.out).rdS (O2.out).rdI (O3.out).rd).mono ?_); rintro e v4 ⟨th, msph, msnh, msch, shph, shnh, shch, psph, psnh, psch, ssph, ssnh, ssch, dsph, dsnh, dsch, hsh, rfl, ho, hb⟩; have KB4 := Lib.hid (below_on KB3.out hb); have z4s := KB4.out.size; have KA4 := Lib.hid ((KA3.out).below hb); (try replace HZ := Lib.hid (HZ.out.below hb)); have O4 := Lib.hid ho; (try (obtain ⟨r0, r1, r2, r3, r4, r5⟩ := bx6 HZ.out; have f0 := HZ.out.free 0; have f1 := HZ.out.free 1; have f2 := HZ.out.free 2; have f3 := HZ.out.free 3; have f4 := HZ.out.free 4; have f5 := HZ.out.free 5)); clear ho hb)
    | (go_at_call 19; (with_reducible refine (IM.out q1 c1 p2 c2 q2 d2 q3 c3 _ ((O1.out).below (box1 v3 (.cells #[.int .i64 0, .slice none 0 0, .slice none 0 0, .slice none 0 0, .slice none 0 0, .slice none 0 0] 43))).rd ((O2.out).below (box1 v3 (.cells #[.int .i64 0, .slice none 0 0, .slice none 0 0, .slice none 0 0, .slice none 0 0, .slice none 0 0] 43))).rdS ((O2.out).below (box1 v3 (.cells #[.int .i64 0, .slice none 0 0, .slice none 0 0, .slice none 0 0, .slice none 0 0, .slice none 0 0] 43))).rdI ((O3.out).below (box1 v3 (.cells #[.int .i64 0, .slice none 0 0, .slice none 0 0, .slice none 0 0, .slice none 0 0, .slice none 0 0] 43))).rd).mono ?_); rintro e v4 ⟨th, msph, msnh, msch, shph, shnh, shch, psph, psnh, psch, ssph, ssnh, ssch, dsph, dsnh, dsch, hsh, rfl, ho, hb⟩; have KB4 := Lib.hid (below_on (KB3.out.alloc KB3.out.size (.cells #[.int .i64 0, .slice none 0 0, .slice none 0 0, .slice none 0 0, .slice none 0 0, .slice none 0 0] 43)) hb); have z4s := KB4.out.size; have KA4 := Lib.hid ((KA3.out.alloc (.cells #[.int .i64 0, .slice none 0 0, .slice none 0 0, .slice none 0 0, .slice none 0 0, .slice none 0 0] 43)).below hb); have HZ : Hid (Bx v4 v3.heap.size 43 #[.int .i64 0, .slice none 0 0, .slice none 0 0, .slice none 0 0, .slice none 0 0, .slice none 0 0]) := Lib.hid ((Bx.new v3 43 #[.int .i64 0, .slice none 0 0, .slice none 0 0, .slice none 0 0, .slice none 0 0, .slice none 0 0]).below hb); have O4 := Lib.hid ho; (try (obtain ⟨r0, r1, r2, r3, r4, r5⟩ := bx6 HZ.out; have f0 := HZ.out.free 0; have f1 := HZ.out.free 1; have f2 := HZ.out.free 2; have f3 := HZ.out.free 3; have f4 := HZ.out.free 4; have f5 := HZ.out.free 5)); clear ho hb))
      all_goals clear u0 u1 u2
      all_goals first
      | (have h := stored (g := w16.heap.size) O4.out HZ.out KB4.out (by omega); clear r0 r1 r2 r3 r4 r5 f0 f1 f2 f3 f4 f5; rw [st6_def]; generalize st6 v4 (w16.heap.size) (.int .i64 th) (.slice msph msnh msch) (.slice shph shnh shch) (.slice psph psnh psch) (.slice ssph ssnh ssch) (.slice dsph dsnh dsch) = V at h ⊢; clear HZ; go_wp2_with fail; go_meet; exact ⟨_, ⟨th, msph, msnh, msch, shph, shnh, shch, psph, psnh, psch, ssph, ssnh, ssch, dsph, dsnh, dsch⟩, rfl, rfl, h.2.2.2, Lib.hid ⟨h.1, h.2.1, h.2.2.1⟩⟩)
      | (have h := stored (g := v1.heap.size) O4.out HZ.out KB4.out (by omega); clear r0 r1 r2 r3 r4 r5 f0 f1 f2 f3 f4 f5; rw [st6_def]; generalize st6 v4 (v1.heap.size) (.int .i64 th) (.slice msph msnh msch) (.slice shph shnh shch) (.slice psph psnh psch) (.slice ssph ssnh ssch) (.slice dsph dsnh dsch) = V at h ⊢; clear HZ; go_wp2_with fail; go_meet; exact ⟨_, ⟨th, msph, msnh, msch, shph, shnh, shch, psph, psnh, psch, ssph, ssnh, ssch, dsph, dsnh, dsch⟩, rfl, rfl, h.2.2.2, Lib.hid ⟨h.1, h.2.1, h.2.2.1⟩⟩)
      | (have h := stored (g := v2.heap.size) O4.out HZ.out KB4.out (by omega); clear r0 r1 r2 r3 r4 r5 f0 f1 f2 f3 f4 f5; rw [st6_def]; generalize st6 v4 (v2.heap.size) (.int .i64 th) (.slice msph msnh msch) (.slice shph shnh shch) (.slice psph psnh psch) (.slice ssph ssnh ssch) (.slice dsph dsnh dsch) = V at h ⊢; clear HZ; go_wp2_with fail; go_meet; exact ⟨_, ⟨th, msph, msnh, msch, shph, shnh, shch, psph, psnh, psch, ssph, ssnh, ssch, dsph, dsnh, dsch⟩, rfl, rfl, h.2.2.2, Lib.hid ⟨h.1, h.2.1, h.2.2.1⟩⟩)
      | (have h := stored (g := v3.heap.size) O4.out HZ.out KB4.out (by omega); clear r0 r1 r2 r3 r4 r5 f0 f1 f2 f3 f4 f5; rw [st6_def]; generalize st6 v4 (v3.heap.size) (.int .i64 th) (.slice msph msnh msch) (.slice shph shnh shch) (.slice psph psnh psch) (.slice ssph ssnh ssch) (.slice dsph dsnh dsch) = V at h ⊢; clear HZ; go_wp2_with fail; go_meet; exact ⟨_, ⟨th, msph, msnh, msch, shph, shnh, shch, psph, psnh, psch, ssph, ssnh, ssch, dsph, dsnh, dsch⟩, rfl, rfl, h.2.2.2, Lib.hid ⟨h.1, h.2.1, h.2.2.1⟩⟩)
      | (have h := fresh O4.out KB4.out z4s; generalize v4.alloc (.cells #[.int .i64 th, .slice msph msnh msch, .slice shph shnh shch, .slice psph psnh psch, .slice ssph ssnh ssch, .slice dsph dsnh dsch] 43) = V at h ⊢; go_wp2_with fail; go_meet; exact ⟨_, ⟨th, msph, msnh, msch, shph, shnh, shch, psph, psnh, psch, ssph, ssnh, ssch, dsph, dsnh, dsch⟩, rfl, rfl, h.2.2.2, Lib.hid ⟨h.1, h.2.1, h.2.2.1⟩⟩)
    case rest =>
      obtain ⟨Rh, ⟨th, msph, msnh, msch, shph, shnh, shch, psph, psnh, psch, ssph, ssnh, ssch, dsph, dsnh, dsch⟩, rfl, rfl, hRh, hcut⟩ := hcut
      obtain ⟨Vh, rfl⟩ : ∃ V, V = wc := ⟨_, rfl⟩
      have hb := hcut.out.2.2
      replace HC := Lib.hid (below_on HC.out hb)
      replace OG := Lib.hid (OG.out.below hb)
      replace XG := Lib.hid (XG.out.below hb)
      have XH : Hid (Bx Vh Rh 43 #[.int .i64 th, .slice msph msnh msch, .slice shph shnh shch, .slice psph psnh psch, .slice ssph ssnh ssch, .slice dsph dsnh dsch]) := Lib.hid hcut.out.2.1
      have OH := Lib.hid hcut.out.1
      clear hcut hb A HB
      obtain ⟨uH0, uH1, uH2, uH3, uH4, uH5⟩ := bx6 XH.out
      obtain ⟨uR0, uR1, uR2, uR3, uR4, uR5⟩ := bx6 (K9.out _ HC.out).2.1
      go_wp2_with fail
      refine (SlRed.eq_x _ _ _ _ _ _ _ _ _ _ _ _ _ _ _ _ _ _ _ _ _ _ _ _ _ _ _ _ _ _ _ _ D _ OH.out (K9.out _ HC.out).1).mono ?_
      rintro e w17 ⟨rfl, hb⟩
      replace HC := Lib.hid (below_on HC.out hb)
      replace OG := Lib.hid (OG.out.below hb)
      replace XG := Lib.hid (XG.out.below hb)
      clear hb uH0 uH1 uH2 uH3 uH4 uH5 uR0 uR1 uR2 uR3 uR4 uR5 XH OH
      obtain ⟨uG0, uG1, uG2, uG3, uG4, uG5⟩ := bx6 XG.out
      go_wp2_with fail
      refine (heldR_any ⟨tg, mspg, msng, mscg, shpg, shng, shcg, pspg, psng, pscg, sspg, ssng, sscg, dspg, dsng, dscg⟩ D 1 _ OG.out.rd (Nat.le_refl _) (by rw [HTV.out]; omega)).mono ?_
      rintro e w18 ⟨rfl, hb⟩
      rw [HTV.out]
      replace HC := Lib.hid (below_on HC.out hb)
      clear hb
      go_wp2_with fail
      go_ret
      exact ⟨rfl, (K9.out _ HC.out).2.2.2⟩
end Go.Proofs.Ytjlckfbacphblaa.fnExactRedactDocument
