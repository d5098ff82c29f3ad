/- Whether a redacted document is one of a document: in the program and in the reference. -/
import Derived.Test.YtjlckfbacphblaaOs
import Derived.Test.YtjlckfbacphblaaOq
import Derived.Test.YtjlckfbacphblaaRk
import Derived.Test.YtjlckfbacphblaaSlDcu
import Derived.Deep.RegionHeld3
namespace Go.Proofs.Ytjlckfbacphblaa.Ro
open Go.ChangeShapes Go.WideShapes Go.ChangeAt Go.RowKit Sl St Tn Dm Dk De SlRed Rr Od Oq Rk

theorem stored {B g lo : Nat} {w0 w : World} {D : Rc} {hs : List SlL.Hd} {t : Int} {msp : Option Addr} {msn msc : Nat} {shp : Option Addr} {shn shc : Nat} {psp : Option Addr} {psn psc : Nat} {ssp : Option Addr} {ssn ssc : Nat} {dsp : Option Addr} {dsn dsc : Nat} {x0 x1 x2 x3 x4 x5 : Value} (h : OwRh lo w ⟨t, msp, msn, msc, shp, shn, shc, psp, psn, psc, ssp, ssn, ssc, dsp, dsn, dsc⟩ D hs) (hX : Bx w g 43 #[x0, x1, x2, x3, x4, x5]) (hb : Below B w0 w) (hB : B ≤ g) :
    RdR (st6 w g (.int .i64 t) (.slice msp msn msc) (.slice shp shn shc) (.slice psp psn psc) (.slice ssp ssn ssc) (.slice dsp dsn dsc)) ⟨t, msp, msn, msc, shp, shn, shc, psp, psn, psc, ssp, ssn, ssc, dsp, dsn, dsc⟩ D ∧ Bx (st6 w g (.int .i64 t) (.slice msp msn msc) (.slice shp shn shc) (.slice psp psn psc) (.slice ssp ssn ssc) (.slice dsp dsn dsc)) g 43 #[.int .i64 t, .slice msp msn msc, .slice shp shn shc, .slice psp psn psc, .slice ssp ssn ssc, .slice dsp dsn dsc] ∧ Below B w0 (st6 w g (.int .i64 t) (.slice msp msn msc) (.slice shp shn shc) (.slice psp psn psc) (.slice ssp ssn ssc) (.slice dsp dsn dsc)) ∧ g < (st6 w g (.int .i64 t) (.slice msp msn msc) (.slice shp shn shc) (.slice psp psn psc) (.slice ssp ssn ssc) (.slice dsp dsn dsc)).heap.size :=
  ⟨(st6_own h hX _ _ _ _ _ _).rd, st6_box hX _ _ _ _ _ _, hb.trans ((st6_turn (S := fun i => i = g) w g rfl _ _ _ _ _ _).below (B := B) (fun i e => by omega) (by have := hX.lt; omega)), by rw [st6_size]; exact hX.lt⟩
theorem fresh {B lo : Nat} {w0 w : World} {D : Rc} {hs : List SlL.Hd} {t : Int} {msp : Option Addr} {msn msc : Nat} {shp : Option Addr} {shn shc : Nat} {psp : Option Addr} {psn psc : Nat} {ssp : Option Addr} {ssn ssc : Nat} {dsp : Option Addr} {dsn dsc : Nat} (h : OwRh lo w ⟨t, msp, msn, msc, shp, shn, shc, psp, psn, psc, ssp, ssn, ssc, dsp, dsn, dsc⟩ D hs) (hb : Below B w0 w) (hB : B ≤ w.heap.size) :
    RdR (w.alloc (.cells #[.int .i64 t, .slice msp msn msc, .slice shp shn shc, .slice psp psn psc, .slice ssp ssn ssc, .slice dsp dsn dsc] 43)) ⟨t, msp, msn, msc, shp, shn, shc, psp, psn, psc, ssp, ssn, ssc, dsp, dsn, dsc⟩ D ∧ Bx (w.alloc (.cells #[.int .i64 t, .slice msp msn msc, .slice shp shn shc, .slice psp psn psc, .slice ssp ssn ssc, .slice dsp dsn dsc] 43)) w.heap.size 43 #[.int .i64 t, .slice msp msn msc, .slice shp shn shc, .slice psp psn psc, .slice ssp ssn ssc, .slice dsp dsn dsc] ∧ Below B w0 (w.alloc (.cells #[.int .i64 t, .slice msp msn msc, .slice shp shn shc, .slice psp psn psc, .slice ssp ssn ssc, .slice dsp dsn dsc] 43)) ∧ w.heap.size < (w.alloc (.cells #[.int .i64 t, .slice msp msn msc, .slice shp shn shc, .slice psp psn psc, .slice ssp ssn ssc, .slice dsp dsn dsc] 43)).heap.size :=
  ⟨h.rd.alloc _, Bx.new _ _ _, hb.alloc hB _, by simp⟩
def GivesF (D : Rc) (b : Bool) (w : World) (e : Ending) (w' : World) : Prop := ∃ (t : Int) (msp : Option Addr) (msn msc : Nat) (shp : Option Addr) (shn shc : Nat) (psp : Option Addr) (psn psc : Nat) (ssp : Option Addr) (ssn ssc : Nat) (dsp : Option Addr) (dsn dsc : Nat) (hs : List SlL.Hd), e = .returned (.tuple #[.agg #[.int .i64 t, .slice msp msn msc, .slice shp shn shc, .slice psp psn psc, .slice ssp ssn ssc, .slice dsp dsn dsc], .bool b]) ∧ OwRh w.heap.size w' ⟨t, msp, msn, msc, shp, shn, shc, psp, psn, psc, ssp, ssn, ssc, dsp, dsn, dsc⟩ D hs ∧ Below w.heap.size w w'
theorem givesF {D : Rc} {b : Bool} {w : World} {e : Ending} {w' : World} (h : Od.GivesRB D b w e w') : GivesF D b w e w' := by
  obtain ⟨⟨t, msp, msn, msc, shp, shn, shc, psp, psn, psc, ssp, ssn, ssc, dsp, dsn, dsc⟩, hs, h1, h2, h3⟩ := h
  exact ⟨t, msp, msn, msc, shp, shn, shc, psp, psn, psc, ssp, ssn, ssc, dsp, dsn, dsc, hs, h1, h2, h3⟩
theorem bdrew {B : Nat} {a w : World} (h : Below B a w) : Below B a w.drew := below_drewN h 1
theorem bx9 {w : World} {g gp : Nat} {T T' : TypeId} {x0 x1 x2 x3 x4 x5 z0 z1 z2 : Value} (h : Bx w g T #[x0, x1, x2, x3, x4, x5]) (h' : Bx w gp T' #[z0, z1, z2]) : w.cell? ⟨g, 0, none⟩ = some x0 ∧ w.cell? ⟨g, 1, none⟩ = some x1 ∧ w.cell? ⟨g, 2, none⟩ = some x2 ∧ w.cell? ⟨g, 3, none⟩ = some x3 ∧ w.cell? ⟨g, 4, none⟩ = some x4 ∧ w.cell? ⟨g, 5, none⟩ = some x5 ∧ w.cell? ⟨gp, 0, none⟩ = some z0 ∧ w.cell? ⟨gp, 1, none⟩ = some z1 ∧ w.cell? ⟨gp, 2, none⟩ = some z2 :=
  ⟨h.cell rfl, h.cell rfl, h.cell rfl, h.cell rfl, h.cell rfl, h.cell rfl, h'.cell rfl, h'.cell rfl, h'.cell rfl⟩
theorem keep9 {w : World} {g gp : Nat} {T T' : TypeId} {x0 x1 x2 x3 x4 x5 z0 z1 z2 : Value} (h : Bx w g T #[x0, x1, x2, x3, x4, x5]) (h' : Bx w gp T' #[z0, z1, z2]) {q : Nat} {y0 y1 y2 y3 y4 y5 : Value} (hn : g ≠ q) (hn' : gp ≠ q) : ((((((w.setCell ⟨q, 0, none⟩ y0).setCell ⟨q, 1, none⟩ y1).setCell ⟨q, 2, none⟩ y2).setCell ⟨q, 3, none⟩ y3).setCell ⟨q, 4, none⟩ y4).setCell ⟨q, 5, none⟩ y5).cell? ⟨g, 0, none⟩ = some x0 ∧ ((((((w.setCell ⟨q, 0, none⟩ y0).setCell ⟨q, 1, none⟩ y1).setCell ⟨q, 2, none⟩ y2).setCell ⟨q, 3, none⟩ y3).setCell ⟨q, 4, none⟩ y4).setCell ⟨q, 5, none⟩ y5).cell? ⟨g, 1, none⟩ = some x1 ∧ ((((((w.setCell ⟨q, 0, none⟩ y0).setCell ⟨q, 1, none⟩ y1).setCell ⟨q, 2, none⟩ y2).setCell ⟨q, 3, none⟩ y3).setCell ⟨q, 4, none⟩ y4).setCell ⟨q, 5, none⟩ y5).cell? ⟨g, 2, none⟩ = some x2 ∧ ((((((w.setCell ⟨q, 0, none⟩ y0).setCell ⟨q, 1, none⟩ y1).setCell ⟨q, 2, none⟩ y2).setCell ⟨q, 3, none⟩ y3).setCell ⟨q, 4, none⟩ y4).setCell ⟨q, 5, none⟩ y5).cell? ⟨g, 3, none⟩ = some x3 ∧ ((((((w.setCell ⟨q, 0, none⟩ y0).setCell ⟨q, 1, none⟩ y1).setCell ⟨q, 2, none⟩ y2).setCell ⟨q, 3, none⟩ y3).setCell ⟨q, 4, none⟩ y4).setCell ⟨q, 5, none⟩ y5).cell? ⟨g, 4, none⟩ = some x4 ∧ ((((((w.setCell ⟨q, 0, none⟩ y0).setCell ⟨q, 1, none⟩ y1).setCell ⟨q, 2, none⟩ y2).setCell ⟨q, 3, none⟩ y3).setCell ⟨q, 4, none⟩ y4).setCell ⟨q, 5, none⟩ y5).cell? ⟨g, 5, none⟩ = some x5 ∧ ((((((w.setCell ⟨q, 0, none⟩ y0).setCell ⟨q, 1, none⟩ y1).setCell ⟨q, 2, none⟩ y2).setCell ⟨q, 3, none⟩ y3).setCell ⟨q, 4, none⟩ y4).setCell ⟨q, 5, none⟩ y5).cell? ⟨gp, 0, none⟩ = some z0 ∧ ((((((w.setCell ⟨q, 0, none⟩ y0).setCell ⟨q, 1, none⟩ y1).setCell ⟨q, 2, none⟩ y2).setCell ⟨q, 3, none⟩ y3).setCell ⟨q, 4, none⟩ y4).setCell ⟨q, 5, none⟩ y5).cell? ⟨gp, 1, none⟩ = some z1 ∧ ((((((w.setCell ⟨q, 0, none⟩ y0).setCell ⟨q, 1, none⟩ y1).setCell ⟨q, 2, none⟩ y2).setCell ⟨q, 3, none⟩ y3).setCell ⟨q, 4, none⟩ y4).setCell ⟨q, 5, none⟩ y5).cell? ⟨gp, 2, none⟩ = some z2 :=
  bx9 (bx_turn h (st6_turn (S := fun i => i = q) w q rfl y0 y1 y2 y3 y4 y5) hn) (bx_turn h' (st6_turn (S := fun i => i = q) w q rfl y0 y1 y2 y3 y4 y5) hn')
noncomputable def isB (D : Rc) (E : SlDcu.Rc) : Bool := docOk (E.t, E.ps, E.ss) && eqR (redR D.ms (E.t, E.ps, E.ss) (hidL D.sh D.sh.length)) D
set_option maxRecDepth 100000 in
set_option maxHeartbeats 8000000 in
theorem isOf_any (a : Ra) (b : SlDcu.Ra) (D : Rc) (E : SlDcu.Rc) (w : World) (h : RdR w a D) (h' : SlDcu.RdR w b E) (hf : size D ≤ 1048576) (hf' : SlDcu.size E ≤ 1048576) : Calls Try.prog 24 #[a.val, b.val] w (Tells (isB D E) w) := by
  have hsn := shn_le h hf
  have hmn : a.msn ≤ 1048576 := by have := h.2.1.len; unfold size at hf; omega
  have HL : Hid (D.sh.length = a.shn) := Lib.hid h.2.2.1.len
  have HA := Lib.hid h
  obtain ⟨ta, mspa, msna, msca, shpa, shna, shca, pspa, psna, psca, sspa, ssna, ssca, dspa, dsna, dsca⟩ := a
  obtain ⟨t, p, n, c, q, m, d⟩ := b
  obtain ⟨et, eps, ess⟩ := E
  obtain ⟨e0, hp, hq⟩ := h'
  dsimp only at e0 hp hq hsn hmn HL
  subst e0
  have HM := Lib.hid h.2.1
  have HP := Lib.hid hp
  have HQ := Lib.hid hq
  clear h hp hq hf hf'
  dsimp only at HM
  have HB := Lib.hid ((box1 w (.cells #[.int .i64 ta, .slice mspa msna msca, .slice shpa shna shca, .slice pspa psna psca, .slice sspa ssna ssca, .slice dspa dsna dsca] 43)).alloc (by simp) (.cells #[.int .i64 t, .slice p n c, .slice q m d] 27))
  have HX := Lib.hid ((Bx.new w 43 #[.int .i64 ta, .slice mspa msna msca, .slice shpa shna shca, .slice pspa psna psca, .slice sspa ssna ssca, .slice dspa dsna dsca]).alloc (.cells #[.int .i64 t, .slice p n c, .slice q m d] 27))
  have hy := Bx.new (w.alloc (.cells #[.int .i64 ta, .slice mspa msna msca, .slice shpa shna shca, .slice pspa psna psca, .slice sspa ssna ssca, .slice dspa dsna dsca] 43)) 27 #[.int .i64 t, .slice p n c, .slice q m d]
  rw [World.size_alloc] at hy
  have HY := Lib.hid hy
  clear hy
  have IM : Hid (∀ (p3 : Option Addr) (n3 c3 : Nat) (w1 : World), Rd .i64 w1 mspa msna D.ms → RdS SlStr.E w1 p n eps → Rd .i64 w1 q m ess → Rd .i64 w1 p3 n3 (hidL D.sh D.sh.length) → Calls Try.prog 19 #[.slice mspa msna msca, .agg #[.int .i64 t, .slice p n c, .slice q m d], .slice p3 n3 c3] w1 (GivesF (redR D.ms (t, eps, ess) (hidL D.sh D.sh.length)) (docOk (t, eps, ess)) w1)) := Lib.hid fun p3 n3 c3 w1 h1 h2 h3 h4 => (red_any D.ms mspa msna msca t p n c q m d eps ess p3 n3 c3 _ w1 h1 h2 h3 h4 hmn).mono fun _ _ => givesF
  have HE : Hid (isB D ⟨t, eps, ess⟩ = (docOk (t, eps, ess) && eqR (redR D.ms (t, eps, ess) (hidL D.sh D.sh.length)) D)) := Lib.hid rfl
  generalize isB D ⟨t, eps, ess⟩ = ans at HE ⊢
  generalize docOk (t, eps, ess) = β at IM HE
  generalize redR D.ms (t, eps, ess) (hidL D.sh D.sh.length) = G at IM HE
  have HH : Hid (∀ w1, RdR w1 ⟨ta, mspa, msna, msca, shpa, shna, shca, pspa, psna, psca, sspa, ssna, ssca, dspa, dsna, dsca⟩ D → Calls Try.prog 70 #[.agg #[.int .i64 ta, .slice mspa msna msca, .slice shpa shna shca, .slice pspa psna psca, .slice sspa ssna ssca, .slice dspa dsna dsca]] w1 (Rk.MakesI (hidL D.sh D.sh.length) w1)) := Lib.hid fun w1 h1 => by
    have h := hidden_any _ D w1 h1 hsn
    rw [HL.out]
    exact h
  generalize hidL D.sh D.sh.length = hide at IM HH
  unfold Ra.val Ra.cells SlDcu.Ra.val SlDcu.Ra.cells
  dsimp only
  have hs0 : w.heap.size + 2 ≤ ((w.alloc (.cells #[.int .i64 ta, .slice mspa msna msca, .slice shpa shna shca, .slice pspa psna psca, .slice sspa ssna ssca, .slice dspa dsna dsca] 43)).alloc (.cells #[.int .i64 t, .slice p n c, .slice q m d] 27)).heap.size := by simp
  go_enter Try.func24, Try.ntmps24
  obtain ⟨u0, u1, u2, u3, u4, u5, u6, u7, u8⟩ := bx9 HX.out HY.out
  go_wp2_with fail
  clear u0 u1 u2 u3 u4 u5 u6 u7 u8
  generalize (w.alloc (.cells #[.int .i64 ta, .slice mspa msna msca, .slice shpa shna shca, .slice pspa psna psca, .slice sspa ssna ssca, .slice dspa dsna dsca] 43)).alloc (.cells #[.int .i64 t, .slice p n c, .slice q m d] 27) = w1 at HB HX HY hs0 ⊢
  go_cut [5, 6] from 7 to 15 (fun s8 s9 wx => ∃ (R : Nat) (a : Ra), s8 = .pointer (some ⟨R, 0, none⟩) ∧ s9 = .bool β ∧ R < wx.heap.size ∧ Hid (RdR wx a G ∧ Bx wx R 43 a.cells ∧ Below w1.heap.size w1 wx))
  case first =>
    obtain ⟨u0, u1, u2, u3, u4, u5, u6, u7, u8⟩ := bx9 HX.out HY.out
    go_region_held3 (fun w' => w'.cell? ⟨w.heap.size, 0, none⟩ = some (.int .i64 ta) ∧ w'.cell? ⟨w.heap.size, 1, none⟩ = some (.slice mspa msna msca) ∧ w'.cell? ⟨w.heap.size, 2, none⟩ = some (.slice shpa shna shca) ∧ w'.cell? ⟨w.heap.size, 3, none⟩ = some (.slice pspa psna psca) ∧ w'.cell? ⟨w.heap.size, 4, none⟩ = some (.slice sspa ssna ssca) ∧ w'.cell? ⟨w.heap.size, 5, none⟩ = some (.slice dspa dsna dsca) ∧ w'.cell? ⟨w.heap.size + 1, 0, none⟩ = some (.int .i64 t) ∧ w'.cell? ⟨w.heap.size + 1, 1, none⟩ = some (.slice p n c) ∧ w'.cell? ⟨w.heap.size + 1, 2, none⟩ = some (.slice q m d)) (first | with_reducible exact bx9 KX2.out KY2.out | with_reducible exact bx9 (KX2.out.alloc _) (KY2.out.alloc _) | with_reducible exact bx9 KX1.out KY1.out | with_reducible exact bx9 (KX1.out.alloc _) (KY1.out.alloc _) | with_reducible exact bx9 HX.out.drew1 HY.out.drew1 | with_reducible exact bx9 (HX.out.alloc _).drew1 (HY.out.alloc _).drew1 | with_reducible exact keep9 (q := w1.heap.size) KX2.out KY2.out (by omega) (by omega) | with_reducible exact keep9 (q := v1.heap.size) KX2.out KY2.out (by omega) (by omega) | go_keep) (first
    | (go_at_call 70; (with_reducible refine (HH.out _ (HA.out.below (below_on HB.out (bdrew (Below.refl w1.heap.size w1))))).mono ?_); rintro e v1 ⟨p3, n3, c3, rfl, ho, hb⟩; have KB1 := Lib.hid (below_on (bdrew (Below.refl w1.heap.size w1)) hb); have z1s := KB1.out.size; have KX1 := Lib.hid ((HX.out.drew1).below hb); have KY1 := Lib.hid ((HY.out.drew1).below hb); have O1 := Lib.hid ho; clear ho hb)
    | (go_at_call 70; (with_reducible refine (HH.out _ (HA.out.below (below_on HB.out (bdrew (box1 w1 (.cells #[.int .i64 0, .slice none 0 0, .slice none 0 0, .slice none 0 0, .slice none 0 0, .slice none 0 0] 43)))))).mono ?_); rintro e v1 ⟨p3, n3, c3, rfl, ho, hb⟩; have KB1 := Lib.hid (below_on (bdrew (box1 w1 (.cells #[.int .i64 0, .slice none 0 0, .slice none 0 0, .slice none 0 0, .slice none 0 0, .slice none 0 0] 43))) hb); have z1s := KB1.out.size; have KX1 := Lib.hid (((HX.out.alloc (.cells #[.int .i64 0, .slice none 0 0, .slice none 0 0, .slice none 0 0, .slice none 0 0, .slice none 0 0] 43)).drew1).below hb); have KY1 := Lib.hid (((HY.out.alloc (.cells #[.int .i64 0, .slice none 0 0, .slice none 0 0, .slice none 0 0, .slice none 0 0, .slice none 0 0] 43)).drew1).below hb); have HZ : Hid (Bx v1 w1.heap.size 43 #[.int .i64 0, .slice none 0 0, .slice none 0 0, .slice none 0 0, .slice none 0 0, .slice none 0 0]) := Lib.hid ((Bx.new w1 43 #[.int .i64 0, .slice none 0 0, .slice none 0 0, .slice none 0 0, .slice none 0 0, .slice none 0 0]).drew1.below hb); have O1 := Lib.hid ho; clear ho hb)
    | (go_at_call 19; (with_reducible refine (IM.out p3 n3 c3 _ (HM.out.below (below_on HB.out KB1.out)) (HP.out.below (below_on HB.out KB1.out)) (HQ.out.below (below_on HB.out KB1.out)) O1.out.rd).mono ?_); rintro e v2 ⟨tr, mspr, msnr, mscr, shpr, shnr, shcr, pspr, psnr, pscr, sspr, ssnr, sscr, dspr, dsnr, dscr, hsr, rfl, ho, hb⟩; have KB2 := Lib.hid (below_on KB1.out hb); have z2s := KB2.out.size; have KX2 := Lib.hid ((KX1.out).below hb); have KY2 := Lib.hid ((KY1.out).below hb); (try replace HZ := Lib.hid (HZ.out.below hb)); have O2 := Lib.hid ho; (try (obtain ⟨r0, r1, r2, r3, r4, r5⟩ := bx6 HZ.out; have f0 := HZ.out.free 0; have f1 := HZ.out.free 1; have f2 := HZ.out.free 2; have f3 := HZ.out.free 3; have f4 := HZ.out.free 4; have f5 := HZ.out.free 5)); clear ho hb)
    | (go_at_call 19; (with_reducible refine (IM.out p3 n3 c3 _ (HM.out.below (below_on HB.out (KB1.out.alloc KB1.out.size (.cells #[.int .i64 0, .slice none 0 0, .slice none 0 0, .slice none 0 0, .slice none 0 0, .slice none 0 0] 43)))) (HP.out.below (below_on HB.out (KB1.out.alloc KB1.out.size (.cells #[.int .i64 0, .slice none 0 0, .slice none 0 0, .slice none 0 0, .slice none 0 0, .slice none 0 0] 43)))) (HQ.out.below (below_on HB.out (KB1.out.alloc KB1.out.size (.cells #[.int .i64 0, .slice none 0 0, .slice none 0 0, .slice none 0 0, .slice none 0 0, .slice none 0 0] 43)))) (O1.out.below (box1 v1 (.cells #[.int .i64 0, .slice none 0 0, .slice none 0 0, .slice none 0 0, .slice none 0 0, .slice none 0 0] 43))).rd).mono ?_); rintro e v2 ⟨tr, mspr, msnr, mscr, shpr, shnr, shcr, pspr, psnr, pscr, sspr, ssnr, sscr, dspr, dsnr, dscr, hsr, rfl, ho, hb⟩; have KB2 := Lib.hid (below_on (KB1.out.alloc KB1.out.size (.cells #[.int .i64 0, .slice none 0 0, .slice none 0 0, .slice none 0 0, .slice none 0 0, .slice none 0 0] 43)) hb); have z2s := KB2.out.size; have KX2 := Lib.hid ((KX1.out.alloc (.cells #[.int .i64 0, .slice none 0 0, .slice none 0 0, .slice none 0 0, .slice none 0 0, .slice none 0 0] 43)).below hb); have KY2 := Lib.hid ((KY1.out.alloc (.cells #[.int .i64 0, .slice none 0 0, .slice none 0 0, .slice none 0 0, .slice none 0 0, .slice none 0 0] 43)).below hb); have HZ : Hid (Bx v2 v1.heap.size 43 #[.int .i64 0, .slice none 0 0, .slice none 0 0, .slice none 0 0, .slice none 0 0, .slice none 0 0]) := Lib.hid ((Bx.new v1 43 #[.int .i64 0, .slice none 0 0, .slice none 0 0, .slice none 0 0, .slice none 0 0, .slice none 0 0]).below hb); have O2 := Lib.hid ho; (try (obtain ⟨r0, r1, r2, r3, r4, r5⟩ := bx6 HZ.out; have f0 := HZ.out.free 0; have f1 := HZ.out.free 1; have f2 := HZ.out.free 2; have f3 := HZ.out.free 3; have f4 := HZ.out.free 4; have f5 := HZ.out.free 5)); clear ho hb))
    all_goals clear u0 u1 u2 u3 u4 u5 u6 u7 u8
    all_goals first
      | (have h := stored (g := w1.heap.size) O2.out HZ.out KB2.out (by omega); clear r0 r1 r2 r3 r4 r5 f0 f1 f2 f3 f4 f5; rw [st6_def]; generalize st6 v2 (w1.heap.size) (.int .i64 tr) (.slice mspr msnr mscr) (.slice shpr shnr shcr) (.slice pspr psnr pscr) (.slice sspr ssnr sscr) (.slice dspr dsnr dscr) = V at h ⊢; clear HZ; go_wp2_with fail; go_meet; exact ⟨_, ⟨tr, mspr, msnr, mscr, shpr, shnr, shcr, pspr, psnr, pscr, sspr, ssnr, sscr, dspr, dsnr, dscr⟩, rfl, rfl, h.2.2.2, Lib.hid ⟨h.1, h.2.1, h.2.2.1⟩⟩)
      | (have h := stored (g := v1.heap.size) O2.out HZ.out KB2.out (by omega); clear r0 r1 r2 r3 r4 r5 f0 f1 f2 f3 f4 f5; rw [st6_def]; generalize st6 v2 (v1.heap.size) (.int .i64 tr) (.slice mspr msnr mscr) (.slice shpr shnr shcr) (.slice pspr psnr pscr) (.slice sspr ssnr sscr) (.slice dspr dsnr dscr) = V at h ⊢; clear HZ; go_wp2_with fail; go_meet; exact ⟨_, ⟨tr, mspr, msnr, mscr, shpr, shnr, shcr, pspr, psnr, pscr, sspr, ssnr, sscr, dspr, dsnr, dscr⟩, rfl, rfl, h.2.2.2, Lib.hid ⟨h.1, h.2.1, h.2.2.1⟩⟩)
      | (have h := fresh O2.out KB2.out z2s; generalize v2.alloc (.cells #[.int .i64 tr, .slice mspr msnr mscr, .slice shpr shnr shcr, .slice pspr psnr pscr, .slice sspr ssnr sscr, .slice dspr dsnr dscr] 43) = V at h ⊢; go_wp2_with fail; go_meet; exact ⟨_, ⟨tr, mspr, msnr, mscr, shpr, shnr, shcr, pspr, psnr, pscr, sspr, ssnr, sscr, dspr, dsnr, dscr⟩, rfl, rfl, h.2.2.2, Lib.hid ⟨h.1, h.2.1, h.2.2.1⟩⟩)
  case rest =>
    obtain ⟨R, ⟨tr, mspr, msnr, mscr, shpr, shnr, shcr, pspr, psnr, pscr, sspr, ssnr, sscr, dspr, dsnr, dscr⟩, rfl, rfl, hR, hcut⟩ := hcut
    obtain ⟨V, rfl⟩ : ∃ V, V = wc := ⟨_, rfl⟩
    have HBV := Lib.hid (below_on HB.out hcut.out.2.2)
    have HXV := Lib.hid (HX.out.below hcut.out.2.2)
    have HRV : Hid (Bx V R 43 #[.int .i64 tr, .slice mspr msnr mscr, .slice shpr shnr shcr, .slice pspr psnr pscr, .slice sspr ssnr sscr, .slice dspr dsnr dscr]) := Lib.hid hcut.out.2.1
    have HGV := Lib.hid hcut.out.1
    clear hcut HB HX HY
    rcases β with _ | _
    · go_wp2_with fail
      go_ret
      exact tells (by rw [HE.out]; rfl) HBV.out
    · obtain ⟨u0, u1, u2, u3, u4, u5, v0, v1, v2, v3, v4, v5⟩ := two6 HRV.out HXV.out
      go_wp2_with fail
      refine (eqR_any ⟨tr, mspr, msnr, mscr, shpr, shnr, shcr, pspr, psnr, pscr, sspr, ssnr, sscr, dspr, dsnr, dscr⟩ ⟨ta, mspa, msna, msca, shpa, shna, shca, pspa, psna, psca, sspa, ssna, ssca, dspa, dsna, dsca⟩ G D _ HGV.out (HA.out.below HBV.out)).mono ?_
      rintro e w2 ⟨rfl, hb⟩
      have HB2 := Lib.hid (below_on HBV.out hb)
      clear hb
      go_wp2_with fail
      go_ret
      exact tells (by rw [HE.out]; rfl) HB2.out
end Go.Proofs.Ytjlckfbacphblaa.Ro
