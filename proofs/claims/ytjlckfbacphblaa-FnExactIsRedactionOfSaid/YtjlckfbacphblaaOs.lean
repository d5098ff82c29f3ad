/- The reference's RedactDocument. -/
import Derived.Test.YtjlckfbacphblaaOe
import Derived.Test.YtjlckfbacphblaaDl
import Derived.Deep.DeepCutAuto
namespace Go.Proofs.Ytjlckfbacphblaa.Od
open Go.ChangeShapes Go.WideShapes Go.ChangeAt Go.RowKit Sl St Tn Dm Dk Dp SlRed Rr

/-- amid a round: the redacted document of the call's own, and a further slice of ints -/
structure SMid (lo R : Nat) (a : Ra) (D : Rc) (hs : List SlL.Hd) (px : Option Addr) (nx cx : Nat) (ys : List Int) (V w : World) : Prop where
  o : OwRh lo w a D hs
  x : Bx w R 43 a.cells
  y : Ow .i64 3 w lo w.heap.size px nx cx ys
  d : ∀ g, own px nx cx = some g → own a.msp a.msn a.msc ≠ some g ∧ own a.ssp a.ssn a.ssc ≠ some g ∧ ∀ (i : Nat) (k : SlL.Hd), hs[i]? = some k → (SlL.hv k).ownBlock ≠ some g
  v : Turn (fun i => lo ≤ i) V w
section
variable {lo R : Nat} {a : Ra} {D : Rc} {hs : List SlL.Hd} {px : Option Addr} {nx cx : Nat} {ys : List Int} {V w w0 w4 : World}
theorem SMid.below (h : SMid lo R a D hs px nx cx ys V w) (hb : Below w.heap.size w w0) : SMid lo R a D hs px nx cx ys V w0 :=
  ⟨h.o.below hb, h.x.below hb, (h.y.below hb).wide (Nat.le_refl _) hb.size (Nat.le_refl _), h.d, h.v.then hb⟩
theorem SMid.stepP (h : SMid lo R a D hs px nx cx ys V w) (hR : lo ≤ R) {p n c} {xs : List ByteArray} (hg : w.grownBy w4 (own a.psp a.psn a.psc)) (ho : OwS SlStr.E 9 w4 lo w4.heap.size p n c xs) :
    SMid lo R { a with psp := p, psn := n, psc := c } { D with ps := xs } hs px nx cx ys V (w4.setCell ⟨R, 3, none⟩ (.slice p n c)) := by
  have hx := h.x.grown hg (fun e => bx_type h.o.ps.1 h.x (by decide) e.symm rfl)
  have hy := owI_t h.y (Turn.of_grown hg) (fun g e e2 => type_ne (own_type h.y.1 e) (own_type h.o.ps.1 e2) (by decide))
  exact ⟨(h.o.growP hg ho).store hx (by decide) (by decide) (by decide) (by decide) 3 _, hx.set_ 3 _, owI_t hy ((Turn.refl (fun i => i = R) w4).set rfl _) (fun g e => bx_type hy.1 hx (by decide) e), h.d, (turn_grown h.v hg (fun g e => own_far h.o.ps g e)).set hR _⟩
theorem SMid.stepH (h : SMid lo R a D hs px nx cx ys V w) (hR : lo ≤ R) {p n c} {xs : List Bool} (hg : w.grownBy w4 (own a.shp a.shn a.shc)) (ho : OwS SlBool.E 4 w4 lo w4.heap.size p n c xs) :
    SMid lo R { a with shp := p, shn := n, shc := c } { D with sh := xs } hs px nx cx ys V (w4.setCell ⟨R, 2, none⟩ (.slice p n c)) := by
  have hx := h.x.grown hg (fun e => bx_type h.o.sh.1 h.x (by decide) e.symm rfl)
  have hy := owI_t h.y (Turn.of_grown hg) (fun g e e2 => type_ne (own_type h.y.1 e) (own_type h.o.sh.1 e2) (by decide))
  exact ⟨(h.o.growH hg ho).store hx (by decide) (by decide) (by decide) (by decide) 2 _, hx.set_ 2 _, owI_t hy ((Turn.refl (fun i => i = R) w4).set rfl _) (fun g e => bx_type hy.1 hx (by decide) e), h.d, (turn_grown h.v hg (fun g e => own_far h.o.sh g e)).set hR _⟩
theorem SMid.stepS (h : SMid lo R a D hs px nx cx ys V w) (hR : lo ≤ R) {g4 n c : Nat} {xs : List Int} (hg : w.grownBy w4 (own a.ssp a.ssn a.ssc)) (ho : Ow .i64 3 w4 lo w4.heap.size (some ⟨g4, 0, none⟩) n c xs) (hat : own a.ssp a.ssn a.ssc = some g4 ∨ g4 = w.heap.size) :
    SMid lo R { a with ssp := some ⟨g4, 0, none⟩, ssn := n, ssc := c } { D with ss := xs } hs px nx cx ys V (w4.setCell ⟨R, 4, none⟩ (.slice (some ⟨g4, 0, none⟩) n c)) := by
  have hx := h.x.grown hg (fun e => bx_type h.o.ss.1 h.x (by decide) e.symm rfl)
  have hy := owI_t h.y (Turn.of_grown hg) (fun g e e2 => (h.d g e).2.1 e2)
  refine ⟨(h.o.growS hg ho hat).store hx (by decide) (by decide) (by decide) (by decide) 4 _, hx.set_ 4 _, owI_t hy ((Turn.refl (fun i => i = R) w4).set rfl _) (fun g e => bx_type hy.1 hx (by decide) e), fun g e => ⟨(h.d g e).1, fun e2 => ?_, (h.d g e).2.2⟩, (turn_grown h.v hg (fun g e => (h.o.ss.far g e).1)).set hR _⟩
  have e3 : g4 = g := by simpa [own, Value.ownBlock] using e2
  subst e3
  rcases hat with h1 | h1
  · exact (h.d g4 e).2.1 h1
  · have := (h.y.far g4 e).2
    omega
theorem SMid.stepD (h : SMid lo R a D hs px nx cx ys V w) (hR : lo ≤ R) {p n c} (hg : w.grownBy w4 (own a.dsp a.dsn a.dsc)) (ho : OwS SlL.E 25 w4 lo w4.heap.size p n c (hs ++ [(px, nx, cx)])) :
    OwRh lo (w4.setCell ⟨R, 5, none⟩ (.slice p n c)) { a with dsp := p, dsn := n, dsc := c } { D with ds := D.ds ++ [ys] } (hs ++ [(px, nx, cx)]) ∧ Bx (w4.setCell ⟨R, 5, none⟩ (.slice p n c)) R 43 (Ra.cells { a with dsp := p, dsn := n, dsc := c }) ∧ Turn (fun i => lo ≤ i) V (w4.setCell ⟨R, 5, none⟩ (.slice p n c)) := by
  have hx := h.x.grown hg (fun e => bx_type h.o.ds.1 h.x (by decide) e.symm rfl)
  exact ⟨(h.o.growD hg ho h.y h.d).store hx (by decide) (by decide) (by decide) (by decide) 5 _, hx.set_ 5 _, (turn_grown h.v hg (fun g e => own_far h.o.ds g e)).set hR _⟩
end
theorem SMid.make {lo R : Nat} {a : Ra} {D : Rc} {hs : List SlL.Hd} {V wr w' : World} (hO : OwRh lo wr a D hs) (hX : Bx wr R 43 a.cells) (hV : Turn (fun i => lo ≤ i) V wr) (hlo : lo ≤ wr.heap.size) (hb : Below wr.heap.size wr w') {px : Option Addr} {nx cx : Nat} {ys : List Int} (hy : Ow .i64 3 w' wr.heap.size w'.heap.size px nx cx ys) : SMid lo R a D hs px nx cx ys V w' := by
  refine ⟨hO.below hb, hX.below hb, hy.wide hlo (Nat.le_refl _) (Nat.le_refl _), fun g e => ?_, hV.then hb⟩
  have hg := (hy.far g e).1
  refine ⟨fun e2 => ?_, fun e2 => ?_, fun i u e2 e3 => ?_⟩
  · have := (hO.ms.far g e2).2
    omega
  · have := (hO.ss.far g e2).2
    omega
  · have hi2 : i < hs.length := (List.getElem?_eq_some_iff.1 e2).1
    have hdl := hO.len
    have hhl := hO.ds.len
    have hx9 : D.ds[i]? = some (D.ds[i]'(by rw [hdl, ← hhl]; exact hi2)) := List.getElem?_eq_getElem _
    have := ((hO.inn i u _ e2 hx9).far g e3).2
    omega
theorem turn_cell {S : Nat → Prop} {w w' : World} (ht : Turn S w w') {b o : Nat} (hb : b < w.heap.size) (hn : ¬ S b) : w'.cell? ⟨b, o, none⟩ = w.cell? ⟨b, o, none⟩ := World.cell?_of_block (a := ⟨b, o, none⟩) (ht.block b hb hn)
theorem SMid.make2 {lo R : Nat} {a : Ra} {D : Rc} {hs : List SlL.Hd} {V wr w' : World} (hO : OwRh lo wr a D hs) (hX : Bx wr R 43 a.cells) (hV : Turn (fun i => lo ≤ i) V wr) (hlo : lo ≤ wr.heap.size) (hb : Below wr.heap.size wr w') {px : Option Addr} {nx cx : Nat} {ys : List Int} (hy : Ow .i64 3 w' wr.heap.size w'.heap.size px nx cx ys) : SMid lo R a D hs px nx cx ys V w' := SMid.make hO hX hV hlo hb hy
set_option maxRecDepth 100000 in
set_option maxHeartbeats 8000000 in
theorem spec_red_any (ms : List Int) (pm : Option Addr) (nm cm : Nat) (t : Int) (p : Option Addr) (n c : Nat) (q : Option Addr) (m d : Nat) (parts : List ByteArray) (salts : List Int) (ph : Option Addr) (nh ch : Nat) (hide : List Int) (w : World)
    (hm : Rd .i64 w pm nm ms) (hr : RdS SlStr.E w p n parts) (hs : Rd .i64 w q m salts) (hh : Rd .i64 w ph nh hide) (hnm : nm ≤ 1048576) :
    Calls Try.prog 20 #[.slice pm nm cm, .agg #[.int .i64 t, .slice p n c, .slice q m d], .slice ph nh ch] w (GivesRB (redR ms (t, parts, salts) hide) (docOk (t, parts, salts)) w) := by
  obtain ⟨i0, hi, hz0, hz1, hz2⟩ := info_parts SlStr.info
  obtain ⟨j0, ji, jz0, jz1, jz2⟩ := info_parts SlI.info
  obtain ⟨e0, ei, ez0, ez1, ez2⟩ := info_parts SlBool.info
  obtain ⟨l0, li, lz0, lz1, lz2⟩ := info_parts SlL.info
  have b0 := (Bx.new w 27 #[.int .i64 t, .slice p n c, .slice q m d]).alloc (.cells #[.int .i64 0, .slice none 0 0, .slice none 0 0, .slice none 0 0, .slice none 0 0, .slice none 0 0] 43)
  have b1 := Bx.new (w.alloc (.cells #[.int .i64 t, .slice p n c, .slice q m d] 27)) 43 #[.int .i64 0, .slice none 0 0, .slice none 0 0, .slice none 0 0, .slice none 0 0, .slice none 0 0]
  rw [World.size_alloc] at b1
  have hB0 := (box1 w (.cells #[.int .i64 t, .slice p n c, .slice q m d] 27)).alloc (by simp) (.cells #[.int .i64 0, .slice none 0 0, .slice none 0 0, .slice none 0 0, .slice none 0 0, .slice none 0 0] 43)
  have hs0 : ((w.alloc (.cells #[.int .i64 t, .slice p n c, .slice q m d] 27)).alloc (.cells #[.int .i64 0, .slice none 0 0, .slice none 0 0, .slice none 0 0, .slice none 0 0, .slice none 0 0] 43)).heap.size = w.heap.size + 2 := by simp
  have HX := Lib.hid b0
  have HR := Lib.hid b1
  have HB := Lib.hid hB0
  have HM := Lib.hid hm
  have HP := Lib.hid hr
  have HQ := Lib.hid hs
  have HH := Lib.hid hh
  have HL := Lib.hid hr.len
  have HL2 := Lib.hid hs.len
  clear b0 b1 hB0 hm hr hs hh
  obtain ⟨x0, x1, x2⟩ := bx3 HX.out
  rcases hok : docOk (t, parts, salts) with _ | _
  · have HO := Lib.hid hok
    have HD := Lib.hid (redR_no (ms := ms) (hide := hide) hok)
    clear hok
    go_enter Try.func20, Try.ntmps20
    go_wp2_with fail
    refine (spec_isDoc_any _ _ _ _ _ _ _ _ _ _ (HP.out.below HB.out) (HQ.out.below HB.out)).mono ?_
    rintro e w1 ⟨rfl, hb⟩
    rw [HO.out]
    have HB1 := Lib.hid (below_on HB.out hb)
    have HR1 := Lib.hid (HR.out.below hb)
    have hs1 := hb.size
    rw [hs0] at hs1
    clear hb x0 x1 x2 hs0
    obtain ⟨r0, r1, r2, r3, r4, r5⟩ := bx6 HR1.out
    have f0 := HR1.out.free 0
    have f1 := HR1.out.free 1
    have f2 := HR1.out.free 2
    have f3 := HR1.out.free 3
    have f4 := HR1.out.free 4
    have f5 := HR1.out.free 5
    go_wp2_with fail
    rw [st6_def]
    have hx := st6_box HR1.out (.int .i64 0) (.slice none 0 0) (.slice none 0 0) (.slice none 0 0) (.slice none 0 0) (.slice none 0 0)
    have hB2 := (st6_turn (S := fun i => i = w.heap.size + 1) w1 (w.heap.size + 1) rfl (.int .i64 0) (.slice none 0 0) (.slice none 0 0) (.slice none 0 0) (.slice none 0 0) (.slice none 0 0)).below (B := w.heap.size) (fun i e => by omega) HB1.out.size
    have hz := st6_size w1 (w.heap.size + 1) (.int .i64 0) (.slice none 0 0) (.slice none 0 0) (.slice none 0 0) (.slice none 0 0) (.slice none 0 0)
    generalize st6 w1 (w.heap.size + 1) (.int .i64 0) (.slice none 0 0) (.slice none 0 0) (.slice none 0 0) (.slice none 0 0) (.slice none 0 0) = W at hx hB2 hz ⊢
    obtain ⟨q0, q1, q2, q3, q4, q5⟩ := bx6 hx
    exact bodyPost_ret (v := .tuple #[.agg #[.int .i64 0, .slice none 0 0, .slice none 0 0, .slice none 0 0, .slice none 0 0, .slice none 0 0], .bool false]) (by simp [results, Try.results20, go_sem, q0, q1, q2, q3, q4, q5]) rfl ⟨⟨0, none, 0, 0, none, 0, 0, none, 0, 0, none, 0, 0, none, 0, 0⟩, [], rfl, by rw [HD.out]; exact none_own W w.heap.size (by rw [hz]; omega) 0, HB1.out.trans hB2⟩
  · have hsay := docOk_says hok
    have HO := Lib.hid hok
    have HD := Lib.hid (redR_yes (ms := ms) (hide := hide) hok)
    have hlen : parts.length ≤ 6 := hsay.2.1.2
    have hml : salts.length = parts.length := hsay.2.2.1
    have HS40 : Hid (∀ j, j < n → (parts.getD j ByteArray.empty).size ≤ 10000000) := Lib.hid fun j hj => by
      have := hsay.2.2.2.1 j (by show j < parts.length; rw [HL.out]; exact hj)
      have h2 : (parts.getD j ByteArray.empty).size ≤ 40 := this
      omega
    have hmn : m = n := by rw [← HL.out, ← HL2.out]; exact hml
    have hn6 : n ≤ 6 := by rw [← HL.out]; exact hlen
    clear hok hsay hlen hml
    subst hmn
    go_enter Try.func20, Try.ntmps20
    go_wp2_with fail
    refine (spec_isDoc_any _ _ _ _ _ _ _ _ _ _ (HP.out.below HB.out) (HQ.out.below HB.out)).mono ?_
    rintro e w1 ⟨rfl, hb⟩
    rw [HO.out]
    have HB1 := Lib.hid (below_on HB.out hb)
    have HR1 := Lib.hid (HR.out.below hb)
    have HX1 := Lib.hid (HX.out.below hb)
    have hs1 := hb.size
    rw [hs0] at hs1
    clear hb x0 x1 x2 hs0
    obtain ⟨x0, x1, x2⟩ := bx3 HX1.out
    go_wp2_with fail
    have HMA := Lib.hid HM.out.all
    clear x0 x1 x2
    go_cut [8] from 16 to 21 (fun s wx => ∃ (R c2 : Nat) (p2 : Option Addr), s = .pointer (some ⟨R, 0, none⟩) ∧ w.heap.size + 2 ≤ R ∧ w.heap.size + 2 ≤ wx.heap.size ∧ Hid (OwRh (w.heap.size + 2) wx ⟨t, p2, nm, c2, none, 0, 0, none, 0, 0, none, 0, 0, none, 0, 0⟩ (redK ms (t, parts, salts) hide 0) [] ∧ Bx wx R 43 (Ra.cells ⟨t, p2, nm, c2, none, 0, 0, none, 0, 0, none, 0, 0, none, 0, 0⟩) ∧ Bx wx w.heap.size 27 #[.int .i64 t, .slice p m c, .slice q m d] ∧ Bx wx (w.heap.size + 1) 43 #[.int .i64 0, .slice none 0 0, .slice none 0 0, .slice none 0 0, .slice none 0 0, .slice none 0 0] ∧ Below w.heap.size w wx))
    case first =>
      obtain ⟨x0, x1, x2⟩ := bx3 HX1.out
      go_region_held3 (fun w' => w'.cell? ⟨w.heap.size, 0, none⟩ = some (.int .i64 t)) (first | go_keep | exact y1) (first
        | (refine step_appS (E := Dl.EI) (by rfl) (.tmp 18) (.tmp 19) 25 (by rfl) j0 _ 8 Try.underlying25 ji jz0 jz1 jz2 (by rfl) (by rfl) (Dl.emptyIG w1 w1.heap.size w1.heap.size rfl (Nat.le_refl _)).drew1 pm nm cm ms (by rfl) (Dl.rd_in (HM.out.below HB1.out) |>.alloc (.cells #[] 3)).drew1 (by first | (simp; done) | (simp; omega)) (by omega) (by omega) ?_; intro p2 c2 w2 how2 hg2; rw [Nat.zero_add, List.nil_append] at how2; have hb2 := below_drewN (box1 w1 (.cells #[] 3)) 1; have hgb := Dt.grown_pre hb2 hg2; have HX2 := Lib.hid (HX1.out.grown hgb (by simp [Value.ownBlock]; try omega)); have HRb := Lib.hid (HR1.out.grown hgb (by simp [Value.ownBlock]; try omega)); have HB2 := Lib.hid (HB1.out.grown hgb HB1.out.size (fun g e => by simp only [Value.ownBlock, Option.some.injEq] at e; omega)); have HO2 := Lib.hid (Dl.ow_out how2 HMA.out); have hs2 := hgb.size; have y0 := HX2.out.cell (j := 0) rfl; clear how2 hg2 hgb hb2)
        | (refine step_appS (E := Dl.EI) (by rfl) (.tmp 18) (.tmp 19) 25 (by rfl) j0 _ 8 Try.underlying25 ji jz0 jz1 jz2 (by rfl) (by rfl) ((Dl.emptyIG w1 w1.heap.size w1.heap.size rfl (Nat.le_refl _)).alloc (.cells #[.int .i64 0, .slice none 0 0, .slice none 0 0, .slice none 0 0, .slice none 0 0, .slice none 0 0] 43)).drew1 pm nm cm ms (by rfl) ((Dl.rd_in (HM.out.below HB1.out) |>.alloc (.cells #[] 3)).alloc (.cells #[.int .i64 0, .slice none 0 0, .slice none 0 0, .slice none 0 0, .slice none 0 0, .slice none 0 0] 43)).drew1 (by first | (simp; done) | (simp; omega)) (by omega) (by omega) ?_; intro p2 c2 w2 how2 hg2; rw [Nat.zero_add, List.nil_append] at how2; have hb2 := below_drewN ((box1 w1 (.cells #[] 3)).alloc (by simp) (.cells #[.int .i64 0, .slice none 0 0, .slice none 0 0, .slice none 0 0, .slice none 0 0, .slice none 0 0] 43)) 1; have hgb := Dt.grown_pre hb2 hg2; have HX2 := Lib.hid (HX1.out.grown hgb (by simp [Value.ownBlock]; try omega)); have HRb := Lib.hid (HR1.out.grown hgb (by simp [Value.ownBlock]; try omega)); have HB2 := Lib.hid (HB1.out.grown hgb HB1.out.size (fun g e => by simp only [Value.ownBlock, Option.some.injEq] at e; omega)); have HO2 := Lib.hid (Dl.ow_out how2 HMA.out); have hs2 := hgb.size; have y0 := HX2.out.cell (j := 0) rfl; have HR2 : Hid (Bx w2 (w1.heap.size + 1) 43 #[.int .i64 0, .slice none 0 0, .slice none 0 0, .slice none 0 0, .slice none 0 0, .slice none 0 0]) := Lib.hid (((by have h := (Bx.new (w1.alloc (.cells #[] 3)) 43 #[.int .i64 0, .slice none 0 0, .slice none 0 0, .slice none 0 0, .slice none 0 0, .slice none 0 0]).drew1; rw [World.size_alloc] at h; exact h : Bx ((w1.alloc (.cells #[] 3)).alloc (.cells #[.int .i64 0, .slice none 0 0, .slice none 0 0, .slice none 0 0, .slice none 0 0, .slice none 0 0] 43)).drew (w1.heap.size + 1) 43 #[.int .i64 0, .slice none 0 0, .slice none 0 0, .slice none 0 0, .slice none 0 0, .slice none 0 0])).grown hg2 (by simp [Value.ownBlock])); have y1 : ((((((w2.setCell ⟨w1.heap.size + 1, 0, none⟩ (.int .i64 t)).setCell ⟨w1.heap.size + 1, 1, none⟩ (.slice p2 nm c2)).setCell ⟨w1.heap.size + 1, 2, none⟩ (.slice none 0 0)).setCell ⟨w1.heap.size + 1, 3, none⟩ (.slice none 0 0)).setCell ⟨w1.heap.size + 1, 4, none⟩ (.slice none 0 0)).setCell ⟨w1.heap.size + 1, 5, none⟩ (.slice none 0 0)).cell? ⟨w.heap.size, 0, none⟩ = some (.int .i64 t) := (bx_turn HX2.out (st6_turn (S := fun i => i = w1.heap.size + 1) w2 (w1.heap.size + 1) rfl (.int .i64 t) (.slice p2 nm c2) (.slice none 0 0) (.slice none 0 0) (.slice none 0 0) (.slice none 0 0)) (show ¬ (w.heap.size = w1.heap.size + 1) by omega)).cell (j := 0) rfl; obtain ⟨r0, r1, r2, r3, r4, r5⟩ := bx6 HR2.out; have f0 := HR2.out.free 0; have f1 := HR2.out.free 1; have f2 := HR2.out.free 2; have f3 := HR2.out.free 3; have f4 := HR2.out.free 4; have f5 := HR2.out.free 5; clear how2 hg2 hgb hb2)
        | (refine step_appS (E := Dl.EI) (by rfl) (.tmp 18) (.tmp 19) 25 (by rfl) j0 _ 8 Try.underlying25 ji jz0 jz1 jz2 (by rfl) (by rfl) (Dl.emptyIG (w1.alloc (.cells #[.int .i64 0, .slice none 0 0, .slice none 0 0, .slice none 0 0, .slice none 0 0, .slice none 0 0] 43)) (w1.heap.size + 1) w1.heap.size (by rw [World.size_alloc]) (by simp)).drew1 pm nm cm ms (by rfl) ((Dl.rd_in (HM.out.below HB1.out) |>.alloc (.cells #[.int .i64 0, .slice none 0 0, .slice none 0 0, .slice none 0 0, .slice none 0 0, .slice none 0 0] 43)).alloc (.cells #[] 3)).drew1 (by first | (simp; done) | (simp; omega)) (by omega) (by omega) ?_; intro p2 c2 w2 how2 hg2; rw [Nat.zero_add, List.nil_append] at how2; have hb2 := below_drewN ((box1 w1 (.cells #[.int .i64 0, .slice none 0 0, .slice none 0 0, .slice none 0 0, .slice none 0 0, .slice none 0 0] 43)).alloc (by simp) (.cells #[] 3)) 1; have hgb := Dt.grown_pre hb2 hg2; have HX2 := Lib.hid (HX1.out.grown hgb (by simp [Value.ownBlock]; try omega)); have HRb := Lib.hid (HR1.out.grown hgb (by simp [Value.ownBlock]; try omega)); have HB2 := Lib.hid (HB1.out.grown hgb HB1.out.size (fun g e => by simp only [Value.ownBlock, Option.some.injEq] at e; omega)); have HO2 := Lib.hid (Dl.ow_out how2 HMA.out); have hs2 := hgb.size; have y0 := HX2.out.cell (j := 0) rfl; have HR2 : Hid (Bx w2 (w1.heap.size) 43 #[.int .i64 0, .slice none 0 0, .slice none 0 0, .slice none 0 0, .slice none 0 0, .slice none 0 0]) := Lib.hid ((((Bx.new w1 43 #[.int .i64 0, .slice none 0 0, .slice none 0 0, .slice none 0 0, .slice none 0 0, .slice none 0 0]).alloc (.cells #[] 3)).drew1).grown hg2 (by simp [Value.ownBlock])); have y1 : ((((((w2.setCell ⟨w1.heap.size, 0, none⟩ (.int .i64 t)).setCell ⟨w1.heap.size, 1, none⟩ (.slice p2 nm c2)).setCell ⟨w1.heap.size, 2, none⟩ (.slice none 0 0)).setCell ⟨w1.heap.size, 3, none⟩ (.slice none 0 0)).setCell ⟨w1.heap.size, 4, none⟩ (.slice none 0 0)).setCell ⟨w1.heap.size, 5, none⟩ (.slice none 0 0)).cell? ⟨w.heap.size, 0, none⟩ = some (.int .i64 t) := (bx_turn HX2.out (st6_turn (S := fun i => i = w1.heap.size) w2 (w1.heap.size) rfl (.int .i64 t) (.slice p2 nm c2) (.slice none 0 0) (.slice none 0 0) (.slice none 0 0) (.slice none 0 0)) (show ¬ (w.heap.size = w1.heap.size) by omega)).cell (j := 0) rfl; obtain ⟨r0, r1, r2, r3, r4, r5⟩ := bx6 HR2.out; have f0 := HR2.out.free 0; have f1 := HR2.out.free 1; have f2 := HR2.out.free 2; have f3 := HR2.out.free 3; have f4 := HR2.out.free 4; have f5 := HR2.out.free 5; clear how2 hg2 hgb hb2))
      focus
        obtain ⟨R, hR⟩ : ∃ R, w2.heap.size = R := ⟨_, rfl⟩
        have hRR := Bx.new w2 43 #[.int .i64 t, .slice p2 nm c2, .slice none 0 0, .slice none 0 0, .slice none 0 0, .slice none 0 0]
        have hlo1 : w.heap.size + 2 ≤ w2.heap.size := by have : w1.heap.size ≤ w2.heap.size := hs2; omega
        have hO := ms_own ((HO2.out.alloc (.cells #[.int .i64 t, .slice p2 nm c2, .slice none 0 0, .slice none 0 0, .slice none 0 0, .slice none 0 0] 43)).wide (show w.heap.size + 2 ≤ w1.heap.size from hs1) (by simp) (Nat.le_refl _)) (by simp; omega) t
        have hXw := HX2.out.alloc (.cells #[.int .i64 t, .slice p2 nm c2, .slice none 0 0, .slice none 0 0, .slice none 0 0, .slice none 0 0] 43)
        have hBw := HB2.out.alloc HB2.out.size (.cells #[.int .i64 t, .slice p2 nm c2, .slice none 0 0, .slice none 0 0, .slice none 0 0, .slice none 0 0] 43)
        have hRw := HRb.out.alloc (.cells #[.int .i64 t, .slice p2 nm c2, .slice none 0 0, .slice none 0 0, .slice none 0 0, .slice none 0 0] 43)
        have hzw : w.heap.size + 2 ≤ (w2.alloc (.cells #[.int .i64 t, .slice p2 nm c2, .slice none 0 0, .slice none 0 0, .slice none 0 0, .slice none 0 0] 43)).heap.size := by simp; omega
        clear y0
        generalize w2.alloc (.cells #[.int .i64 t, .slice p2 nm c2, .slice none 0 0, .slice none 0 0, .slice none 0 0, .slice none 0 0] 43) = V at hRR hO hXw hBw hRw hzw ⊢
        rw [hR] at hRR hlo1 ⊢
        clear hR
        clear x0 x1 x2
        go_wp2_with fail
        go_meet
        exact ⟨R, c2, p2, rfl, hlo1, hzw, Lib.hid ⟨hO, hRR, hXw, hRw, hBw⟩⟩
      focus
        rw [st6_def]
        have hT := st6_turn (S := fun i => i = w1.heap.size + 1) w2 (w1.heap.size + 1) rfl (.int .i64 t) (.slice p2 nm c2) (.slice none 0 0) (.slice none 0 0) (.slice none 0 0) (.slice none 0 0)
        have hz := st6_size w2 (w1.heap.size + 1) (.int .i64 t) (.slice p2 nm c2) (.slice none 0 0) (.slice none 0 0) (.slice none 0 0) (.slice none 0 0)
        have hRR := st6_box HR2.out (.int .i64 t) (.slice p2 nm c2) (.slice none 0 0) (.slice none 0 0) (.slice none 0 0) (.slice none 0 0)
        have hlo2 : w.heap.size + 2 ≤ w2.heap.size := by have h9 : w1.heap.size ≤ w2.heap.size := hs2; omega
        have hlo1 : w.heap.size + 2 ≤ w1.heap.size + 1 := by omega
        have hms := owI_t (HO2.out.wide (show w.heap.size + 2 ≤ w1.heap.size from hs1) (Nat.le_refl _) (Nat.le_refl _)) hT (fun g e => bx_type HO2.out.1 HR2.out (by decide) e)
        have hO := ms_own hms (by rw [hz]; exact hlo2) t
        have hXw := bx_turn HX2.out hT (show ¬ (w.heap.size = w1.heap.size + 1) by omega)
        have hRw := bx_turn HRb.out hT (show ¬ (w.heap.size + 1 = w1.heap.size + 1) by omega)
        have hBw := HB2.out.trans (hT.below (B := w.heap.size) (fun i e => by omega) HB2.out.size)
        have hzw := hlo2
        rw [← hz] at hzw
        clear y0 y1 r0 r1 r2 r3 r4 r5 f0 f1 f2 f3 f4 f5 hz hT hms
        generalize st6 w2 (w1.heap.size + 1) (.int .i64 t) (.slice p2 nm c2) (.slice none 0 0) (.slice none 0 0) (.slice none 0 0) (.slice none 0 0) = V at hRR hO hXw hBw hRw hzw ⊢
        obtain ⟨R, hR⟩ : ∃ R, w1.heap.size + 1 = R := ⟨_, rfl⟩
        rw [hR] at hRR hlo1 ⊢
        clear hR hlo2
        clear x0 x1 x2
        go_wp2_with fail
        go_meet
        exact ⟨R, c2, p2, rfl, hlo1, hzw, Lib.hid ⟨hO, hRR, hXw, hRw, hBw⟩⟩
      focus
        rw [st6_def]
        have hT := st6_turn (S := fun i => i = w1.heap.size) w2 (w1.heap.size) rfl (.int .i64 t) (.slice p2 nm c2) (.slice none 0 0) (.slice none 0 0) (.slice none 0 0) (.slice none 0 0)
        have hz := st6_size w2 (w1.heap.size) (.int .i64 t) (.slice p2 nm c2) (.slice none 0 0) (.slice none 0 0) (.slice none 0 0) (.slice none 0 0)
        have hRR := st6_box HR2.out (.int .i64 t) (.slice p2 nm c2) (.slice none 0 0) (.slice none 0 0) (.slice none 0 0) (.slice none 0 0)
        have hlo2 : w.heap.size + 2 ≤ w2.heap.size := by have h9 : w1.heap.size ≤ w2.heap.size := hs2; omega
        have hlo1 : w.heap.size + 2 ≤ w1.heap.size := by omega
        have hms := owI_t (HO2.out.wide (show w.heap.size + 2 ≤ w1.heap.size from hs1) (Nat.le_refl _) (Nat.le_refl _)) hT (fun g e => bx_type HO2.out.1 HR2.out (by decide) e)
        have hO := ms_own hms (by rw [hz]; exact hlo2) t
        have hXw := bx_turn HX2.out hT (show ¬ (w.heap.size = w1.heap.size) by omega)
        have hRw := bx_turn HRb.out hT (show ¬ (w.heap.size + 1 = w1.heap.size) by omega)
        have hBw := HB2.out.trans (hT.below (B := w.heap.size) (fun i e => by omega) HB2.out.size)
        have hzw := hlo2
        rw [← hz] at hzw
        clear y0 y1 r0 r1 r2 r3 r4 r5 f0 f1 f2 f3 f4 f5 hz hT hms
        generalize st6 w2 (w1.heap.size) (.int .i64 t) (.slice p2 nm c2) (.slice none 0 0) (.slice none 0 0) (.slice none 0 0) (.slice none 0 0) = V at hRR hO hXw hBw hRw hzw ⊢
        obtain ⟨R, hR⟩ : ∃ R, w1.heap.size = R := ⟨_, rfl⟩
        rw [hR] at hRR hlo1 ⊢
        clear hR hlo2
        clear x0 x1 x2
        go_wp2_with fail
        go_meet
        exact ⟨R, c2, p2, rfl, hlo1, hzw, Lib.hid ⟨hO, hRR, hXw, hRw, hBw⟩⟩
    case rest =>
      obtain ⟨R, c2, p2, rfl, hlo1, hzw, hcut⟩ := hcut
      obtain ⟨V, rfl⟩ : ∃ V, V = wc := ⟨_, rfl⟩
      have HM0 : Hid (OwRh (w.heap.size + 2) V ⟨t, p2, nm, c2, none, 0, 0, none, 0, 0, none, 0, 0, none, 0, 0⟩ (redK ms (t, parts, salts) hide 0) [] ∧ Bx V R 43 (Ra.cells ⟨t, p2, nm, c2, none, 0, 0, none, 0, 0, none, 0, 0, none, 0, 0⟩) ∧ Turn (fun i => w.heap.size + 2 ≤ i) V V) := Lib.hid ⟨hcut.out.1, hcut.out.2.1, Turn.refl _ _⟩
      have HXw := Lib.hid hcut.out.2.2.1
      have HBw := Lib.hid hcut.out.2.2.2.2
      have HRw := Lib.hid hcut.out.2.2.2.1
      clear hcut
      go_wp2_with fail
      go_loopw [9] (fun i wr => ∃ (k : Nat) (a : Ra) (hs : List SlL.Hd), k ≤ m ∧ i = .int .i64 k ∧ Hid (OwRh (w.heap.size + 2) wr a (redK ms (t, parts, salts) hide k) hs ∧ Bx wr R 43 a.cells ∧ Turn (fun i => w.heap.size + 2 ≤ i) V wr)) (fun i _ => m - (intOf i).toNat)
      case atStart => exact ⟨0, _, _, Nat.zero_le _, rfl, HM0⟩
      case round =>
        obtain ⟨k, ⟨t', msp, msn, msc, shp, shn, shc, psp, psn, psc, ssp, ssn, ssc, dsp, dsn, dsc⟩, hs, hk, rfl, HK⟩ := hrel
        have HBr : Hid (Below w.heap.size w wr) := Lib.hid (HBw.out.trans (HK.out.2.2.below (B := w.heap.size) (fun i e => by omega) HBw.out.size))
        have HXr := Lib.hid (bx_turn HXw.out HK.out.2.2 (by omega))
        have hsr : V.heap.size ≤ wr.heap.size := HK.out.2.2.size
        obtain ⟨x0, x1, x2⟩ := bx3 HXr.out
        by_cases hlt : k < m
        · have l1 : shn ≤ 1000 := by have h := HK.out.1.sh.len; unfold redK at h; simp only [len_map] at h; omega
          have l2 : psn ≤ 1000 := by have h := HK.out.1.ps.len; unfold redK at h; simp only [len_map] at h; omega
          have l3 : ssn ≤ 1000 := by have h := HK.out.1.ss.len; unfold redK at h; simp only [len_map] at h; omega
          have l4 : dsn ≤ 1000 := by have h := HK.out.1.len; unfold redK at h; simp only [len_map] at h; omega
          obtain ⟨b, o, rfl, hb, hc⟩ := SlStr.rd_at HP.out hlt
          obtain ⟨b', o', rfl, hb', hc'⟩ := HQ.out.at_ hlt
          have hIn : inK .i64 (salts.getD k 0) := allK_getD HQ.out.all k
          have h40 := HS40.out k hlt
          have HNx := Lib.hid (redK_next ms (t, parts, salts) hide k)
          have hrp : hasB hide k = false → rowP (t, parts, salts) hide k = parts.getD k ByteArray.empty ∧ rowS (t, parts, salts) hide k = salts.getD k 0 ∧ rowD ms (t, parts, salts) hide k = [] := fun h => by unfold rowP rowS rowD; rw [h]; exact ⟨rfl, rfl, rfl⟩
          have hrh : hasB hide k = true → rowP (t, parts, salts) hide k = ByteArray.empty ∧ rowS (t, parts, salts) hide k = 0 ∧ rowD ms (t, parts, salts) hide k = eachD ms (parts.getD k ByteArray.empty) (salts.getD k 0) := fun h => by unfold rowP rowS rowD; rw [h]; exact ⟨rfl, rfl, rfl⟩
          have HRP := Lib.hid hrp
          have HRH := Lib.hid hrh
          have HRB : Hid (rowB hide k = !(hasB hide k)) := Lib.hid rfl
          clear hrp hrh
          generalize parts.getD k ByteArray.empty = x at hc h40 HRP HRH
          generalize salts.getD k 0 = y at hc' hIn HRP HRH
          have HIn := Lib.hid hIn
          have HCV : Hid (∀ w', Turn (fun i => w.heap.size + 2 ≤ i) V w' → w'.cell? ⟨w.heap.size, 1, none⟩ = some (.slice (some ⟨b, o, none⟩) m c) ∧ w'.cell? ⟨w.heap.size, 2, none⟩ = some (.slice (some ⟨b', o', none⟩) m d) ∧ w'.cell? ⟨b, o + k, none⟩ = some (.string x) ∧ w'.cell? ⟨b', o' + k, none⟩ = some (.int .i64 y)) := Lib.hid fun w' ht => ⟨(bx_turn HXw.out ht (by omega)).cell rfl, (bx_turn HXw.out ht (by omega)).cell rfl, (turn_cell ht (Nat.lt_of_lt_of_le hb HBw.out.size) (by omega)).trans ((HBw.out.cell (p := ⟨b, o + k, none⟩) hb).trans hc), (turn_cell ht (Nat.lt_of_lt_of_le hb' HBw.out.size) (by omega)).trans ((HBw.out.cell (p := ⟨b', o' + k, none⟩) hb').trans hc')⟩
          have i1 : (0 : Int) ≤ (k : Int) := by omega
          have i2 : (k : Int) < (m : Int) := by omega
          clear hIn hc hc'
          obtain ⟨bh, hbh⟩ : ∃ bh, hasB hide k = bh := ⟨_, rfl⟩
          have HBH := Lib.hid hbh
          rw [hbh] at HRP HRH HRB
          clear hbh
          have HHV : Hid (∀ w', Turn (fun i => w.heap.size + 2 ≤ i) V w' → Rd .i64 w' ph nh hide) := Lib.hid fun w' ht => HH.out.below (HBw.out.trans (ht.below (B := w.heap.size) (fun i e => by omega) HBw.out.size))
          have hE0 := Dt.emptyI wr wr.heap.size (Nat.le_refl _)
          have hbE := box1 wr (.cells #[] 3)
          have HS0' : Hid (SMid (w.heap.size + 2) R ⟨t', msp, msn, msc, shp, shn, shc, psp, psn, psc, ssp, ssn, ssc, dsp, dsn, dsc⟩ (redK ms (t, parts, salts) hide k) hs (some ⟨wr.heap.size, 0, none⟩) 0 0 [] V (wr.alloc (.cells #[] 3))) := Lib.hid (SMid.make HK.out.1 HK.out.2.1 HK.out.2.2 (by omega) hbE hE0)
          have hsE : wr.heap.size ≤ (wr.alloc (.cells #[] 3)).heap.size := by simp
          have HOE := Lib.hid hE0
          have HBE := Lib.hid hbE
          clear hE0 hbE
          go_wp2_with fail
          clear x0 x1 x2
          generalize wr.alloc (.cells #[] 3) = W at HS0' hsE HOE HBE ⊢
          refine (l7Has_any ph nh ch hide k _ (HHV.out _ HS0'.out.v)).mono ?_
          rintro e wq ⟨rfl, rfl⟩
          rw [HBH.out]
          go_upto_if 32 with (fail)
          go_cut [10] from 33 to 86 (fun s10 wx => ∃ (px : Option Addr) (nx cx g4 c4 g5 c5 : Nat), s10 = .slice px nx cx ∧ wr.heap.size ≤ wx.heap.size ∧ Hid (SMid (w.heap.size + 2) R ⟨t', msp, msn, msc, shp, shn, shc, (some ⟨g4, 0, none⟩), (psn + 1), c4, (some ⟨g5, 0, none⟩), (ssn + 1), c5, dsp, dsn, dsc⟩ ⟨(redK ms (t, parts, salts) hide k).t, (redK ms (t, parts, salts) hide k).ms, (redK ms (t, parts, salts) hide k).sh, (redK ms (t, parts, salts) hide k).ps ++ [rowP (t, parts, salts) hide k], (redK ms (t, parts, salts) hide k).ss ++ [rowS (t, parts, salts) hide k], (redK ms (t, parts, salts) hide k).ds⟩ hs px nx cx (rowD ms (t, parts, salts) hide k) V wx))
          case first =>
            rcases bh with _ | _
            · have hq := HRP.out rfl
              have HQ1 := Lib.hid hq.1
              have HQ2 := Lib.hid hq.2.1
              have HQ3 := Lib.hid hq.2.2
              clear hq HRP HRH
              have HS0 : Hid (SMid (w.heap.size + 2) R ⟨t', msp, msn, msc, shp, shn, shc, psp, psn, psc, ssp, ssn, ssc, dsp, dsn, dsc⟩ (redK ms (t, parts, salts) hide k) hs (some ⟨wr.heap.size, 0, none⟩) 0 0 (rowD ms (t, parts, salts) hide k) V W) := Lib.hid (by rw [HQ3.out]; exact HS0'.out)
              have HX0 : Hid (Bx W R 43 #[.int .i64 t', .slice msp msn msc, .slice shp shn shc, .slice psp psn psc, .slice ssp ssn ssc, .slice dsp dsn dsc]) := Lib.hid HS0.out.x
              clear HS0'
              go_wp2_with fail
              go_cut [75] from 67 to 76 (fun _ wx => ∃ (g4 c4 : Nat), W.heap.size ≤ wx.heap.size ∧ Hid (SMid (w.heap.size + 2) R ⟨t', msp, msn, msc, shp, shn, shc, (some ⟨g4, 0, none⟩), (psn + 1), c4, ssp, ssn, ssc, dsp, dsn, dsc⟩ ⟨(redK ms (t, parts, salts) hide k).t, (redK ms (t, parts, salts) hide k).ms, (redK ms (t, parts, salts) hide k).sh, (redK ms (t, parts, salts) hide k).ps ++ [rowP (t, parts, salts) hide k], (redK ms (t, parts, salts) hide k).ss, (redK ms (t, parts, salts) hide k).ds⟩ hs (some ⟨wr.heap.size, 0, none⟩) 0 0 (rowD ms (t, parts, salts) hide k) V wx))
              case first =>
                obtain ⟨u1, u2, u3, u4⟩ := HCV.out _ HS0.out.v
                obtain ⟨x0, x1, x2, x3, x4, x5⟩ := bx6 HX0.out
                have f3 := HX0.out.free 3
                have z3 := (HX0.out.alloc (.cells #[.string x] 9)).drew1.cell (j := 3) rfl
                go_region_law (first
                  | (refine step_appL (E := SlStr.E) rfl (.tmp 68) (.tmp 74) 24 rfl i0 _ 16 Try.underlying24 hi hz0 hz1 hz2 rfl rfl ((HS0.out.below (below_drewN (box1 W (.cells #[.string x] 9)) 1)).o.ps) W.heap.size 1 x rfl (one_rd SlStr.E 9 W x #[.string x] rfl).drew1 (by first | (simp; done) | (simp; omega)) (by omega) (by omega) ?_; intro g4 c4 w4 ho1 hg1 hat; have hb1 := below_drewN (box1 W (.cells #[.string x] 9)) 1; have hS1 := (HS0.out.below hb1).stepP hlo1 hg1 ho1; have hx2 := (HX0.out.below hb1).grown hg1 (fun e => bx_type (HS0.out.below hb1).o.ps.1 (HX0.out.below hb1) (by decide) e.symm rfl); have fa4 := hx2.free 3; have ca4 := hx2.cell (j := 3) rfl; have hs4a : W.heap.size ≤ w4.heap.size := Nat.le_trans hb1.size hg1.size; have HS4 := Lib.hid hS1; clear ho1 hg1 hb1 hx2 hS1 hat))
                all_goals
                  have hs4 : W.heap.size ≤ (w4.setCell ⟨R, 3, none⟩ (.slice (some ⟨g4, 0, none⟩) (psn + 1) c4)).heap.size := by simpa [World.setCell] using hs4a
                  go_wp2_with fail
                  go_meet
                  exact ⟨g4, c4, hs4, Lib.hid (by rw [HQ1.out]; exact HS4.out)⟩
              case rest =>
                obtain ⟨g4, c4, hs4, HS4⟩ := hcut
                obtain ⟨W4, rfl⟩ : ∃ W4, W4 = wc := ⟨_, rfl⟩
                have HX4 : Hid (Bx W4 R 43 #[.int .i64 t', .slice msp msn msc, .slice shp shn shc, .slice (some ⟨g4, 0, none⟩) (psn + 1) c4, .slice ssp ssn ssc, .slice dsp dsn dsc]) := Lib.hid HS4.out.x
                have HI5 : Hid (inK .i64 y) := HIn
                obtain ⟨u1, u2, u3, u4⟩ := HCV.out _ HS4.out.v
                obtain ⟨x0, x1, x2, x3, x4, x5⟩ := bx6 HX4.out
                have f4 := HX4.out.free 4
                have z4 := (HX4.out.alloc (.cells #[.int .i64 y] 3)).drew1.cell (j := 4) rfl
                go_wp2_with fail
                go_region_law (first
                  | (refine step_appL (E := Dl.EI) rfl (.tmp 78) (.tmp 84) 25 rfl j0 _ 8 Try.underlying25 ji jz0 jz1 jz2 rfl rfl (Dl.ow_in ((HS4.out.below (below_drewN (box1 W4 (.cells #[.int .i64 y] 3)) 1)).o.ss)) W4.heap.size 1 y rfl (one_rd Dl.EI 3 W4 y #[.int .i64 y] rfl).drew1 (by first | (simp; done) | (simp; omega)) (by omega) (by omega) ?_; intro g5 c5 w5 ho1 hg1 hat; have hb1 := below_drewN (box1 W4 (.cells #[.int .i64 y] 3)) 1; have ho2 := Dl.ow_out ho1 (allK_append (HS4.out.o.ss).all (fun q hq => by rw [List.mem_singleton] at hq; rw [hq]; exact HI5.out)); have hS1 := (HS4.out.below hb1).stepS hlo1 hg1 ho2 hat; have hx2 := (HX4.out.below hb1).grown hg1 (fun e => bx_type (HS4.out.below hb1).o.ss.1 (HX4.out.below hb1) (by decide) e.symm rfl); have fa5 := hx2.free 4; have ca5 := hx2.cell (j := 4) rfl; have hs5a : W4.heap.size ≤ w5.heap.size := Nat.le_trans hb1.size hg1.size; have HS5 := Lib.hid hS1; clear ho1 hg1 hb1 hx2 hS1 hat  ho2))
                all_goals
                  have hs5 : W4.heap.size ≤ (w5.setCell ⟨R, 4, none⟩ (.slice (some ⟨g5, 0, none⟩) (ssn + 1) c5)).heap.size := by simpa [World.setCell] using hs5a
                  go_wp2_with fail
                  go_meet
                  exact ⟨_, _, _, g4, c4, g5, c5, rfl, by omega, Lib.hid (by rw [HQ2.out]; exact HS5.out)⟩
            · have hq := HRH.out rfl
              have HQ1 := Lib.hid hq.1
              have HQ2 := Lib.hid hq.2.1
              have HQ3 := Lib.hid hq.2.2
              clear hq HRP HRH
              have HTV : Hid (Turn (fun i => w.heap.size + 2 ≤ i) V W) := Lib.hid HS0'.out.v
              have HMV : Hid (∀ w', Below W.heap.size W w' → Rd .i64 w' pm nm ms) := Lib.hid fun w' hb9 => HM.out.below ((HBw.out.trans (HTV.out.below (B := w.heap.size) (fun i e => by omega) HBw.out.size)).trans (hb9.mono (by have := HBr.out.size; omega)))
              have HL0 : Hid (Ow .i64 3 W wr.heap.size W.heap.size (some ⟨wr.heap.size, 0, none⟩) 0 0 (eachK ms x y 0) ∧ Below wr.heap.size wr W) := Lib.hid ⟨HOE.out, HBE.out⟩
              obtain ⟨wo, rfl⟩ : ∃ wo, wo = wr := ⟨_, rfl⟩
              have hlw : w.heap.size + 2 ≤ wo.heap.size := by omega
              go_wp2_with fail
              go_loopw [10, 11] (fun v i wq => ∃ (j n' c' : Nat) (p' : Option Addr), j ≤ nm ∧ i = .int .i64 j ∧ v = .slice p' n' c' ∧ Hid (Ow .i64 3 wq wo.heap.size wq.heap.size p' n' c' (eachK ms x y j) ∧ Below wo.heap.size wo wq)) (fun _ i _ => nm - (intOf i).toNat)
              case atStart => exact ⟨0, _, _, _, Nat.zero_le _, rfl, rfl, HL0⟩
              case round =>
                obtain ⟨j, n', c', p', hj, rfl, rfl, HJ⟩ := hrel
                obtain rfl : j = n' := by rw [← HJ.out.1.len, eachK_len]
                have HVr : Hid (Turn (fun i => w.heap.size + 2 ≤ i) V wr) := Lib.hid (HK.out.2.2.trans ((Turn.of_from HJ.out.2).mono fun i e => by omega))
                have hsj : wo.heap.size ≤ wr.heap.size := HJ.out.2.size
                by_cases hlj : j < nm
                · have HMw : Hid (Rd .i64 wr pm nm ms) := Lib.hid (HM.out.below (HBw.out.trans (HVr.out.below (B := w.heap.size) (fun i e => by omega) HBw.out.size)))
                  obtain ⟨b6, o6, rfl, hb6, hc6⟩ := HM.out.at_ hlj
                  have HNj := Lib.hid (eachK_next ms x y j)
                  have HIz : Hid (inK .i64 (ms.getD j 0)) := Lib.hid (allK_getD HM.out.all j)
                  have HC6 : Hid (∀ w', Below wo.heap.size wr w' → w'.cell? ⟨w.heap.size, 1, none⟩ = some (.slice (some ⟨b, o, none⟩) m c) ∧ w'.cell? ⟨w.heap.size, 2, none⟩ = some (.slice (some ⟨b', o', none⟩) m d) ∧ w'.cell? ⟨b, o + k, none⟩ = some (.string x) ∧ w'.cell? ⟨b', o' + k, none⟩ = some (.int .i64 y) ∧ w'.cell? ⟨b6, o6 + j, none⟩ = some (.int .i64 (ms.getD j 0))) := Lib.hid fun w' hb9 => by
                    have ht := HVr.out.trans ((Turn.of_from hb9).mono fun i e => by omega)
                    obtain ⟨v1, v2, v3, v4⟩ := HCV.out w' ht
                    exact ⟨v1, v2, v3, v4, (turn_cell ht (Nat.lt_of_lt_of_le hb6 HBw.out.size) (by omega)).trans ((HBw.out.cell (p := ⟨b6, o6 + j, none⟩) hb6).trans hc6)⟩
                  clear hc6
                  generalize ms.getD j 0 = z at HNj HIz HC6
                  obtain ⟨pd1, pd2⟩ := partD_in z x y
                  obtain ⟨u1, u2, u3, u4, u5⟩ := HC6.out wr (Below.refl _ _)
                  have i3 : (0 : Int) ≤ (j : Int) := by omega
                  have i4 : (j : Int) < (nm : Int) := by omega
                  go_wp2_with fail
                  go_region_held3 (fun w' => w'.cell? ⟨w.heap.size, 1, none⟩ = some (.slice (some ⟨b, o, none⟩) m c) ∧ w'.cell? ⟨w.heap.size, 2, none⟩ = some (.slice (some ⟨b', o', none⟩) m d) ∧ w'.cell? ⟨b, o + k, none⟩ = some (.string x) ∧ w'.cell? ⟨b', o' + k, none⟩ = some (.int .i64 y) ∧ w'.cell? ⟨b6, o6 + j, none⟩ = some (.int .i64 z)) (first | exact HC6.out _ HB4.out | exact HC6.out _ (HB3.out.alloc hs3 _) | exact HC6.out _ HB3.out | exact HC6.out _ (below_drewN (Below.refl _ _) 1) | go_keep) (first
                    | (go_at_call 65; refine (spec_part_any z x y _ h40 HIz.out HIn.out).mono ?_; rintro e w2 ⟨rfl, hb2'⟩; have HB3 := Lib.hid ((below_on (below_drewN (Below.refl wr.heap.size wr) 1) hb2').mono hsj); have hs3 : wo.heap.size ≤ w2.heap.size := Nat.le_trans hsj hb2'.size; have HO3 := Lib.hid ((HJ.out.1.drewN 1).below hb2'); clear hb2')
                    | (refine Ds.step_appI rfl (.tmp 39) (.tmp 55) 25 rfl j0 _ 8 Try.underlying25 ji jz0 jz1 jz2 rfl rfl (HO3.out.alloc _) w2.heap.size 1 (partD z x y) rfl (by go_simp) ⟨by omega, by omega⟩ (Nat.le_trans hs3 (by simp)) (by omega) (by omega) ?_; intro p3 c3 w3 how3 hg3; have HO4 := Lib.hid how3; have HB4 := Lib.hid ((HB3.out.alloc hs3 _).trans ((HO3.out.alloc _).below_row hg3 (Nat.le_trans hs3 (by simp)))); clear how3 hg3))
                  go_wp2_with fail
                  go_roundw
                  case rel => exact ⟨j + 1, _, _, _, by omega, by go_num, rfl, Lib.hid ⟨by rw [HNj.out]; exact HO4.out, HJ.out.2.trans HB4.out⟩⟩
                  case measure => simp [intOf]; omega
                · obtain rfl : j = nm := by omega
                  have HE := Lib.hid (eachK_all ms x y j (HM.out.len))
                  have HS0 : Hid (SMid (w.heap.size + 2) R ⟨t', msp, msn, msc, shp, shn, shc, psp, psn, psc, ssp, ssn, ssc, dsp, dsn, dsc⟩ (redK ms (t, parts, salts) hide k) hs p' j c' (rowD ms (t, parts, salts) hide k) V wr) := Lib.hid (by
                    rw [HQ3.out, ← HE.out]
                    exact SMid.make2 HK.out.1 HK.out.2.1 HK.out.2.2 hlw HJ.out.2 HJ.out.1)
                  obtain ⟨W, rfl⟩ : ∃ W, W = wr := ⟨_, rfl⟩
                  have HX0 : Hid (Bx W R 43 #[.int .i64 t', .slice msp msn msc, .slice shp shn shc, .slice psp psn psc, .slice ssp ssn ssc, .slice dsp dsn dsc]) := Lib.hid HS0.out.x
                  obtain ⟨x0, x1, x2, x3, x4, x5⟩ := bx6 HX0.out
                  have f3 := HX0.out.free 3
                  have HI5 : Hid (inK .i64 0) := Lib.hid ⟨by omega, by omega⟩
                  go_wp2_with (first
                    | (at_builtin; refine wpList_appL (E := SlStr.E) rfl (.tmp 58) (.tmp 59) 24 rfl i0 _ 16 Try.underlying24 hi hz0 hz1 hz2 rfl rfl ((HS0.out.below (box1 W (.cells #[.string ⟨#[]⟩] 9))).o.ps) W.heap.size 1 ⟨#[]⟩ rfl (one_rd SlStr.E 9 W ⟨#[]⟩ #[.string ⟨#[]⟩] rfl) (by first | (simp; done) | (simp; omega)) (by omega) (by omega) ?_; intro g4 c4 w4 ho1 hg1 hat; have hb1 := box1 W (.cells #[.string ⟨#[]⟩] 9); have hS1 := (HS0.out.below hb1).stepP hlo1 hg1 ho1; have hx2 := (HX0.out.below hb1).grown hg1 (fun e => bx_type (HS0.out.below hb1).o.ps.1 (HX0.out.below hb1) (by decide) e.symm rfl); have fa4 := hx2.free 3; have ca4 := hx2.cell (j := 3) rfl; have hs4a : W.heap.size ≤ w4.heap.size := Nat.le_trans hb1.size hg1.size; have HS4 := Lib.hid hS1; clear ho1 hg1 hb1 hx2 hS1 hat; have HS4s := Lib.hid HS4.out; have hz4 : (w4.setCell ⟨R, 3, none⟩ (.slice (some ⟨g4, 0, none⟩) (psn + 1) c4)).heap.size = w4.heap.size := (by simp [World.setCell]); have HX4 : Hid (Bx (w4.setCell ⟨R, 3, none⟩ (.slice (some ⟨g4, 0, none⟩) (psn + 1) c4)) R 43 #[.int .i64 t', .slice msp msn msc, .slice shp shn shc, .slice (some ⟨g4, 0, none⟩) (psn + 1) c4, .slice ssp ssn ssc, .slice dsp dsn dsc]) := Lib.hid HS4.out.x; clear x0 x1 x2 x3 x4 x5 f3; obtain ⟨x0, x1, x2, x3, x4, x5⟩ := bx6 HX4.out; have f4 := HX4.out.free 4)
                    | (at_builtin; refine wpList_appL (E := Dl.EI) rfl (.tmp 63) (.tmp 64) 25 rfl j0 _ 8 Try.underlying25 ji jz0 jz1 jz2 rfl rfl (Dl.ow_in ((HS4.out.below (box1 (w4.setCell ⟨R, 3, none⟩ (.slice (some ⟨g4, 0, none⟩) (psn + 1) c4)) (.cells #[.int .i64 0] 3))).o.ss)) w4.heap.size 1 0 rfl (by have h := one_rd Dl.EI 3 (w4.setCell ⟨R, 3, none⟩ (.slice (some ⟨g4, 0, none⟩) (psn + 1) c4)) 0 #[.int .i64 0] rfl; rw [hz4] at h; exact h) (by rw [World.size_alloc, hz4]; omega) (by omega) (by omega) ?_; intro g5 c5 w5 ho1 hg1 hat; have hb1 := box1 (w4.setCell ⟨R, 3, none⟩ (.slice (some ⟨g4, 0, none⟩) (psn + 1) c4)) (.cells #[.int .i64 0] 3); have ho2 := Dl.ow_out ho1 (allK_append (HS4.out.o.ss).all (fun q hq => by rw [List.mem_singleton] at hq; rw [hq]; exact HI5.out)); have hS1 := (HS4.out.below hb1).stepS hlo1 hg1 ho2 hat; have hx2 := (HX4.out.below hb1).grown hg1 (fun e => bx_type (HS4.out.below hb1).o.ss.1 (HX4.out.below hb1) (by decide) e.symm rfl); have fa5 := hx2.free 4; have ca5 := hx2.cell (j := 4) rfl; have hs5a : (w4.setCell ⟨R, 3, none⟩ (.slice (some ⟨g4, 0, none⟩) (psn + 1) c4)).heap.size ≤ w5.heap.size := Nat.le_trans hb1.size hg1.size; have HS5 := Lib.hid hS1; clear ho1 hg1 hb1 hx2 hS1 hat  ho2; have HS5s := Lib.hid HS5.out))
                  go_meet
                  exact ⟨p', j, c', g4, c4, g5, c5, rfl, (by have h1 := hs5a; rw [hz4] at h1; simp [World.setCell]; omega), Lib.hid (by rw [HQ1.out, HQ2.out]; exact HS5s.out)⟩
          case rest =>
            obtain ⟨px, nx, cx, g4, c4, g5, c5, rfl, hsx, HS6⟩ := hcut
            obtain ⟨W5, rfl⟩ : ∃ W5, W5 = wc := ⟨_, rfl⟩
            have HX5 : Hid (Bx W5 R 43 #[.int .i64 t', .slice msp msn msc, .slice shp shn shc, .slice (some ⟨g4, 0, none⟩) (psn + 1) c4, .slice (some ⟨g5, 0, none⟩) (ssn + 1) c5, .slice dsp dsn dsc]) := Lib.hid HS6.out.x
            obtain ⟨x0, x1, x2, x3, x4, x5⟩ := bx6 HX5.out
            have f2 := HX5.out.free 2
            have z2 := (HX5.out.alloc (.cells #[.bool (!bh)] 4)).drew1.cell (j := 2) rfl
            clear HOE HBE HS0'
            go_wp2_with fail
            go_region_law (first
              | (go_simp; go_at_call 64; refine (l7Has_any ph nh ch hide k _ (HHV.out W5.drew (HS6.out.v.drewN 1))).mono ?_; rintro e wq ⟨rfl, rfl⟩; rw [HBH.out])
              | (refine step_appL (E := SlBool.E) rfl (.tmp 88) (.tmp 93) 40 rfl e0 _ 1 Try.underlying40 ei ez0 ez1 ez2 rfl rfl ((HS6.out.below (below_drewN (box1 W5 (.cells #[.bool (!bh)] 4)) 1)).o.sh) W5.heap.size 1 (!bh) rfl (one_rd SlBool.E 4 W5 (!bh) #[.bool (!bh)] rfl).drew1 (by first | (simp; done) | (simp; omega)) (by omega) (by omega) ?_; intro g6 c6 w6 ho1 hg1 hat; have hb1 := below_drewN (box1 W5 (.cells #[.bool (!bh)] 4)) 1; have hS1 := (HS6.out.below hb1).stepH hlo1 hg1 ho1; have hx2 := (HX5.out.below hb1).grown hg1 (fun e => bx_type (HS6.out.below hb1).o.sh.1 (HX5.out.below hb1) (by decide) e.symm rfl); have fa6 := hx2.free 2; have ca6 := hx2.cell (j := 2) rfl; have hs6a : W5.heap.size ≤ w6.heap.size := Nat.le_trans hb1.size hg1.size; have HS7 := Lib.hid hS1; clear ho1 hg1 hb1 hx2 hS1 hat))
            all_goals
              have hs6 : W5.heap.size ≤ (w6.setCell ⟨R, 2, none⟩ (.slice (some ⟨g6, 0, none⟩) (shn + 1) c6)).heap.size := by simpa [World.setCell] using hs6a
              obtain ⟨W6, hW6⟩ : ∃ W6, w6.setCell ⟨R, 2, none⟩ (.slice (some ⟨g6, 0, none⟩) (shn + 1) c6) = W6 := ⟨_, rfl⟩
              rw [hW6] at HS7 hs6 ⊢
              clear hW6 fa6 ca6 x0 x1 x2 x3 x4 x5 f2 z2
              have HX6 : Hid (Bx W6 R 43 #[.int .i64 t', .slice msp msn msc, .slice (some ⟨g6, 0, none⟩) (shn + 1) c6, .slice (some ⟨g4, 0, none⟩) (psn + 1) c4, .slice (some ⟨g5, 0, none⟩) (ssn + 1) c5, .slice dsp dsn dsc]) := Lib.hid HS7.out.x
              obtain ⟨x0, x1, x2, x3, x4, x5⟩ := bx6 HX6.out
              have f5 := HX6.out.free 5
              go_wp2_with (at_builtin; refine wpList_appL (E := SlL.E) rfl (.tmp 97) (.tmp 99) 41 rfl l0 _ 24 Try.underlying41 li lz0 lz1 lz2 rfl rfl (HS7.out.below (box1 W6 (.cells #[.slice px nx cx] 25))).o.ds W6.heap.size 1 (px, nx, cx) rfl (one_rd SlL.E 25 W6 (px, nx, cx) #[.slice px nx cx] rfl) (by simp; omega) (by omega) (by omega) ?_; intro g7 c7 w7 ho1 hg1 _; have hb1 := box1 W6 (.cells #[.slice px nx cx] 25); have hx2 := (HX6.out.below hb1).grown hg1 (fun e => bx_type (HS7.out.below hb1).o.ds.1 (HX6.out.below hb1) (by decide) e.symm rfl); have fa7 := hx2.free 5; have ca7 := hx2.cell (j := 5) rfl; have HN7 := Lib.hid ((HS7.out.below hb1).stepD hlo1 hg1 ho1); clear ho1 hg1 hb1 hx2)
              go_roundw
              case rel => exact ⟨k + 1, _, _, by omega, by go_num, Lib.hid ⟨by rw [← HNx.out, HRB.out]; exact HN7.out.1, HN7.out.2.1, HN7.out.2.2⟩⟩
              case measure => simp [intOf]; omega
        · obtain rfl : k = m := by omega

          have HRr := Lib.hid (bx_turn HRw.out HK.out.2.2 (show ¬ (w.heap.size + 2 ≤ w.heap.size + 1) by omega))
          have HX5 : Hid (Bx wr R 43 #[.int .i64 t', .slice msp msn msc, .slice shp shn shc, .slice psp psn psc, .slice ssp ssn ssc, .slice dsp dsn dsc]) := Lib.hid HK.out.2.1
          have hr6 := HRr.out
          have hx6 := st6_box hr6 (.int .i64 t') (.slice msp msn msc) (.slice shp shn shc) (.slice psp psn psc) (.slice ssp ssn ssc) (.slice dsp dsn dsc)
          have ho6 := st6_own HK.out.1 hr6 (.int .i64 t') (.slice msp msn msc) (.slice shp shn shc) (.slice psp psn psc) (.slice ssp ssn ssc) (.slice dsp dsn dsc)
          have hB6 := HBr.out.trans ((st6_turn (S := fun i => i = w.heap.size + 1) wr (w.heap.size + 1) rfl (.int .i64 t') (.slice msp msn msc) (.slice shp shn shc) (.slice psp psn psc) (.slice ssp ssn ssc) (.slice dsp dsn dsc)).below (B := w.heap.size) (fun i e => by omega) HBr.out.size)
          obtain ⟨x0, x1, x2, x3, x4, x5⟩ := bx6 HX5.out
          obtain ⟨r0, r1, r2, r3, r4, r5⟩ := bx6 hr6
          have f0 := hr6.free 0
          have f1 := hr6.free 1
          have f2 := hr6.free 2
          have f3 := hr6.free 3
          have f4 := hr6.free 4
          have f5 := hr6.free 5
          have HX6 := Lib.hid hx6
          have HO6 := Lib.hid ho6
          have HB6 := Lib.hid hB6
          clear hr6 hx6 ho6 hB6
          go_wp2_with fail
          rw [st6_def]
          generalize st6 wr (w.heap.size + 1) (.int .i64 t') (.slice msp msn msc) (.slice shp shn shc) (.slice psp psn psc) (.slice ssp ssn ssc) (.slice dsp dsn dsc) = U at HX6 HO6 HB6 ⊢
          obtain ⟨q0, q1, q2, q3, q4, q5⟩ := bx6 HX6.out
          exact bodyPost_ret (v := .tuple #[.agg #[.int .i64 t', .slice msp msn msc, .slice shp shn shc, .slice psp psn psc, .slice ssp ssn ssc, .slice dsp dsn dsc], .bool true]) (by simp [results, Try.results20, go_sem, q0, q1, q2, q3, q4, q5]) rfl ⟨_, _, rfl, by rw [HD.out, show (((t, parts, salts) : Dc).2.1.length) = k from HL.out]; exact HO6.out.lo' (by omega), HB6.out⟩
end Go.Proofs.Ytjlckfbacphblaa.Od
