/- Contract of addPart: one part more in a redacted document of the call's own. -/
import Derived.Test.YtjlckfbacphblaaOr
import Derived.Test.YtjlckfbacphblaaRi
namespace Go.Proofs.Ytjlckfbacphblaa.Rr
open Go.ChangeShapes Go.WideShapes Go.ChangeAt Go.RowKit Sl St Tn Dk SlRed

theorem turn_grown {S : Nat → Prop} {w w1 w2 : World} {r : Option Nat} (h : Turn S w w1) (hg : w1.grownBy w2 r) (hr : ∀ g, r = some g → S g) : Turn S w w2 := h.trans ((Turn.of_grown hg).mono fun i e => hr i e)
def push (D : Rc) (b : Bool) (x : ByteArray) (y : Int) (ys : List Int) : Rc := { D with sh := D.sh ++ [b], ps := D.ps ++ [x], ss := D.ss ++ [y], ds := D.ds ++ [ys] }
/-- The call ends; the document in the box R has grown. -/
def Added (lo R : Nat) (D : Rc) (w : World) (e : Ending) (w' : World) : Prop := (∃ v, e = .returned v) ∧ ∃ (a : Ra) (hs : List SlL.Hd), OwRh lo w' a D hs ∧ Bx w' R 43 a.cells ∧ Turn (fun i => i = R ∨ lo ≤ i) w w'
theorem own_far {lo : Nat} {w : World} {α : Type} {E : En α} {T : TypeId} {p : Option Addr} {n c : Nat} {xs : List α} (h : OwS E T w lo w.heap.size p n c xs) : ∀ g, own p n c = some g → lo ≤ g := fun g e => (h.far g e).1
set_option maxRecDepth 100000 in
set_option maxHeartbeats 8000000 in
theorem addPart_any (lo R : Nat) (a : Ra) (D : Rc) (hs : List SlL.Hd) (q pd : Option Addr) (nd cd : Nat) (b : Bool) (x : ByteArray) (y : Int) (ys : List Int) (w : World)
    (hO : OwRh lo w a D hs) (hX : Bx w R 43 a.cells) (hlo : lo ≤ w.heap.size) (hn1 : a.shn ≤ 1000) (hn2 : a.psn ≤ 1000) (hn3 : a.ssn ≤ 1000) (hn4 : a.dsn ≤ 1000) (hy : inK .i64 y)
    (hk : Ow .i64 3 w lo w.heap.size pd nd cd ys) (k1 : ∀ g, own pd nd cd = some g → own a.msp a.msn a.msc ≠ some g ∧ own a.ssp a.ssn a.ssc ≠ some g ∧ ∀ (i : Nat) (x : SlL.Hd), hs[i]? = some x → (SlL.hv x).ownBlock ≠ some g)
    (hq : (q = none ∧ b = false ∧ x = ByteArray.empty ∧ y = 0) ∨ (∃ g, q = some ⟨g, 0, none⟩ ∧ b = true ∧ Bx w g 91 #[.string x, .int .i64 y])) :
    Calls Try.prog 61 #[.pointer (some ⟨R, 0, none⟩), .pointer q, .slice pd nd cd] w (Added lo R (push D b x y ys) w) := by
  obtain ⟨b0, bi, bz0, bz1, bz2⟩ := info_parts SlBool.info
  obtain ⟨l0, li, lz0, lz1, lz2⟩ := info_parts SlL.info
  obtain ⟨i0, hi, hz0, hz1, hz2⟩ := info_parts SlStr.info
  obtain ⟨j0, ji, jz0, jz1, jz2⟩ := info_parts SlI.info
  obtain ⟨t, msp, msn, msc, shp, shn, shc, psp, psn, psc, ssp, ssn, ssc, dsp, dsn, dsc⟩ := a
  dsimp only at hn1 hn2 hn3 hn4 k1
  simp only [Ra.cells] at hX
  have HO := Lib.hid hO
  have HX := Lib.hid hX
  have HK := Lib.hid hk
  have HK1 := Lib.hid k1
  have HIY := Lib.hid hy
  have hRlt := hX.lt
  have hQ := Lib.hid hq
  have HT0 := Lib.hid (Turn.refl (fun i => i = R ∨ lo ≤ i) w)
  clear hO hX hk k1 hy hq
  rcases hQ.out with ⟨rfl, rfl, hxe, hye⟩ | ⟨g, rfl, rfl, hgb⟩
  focus
    have HXE := Lib.hid hxe
    have HYE := Lib.hid hye
    clear hxe hye
    clear hQ
    obtain ⟨x0, x1, x2, x3, x4, x5⟩ := bx6 HX.out
    have f2 := HX.out.free 2
    go_enter Try.func61, Try.ntmps61
    go_wp2_with (first
      | (at_builtin; refine wpList_appL rfl (.tmp 10) (.tmp 13) 40 rfl b0 _ 1 Try.underlying40 bi bz0 bz1 bz2 rfl rfl (HO.out.below (box1 w (.cells #[.bool false] 4))).sh w.heap.size 1 false rfl (one_rd SlBool.E 4 w false #[.bool false] rfl) (by simp; omega) (by omega) (by omega) ?_; intro g1 c1 w1 ho1 hg1 _; have hb1 := box1 w (.cells #[.bool false] 4); have ho2 := (HO.out.below hb1).growH hg1 ho1; have hx2 := (HX.out.below hb1).grown hg1 (fun e => bx_type (HO.out.below hb1).sh.1 (HX.out.below hb1) (by decide) e.symm rfl); have ht2 := turn_grown (HT0.out.then hb1) hg1 (fun g e => Or.inr (own_far (HO.out.below hb1).sh g e)); have hs2 := Nat.le_trans hb1.size hg1.size; have hk2 := owI_t (HK.out.below hb1 |>.wide (Nat.le_refl _) hb1.size (Nat.le_refl _)) (Turn.of_grown hg1) (fun g e e2 => type_ne (own_type (HK.out.below hb1).1 e) (own_type (HO.out.below hb1).sh.1 e2) (by decide)); have f2a := hx2.free 2; have c2a := hx2.cell (j := 2) rfl; have HO1 := Lib.hid (ho2.store hx2 (by decide) (by decide) (by decide) (by decide) 2 (.slice (some ⟨g1, 0, none⟩) (shn + 1) c1)); have hx3 := hx2.set_ 2 (.slice (some ⟨g1, 0, none⟩) (shn + 1) c1); have HT1 := Lib.hid (ht2.set (g := R) (j := 2) (Or.inl rfl) (.slice (some ⟨g1, 0, none⟩) (shn + 1) c1)); have HK2 := Lib.hid (owI_t hk2 ((Turn.refl (fun i => i = R) w1).set rfl (.slice (some ⟨g1, 0, none⟩) (shn + 1) c1) : Turn (fun i => i = R) w1 (w1.setCell ⟨R, 2, none⟩ (.slice (some ⟨g1, 0, none⟩) (shn + 1) c1))) (fun g e => bx_type hk2.1 hx2 (by decide) e)); have hsz1 : (w1.setCell ⟨R, 2, none⟩ (.slice (some ⟨g1, 0, none⟩) (shn + 1) c1)).heap.size = w1.heap.size := (by simp [World.setCell]); have HX1 := Lib.hid hx3; clear ho1 hg1 hb1 ho2 hx2 ht2 hk2 hx3 x0 x1 x2 x3 x4 x5 f2; obtain ⟨x0, x1, x2, x3, x4, x5⟩ := bx6 HX1.out; have f5 := HX1.out.free 5)
      | (at_builtin; refine wpList_appL rfl (.tmp 21) (.tmp 23) 41 rfl l0 _ 24 Try.underlying41 li lz0 lz1 lz2 rfl rfl (HO1.out.below (box1 (w1.setCell ⟨R, 2, none⟩ (.slice (some ⟨g1, 0, none⟩) (shn + 1) c1)) (.cells #[.slice pd nd cd] 25))).ds w1.heap.size 1 (pd, nd, cd) rfl (by have h := one_rd SlL.E 25 (w1.setCell ⟨R, 2, none⟩ (.slice (some ⟨g1, 0, none⟩) (shn + 1) c1)) (pd, nd, cd) #[.slice pd nd cd] rfl; rw [hsz1] at h; exact h) (by rw [World.size_alloc, hsz1]; omega) (by omega) (by omega) ?_; intro g2 c2 w2 ho1 hg1 _; have hb1 := box1 (w1.setCell ⟨R, 2, none⟩ (.slice (some ⟨g1, 0, none⟩) (shn + 1) c1)) (.cells #[.slice pd nd cd] 25); have hk2 := (HK2.out.below hb1).wide (Nat.le_refl _) hb1.size (Nat.le_refl _); have ho2 := (HO1.out.below hb1).growD hg1 ho1 hk2 HK1.out; have hx2 := (HX1.out.below hb1).grown hg1 (fun e => bx_type (HO1.out.below hb1).ds.1 (HX1.out.below hb1) (by decide) e.symm rfl); have ht2 := turn_grown (HT1.out.then hb1) hg1 (fun g e => Or.inr (own_far (HO1.out.below hb1).ds g e)); have hs3 := Nat.le_trans hb1.size hg1.size; have f5a := hx2.free 5; have c5a := hx2.cell (j := 5) rfl; have HO2 := Lib.hid (ho2.store hx2 (by decide) (by decide) (by decide) (by decide) 5 (.slice (some ⟨g2, 0, none⟩) (dsn + 1) c2)); have hx3 := hx2.set_ 5 (.slice (some ⟨g2, 0, none⟩) (dsn + 1) c2); have HT2 := Lib.hid (ht2.set (g := R) (j := 5) (Or.inl rfl) (.slice (some ⟨g2, 0, none⟩) (dsn + 1) c2)); have hsz2 : (w2.setCell ⟨R, 5, none⟩ (.slice (some ⟨g2, 0, none⟩) (dsn + 1) c2)).heap.size = w2.heap.size := (by simp [World.setCell]); have HX2 := Lib.hid hx3; clear ho1 hg1 hb1 ho2 hx2 ht2 hk2 hx3 x0 x1 x2 x3 x4 x5 f5; obtain ⟨x0, x1, x2, x3, x4, x5⟩ := bx6 HX2.out))
    rw [hsz1] at hs3
    have hG := Bx.new (w2.setCell ⟨R, 5, none⟩ (.slice (some ⟨g2, 0, none⟩) (dsn + 1) c2)) 91 #[.string ⟨#[]⟩, .int .i64 0]
    rw [hsz2] at hG
    have HO3 := HO2.out.below (box1 (w2.setCell ⟨R, 5, none⟩ (.slice (some ⟨g2, 0, none⟩) (dsn + 1) c2)) (.cells #[.string ⟨#[]⟩, .int .i64 0] 91))
    have HX3 := HX2.out.alloc (.cells #[.string ⟨#[]⟩, .int .i64 0] 91)
    have HT3 := HT2.out.then (box1 (w2.setCell ⟨R, 5, none⟩ (.slice (some ⟨g2, 0, none⟩) (dsn + 1) c2)) (.cells #[.string ⟨#[]⟩, .int .i64 0] 91))
    have hs4 : ((w2.setCell ⟨R, 5, none⟩ (.slice (some ⟨g2, 0, none⟩) (dsn + 1) c2)).alloc (.cells #[.string ⟨#[]⟩, .int .i64 0] 91)).heap.size = w2.heap.size + 1 := by rw [World.size_alloc, hsz2]
    have hE : x = ⟨#[]⟩ := by rw [HXE.out]; rfl
    obtain ⟨W, hW⟩ : ∃ W, (w2.setCell ⟨R, 5, none⟩ (.slice (some ⟨g2, 0, none⟩) (dsn + 1) c2)).alloc (.cells #[.string ⟨#[]⟩, .int .i64 0] 91) = W := ⟨_, rfl⟩
    have hs5 : w2.heap.size ≤ W.heap.size := by rw [← hW, hs4]; omega
    rw [hW] at hG HO3 HX3 HT3
    have HW := Lib.hid hW
    clear hs4 hW x0 x1 x2 x3 x4 x5 f5a c5a f2a c2a
    rw [← hE, ← HYE.out] at hG
    clear hE
    obtain ⟨g, hg⟩ : ∃ g, w2.heap.size = g := ⟨_, rfl⟩
    have HGE := Lib.hid hg
    rw [hg] at hG hs5 hs3 ⊢
    clear hg
    rw [HW.out]
    have HG4 := Lib.hid hG
    have HO4 := Lib.hid HO3
    have HX4 := Lib.hid HX3
    have HT4 := Lib.hid HT3
    have hsW : w.heap.size ≤ W.heap.size := by omega
    clear hG HO3 HX3 HT3
  rotate_left
  focus
    have HG := Lib.hid hgb
    clear hgb
    clear hQ
    obtain ⟨x0, x1, x2, x3, x4, x5⟩ := bx6 HX.out
    have f2 := HX.out.free 2
    go_enter Try.func61, Try.ntmps61
    go_wp2_with (first
      | (at_builtin; refine wpList_appL rfl (.tmp 10) (.tmp 13) 40 rfl b0 _ 1 Try.underlying40 bi bz0 bz1 bz2 rfl rfl (HO.out.below (box1 w (.cells #[.bool true] 4))).sh w.heap.size 1 true rfl (one_rd SlBool.E 4 w true #[.bool true] rfl) (by simp; omega) (by omega) (by omega) ?_; intro g1 c1 w1 ho1 hg1 _; have hb1 := box1 w (.cells #[.bool true] 4); have ho2 := (HO.out.below hb1).growH hg1 ho1; have hx2 := (HX.out.below hb1).grown hg1 (fun e => bx_type (HO.out.below hb1).sh.1 (HX.out.below hb1) (by decide) e.symm rfl); have ht2 := turn_grown (HT0.out.then hb1) hg1 (fun g e => Or.inr (own_far (HO.out.below hb1).sh g e)); have hs2 := Nat.le_trans hb1.size hg1.size; have hk2 := owI_t (HK.out.below hb1 |>.wide (Nat.le_refl _) hb1.size (Nat.le_refl _)) (Turn.of_grown hg1) (fun g e e2 => type_ne (own_type (HK.out.below hb1).1 e) (own_type (HO.out.below hb1).sh.1 e2) (by decide)); have f2a := hx2.free 2; have c2a := hx2.cell (j := 2) rfl; have hg2 := (HG.out.below hb1).grown hg1 (fun e => bx_type (HO.out.below hb1).sh.1 (HG.out.below hb1) (by decide) e.symm rfl); have HO1 := Lib.hid (ho2.store hx2 (by decide) (by decide) (by decide) (by decide) 2 (.slice (some ⟨g1, 0, none⟩) (shn + 1) c1)); have hx3 := hx2.set_ 2 (.slice (some ⟨g1, 0, none⟩) (shn + 1) c1); have HT1 := Lib.hid (ht2.set (g := R) (j := 2) (Or.inl rfl) (.slice (some ⟨g1, 0, none⟩) (shn + 1) c1)); have HK2 := Lib.hid (owI_t hk2 ((Turn.refl (fun i => i = R) w1).set rfl (.slice (some ⟨g1, 0, none⟩) (shn + 1) c1) : Turn (fun i => i = R) w1 (w1.setCell ⟨R, 2, none⟩ (.slice (some ⟨g1, 0, none⟩) (shn + 1) c1))) (fun g e => bx_type hk2.1 hx2 (by decide) e)); have hsz1 : (w1.setCell ⟨R, 2, none⟩ (.slice (some ⟨g1, 0, none⟩) (shn + 1) c1)).heap.size = w1.heap.size := (by simp [World.setCell]); have HG1 := Lib.hid (hg2.far (q := ⟨R, 2, none⟩) (fun e => by subst e; exact type_ne ⟨_, hg2⟩ ⟨_, hx2⟩ (by decide)) (.slice (some ⟨g1, 0, none⟩) (shn + 1) c1)); have HX1 := Lib.hid hx3; clear ho1 hg1 hb1 ho2 hx2 ht2 hk2 hx3 x0 x1 x2 x3 x4 x5 f2 hg2; obtain ⟨x0, x1, x2, x3, x4, x5⟩ := bx6 HX1.out; have f5 := HX1.out.free 5)
      | (at_builtin; refine wpList_appL rfl (.tmp 21) (.tmp 23) 41 rfl l0 _ 24 Try.underlying41 li lz0 lz1 lz2 rfl rfl (HO1.out.below (box1 (w1.setCell ⟨R, 2, none⟩ (.slice (some ⟨g1, 0, none⟩) (shn + 1) c1)) (.cells #[.slice pd nd cd] 25))).ds w1.heap.size 1 (pd, nd, cd) rfl (by have h := one_rd SlL.E 25 (w1.setCell ⟨R, 2, none⟩ (.slice (some ⟨g1, 0, none⟩) (shn + 1) c1)) (pd, nd, cd) #[.slice pd nd cd] rfl; rw [hsz1] at h; exact h) (by rw [World.size_alloc, hsz1]; omega) (by omega) (by omega) ?_; intro g2 c2 w2 ho1 hg1 _; have hb1 := box1 (w1.setCell ⟨R, 2, none⟩ (.slice (some ⟨g1, 0, none⟩) (shn + 1) c1)) (.cells #[.slice pd nd cd] 25); have hk2 := (HK2.out.below hb1).wide (Nat.le_refl _) hb1.size (Nat.le_refl _); have ho2 := (HO1.out.below hb1).growD hg1 ho1 hk2 HK1.out; have hx2 := (HX1.out.below hb1).grown hg1 (fun e => bx_type (HO1.out.below hb1).ds.1 (HX1.out.below hb1) (by decide) e.symm rfl); have ht2 := turn_grown (HT1.out.then hb1) hg1 (fun g e => Or.inr (own_far (HO1.out.below hb1).ds g e)); have hs3 := Nat.le_trans hb1.size hg1.size; have f5a := hx2.free 5; have c5a := hx2.cell (j := 5) rfl; have hg2 := (HG1.out.below hb1).grown hg1 (fun e => bx_type (HO1.out.below hb1).ds.1 (HG1.out.below hb1) (by decide) e.symm rfl); have HO2 := Lib.hid (ho2.store hx2 (by decide) (by decide) (by decide) (by decide) 5 (.slice (some ⟨g2, 0, none⟩) (dsn + 1) c2)); have hx3 := hx2.set_ 5 (.slice (some ⟨g2, 0, none⟩) (dsn + 1) c2); have HT2 := Lib.hid (ht2.set (g := R) (j := 5) (Or.inl rfl) (.slice (some ⟨g2, 0, none⟩) (dsn + 1) c2)); have hsz2 : (w2.setCell ⟨R, 5, none⟩ (.slice (some ⟨g2, 0, none⟩) (dsn + 1) c2)).heap.size = w2.heap.size := (by simp [World.setCell]); have HG2 := Lib.hid (hg2.far (q := ⟨R, 5, none⟩) (fun e => by subst e; exact type_ne ⟨_, hg2⟩ ⟨_, hx2⟩ (by decide)) (.slice (some ⟨g2, 0, none⟩) (dsn + 1) c2)); have HX2 := Lib.hid hx3; clear ho1 hg1 hb1 ho2 hx2 ht2 hk2 hx3 x0 x1 x2 x3 x4 x5 f5 hg2; obtain ⟨x0, x1, x2, x3, x4, x5⟩ := bx6 HX2.out))
    rw [hsz1] at hs3
    have hG := HG2.out
    have HO3 := HO2.out
    have HX3 := HX2.out
    have HT3 := HT2.out
    obtain ⟨W, hW⟩ : ∃ W, (w2.setCell ⟨R, 5, none⟩ (.slice (some ⟨g2, 0, none⟩) (dsn + 1) c2)) = W := ⟨_, rfl⟩
    have hs5 : w2.heap.size ≤ W.heap.size := by rw [← hW, hsz2]; exact Nat.le_refl _
    rw [hW] at hG HO3 HX3 HT3 ⊢
    clear hW x0 x1 x2 x3 x4 x5 f5a c5a f2a c2a
    have HG4 := Lib.hid hG
    have HO4 := Lib.hid HO3
    have HX4 := Lib.hid HX3
    have HT4 := Lib.hid HT3
    have hsW : w.heap.size ≤ W.heap.size := by omega
    clear hG HO3 HX3 HT3
  rotate_left
  all_goals
    obtain ⟨x0, x1, x2, x3, x4, x5⟩ := bx6 HX4.out
    have y0 := HG4.out.cell (j := 0) rfl
    have f3 := HX4.out.free 3
    have z3 := (HX4.out.alloc (.cells #[.string x] 9)).drew1.cell (j := 3) rfl
    go_region_law (first
      | (refine step_appL rfl (.tmp 35) (.tmp 40) 24 rfl i0 _ 16 Try.underlying24 hi hz0 hz1 hz2 rfl rfl (HO4.out.below (below_drewN (box1 W (.cells #[.string x] 9)) 1)).ps W.heap.size 1 x rfl (one_rd SlStr.E 9 W x #[.string x] rfl).drew1 (by first | (simp; done) | (simp; omega)) (by omega) (by omega) ?_; intro g4 c4 w4 ho1 hg1 _; have hb1 := below_drewN (box1 W (.cells #[.string x] 9)) 1; have ho2 := (HO4.out.below hb1).growP hg1 ho1; have hx2 := (HX4.out.below hb1).grown hg1 (fun e => bx_type (HO4.out.below hb1).ps.1 (HX4.out.below hb1) (by decide) e.symm rfl); have ht2 := turn_grown (HT4.out.then hb1) hg1 (fun g e => Or.inr (own_far (HO4.out.below hb1).ps g e)); have hs6 := Nat.le_trans hb1.size hg1.size; have f3a := hx2.free 3; have c3a := hx2.cell (j := 3) rfl; have hg2 := (HG4.out.below hb1).grown hg1 (fun e => bx_type (HO4.out.below hb1).ps.1 (HG4.out.below hb1) (by decide) e.symm rfl); have HO5 := Lib.hid (ho2.store hx2 (by decide) (by decide) (by decide) (by decide) 3 (.slice (some ⟨g4, 0, none⟩) (psn + 1) c4)); have HX5 := Lib.hid (hx2.set_ 3 (.slice (some ⟨g4, 0, none⟩) (psn + 1) c4)); have HT5 := Lib.hid (ht2.set (g := R) (j := 3) (Or.inl rfl) (.slice (some ⟨g4, 0, none⟩) (psn + 1) c4)); have HG5 := Lib.hid (hg2.far (q := ⟨R, 3, none⟩) (fun e => by subst e; exact type_ne ⟨_, hg2⟩ ⟨_, hx2⟩ (by decide)) (.slice (some ⟨g4, 0, none⟩) (psn + 1) c4)); have hsz6 : (w4.setCell ⟨R, 3, none⟩ (.slice (some ⟨g4, 0, none⟩) (psn + 1) c4)).heap.size = w4.heap.size := (by simp [World.setCell]); clear ho1 hg1 hb1 ho2 hx2 ht2 hg2))
    all_goals
      clear x0 x1 x2 x3 x4 x5 y0 f3 z3 f3a c3a
      have hs7 : W.heap.size ≤ (w4.setCell ⟨R, 3, none⟩ (.slice (some ⟨g4, 0, none⟩) (psn + 1) c4)).heap.size := by rw [hsz6]; exact hs6
      obtain ⟨V, hV⟩ : ∃ V, w4.setCell ⟨R, 3, none⟩ (.slice (some ⟨g4, 0, none⟩) (psn + 1) c4) = V := ⟨_, rfl⟩
      rw [hV] at HO5 HX5 HT5 HG5 hs7 ⊢
      clear hV hsz6 hs6
      obtain ⟨x0, x1, x2, x3, x4, x5⟩ := bx6 HX5.out
      have y1 := HG5.out.cell (j := 1) rfl
      have f4 := HX5.out.free 4
      have z4 := (HX5.out.alloc (.cells #[.int .i64 y] 3)).drew1.cell (j := 4) rfl
      go_wp2_with fail
      go_region_law (first
        | (refine step_appL (E := Dl.EI) rfl (.tmp 48) (.tmp 53) 25 rfl j0 _ 8 Try.underlying25 ji jz0 jz1 jz2 rfl rfl (Dl.ow_in (HO5.out.below (below_drewN (box1 V (.cells #[.int .i64 y] 3)) 1)).ss) V.heap.size 1 y rfl (one_rd Dl.EI 3 V y #[.int .i64 y] rfl).drew1 (by first | (simp; done) | (simp; omega)) (by omega) (by omega) ?_; intro g5 c5 w5 ho1 hg1 hat; have hb1 := below_drewN (box1 V (.cells #[.int .i64 y] 3)) 1; have ho0 := Dl.ow_out ho1 (allK_append (HO5.out.ss).all (fun q hq => by rw [List.mem_singleton] at hq; rw [hq]; exact HIY.out)); have ho2 := (HO5.out.below hb1).growS hg1 ho0 hat; have hx2 := (HX5.out.below hb1).grown hg1 (fun e => bx_type (HO5.out.below hb1).ss.1 (HX5.out.below hb1) (by decide) e.symm rfl); have ht2 := turn_grown (HT5.out.then hb1) hg1 (fun g e => Or.inr ((HO5.out.below hb1).ss.far g e).1); have f4a := hx2.free 4; have c4a := hx2.cell (j := 4) rfl; have HO6 := Lib.hid (ho2.store hx2 (by decide) (by decide) (by decide) (by decide) 4 (.slice (some ⟨g5, 0, none⟩) (ssn + 1) c5)); have HX6 := Lib.hid (hx2.set_ 4 (.slice (some ⟨g5, 0, none⟩) (ssn + 1) c5)); have HT6 := Lib.hid (ht2.set (g := R) (j := 4) (Or.inl rfl) (.slice (some ⟨g5, 0, none⟩) (ssn + 1) c5)); clear ho1 ho0 hg1 hb1 ho2 hx2 ht2 hat))
      all_goals
        clear x0 x1 x2 x3 x4 x5 y1 f4 z4 f4a c4a
        go_wp2_with fail
        go_end0
        exact ⟨⟨_, rfl⟩, _, _, HO6.out, HX6.out, HT6.out⟩
end Go.Proofs.Ytjlckfbacphblaa.Rr
