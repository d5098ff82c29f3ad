/- A document with another part: the program's. -/
import Derived.Test.YtjlckfbacphblaaDt
namespace Go.Proofs.Ytjlckfbacphblaa.Dr
open Go.ChangeShapes Go.WideShapes Go.ChangeAt Go.RowKit Sl St Dm Dk SlDoc Mk Dt Ints

/-- the part can stand there -/
def rpB (D : Dc) (i : Int) (s : ByteArray) : Bool := inB i 0 ((D.2.1.length : Int) - 1) && docOk (D.1, D.2.1.set i.toNat s, D.2.2)
def rpD (D : Dc) (i : Int) (s : ByteArray) : Dc := if rpB D i s = true then (D.1, D.2.1.set i.toNat s, D.2.2) else D
theorem rp_out {D : Dc} {i : Int} {s : ByteArray} (h : inB i 0 ((D.2.1.length : Int) - 1) = false) : rpB D i s = false ∧ rpD D i s = D := by
  have h1 : rpB D i s = false := by unfold rpB; rw [h]; rfl
  exact ⟨h1, by unfold rpD; rw [h1]; simp⟩
theorem rp_bad {D : Dc} {i : Int} {s : ByteArray} (h : docOk (D.1, D.2.1.set i.toNat s, D.2.2) = false) : rpB D i s = false ∧ rpD D i s = D := by
  have h1 : rpB D i s = false := by unfold rpB; rw [h]; simp
  exact ⟨h1, by unfold rpD; rw [h1]; simp⟩
theorem rp_yes {D : Dc} {i : Int} {s : ByteArray} (h0 : inB i 0 ((D.2.1.length : Int) - 1) = true) (h : docOk (D.1, D.2.1.set i.toNat s, D.2.2) = true) : rpB D i s = true ∧ rpD D i s = (D.1, D.2.1.set i.toNat s, D.2.2) := by
  have h1 : rpB D i s = true := by unfold rpB; rw [h, h0]; rfl
  exact ⟨h1, by unfold rpD; rw [h1]; simp⟩
theorem str_set {w : World} {lo hi g n c i : Nat} {xs : List ByteArray} (h : OwS SlStr.E 9 w lo hi (some ⟨g, 0, none⟩) n c xs) (hi' : i < n) (s : ByteArray) : OwS SlStr.E 9 (w.setCell ⟨g, i, none⟩ (.string s)) lo hi (some ⟨g, 0, none⟩) n c (xs.set i s) ∧ w.grownBy (w.setCell ⟨g, i, none⟩ (.string s)) (some g) := by
  have h1 := h.elem (i := i) hi' s
  have e : w.setCells g (i * SlStr.E.C) (SlStr.E.of s) = w.setCell ⟨g, i, none⟩ (.string s) := by rw [SlStr.C_eq, Nat.mul_one]; rfl
  rw [e] at h1
  exact h1
theorem str_cell {w : World} {lo hi g n c i : Nat} {xs : List ByteArray} (h : OwS SlStr.E 9 w lo hi (some ⟨g, 0, none⟩) n c xs) (hi' : i < n) : ∃ s, w.cell? ⟨g, i, none⟩ = some (.string s) ∧ w.frozen? ⟨g, i, none⟩ = false := by
  have hx : xs[i]? = some (xs[i]'(by rw [h.len]; exact hi')) := List.getElem?_eq_getElem _
  have h1 := h.cell (j := 0) (v := .string (xs[i]'(by rw [h.len]; exact hi'))) hx rfl
  rw [SlStr.C_eq, Nat.mul_one, Nat.add_zero] at h1
  exact ⟨_, h1, h.free⟩
/-- the result's box is stored whole: the document and what lay before stand -/
theorem gives_at {w w2 : World} {D : Dc} {g : Nat} {p q : Option Addr} {n c m d : Nat} {x y z : Value} {lo hi : Nat} (hx : Bx w2 g 27 #[x, y, z]) (hB : Below w.heap.size w w2) (hg : w.heap.size ≤ g) (hD : OwD w2 lo hi p n c q m d D.2.1 D.2.2) (hlo : w.heap.size ≤ lo) (hne : g < lo ∨ hi ≤ g) :
    let W := ((w2.setCell ⟨g, 0, none⟩ (.int .i64 D.1)).setCell ⟨g, 1, none⟩ (.slice p n c)).setCell ⟨g, 2, none⟩ (.slice q m d)
    (W.cell? ⟨g, 0, none⟩ = some (.int .i64 D.1) ∧ W.cell? ⟨g, 1, none⟩ = some (.slice p n c) ∧ W.cell? ⟨g, 2, none⟩ = some (.slice q m d)) ∧ OwD W w.heap.size W.heap.size p n c q m d D.2.1 D.2.2 ∧ Below w.heap.size w W := by
  intro W
  have hG := set3_grown w2 g (.int .i64 D.1) (.slice p n c) (.slice q m d)
  refine ⟨bx3 (set3_box hx _ _ _), (hD.kept hG (fun k e => by cases e; exact hne)).wide hlo (Nat.le_trans hD.size.2 hG.size) (Nat.le_refl _), hB.grown hG hB.size (fun k e => by cases e; exact hg)⟩
set_option maxRecDepth 100000 in
set_option maxHeartbeats 8000000 in
theorem rep_any (t : Int) (p : Option Addr) (n c : Nat) (q : Option Addr) (m d : Nat) (parts : List ByteArray) (salts : List Int) (i : Int) (s : ByteArray) (w : World) (hr : RdS SlStr.E w p n parts) (hs : Rd .i64 w q m salts) (hn : n ≤ 1048576) (hm : m ≤ 1048576) :
    Calls Try.prog 12 #[.agg #[.int .i64 t, .slice p n c, .slice q m d], .int .i64 i, .string s] w (GivesDB (rpD (t, parts, salts) i s) (rpB (t, parts, salts) i s) w) := by
  obtain ⟨b0, b1, bb, bs⟩ := cbx_at t p n c q m d w
  have HP := Lib.hid hr
  have HQ := Lib.hid hs
  have HX := Lib.hid b0
  have HR := Lib.hid b1
  have HB := Lib.hid bb
  have hl := hr.len
  have HRP : Hid ((inB i 0 ((n : Int) - 1) = false → rpB (t, parts, salts) i s = false ∧ rpD (t, parts, salts) i s = (t, parts, salts)) ∧ (docOk (t, parts.set i.toNat s, salts) = false → rpB (t, parts, salts) i s = false ∧ rpD (t, parts, salts) i s = (t, parts, salts)) ∧ (inB i 0 ((n : Int) - 1) = true → docOk (t, parts.set i.toNat s, salts) = true → rpB (t, parts, salts) i s = true ∧ rpD (t, parts, salts) i s = (t, parts.set i.toNat s, salts))) := Lib.hid (by
    subst hl
    exact ⟨rp_out (D := (t, parts, salts)), rp_bad (D := (t, parts, salts)), rp_yes (D := (t, parts, salts))⟩)
  clear hr hs b0 b1 bb hl
  obtain ⟨x0, x1, x2⟩ := bx3 HX.out
  have hw1 : IntKind.i64.wrap ((n : Int) - 1) = (n : Int) - 1 := IntWalk.i64_in _ (by omega)
  go_enter Try.func12, Try.ntmps12
  go_wp2_with fail
  rw [cbx_def]
  generalize cbx t p n c q m d w = V at HX HR HB bs x0 x1 x2 ⊢
  refine (inRange_any _ _ _ _ (inB_def _ _ _) _).mono ?_
  rintro e w1 ⟨rfl, rfl⟩
  rcases hβ : inB i 0 ((n : Int) - 1) with _ | _
  · obtain ⟨e1, e2⟩ := HRP.out.1 hβ
    have HE1 := Lib.hid e1
    have HE2 := Lib.hid e2
    clear hβ e1 e2
    go_wp2_with fail
    refine (copyD_any t p n c q m d parts salts _ (HP.out.below HB.out) (HQ.out.below HB.out) hn hm).mono ?_
    rintro e w1 ⟨p1, n1, c1, q1, m1, d1, rfl, ho, hb⟩
    have HR1 := Lib.hid (HR.out.below hb)
    have HB1 := Lib.hid (below_on HB.out hb)
    have HO1 := Lib.hid ho
    obtain ⟨r, ho2, hb2⟩ := gives_at HR1.out HB1.out (by omega) HO1.out (by omega) (by omega)
    have HO2 := Lib.hid ho2
    have HB2 := Lib.hid hb2
    obtain ⟨r0, r1, r2⟩ := r
    have f0 := HR1.out.free 0
    have f1 := HR1.out.free 1
    have f2 := HR1.out.free 2
    obtain ⟨z0, z1, z2⟩ := bx3 HR1.out
    clear hb ho ho2 hb2 x0 x1 x2
    go_wp2_with fail
    exact bodyPost_ret (v := .tuple #[.agg #[.int .i64 t, .slice p1 n1 c1, .slice q1 m1 d1], .bool false]) (by simp [results, Try.results12, go_sem, r0, r1, r2]) rfl ⟨p1, n1, c1, q1, m1, d1, by rw [HE1.out, HE2.out], by rw [HE2.out]; exact HO2.out, HB2.out⟩
  · have hin : 0 ≤ i ∧ i ≤ (n : Int) - 1 := of_decide_eq_true hβ
    obtain ⟨k, rfl⟩ : ∃ k : Nat, i = k := ⟨i.toNat, by omega⟩
    have hk : k < n := by omega
    have HY := Lib.hid (HRP.out.2.2 hβ)
    have HN := Lib.hid HRP.out.2.1
    clear hβ
    go_wp2_with fail
    refine (copyD_any t p n c q m d parts salts _ (HP.out.below HB.out) (HQ.out.below HB.out) hn hm).mono ?_
    rintro e w1 ⟨p1, n1, c1, q1, m1, d1, rfl, ho, hb⟩
    obtain rfl : n = n1 := by rw [← ho.2.1.len]; exact HP.out.len.symm
    obtain ⟨hlo, ho1, ho2⟩ := ho
    rcases ho1.form with ⟨_, h0, _⟩ | ⟨g, rfl, hg1, hg2, hnc, _⟩
    · omega
    have hs1 := hb.size
    obtain ⟨s0, hsc, hsf⟩ := str_cell (ho1.alloc (.cells #[.int .i64 t, .slice (some ⟨g, 0, none⟩) n c1, .slice q1 m1 d1] 27)) hk
    obtain ⟨hset, hG⟩ := str_set ho1 hk s
    have HX2 := Lib.hid (((HX.out.below hb).far (q := ⟨g, k, none⟩) (by show w.heap.size ≠ g; omega) (.string s)).alloc (.cells #[.int .i64 t, .slice (some ⟨g, 0, none⟩) n c1, .slice q1 m1 d1] 27))
    have HR2 := Lib.hid (((HR.out.below hb).far (q := ⟨g, k, none⟩) (by show w.heap.size + 1 ≠ g; omega) (.string s)).alloc (.cells #[.int .i64 t, .slice (some ⟨g, 0, none⟩) n c1, .slice q1 m1 d1] 27))
    have hz1 := Bx.new w1 27 #[.int .i64 t, .slice (some ⟨g, 0, none⟩) n c1, .slice q1 m1 d1]
    have hz2 := Bx.new (w1.setCell ⟨g, k, none⟩ (.string s)) 27 #[.int .i64 t, .slice (some ⟨g, 0, none⟩) n c1, .slice q1 m1 d1]
    have hzs : (w1.setCell ⟨g, k, none⟩ (.string s)).heap.size = w1.heap.size := by simp [World.setCell]
    rw [hzs] at hz2
    have HZ2 := Lib.hid hz2
    have hbs := (below_on HB.out hb).setCell (p := ⟨g, k, none⟩) (by show w.heap.size ≤ g; omega) (.string s)
    have HB2 := Lib.hid (hbs.alloc hbs.size (.cells #[.int .i64 t, .slice (some ⟨g, 0, none⟩) n c1, .slice q1 m1 d1] 27))
    have HO2' := Lib.hid ((owi_kept ho2 hG (own_ne ho2.1 ho1.1 (by decide))).alloc (.cells #[.int .i64 t, .slice (some ⟨g, 0, none⟩) n c1, .slice q1 m1 d1] 27))
    have HO1' := Lib.hid (hset.alloc (.cells #[.int .i64 t, .slice (some ⟨g, 0, none⟩) n c1, .slice q1 m1 d1] 27))
    have i1 : (0 : Int) ≤ (k : Int) := by omega
    have i2 : (k : Int) < (n : Int) := by omega
    obtain ⟨y0, y1, y2⟩ := bx3 hz1
    obtain ⟨y3, y4, y5⟩ := bx3 HZ2.out
    clear hb hlo ho1 ho2 hset hG hz1 hz2 hzs hbs x0 x1 x2
    go_wp2_with fail
    refine (isDoc_any t _ _ _ _ _ _ _ _ _ HO1'.out.rd HO2'.out.rd).mono ?_
    rintro e w2 ⟨rfl, hb⟩
    have HX3 := Lib.hid (HX2.out.below hb)
    have HR3 := Lib.hid (HR2.out.below hb)
    have HZ3 := Lib.hid (HZ2.out.below hb)
    have HB3 := Lib.hid (below_on HB2.out hb)
    have HD3 := Lib.hid (show OwD w2 V.heap.size w1.heap.size (some ⟨g, 0, none⟩) n c1 q1 m1 d1 (parts.set k s) salts from ⟨hs1, HO1'.out.below hb, HO2'.out.below hb⟩)
    have hs2 := hb.size
    simp only [World.setCell, World.size_alloc] at hs2
    clear hb y0 y1 y2 y3 y4 y5 hsc hsf
    rcases hγ : docOk (t, parts.set k s, salts) with _ | _
    · obtain ⟨e1, e2⟩ := HN.out hγ
      have HE1 := Lib.hid e1
      have HE2 := Lib.hid e2
      clear hγ e1 e2
      obtain ⟨x0, x1, x2⟩ := bx3 HX3.out
      go_wp2_with fail
      refine (copyD_any t p n c q m d parts salts _ (HP.out.below HB3.out) (HQ.out.below HB3.out) hn hm).mono ?_
      rintro e w3 ⟨p3, n3, c3, q3, m3, d3, rfl, ho, hb⟩
      have HR4 := Lib.hid (HR3.out.below hb)
      have HB4 := Lib.hid (below_on HB3.out hb)
      obtain ⟨r, ho2, hb2⟩ := gives_at HR4.out HB4.out (by omega) ho (by have := HB3.out.size; omega) (by left; have := HR3.out.lt; omega)
      have HO4 := Lib.hid ho2
      have HB5 := Lib.hid hb2
      obtain ⟨r0, r1, r2⟩ := r
      have f0 := HR4.out.free 0
      have f1 := HR4.out.free 1
      have f2 := HR4.out.free 2
      obtain ⟨z0, z1, z2⟩ := bx3 HR4.out
      clear hb ho ho2 hb2 x0 x1 x2
      go_wp2_with fail
      exact bodyPost_ret (v := .tuple #[.agg #[.int .i64 t, .slice p3 n3 c3, .slice q3 m3 d3], .bool false]) (by simp [results, Try.results12, go_sem, r0, r1, r2]) rfl ⟨p3, n3, c3, q3, m3, d3, by rw [HE1.out, HE2.out], by rw [HE2.out]; exact HO4.out, HB5.out⟩
    · obtain ⟨e1, e2⟩ := HY.out hγ
      have HE1 := Lib.hid e1
      have HE2 := Lib.hid e2
      clear hγ e1 e2
      obtain ⟨r, ho2, hb2⟩ := gives_at (D := (t, parts.set k s, salts)) HR3.out HB3.out (by omega) HD3.out (by omega) (by left; omega)
      have HO4 := Lib.hid ho2
      have HB5 := Lib.hid hb2
      obtain ⟨r0, r1, r2⟩ := r
      have f0 := HR3.out.free 0
      have f1 := HR3.out.free 1
      have f2 := HR3.out.free 2
      obtain ⟨z0, z1, z2⟩ := bx3 HR3.out
      obtain ⟨y0, y1, y2⟩ := bx3 HZ3.out
      clear ho2 hb2
      go_wp2_with fail
      exact bodyPost_ret (v := .tuple #[.agg #[.int .i64 t, .slice (some ⟨g, 0, none⟩) n c1, .slice q1 m1 d1], .bool true]) (by simp [results, Try.results12, go_sem, r0, r1, r2]) rfl ⟨_, _, _, _, _, _, by rw [HE1.out, HE2.out], by rw [HE2.out]; exact HO4.out, HB5.out⟩

end Go.Proofs.Ytjlckfbacphblaa.Dr
