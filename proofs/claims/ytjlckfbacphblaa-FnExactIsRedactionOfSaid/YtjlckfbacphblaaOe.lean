/- What is left of a document: RedactDocument. -/
import Derived.Test.YtjlckfbacphblaaOd
import Derived.Test.YtjlckfbacphblaaDs
namespace Go.Proofs.Ytjlckfbacphblaa.Od
open Go.ChangeShapes Go.WideShapes Go.ChangeAt Go.RowKit Sl St Tn Dm Dk Dp SlRed Rr

/-- The call answers a redacted document of its own, and b. -/
def GivesRB (D : Rc) (b : Bool) (w : World) (e : Ending) (w' : World) : Prop := ∃ (a : Ra) (hs : List SlL.Hd), e = .returned (.tuple #[a.val, .bool b]) ∧ OwRh w.heap.size w' a D hs ∧ Below w.heap.size w w'
theorem none_own (w : World) (lo : Nat) (h : lo ≤ w.heap.size) (t : Int) : OwRh lo w ⟨t, none, 0, 0, none, 0, 0, none, 0, 0, none, 0, 0, none, 0, 0⟩ ⟨t, [], [], [], [], []⟩ [] :=
  ⟨rfl, (Ow.nil_ _ _ _ _ h).wide (Nat.le_refl _) h (Nat.le_refl _), (OwS.nil_ _ _ _ _ h).wide (Nat.le_refl _) h (Nat.le_refl _), (OwS.nil_ _ _ _ _ h).wide (Nat.le_refl _) h (Nat.le_refl _), (Ow.nil_ _ _ _ _ h).wide (Nat.le_refl _) h (Nat.le_refl _), (OwS.nil_ _ _ _ _ h).wide (Nat.le_refl _) h (Nat.le_refl _), rfl,
    fun i k x e => by simp at e, fun i j k k' g e => by simp at e, fun g e => by simp [own, Value.ownBlock] at e, fun g e => by simp [own, Value.ownBlock] at e, fun g e => by simp [own, Value.ownBlock] at e⟩
/-- with the methods alone -/
theorem ms_own {w : World} {lo : Nat} {p : Option Addr} {n c : Nat} {ms : List Int} (h : Ow .i64 3 w lo w.heap.size p n c ms) (hl : lo ≤ w.heap.size) (t : Int) : OwRh lo w ⟨t, p, n, c, none, 0, 0, none, 0, 0, none, 0, 0, none, 0, 0⟩ ⟨t, ms, [], [], [], []⟩ [] := by
  have h0 := none_own w lo hl t
  exact ⟨rfl, h, h0.sh, h0.ps, h0.ss, h0.ds, rfl, fun i k x e => by simp at e, fun i j k k' g e => by simp at e, fun g _ e => by simp [own, Value.ownBlock] at e, fun g _ i k e => by simp at e, fun g e => by simp [own, Value.ownBlock] at e⟩
/-- a box stored whole -/
def st6 (w : World) (g : Nat) (a b c d e f : Value) : World := (((((w.setCell ⟨g, 0, none⟩ a).setCell ⟨g, 1, none⟩ b).setCell ⟨g, 2, none⟩ c).setCell ⟨g, 3, none⟩ d).setCell ⟨g, 4, none⟩ e).setCell ⟨g, 5, none⟩ f
theorem st6_def (w : World) (g : Nat) (a b c d e f : Value) : (((((w.setCell ⟨g, 0, none⟩ a).setCell ⟨g, 1, none⟩ b).setCell ⟨g, 2, none⟩ c).setCell ⟨g, 3, none⟩ d).setCell ⟨g, 4, none⟩ e).setCell ⟨g, 5, none⟩ f = st6 w g a b c d e f := rfl
theorem st6_box {w : World} {g : Nat} {T : TypeId} {x0 x1 x2 x3 x4 x5 : Value} (h : Bx w g T #[x0, x1, x2, x3, x4, x5]) (a b c d e f : Value) : Bx (st6 w g a b c d e f) g T #[a, b, c, d, e, f] := (((((h.set_ 0 a).set_ 1 b).set_ 2 c).set_ 3 d).set_ 4 e).set_ 5 f
theorem st6_turn {S : Nat → Prop} (w : World) (g : Nat) (hg : S g) (a b c d e f : Value) : Turn S w (st6 w g a b c d e f) := ((((((Turn.refl S w).set hg a).set hg b).set hg c).set hg d).set hg e).set hg f
theorem st6_size (w : World) (g : Nat) (a b c d e f : Value) : (st6 w g a b c d e f).heap.size = w.heap.size := by simp [st6, World.setCell]
theorem st6_own {lo : Nat} {w : World} {a : Ra} {D : Rc} {hs : List SlL.Hd} (h : OwRh lo w a D hs) {R : Nat} {x0 x1 x2 x3 x4 x5 : Value} (hX : Bx w R 43 #[x0, x1, x2, x3, x4, x5]) (v0 v1 v2 v3 v4 v5 : Value) : OwRh lo (st6 w R v0 v1 v2 v3 v4 v5) a D hs :=
  (((((h.store hX (by decide) (by decide) (by decide) (by decide) 0 v0).store (hX.set_ 0 v0) (by decide) (by decide) (by decide) (by decide) 1 v1).store ((hX.set_ 0 v0).set_ 1 v1) (by decide) (by decide) (by decide) (by decide) 2 v2).store (((hX.set_ 0 v0).set_ 1 v1).set_ 2 v2) (by decide) (by decide) (by decide) (by decide) 3 v3).store ((((hX.set_ 0 v0).set_ 1 v1).set_ 2 v2).set_ 3 v3) (by decide) (by decide) (by decide) (by decide) 4 v4).store (((((hX.set_ 0 v0).set_ 1 v1).set_ 2 v2).set_ 3 v3).set_ 4 v4) (by decide) (by decide) (by decide) (by decide) 5 v5
theorem len_map {α : Type} (f : Nat → α) (k : Nat) : ((List.range k).map f).length = k := by simp
set_option maxRecDepth 100000 in
set_option maxHeartbeats 8000000 in
theorem red_any (ms : List Int) (pm : Option Addr) (nm cm : Nat) (t : Int) (p : Option Addr) (n c : Nat) (q : Option Addr) (m d : Nat) (parts : List ByteArray) (salts : List Int) (ph : Option Addr) (nh ch : Nat) (hide : List Int) (w : World)
    (hm : Rd .i64 w pm nm ms) (hr : RdS SlStr.E w p n parts) (hs : Rd .i64 w q m salts) (hh : Rd .i64 w ph nh hide) (hnm : nm ≤ 1048576) :
    Calls Try.prog 19 #[.slice pm nm cm, .agg #[.int .i64 t, .slice p n c, .slice q m d], .slice ph nh ch] w (GivesRB (redR ms (t, parts, salts) hide) (docOk (t, parts, salts)) w) := by
  have b0 := (Bx.new w 27 #[.int .i64 t, .slice p n c, .slice q m d]).alloc (.cells #[.int .i64 0, .slice none 0 0, .slice none 0 0, .slice none 0 0, .slice none 0 0, .slice none 0 0] 43)
  have b1 := Bx.new (w.alloc (.cells #[.int .i64 t, .slice p n c, .slice q m d] 27)) 43 #[.int .i64 0, .slice none 0 0, .slice none 0 0, .slice none 0 0, .slice none 0 0, .slice none 0 0]
  rw [World.size_alloc] at b1
  have hB0 := (box1 w (.cells #[.int .i64 t, .slice p n c, .slice q m d] 27)).alloc (by simp) (.cells #[.int .i64 0, .slice none 0 0, .slice none 0 0, .slice none 0 0, .slice none 0 0, .slice none 0 0] 43)
  have hs0 : ((w.alloc (.cells #[.int .i64 t, .slice p n c, .slice q m d] 27)).alloc (.cells #[.int .i64 0, .slice none 0 0, .slice none 0 0, .slice none 0 0, .slice none 0 0, .slice none 0 0] 43)).heap.size = w.heap.size + 2 := by simp
  have HX := Lib.hid b0
  have HR := Lib.hid b1
  have HB := Lib.hid hB0
  have HM := Lib.hid hm
  have HP := Lib.hid hr
  have HQ := Lib.hid hs
  have HH := Lib.hid hh
  have HL := Lib.hid hr.len
  have HL2 := Lib.hid hs.len
  clear b0 b1 hB0 hm hr hs hh
  obtain ⟨x0, x1, x2⟩ := bx3 HX.out
  rcases hok : docOk (t, parts, salts) with _ | _
  · have HO := Lib.hid hok
    have HD := Lib.hid (redR_no (ms := ms) (hide := hide) hok)
    clear hok
    go_enter Try.func19, Try.ntmps19
    go_wp2_with fail
    refine (isDoc_any _ _ _ _ _ _ _ _ _ _ (HP.out.below HB.out) (HQ.out.below HB.out)).mono ?_
    rintro e w1 ⟨rfl, hb⟩
    rw [HO.out]
    have HB1 := Lib.hid (below_on HB.out hb)
    have HR1 := Lib.hid (HR.out.below hb)
    have hs1 := hb.size
    rw [hs0] at hs1
    clear hb x0 x1 x2 hs0
    obtain ⟨r0, r1, r2, r3, r4, r5⟩ := bx6 HR1.out
    have f0 := HR1.out.free 0
    have f1 := HR1.out.free 1
    have f2 := HR1.out.free 2
    have f3 := HR1.out.free 3
    have f4 := HR1.out.free 4
    have f5 := HR1.out.free 5
    go_wp2_with fail
    rw [st6_def]
    have hx := st6_box HR1.out (.int .i64 0) (.slice none 0 0) (.slice none 0 0) (.slice none 0 0) (.slice none 0 0) (.slice none 0 0)
    have hB2 := (st6_turn (S := fun i => i = w.heap.size + 1) w1 (w.heap.size + 1) rfl (.int .i64 0) (.slice none 0 0) (.slice none 0 0) (.slice none 0 0) (.slice none 0 0) (.slice none 0 0)).below (B := w.heap.size) (fun i e => by omega) HB1.out.size
    have hz := st6_size w1 (w.heap.size + 1) (.int .i64 0) (.slice none 0 0) (.slice none 0 0) (.slice none 0 0) (.slice none 0 0) (.slice none 0 0)
    generalize st6 w1 (w.heap.size + 1) (.int .i64 0) (.slice none 0 0) (.slice none 0 0) (.slice none 0 0) (.slice none 0 0) (.slice none 0 0) = W at hx hB2 hz ⊢
    obtain ⟨q0, q1, q2, q3, q4, q5⟩ := bx6 hx
    exact bodyPost_ret (v := .tuple #[.agg #[.int .i64 0, .slice none 0 0, .slice none 0 0, .slice none 0 0, .slice none 0 0, .slice none 0 0], .bool false]) (by simp [results, Try.results19, go_sem, q0, q1, q2, q3, q4, q5]) rfl ⟨⟨0, none, 0, 0, none, 0, 0, none, 0, 0, none, 0, 0, none, 0, 0⟩, [], rfl, by rw [HD.out]; exact none_own W w.heap.size (by rw [hz]; omega) 0, HB1.out.trans hB2⟩
  · have hsay := docOk_says hok
    have HO := Lib.hid hok
    have HD := Lib.hid (redR_yes (ms := ms) (hide := hide) hok)
    have hlen : parts.length ≤ 6 := hsay.2.1.2
    have hml : salts.length = parts.length := hsay.2.2.1
    have HS40 : Hid (∀ j, j < n → (parts.getD j ByteArray.empty).size ≤ 10000000) := Lib.hid fun j hj => by
      have := hsay.2.2.2.1 j (by show j < parts.length; rw [HL.out]; exact hj)
      have h2 : (parts.getD j ByteArray.empty).size ≤ 40 := this
      omega
    have hmn : m = n := by rw [← HL.out, ← HL2.out]; exact hml
    have hn6 : n ≤ 6 := by rw [← HL.out]; exact hlen
    clear hok hsay hlen hml
    subst hmn
    go_enter Try.func19, Try.ntmps19
    go_wp2_with fail
    refine (isDoc_any _ _ _ _ _ _ _ _ _ _ (HP.out.below HB.out) (HQ.out.below HB.out)).mono ?_
    rintro e w1 ⟨rfl, hb⟩
    rw [HO.out]
    have HB1 := Lib.hid (below_on HB.out hb)
    have HR1 := Lib.hid (HR.out.below hb)
    have HX1 := Lib.hid (HX.out.below hb)
    have hs1 := hb.size
    rw [hs0] at hs1
    clear hb x0 x1 x2 hs0
    obtain ⟨x0, x1, x2⟩ := bx3 HX1.out
    go_wp2_with fail
    go_region_held3 (fun w' => w'.cell? ⟨w.heap.size, 0, none⟩ = some (.int .i64 t)) (first | go_keep | exact y1) (first
      | (go_at_call 59; refine (Dt.cloneI_any pm nm cm ms w1.drew (HM.out.below (below_drewN HB1.out 1)) hnm).mono ?_; rintro e w2 ⟨p2, n2, c2, rfl, ho2, hb2⟩; have HX2 := Lib.hid (HX1.out.drew1.below hb2); have HRb := Lib.hid (HR1.out.drew1.below hb2); have y0 := HX2.out.cell (j := 0) rfl; have HO2 := Lib.hid ho2; have HB2 := Lib.hid (below_on (below_drewN HB1.out 1) hb2); have hs2 := hb2.size; clear ho2 hb2)
      | (go_at_call 59; refine (Dt.cloneI_any pm nm cm ms (w1.alloc (.cells #[.int .i64 0, .slice none 0 0, .slice none 0 0, .slice none 0 0, .slice none 0 0, .slice none 0 0] 43)).drew (HM.out.below (below_drewN (HB1.out.alloc HB1.out.size (.cells #[.int .i64 0, .slice none 0 0, .slice none 0 0, .slice none 0 0, .slice none 0 0, .slice none 0 0] 43)) 1)) hnm).mono ?_; rintro e w2 ⟨p2, n2, c2, rfl, ho2, hb2⟩; have HX2 := Lib.hid ((HX1.out.alloc (.cells #[.int .i64 0, .slice none 0 0, .slice none 0 0, .slice none 0 0, .slice none 0 0, .slice none 0 0] 43)).drew1.below hb2); have HRb := Lib.hid ((HR1.out.alloc (.cells #[.int .i64 0, .slice none 0 0, .slice none 0 0, .slice none 0 0, .slice none 0 0, .slice none 0 0] 43)).drew1.below hb2); have HR2 := Lib.hid ((Bx.new w1 43 #[.int .i64 0, .slice none 0 0, .slice none 0 0, .slice none 0 0, .slice none 0 0, .slice none 0 0]).drew1.below hb2); have y1 : ((((((w2.setCell ⟨w1.heap.size, 0, none⟩ (.int .i64 t)).setCell ⟨w1.heap.size, 1, none⟩ (.slice p2 n2 c2)).setCell ⟨w1.heap.size, 2, none⟩ (.slice none 0 0)).setCell ⟨w1.heap.size, 3, none⟩ (.slice none 0 0)).setCell ⟨w1.heap.size, 4, none⟩ (.slice none 0 0)).setCell ⟨w1.heap.size, 5, none⟩ (.slice none 0 0)).cell? ⟨w.heap.size, 0, none⟩ = some (.int .i64 t) := (bx_turn HX2.out (st6_turn (S := fun i => i = w1.heap.size) w2 w1.heap.size rfl (.int .i64 t) (.slice p2 n2 c2) (.slice none 0 0) (.slice none 0 0) (.slice none 0 0) (.slice none 0 0)) (show ¬ (w.heap.size = w1.heap.size) by omega)).cell (j := 0) rfl; have y0 := HX2.out.cell (j := 0) rfl; have HB2 := Lib.hid (below_on (below_drewN (HB1.out.alloc HB1.out.size (.cells #[.int .i64 0, .slice none 0 0, .slice none 0 0, .slice none 0 0, .slice none 0 0, .slice none 0 0] 43)) 1) hb2); have hs2 := hb2.size; have HO2 := Lib.hid ho2; obtain ⟨r0, r1, r2, r3, r4, r5⟩ := bx6 HR2.out; have f0 := HR2.out.free 0; have f1 := HR2.out.free 1; have f2 := HR2.out.free 2; have f3 := HR2.out.free 3; have f4 := HR2.out.free 4; have f5 := HR2.out.free 5; clear ho2 hb2))
    focus
      obtain ⟨R, hR⟩ : ∃ R, w2.heap.size = R := ⟨_, rfl⟩
      have hRR := Bx.new w2 43 #[.int .i64 t, .slice p2 n2 c2, .slice none 0 0, .slice none 0 0, .slice none 0 0, .slice none 0 0]
      have hlo1 : w.heap.size + 2 ≤ w2.heap.size := by have : w1.heap.size ≤ w2.heap.size := hs2; omega
      have hO := ms_own ((HO2.out.alloc (.cells #[.int .i64 t, .slice p2 n2 c2, .slice none 0 0, .slice none 0 0, .slice none 0 0, .slice none 0 0] 43)).wide (show w.heap.size + 2 ≤ w1.drew.heap.size from by have : w1.drew.heap.size = w1.heap.size := rfl; omega) (by simp) (Nat.le_refl _)) (by simp; omega) t
      have hXw := HX2.out.alloc (.cells #[.int .i64 t, .slice p2 n2 c2, .slice none 0 0, .slice none 0 0, .slice none 0 0, .slice none 0 0] 43)
      have hBw := HB2.out.alloc HB2.out.size (.cells #[.int .i64 t, .slice p2 n2 c2, .slice none 0 0, .slice none 0 0, .slice none 0 0, .slice none 0 0] 43)
      have hRw := HRb.out.alloc (.cells #[.int .i64 t, .slice p2 n2 c2, .slice none 0 0, .slice none 0 0, .slice none 0 0, .slice none 0 0] 43)
      have hzw : w.heap.size + 2 ≤ (w2.alloc (.cells #[.int .i64 t, .slice p2 n2 c2, .slice none 0 0, .slice none 0 0, .slice none 0 0, .slice none 0 0] 43)).heap.size := by simp; omega
      clear y0
      generalize w2.alloc (.cells #[.int .i64 t, .slice p2 n2 c2, .slice none 0 0, .slice none 0 0, .slice none 0 0, .slice none 0 0] 43) = V at hRR hO hXw hBw hRw hzw ⊢
      rw [hR] at hRR hlo1 ⊢
      clear hR
      have HM0 : Hid (OwRh (w.heap.size + 2) V ⟨t, p2, n2, c2, none, 0, 0, none, 0, 0, none, 0, 0, none, 0, 0⟩ (redK ms (t, parts, salts) hide 0) [] ∧ Bx V R 43 (Ra.cells ⟨t, p2, n2, c2, none, 0, 0, none, 0, 0, none, 0, 0, none, 0, 0⟩) ∧ Turn (fun i => w.heap.size + 2 ≤ i) V V) := Lib.hid ⟨hO, hRR, Turn.refl _ _⟩
      have HXw := Lib.hid hXw
      have HBw := Lib.hid hBw
      have HRw := Lib.hid hRw
      clear hO hRR hXw hBw hRw HX2 HB2 HO2 HRb hs2
      obtain ⟨x0, x1, x2⟩ := bx3 HXw.out
      go_wp2_with fail
      clear x0 x1 x2
    rotate_left
    focus
      rw [st6_def]
      have hT := st6_turn (S := fun i => i = w1.heap.size) w2 w1.heap.size rfl (.int .i64 t) (.slice p2 n2 c2) (.slice none 0 0) (.slice none 0 0) (.slice none 0 0) (.slice none 0 0)
      have hz := st6_size w2 w1.heap.size (.int .i64 t) (.slice p2 n2 c2) (.slice none 0 0) (.slice none 0 0) (.slice none 0 0) (.slice none 0 0)
      have hRR := st6_box HR2.out (.int .i64 t) (.slice p2 n2 c2) (.slice none 0 0) (.slice none 0 0) (.slice none 0 0) (.slice none 0 0)
      have h8 : (w1.alloc (.cells #[.int .i64 0, .slice none 0 0, .slice none 0 0, .slice none 0 0, .slice none 0 0, .slice none 0 0] 43)).drew.heap.size = w1.heap.size + 1 := by show (World.alloc _ _).heap.size = _; rw [World.size_alloc]
      have hlo2 : w.heap.size + 2 ≤ w2.heap.size := by have h9 := hs2; rw [h8] at h9; omega
      have hlo1 : w.heap.size + 2 ≤ w1.heap.size := hs1
      have hms := owI_t (HO2.out.wide (show w.heap.size + 2 ≤ (w1.alloc (.cells #[.int .i64 0, .slice none 0 0, .slice none 0 0, .slice none 0 0, .slice none 0 0, .slice none 0 0] 43)).drew.heap.size from by rw [h8]; omega) (Nat.le_refl _) (Nat.le_refl _)) hT (fun g e => bx_type HO2.out.1 HR2.out (by decide) e)
      have hO := ms_own hms (by rw [hz]; exact hlo2) t
      have hXw := bx_turn HX2.out hT (show ¬ (w.heap.size = w1.heap.size) by omega)
      have hRw := bx_turn HRb.out hT (show ¬ (w.heap.size + 1 = w1.heap.size) by omega)
      have hBw := HB2.out.trans (hT.below (B := w.heap.size) (fun i e => by omega) HB2.out.size)
      have hzw := hlo2
      rw [← hz] at hzw
      clear y0 y1 r0 r1 r2 r3 r4 r5 f0 f1 f2 f3 f4 f5 hz hT hms h8
      generalize st6 w2 w1.heap.size (.int .i64 t) (.slice p2 n2 c2) (.slice none 0 0) (.slice none 0 0) (.slice none 0 0) (.slice none 0 0) = V at hRR hO hXw hBw hRw hzw ⊢
      obtain ⟨R, hR⟩ : ∃ R, w1.heap.size = R := ⟨_, rfl⟩
      rw [hR] at hRR hlo1 ⊢
      clear hR hlo2
      have HM0 : Hid (OwRh (w.heap.size + 2) V ⟨t, p2, n2, c2, none, 0, 0, none, 0, 0, none, 0, 0, none, 0, 0⟩ (redK ms (t, parts, salts) hide 0) [] ∧ Bx V R 43 (Ra.cells ⟨t, p2, n2, c2, none, 0, 0, none, 0, 0, none, 0, 0, none, 0, 0⟩) ∧ Turn (fun i => w.heap.size + 2 ≤ i) V V) := Lib.hid ⟨hO, hRR, Turn.refl _ _⟩
      have HXw := Lib.hid hXw
      have HBw := Lib.hid hBw
      have HRw := Lib.hid hRw
      clear hO hRR hXw hBw hRw HX2 HB2 HO2 HRb HR2 hs2
      obtain ⟨x0, x1, x2⟩ := bx3 HXw.out
      go_wp2_with fail
      clear x0 x1 x2
    rotate_left
    all_goals
      go_loopw [23] (fun i wr => ∃ (k : Nat) (a : Ra) (hs : List SlL.Hd), k ≤ m ∧ i = .int .i64 k ∧ Hid (OwRh (w.heap.size + 2) wr a (redK ms (t, parts, salts) hide k) hs ∧ Bx wr R 43 a.cells ∧ Turn (fun i => w.heap.size + 2 ≤ i) V wr)) (fun i _ => m - (intOf i).toNat)
      case atStart => exact ⟨0, _, _, Nat.zero_le _, rfl, HM0⟩
      case round =>
        obtain ⟨k, a, hs, hk, rfl, HK⟩ := hrel
        have HBr : Hid (Below w.heap.size w wr) := Lib.hid (HBw.out.trans (HK.out.2.2.below (B := w.heap.size) (fun i e => by omega) HBw.out.size))
        have HXr := Lib.hid (bx_turn HXw.out HK.out.2.2 (by omega))
        have hsr : V.heap.size ≤ wr.heap.size := HK.out.2.2.size
        have l1 : a.shn = k := by have h := HK.out.1.sh.len; unfold redK at h; simp only [len_map] at h; exact h.symm
        have l2 : a.psn = k := by have h := HK.out.1.ps.len; unfold redK at h; simp only [len_map] at h; exact h.symm
        have l3 : a.ssn = k := by have h := HK.out.1.ss.len; unfold redK at h; simp only [len_map] at h; exact h.symm
        have l4 : a.dsn = k := by have h := HK.out.1.len; unfold redK at h; simp only [len_map] at h; exact h.symm
        obtain ⟨x0, x1, x2⟩ := bx3 HXr.out
        by_cases hlt : k < m
        · obtain ⟨b, o, rfl, hb, hc⟩ := SlStr.rd_at (HP.out.below HBr.out) hlt
          obtain ⟨b', o', rfl, hb', hc'⟩ := (HQ.out.below HBr.out).at_ hlt
          have hIn : inK .i64 (salts.getD k 0) := allK_getD HQ.out.all k
          have h40 := HS40.out k hlt
          have HNx := Lib.hid (redK_next ms (t, parts, salts) hide k)
          rcases hh : hasB hide k with _ | _
          · have hrow : rowB hide k = true ∧ rowP (t, parts, salts) hide k = parts.getD k ByteArray.empty ∧ rowS (t, parts, salts) hide k = salts.getD k 0 ∧ rowD ms (t, parts, salts) hide k = [] := by
              unfold rowB rowP rowS rowD; rw [hh]; exact ⟨rfl, rfl, rfl, rfl⟩
            rw [hrow.1, hrow.2.1, hrow.2.2.1, hrow.2.2.2] at HNx
            have HHas := Lib.hid hh
            generalize parts.getD k ByteArray.empty = x at hc h40 HNx
            generalize salts.getD k 0 = y at hc' hIn HNx
            have HIn := Lib.hid hIn
            have L1 := Lib.hid l1
            have L2 := Lib.hid l2
            have L3 := Lib.hid l3
            have L4 := Lib.hid l4
            clear hh hrow hIn l1 l2 l3 l4
            go_wp2_with fail
            refine (contains_any ph nh ch hide k _ (HH.out.below HBr.out)).mono ?_
            rintro e wq ⟨rfl, rfl⟩
            rw [HHas.out]
            go_wp2_with fail
            have hb0 := box1 wr (.cells #[.string x, .int .i64 y] 91)
            refine (addPart_any (w.heap.size + 2) R a (redK ms (t, parts, salts) hide k) hs (some ⟨wr.heap.size, 0, none⟩) none 0 0 true x y [] _ (HK.out.1.below hb0) (HK.out.2.1.below hb0) (by simp; omega) (by rw [L1.out]; omega) (by rw [L2.out]; omega) (by rw [L3.out]; omega) (by rw [L4.out]; omega) HIn.out ((Ow.nil_ .i64 3 _ (w.heap.size + 2) (by simp; omega)).wide (Nat.le_refl _) (by simp; omega) (Nat.le_refl _)) (fun g e => by simp [own, Value.ownBlock] at e) (Or.inr ⟨wr.heap.size, rfl, rfl, Bx.new _ _ _⟩)).mono ?_
            rintro e w4 ⟨⟨v, rfl⟩, a', hs', ho4, hx4, ht4⟩
            have HN : Hid (OwRh (w.heap.size + 2) w4 a' (redK ms (t, parts, salts) hide (k + 1)) hs' ∧ Bx w4 R 43 a'.cells ∧ Turn (fun i => w.heap.size + 2 ≤ i) V w4) := Lib.hid ⟨by rw [← HNx.out]; exact ho4, hx4, (HK.out.2.2.then hb0).trans (ht4.mono fun i e => by omega)⟩
            clear ho4 hx4 ht4 hb0 x0 x1 x2 hc hc'
            go_wp2_with fail
            go_roundw
            case rel => exact ⟨k + 1, a', hs', by omega, by go_num, HN⟩
            case measure => simp [intOf]; omega
          · have hrow : rowB hide k = false ∧ rowP (t, parts, salts) hide k = ByteArray.empty ∧ rowS (t, parts, salts) hide k = 0 ∧ rowD ms (t, parts, salts) hide k = eachD ms (parts.getD k ByteArray.empty) (salts.getD k 0) := by
              unfold rowB rowP rowS rowD; rw [hh]; exact ⟨rfl, rfl, rfl, rfl⟩
            rw [hrow.1, hrow.2.1, hrow.2.2.1, hrow.2.2.2] at HNx
            have HHas := Lib.hid hh
            generalize parts.getD k ByteArray.empty = x at hc h40 HNx
            generalize salts.getD k 0 = y at hc' hIn HNx
            have HIn := Lib.hid hIn
            have L1 := Lib.hid l1
            have L2 := Lib.hid l2
            have L3 := Lib.hid l3
            have L4 := Lib.hid l4
            clear hh hrow hIn l1 l2 l3 l4
            go_wp2_with fail
            refine (contains_any ph nh ch hide k _ (HH.out.below HBr.out)).mono ?_
            rintro e wq ⟨rfl, rfl⟩
            rw [HHas.out]
            go_wp2_with fail
            refine (each_any pm nm cm ms x y _ (HM.out.below HBr.out) hnm h40 HIn.out).mono ?_
            rintro e w3 ⟨p3, n3, c3, rfl, ho3, hb3⟩
            have hs3 := hb3.size
            have HW3 := Lib.hid ho3
            have HB3 := Lib.hid hb3
            clear ho3 hb3 x0 x1 x2 hc hc'
            go_wp2_with fail
            refine (addPart_any (w.heap.size + 2) R a (redK ms (t, parts, salts) hide k) hs none p3 n3 c3 false ByteArray.empty 0 (eachD ms x y) _ (HK.out.1.below HB3.out) (HK.out.2.1.below HB3.out) (by omega) (by rw [L1.out]; omega) (by rw [L2.out]; omega) (by rw [L3.out]; omega) (by rw [L4.out]; omega) ⟨by omega, by omega⟩ (HW3.out.wide (by omega) (Nat.le_refl _) (Nat.le_refl _)) (fun g e => by
              have hg := (HW3.out.far g e).1
              refine ⟨fun e2 => ?_, fun e2 => ?_, fun i u e2 e3 => ?_⟩
              · have := (HK.out.1.ms.far g e2).2
                omega
              · have := (HK.out.1.ss.far g e2).2
                omega
              · have hi2 : i < hs.length := (List.getElem?_eq_some_iff.1 e2).1
                have hdl := HK.out.1.len
                have hhl := HK.out.1.ds.len
                have hx9 : (redK ms (t, parts, salts) hide k).ds[i]? = some ((redK ms (t, parts, salts) hide k).ds[i]'(by rw [hdl, ← hhl]; exact hi2)) := List.getElem?_eq_getElem _
                have := ((HK.out.1.inn i u _ e2 hx9).far g e3).2
                omega) (Or.inl ⟨rfl, rfl, rfl, rfl⟩)).mono ?_
            rintro e w4 ⟨⟨v, rfl⟩, a', hs', ho4, hx4, ht4⟩
            have HN : Hid (OwRh (w.heap.size + 2) w4 a' (redK ms (t, parts, salts) hide (k + 1)) hs' ∧ Bx w4 R 43 a'.cells ∧ Turn (fun i => w.heap.size + 2 ≤ i) V w4) := Lib.hid ⟨by rw [← HNx.out]; exact ho4, hx4, (HK.out.2.2.then HB3.out).trans (ht4.mono fun i e => by omega)⟩
            clear ho4 hx4 ht4
            go_wp2_with fail
            go_roundw
            case rel => exact ⟨k + 1, a', hs', by omega, by go_num, HN⟩
            case measure => simp [intOf]; omega
        · obtain rfl : k = m := by omega
          clear l1 l2 l3 l4 x0 x1 x2
          have HRr := Lib.hid (bx_turn HRw.out HK.out.2.2 (show ¬ (w.heap.size + 2 ≤ w.heap.size + 1) by omega))
          obtain ⟨t', msp, msn, msc, shp, shn, shc, psp, psn, psc, ssp, ssn, ssc, dsp, dsn, dsc⟩ := a
          have HX5 : Hid (Bx wr R 43 #[.int .i64 t', .slice msp msn msc, .slice shp shn shc, .slice psp psn psc, .slice ssp ssn ssc, .slice dsp dsn dsc]) := Lib.hid HK.out.2.1
          have hr6 := HRr.out
          have hx6 := st6_box hr6 (.int .i64 t') (.slice msp msn msc) (.slice shp shn shc) (.slice psp psn psc) (.slice ssp ssn ssc) (.slice dsp dsn dsc)
          have ho6 := st6_own HK.out.1 hr6 (.int .i64 t') (.slice msp msn msc) (.slice shp shn shc) (.slice psp psn psc) (.slice ssp ssn ssc) (.slice dsp dsn dsc)
          have hB6 := HBr.out.trans ((st6_turn (S := fun i => i = w.heap.size + 1) wr (w.heap.size + 1) rfl (.int .i64 t') (.slice msp msn msc) (.slice shp shn shc) (.slice psp psn psc) (.slice ssp ssn ssc) (.slice dsp dsn dsc)).below (B := w.heap.size) (fun i e => by omega) HBr.out.size)
          obtain ⟨x0, x1, x2, x3, x4, x5⟩ := bx6 HX5.out
          obtain ⟨r0, r1, r2, r3, r4, r5⟩ := bx6 hr6
          have f0 := hr6.free 0
          have f1 := hr6.free 1
          have f2 := hr6.free 2
          have f3 := hr6.free 3
          have f4 := hr6.free 4
          have f5 := hr6.free 5
          have HX6 := Lib.hid hx6
          have HO6 := Lib.hid ho6
          have HB6 := Lib.hid hB6
          clear hr6 hx6 ho6 hB6
          go_wp2_with fail
          rw [st6_def]
          generalize st6 wr (w.heap.size + 1) (.int .i64 t') (.slice msp msn msc) (.slice shp shn shc) (.slice psp psn psc) (.slice ssp ssn ssc) (.slice dsp dsn dsc) = U at HX6 HO6 HB6 ⊢
          obtain ⟨q0, q1, q2, q3, q4, q5⟩ := bx6 HX6.out
          exact bodyPost_ret (v := .tuple #[.agg #[.int .i64 t', .slice msp msn msc, .slice shp shn shc, .slice psp psn psc, .slice ssp ssn ssc, .slice dsp dsn dsc], .bool true]) (by simp [results, Try.results19, go_sem, q0, q1, q2, q3, q4, q5]) rfl ⟨_, _, rfl, by rw [HD.out, show (((t, parts, salts) : Dc).2.1.length) = k from HL.out]; exact HO6.out.lo' (by omega), HB6.out⟩
end Go.Proofs.Ytjlckfbacphblaa.Od
