/- Contracts of the times for which somebody may sign for somebody, in the program (a closure handed on twice) and in the reference. -/
import Derived.Test.YtjoeacdoblgncaaMMandate
import Derived.Test.YtjoeacdoblgncaaTd
import Derived.Test.YtjoeacdoblgncaaQt
import Derived.Deep.RegionLaw
import Derived.LoopTactic
namespace Go.Proofs.Ytjoeacdoblgncaa.Mp
open Go.ChangeShapes Go.WideShapes Go.ChangeAt Go.RowKit Sl St Fnd Kn Kr Ki Km Ko
theorem drewB {W w : World} {B : Nat} (h : Below B W w) : Below B W w.drew := below_drewN h 1
def isM (ks : List I5) (org per : Int) (x : I6) : Bool := decide (x.1 = org) && (decide (x.2.1 = per) && MMandate.chk ks x)
def spn (x : I6) : Jn.Sp := (x.2.2.1, x.2.2.2.1)
def msp (ks : List I5) (org per : Int) (xs : List I6) : List Jn.Sp := Jn.join ((xs.filter (isM ks org per)).map spn)
theorem isM_def (ks : List I5) (org per : Int) (x0 x1 x2 x3 x4 x5 : Int) : isM ks org per (x0, x1, x2, x3, x4, x5) = (decide (x0 = org) && (decide (x1 = per) && MMandate.chk ks (x0, x1, x2, x3, x4, x5))) := rfl
theorem says {b b' : Value} {w w' : World} (h : b' = b) (hb : Below w.heap.size w w') : (Ending.returned b' = .returned b) ∧ Below w.heap.size w w' := ⟨by rw [h], hb⟩
theorem filt_no {pr : I6 → Bool} {zs : List I6} {k : Nat} {x : I6} (hk : k < zs.length) (hx : zs.getD k SlMandate.zero = x) (h : pr x = false) : (zs.take (k + 1)).filter pr = (zs.take k).filter pr := by
  rw [take_succ SlMandate.zero hk, List.filter_append, hx]
  simp [h]
theorem filt_yes {pr : I6 → Bool} {zs : List I6} {k : Nat} {x : I6} (hk : k < zs.length) (hx : zs.getD k SlMandate.zero = x) (h : pr x = true) : (zs.take (k + 1)).filter pr = (zs.take k).filter pr ++ [x] := by
  rw [take_succ SlMandate.zero hk, List.filter_append, hx]
  simp [h]
def FW (pr : I6 → Bool) (zs : List I6) (k : Nat) (p : Option Addr) (m c : Nat) (w wr : World) : Prop := OwS SlMandate.E 86 wr w.heap.size wr.heap.size p m c ((zs.take k).filter pr) ∧ Below w.heap.size w wr
theorem FW.len {pr : I6 → Bool} {zs : List I6} {k : Nat} {p : Option Addr} {m c : Nat} {w wr : World} (h : FW pr zs k p m c w wr) : m ≤ k := by
  have h1 := h.1.len
  have h2 := List.length_filter_le pr (zs.take k)
  rw [List.length_take] at h2
  omega
theorem FW.next {pr : I6 → Bool} {zs : List I6} {k : Nat} {p : Option Addr} {m c : Nat} {w wr w1 : World} (h : FW pr zs k p m c w wr) (hb : Below wr.heap.size wr w1) (hi : (zs.take (k + 1)).filter pr = (zs.take k).filter pr) : FW pr zs (k + 1) p m c w w1 := ⟨by rw [hi]; exact (h.1.below hb).wide (Nat.le_refl _) hb.size (Nat.le_refl _), below_on h.2 hb⟩
theorem one_m (w : World) (x0 x1 x2 x3 x4 x5 : Int) : RdS SlMandate.E (w.alloc (.cells #[.int .i64 x0, .int .i64 x1, .int .i64 x2, .int .i64 x3, .int .i64 x4, .int .i64 x5] 86)) (some ⟨w.heap.size, 0, none⟩) 1 [(x0, x1, x2, x3, x4, x5)] := (lit_own SlMandate.E 86 w 0 [(x0, x1, x2, x3, x4, x5)] #[.int .i64 x0, .int .i64 x1, .int .i64 x2, .int .i64 x3, .int .i64 x4, .int .i64 x5] 1 (by rw [fl_one]; rfl) rfl (by unfold maxLen; omega) (Nat.zero_le _)).rd
theorem one_s (w : World) (a b : Int) : RdS SlSpan.E (w.alloc (.cells #[.int .i64 a, .int .i64 b] 64)) (some ⟨w.heap.size, 0, none⟩) 1 [(a, b)] := (lit_own SlSpan.E 64 w 0 [(a, b)] #[.int .i64 a, .int .i64 b] 1 (by rw [fl_one]; rfl) rfl (by unfold maxLen; omega) (Nat.zero_le _)).rd
set_option maxRecDepth 100000 in
set_option maxHeartbeats 4000000 in
theorem pred_any (g1 g2 g3 : Nat) (p : Option Addr) (n c : Nat) (ks : List I5) (hR : ∀ x ∈ ks, SlKey.InR x) (org per : Int) (x0 x1 x2 x3 x4 x5 : Int) (h0 : -9223372036854775808 ≤ x0 ∧ x0 ≤ 9223372036854775807) (h1 : -9223372036854775808 ≤ x1 ∧ x1 ≤ 9223372036854775807) (h2 : -9223372036854775808 ≤ x2 ∧ x2 ≤ 9223372036854775807) (h3 : -9223372036854775808 ≤ x3 ∧ x3 ≤ 9223372036854775807) (h4 : -9223372036854775808 ≤ x4 ∧ x4 ≤ 9223372036854775807) (h5 : -9223372036854775808 ≤ x5 ∧ x5 ≤ 9223372036854775807) (w : World) (ho : Bx w g1 3 #[.int .i64 org]) (hp : Bx w g2 3 #[.int .i64 per]) (hk : Bx w g3 31 #[.slice p n c]) (hr : RdS SlKey.E w p n ks) : Calls Try.prog 64 #[.agg #[.int .i64 x0, .int .i64 x1, .int .i64 x2, .int .i64 x3, .int .i64 x4, .int .i64 x5], .pointer (some ⟨g1, 0, none⟩), .pointer (some ⟨g2, 0, none⟩), .pointer (some ⟨g3, 0, none⟩)] w fun e w' => e = .returned (.bool (isM ks org per (x0, x1, x2, x3, x4, x5))) ∧ Below w.heap.size w w' := by
  have hb := Ki.box1 w (.cells #[.int .i64 x0, .int .i64 x1, .int .i64 x2, .int .i64 x3, .int .i64 x4, .int .i64 x5] 86)
  have HR := Lib.hid (hr.below hb)
  have HB := Lib.hid hb
  have k1 := (ho.alloc (.cells #[.int .i64 x0, .int .i64 x1, .int .i64 x2, .int .i64 x3, .int .i64 x4, .int .i64 x5] 86)).cell (j := 0) rfl
  have k2 := (hp.alloc (.cells #[.int .i64 x0, .int .i64 x1, .int .i64 x2, .int .i64 x3, .int .i64 x4, .int .i64 x5] 86)).cell (j := 0) rfl
  have k3 := (hk.alloc (.cells #[.int .i64 x0, .int .i64 x1, .int .i64 x2, .int .i64 x3, .int .i64 x4, .int .i64 x5] 86)).cell (j := 0) rfl
  have hs := isM_def ks org per x0 x1 x2 x3 x4 x5
  have G0 := Lib.hid h0
  have G1 := Lib.hid h1
  have G2 := Lib.hid h2
  have G3 := Lib.hid h3
  have G4 := Lib.hid h4
  have G5 := Lib.hid h5
  clear ho hp hk hr hb h0 h1 h2 h3 h4 h5
  by_cases h1 : x0 = org
  rotate_left
  · have HS : Hid (isM ks org per (x0, x1, x2, x3, x4, x5) = false) := Lib.hid (by rw [hs, decide_eq_false h1]; rfl)
    have e1 : (x0 == org) = false := beq_eq_false_iff_ne.2 h1
    clear hs h1
    go_enter Try.func64, Try.ntmps64
    go_wp2_with fail
    go_ret
    exact says (by rw [HS.out]; try rfl) HB.out
  by_cases h2 : x1 = per
  rotate_left
  · have HS : Hid (isM ks org per (x0, x1, x2, x3, x4, x5) = false) := Lib.hid (by rw [hs, decide_eq_false h2]; simp)
    have e2 : (x1 == per) = false := beq_eq_false_iff_ne.2 h2
    clear hs h2
    subst h1
    go_enter Try.func64, Try.ntmps64
    go_wp2_with fail
    go_ret
    exact says (by rw [HS.out]; try rfl) HB.out
  have HS : Hid (isM ks org per (x0, x1, x2, x3, x4, x5) = MMandate.chk ks (x0, x1, x2, x3, x4, x5)) := Lib.hid (by rw [hs, decide_eq_true h1, decide_eq_true h2]; rfl)
  clear hs
  subst h1
  subst h2
  go_enter Try.func64, Try.ntmps64
  go_wp2_with fail
  refine (MMandate.check_any p n c ks hR x0 x1 x2 x3 x4 x5 G0.out G1.out G2.out G3.out G4.out G5.out _ HR.out).mono ?_
  rintro e w1 ⟨rfl, hb⟩
  have HB1 := Lib.hid (below_on HB.out hb)
  clear hb k1 k2 k3
  go_wp2_with fail
  go_ret
  exact says (by rw [HS.out]; try rfl) HB1.out
set_option maxRecDepth 100000 in
set_option maxHeartbeats 4000000 in
theorem elems_any (pr : I6 → Bool) (g1 g2 g3 : Nat) (p : Option Addr) (n c : Nat) (zs : List I6) (hX : ∀ x ∈ zs, SlMandate.InR x) (w : World) (hr : RdS SlMandate.E w p n zs) (hn : n ≤ 10000000)
    (hp : ∀ (W : World) (x0 x1 x2 x3 x4 x5 : Int), SlMandate.InR (x0, x1, x2, x3, x4, x5) → Below w.heap.size w W → Calls Try.prog 64 #[.agg #[.int .i64 x0, .int .i64 x1, .int .i64 x2, .int .i64 x3, .int .i64 x4, .int .i64 x5], .pointer (some ⟨g1, 0, none⟩), .pointer (some ⟨g2, 0, none⟩), .pointer (some ⟨g3, 0, none⟩)] W fun e w' => e = .returned (.bool (pr (x0, x1, x2, x3, x4, x5))) ∧ Below W.heap.size W w') :
    Calls Try.prog 91 #[.slice p n c, .func (.func 64) #[] #[.pointer (some ⟨g1, 0, none⟩), .pointer (some ⟨g2, 0, none⟩), .pointer (some ⟨g3, 0, none⟩)]] w (SlMandate.Makes (zs.filter pr) w) := by
  obtain ⟨i0, hi, hz0, hz1, hz2⟩ := info_parts SlMandate.info
  have HR := Lib.hid hr
  have HL := Lib.hid hr.len
  have HP := Lib.hid hp
  have HM : Hid (FW pr zs 0 (some ⟨w.heap.size, 0, none⟩) 0 0 w (w.alloc (.cells #[] 86))) := Lib.hid ⟨lit_own SlMandate.E 86 w w.heap.size [] #[] 0 rfl rfl (by unfold maxLen; omega) (Nat.le_refl _), box1 _ _⟩
  clear hr hp
  go_enter Try.func91, Try.ntmps91
  go_wp2_with fail
  go_loopw [5, 11] (fun v i wr => ∃ (k m c' : Nat) (p' : Option Addr), k ≤ n ∧ i = .int .i64 k ∧ v = .slice p' m c' ∧ Hid (FW pr zs k p' m c' w wr)) (fun _ i _ => n - (intOf i).toNat)
  case atStart => exact ⟨0, _, _, _, Nat.zero_le _, rfl, rfl, HM⟩
  case round =>
    obtain ⟨k, m, c', p', hk, rfl, rfl, HK⟩ := hrel
    have hml := HK.out.len
    by_cases hlt : k < n
    · obtain ⟨b, o, rfl, hbb, hat⟩ := SlMandate.rd_at (HR.out.below HK.out.2) hlt
      have HKX : Hid (k < zs.length) := Lib.hid (by rw [HL.out]; exact hlt)
      have HI := Lib.hid (hX (zs.getD k SlMandate.zero) (getD_mem SlMandate.zero HKX.out))
      generalize hx : zs.getD k SlMandate.zero = x at hat HI
      have HXx := Lib.hid hx
      clear hx
      obtain ⟨x0, x1, x2, x3, x4, x5⟩ := x
      obtain ⟨c0, c1, c2, c3, c4, c5⟩ := hat
      have HBx := Lib.hid (Bx.new wr 86 #[.int .i64 x0, .int .i64 x1, .int .i64 x2, .int .i64 x3, .int .i64 x4, .int .i64 x5])
      have HWa := Lib.hid (Ki.box1 wr (.cells #[.int .i64 x0, .int .i64 x1, .int .i64 x2, .int .i64 x3, .int .i64 x4, .int .i64 x5] 86))
      obtain ⟨β, hβ⟩ : ∃ β, pr (x0, x1, x2, x3, x4, x5) = β := ⟨_, rfl⟩
      have HBt := Lib.hid hβ
      clear hβ
      cases β
      · have HIn := Lib.hid (filt_no HKX.out HXx.out HBt.out)
        go_wp2_with fail
        clear c0 c1 c2 c3 c4 c5
        refine (HP.out _ x0 x1 x2 x3 x4 x5 HI.out (below_on HK.out.2 HWa.out)).mono ?_
        rintro e w1 ⟨rfl, hb1⟩
        rw [HBt.out]
        have HK1 := Lib.hid (HK.out.next (below_on HWa.out hb1) HIn.out)
        clear hb1
        go_wp2_with fail
        go_roundw
        case rel => exact ⟨k + 1, _, _, _, by omega, by go_num, rfl, HK1⟩
        case measure => simp [intOf]; omega
      · have HIn := Lib.hid (filt_yes HKX.out HXx.out HBt.out)
        go_wp2_with fail
        clear c0 c1 c2 c3 c4 c5
        refine (HP.out _ x0 x1 x2 x3 x4 x5 HI.out (below_on HK.out.2 HWa.out)).mono ?_
        rintro e w1 ⟨rfl, hb1⟩
        rw [HBt.out]
        have HO1 := Lib.hid ((HK.out.1.below (below_on HWa.out hb1)).wide (Nat.le_refl _) (below_on HWa.out hb1).size (Nat.le_refl _))
        have HB1 := Lib.hid (below_on HK.out.2 (below_on HWa.out hb1))
        have hsz := HB1.out.size
        have HLit := Lib.hid (one_m w1 x0 x1 x2 x3 x4 x5)
        obtain ⟨d0, d1, d2, d3, d4, d5⟩ := SlMandate.bxc (HBx.out.below hb1)
        clear hb1
        go_wp2_with (at_builtin; refine wpList_appS rfl (.tmp 18) (.tmp 20) 54 rfl i0 _ 48 Try.underlying54 hi hz0 hz1 hz2 rfl rfl (HO1.out.alloc _) (some ⟨w1.heap.size, 0, none⟩) 1 1 [(x0, x1, x2, x3, x4, x5)] rfl HLit.out (Nat.le_trans hsz (by simp)) (by omega) (by omega) ?_; intro p2 c2 w2 how2 hg2; rw [← HIn.out] at how2; have HK2 : Hid (FW pr zs (k + 1) p2 (m + 1) c2 w w2) := Lib.hid ⟨how2.wide (Nat.le_refl _) (Nat.le_refl _) (Nat.le_refl _), below_rowS (HB1.out.alloc hsz _) (HO1.out.alloc _) hg2 (Nat.le_refl _)⟩; clear how2 hg2)
        go_roundw
        case rel => exact ⟨k + 1, _, _, _, by omega, by go_num, rfl, HK2⟩
        case measure => simp [intOf]; omega
    · obtain rfl : k = n := by omega
      have HT : Hid (zs.take k = zs) := Lib.hid (List.take_of_length_le (by rw [HL.out]; exact Nat.le_refl _))
      go_wp2_with fail
      go_ret
      exact ⟨_, _, _, rfl, by have h := HK.out.1; rw [HT.out] at h; exact h, HK.out.2⟩
/-! ### the spans of those that count -/
def SpW (ms : List I6) (k g c' : Nat) (pm : Option Addr) (nm : Nat) (w wr : World) : Prop := OwS SlSpan.E 64 wr w.heap.size wr.heap.size (some ⟨g, 0, none⟩) k c' ((ms.take k).map spn) ∧ RdS SlMandate.E wr pm nm ms ∧ (∀ b o, pm = some ⟨b, o, none⟩ → b ≠ g ∧ b < wr.heap.size) ∧ Below w.heap.size w wr
theorem SpW.next {ms : List I6} {k g c' g3 c3 : Nat} {pm : Option Addr} {nm : Nat} {w wr wa w3 : World} {x : I6} (h : SpW ms k g c' pm nm w wr) (hk : k < ms.length) (hx : ms.getD k SlMandate.zero = x) (hb : Below wr.heap.size wr wa) (how : OwS SlSpan.E 64 w3 w.heap.size w3.heap.size (some ⟨g3, 0, none⟩) (k + 1) c3 ((ms.take k).map spn ++ [spn x])) (hg : wa.grownBy w3 (Value.slice (some ⟨g, 0, none⟩) k c').ownBlock) (hat : (Value.slice (some ⟨g, 0, none⟩) k c').ownBlock = some g3 ∨ g3 = wa.heap.size) : SpW ms (k + 1) g3 c3 pm nm w w3 := by
  have e0 : (Value.slice (some ⟨g, 0, none⟩) k c').ownBlock = some g := rfl
  rw [e0] at hg hat
  refine ⟨?_, (h.2.1.below hb).grown hg (fun b o e hh => (h.2.2.1 b o e).1 (by simpa using hh)), fun b o e => ⟨?_, ?_⟩, (below_on h.2.2.2 hb).grown hg (Nat.le_trans h.2.2.2.size hb.size) (fun k e => by cases e; exact (h.1.far g rfl).1)⟩
  · rw [take_succ SlMandate.zero hk, List.map_append, hx]; exact how
  · obtain ⟨h1, h2⟩ := h.2.2.1 b o e
    have h3 := hb.size
    rcases hat with hat | hat
    · simp only [Option.some.injEq] at hat
      omega
    · omega
  · have h2 := (h.2.2.1 b o e).2
    have h3 := hb.size
    have h4 := hg.size
    omega
set_option maxRecDepth 100000 in
set_option maxHeartbeats 4000000 in
theorem spans_any (pr : I6 → Bool) (g1 g2 g3 : Nat) (p : Option Addr) (n c : Nat) (zs : List I6) (hX : ∀ x ∈ zs, SlMandate.InR x) (w : World) (hr : RdS SlMandate.E w p n zs) (hn : n ≤ 10000000)
    (hp : ∀ (W : World) (x0 x1 x2 x3 x4 x5 : Int), SlMandate.InR (x0, x1, x2, x3, x4, x5) → Below w.heap.size w W → Calls Try.prog 64 #[.agg #[.int .i64 x0, .int .i64 x1, .int .i64 x2, .int .i64 x3, .int .i64 x4, .int .i64 x5], .pointer (some ⟨g1, 0, none⟩), .pointer (some ⟨g2, 0, none⟩), .pointer (some ⟨g3, 0, none⟩)] W fun e w' => e = .returned (.bool (pr (x0, x1, x2, x3, x4, x5))) ∧ Below W.heap.size W w') :
    Calls Try.prog 63 #[.slice p n c, .func (.func 64) #[] #[.pointer (some ⟨g1, 0, none⟩), .pointer (some ⟨g2, 0, none⟩), .pointer (some ⟨g3, 0, none⟩)]] w (SlSpan.Makes (Jn.join ((zs.filter pr).map spn)) w) := by
  obtain ⟨i0, hi, hz0, hz1, hz2⟩ := info_parts SlSpan.info
  have hb0 := Ki.box1 w (.cells #[] 64)
  have HB0 := Lib.hid hb0
  have HR := Lib.hid (hr.below hb0)
  have HP : Hid (∀ (W : World) (x0 x1 x2 x3 x4 x5 : Int), SlMandate.InR (x0, x1, x2, x3, x4, x5) → Below (w.alloc (.cells #[] 64)).heap.size (w.alloc (.cells #[] 64)) W → Calls Try.prog 64 #[.agg #[.int .i64 x0, .int .i64 x1, .int .i64 x2, .int .i64 x3, .int .i64 x4, .int .i64 x5], .pointer (some ⟨g1, 0, none⟩), .pointer (some ⟨g2, 0, none⟩), .pointer (some ⟨g3, 0, none⟩)] W fun e w' => e = .returned (.bool (pr (x0, x1, x2, x3, x4, x5))) ∧ Below W.heap.size W w') := Lib.hid (fun W x0 x1 x2 x3 x4 x5 hi hb => hp W x0 x1 x2 x3 x4 x5 hi (below_on hb0 hb))
  have HO := Lib.hid (lit_own SlSpan.E 64 w w.heap.size [] #[] 0 rfl rfl (by unfold maxLen; omega) (Nat.le_refl _))
  have HLZ := Lib.hid hr.len
  have HV : Hid (w.heap.size < (w.alloc (.cells #[] 64)).heap.size) := Lib.hid (by rw [World.size_alloc]; omega)
  clear hr hp hb0
  go_enter Try.func63, Try.ntmps63
  go_wp2_with fail
  generalize w.alloc (.cells #[] 64) = V at HB0 HR HP HO HV ⊢
  refine (elems_any pr g1 g2 g3 p n c zs hX V HR.out hn HP.out).mono ?_
  rintro e w1 ⟨p1, n1, c1, rfl, ho1, hb1⟩
  have HLm := Lib.hid ho1.len
  have hn1 : n1 ≤ 10000000 := by
    have h1 := ho1.len
    have h2 := List.length_filter_le pr zs
    have h3 := HLZ.out
    omega
  obtain ⟨ms, hms⟩ : ∃ ms, zs.filter pr = ms := ⟨_, rfl⟩
  have HMS := Lib.hid hms
  rw [hms] at ho1 HLm
  have HM : Hid (SpW ms 0 w.heap.size 0 p1 n1 w w1) := Lib.hid ⟨(HO.out.below hb1).wide (Nat.le_refl _) hb1.size (Nat.le_refl _), ho1.rd, fun b o e => by
    rcases ho1.form with ⟨h, _⟩ | ⟨g, h, h1, h2, _⟩
    · rw [h] at e; cases e
    · rw [h] at e
      simp only [Option.some.injEq, Addr.mk.injEq, and_true] at e
      have := HV.out
      omega, below_on HB0.out hb1⟩
  clear ho1 hb1 hms
  go_wp2_with fail
  go_loopw [5, 13] (fun v i wr => ∃ (k g c' : Nat), k ≤ n1 ∧ i = .int .i64 k ∧ v = .slice (some ⟨g, 0, none⟩) k c' ∧ Hid (SpW ms k g c' p1 n1 w wr)) (fun _ i _ => n1 - (intOf i).toNat)
  case atStart => exact ⟨0, _, _, Nat.zero_le _, rfl, rfl, HM⟩
  case round =>
    obtain ⟨k, g, c', hk, rfl, rfl, HK⟩ := hrel
    by_cases hlt : k < n1
    · obtain ⟨b, o, rfl, hbb, hat⟩ := SlMandate.rd_at HK.out.2.1 hlt
      have HKX : Hid (k < ms.length) := Lib.hid (by rw [HLm.out]; exact hlt)
      generalize hx : ms.getD k SlMandate.zero = x at hat
      have HXx := Lib.hid hx
      clear hx
      obtain ⟨x0, x1, x2, x3, x4, x5⟩ := x
      obtain ⟨c0, c1, c2, c3, c4, c5⟩ := hat
      have HWa := Lib.hid (Ki.box1 wr (.cells #[.int .i64 x0, .int .i64 x1, .int .i64 x2, .int .i64 x3, .int .i64 x4, .int .i64 x5] 86))
      go_wp2_with fail
      clear c0 c1 c2 c3 c4 c5
      refine (Mi.mandateSpan_any x0 x1 x2 x3 x4 x5 _).mono ?_
      rintro e w2 ⟨rfl, hb2⟩
      have HB2 := Lib.hid (below_on HWa.out hb2)
      have HO2 := Lib.hid ((HK.out.1.below HB2.out).wide (Nat.le_refl _) HB2.out.size (Nat.le_refl _))
      have hsz : w.heap.size ≤ w2.heap.size := Nat.le_trans HK.out.2.2.2.size HB2.out.size
      have HLit := Lib.hid (one_s w2 x2 x3)
      clear hb2
      go_wp2_with (at_builtin; refine Ji.wpList_appL rfl (.tmp 17) (.tmp 20) 52 rfl i0 _ 16 Try.underlying52 hi hz0 hz1 hz2 rfl rfl (HO2.out.alloc _) w2.heap.size 1 (x2, x3) rfl HLit.out (Nat.le_trans hsz (by simp)) (by omega) (by omega) ?_; intro g3 c3 w3 how3 hg3 hat3; have HK3 : Hid (SpW ms (k + 1) g3 c3 (some ⟨b, o, none⟩) n1 w w3) := Lib.hid (HK.out.next HKX.out HXx.out (HB2.out.alloc HB2.out.size _) how3 hg3 hat3); clear how3 hg3 hat3)
      go_roundw
      case rel => exact ⟨k + 1, _, _, by omega, by go_num, rfl, HK3⟩
      case measure => simp [intOf]; omega
    · obtain rfl : k = n1 := by omega
      have HT : Hid (ms.take k = ms) := Lib.hid (List.take_of_length_le (by rw [HLm.out]; exact Nat.le_refl _))
      go_wp2_with fail
      refine (Ji.join_any _ _ _ ((ms.take k).map spn) _ HK.out.1.rd (by omega)).mono ?_
      rintro e w2 ⟨p2, n2, c2, rfl, ho2, hb2⟩
      have HO2 := Lib.hid (ho2.wide HK.out.2.2.2.size (Nat.le_refl _) (Nat.le_refl _))
      have HB2 := Lib.hid (below_on HK.out.2.2.2 hb2)
      clear ho2 hb2
      go_wp2_with fail
      go_ret
      exact ⟨_, _, _, rfl, by have h := HO2.out; rw [HT.out, ← HMS.out] at h; exact h, HB2.out⟩
set_option maxRecDepth 100000 in
set_option maxHeartbeats 4000000 in
theorem mandateSpans_any (p : Option Addr) (n c : Nat) (ks : List I5) (hR : ∀ x ∈ ks, SlKey.InR x) (q : Option Addr) (m c' : Nat) (xs : List I6) (hX : ∀ x ∈ xs, SlMandate.InR x) (org per : Int) (w : World) (hr : RdS SlKey.E w p n ks) (hs : RdS SlMandate.E w q m xs) (hm : m ≤ 10000000) : Calls Try.prog 35 #[.slice p n c, .slice q m c', .int .i64 org, .int .i64 per] w (SlSpan.Makes (msp ks org per xs) w) := by
  have b0 := ((Bx.new w 31 #[.slice p n c]).alloc (.cells #[.int .i64 org] 3)).alloc (.cells #[.int .i64 per] 3)
  have b1 := (Bx.new (w.alloc (.cells #[.slice p n c] 31)) 3 #[.int .i64 org]).alloc (.cells #[.int .i64 per] 3)
  have b2 := Bx.new ((w.alloc (.cells #[.slice p n c] 31)).alloc (.cells #[.int .i64 org] 3)) 3 #[.int .i64 per]
  rw [World.size_alloc] at b1
  rw [World.size_alloc, World.size_alloc] at b2
  have hb : Below w.heap.size w (((w.alloc (.cells #[.slice p n c] 31)).alloc (.cells #[.int .i64 org] 3)).alloc (.cells #[.int .i64 per] 3)) := (((Below.refl w.heap.size w).alloc (Nat.le_refl _) _).alloc (by simp) _).alloc (by simp; omega) _
  have HB := Lib.hid hb
  have HS := Lib.hid (hs.below hb)
  have HR := Lib.hid (hr.below hb)
  have H0 := Lib.hid b0
  have H1 := Lib.hid b1
  have H2 := Lib.hid b2
  have HP : Hid (∀ (W : World) (x0 x1 x2 x3 x4 x5 : Int), SlMandate.InR (x0, x1, x2, x3, x4, x5) → Below (((w.alloc (.cells #[.slice p n c] 31)).alloc (.cells #[.int .i64 org] 3)).alloc (.cells #[.int .i64 per] 3)).heap.size (((w.alloc (.cells #[.slice p n c] 31)).alloc (.cells #[.int .i64 org] 3)).alloc (.cells #[.int .i64 per] 3)) W → Calls Try.prog 64 #[.agg #[.int .i64 x0, .int .i64 x1, .int .i64 x2, .int .i64 x3, .int .i64 x4, .int .i64 x5], .pointer (some ⟨w.heap.size + 1, 0, none⟩), .pointer (some ⟨w.heap.size + 1 + 1, 0, none⟩), .pointer (some ⟨w.heap.size, 0, none⟩)] W fun e w' => e = .returned (.bool (isM ks org per (x0, x1, x2, x3, x4, x5))) ∧ Below W.heap.size W w') := Lib.hid (fun W x0 x1 x2 x3 x4 x5 hi hb => pred_any _ _ _ p n c ks hR org per x0 x1 x2 x3 x4 x5 hi.1 hi.2.1 hi.2.2.1 hi.2.2.2.1 hi.2.2.2.2.1 hi.2.2.2.2.2 W (H1.out.below hb) (H2.out.below hb) (H0.out.below hb) (HR.out.below hb))
  clear b0 b1 b2 hb hr hs
  go_enter Try.func35, Try.ntmps35
  go_wp2_with fail
  generalize (((w.alloc (.cells #[.slice p n c] 31)).alloc (.cells #[.int .i64 org] 3)).alloc (.cells #[.int .i64 per] 3)) = V at HB HS HR H0 H1 H2 HP ⊢
  refine (spans_any (isM ks org per) _ _ _ q m c' xs hX V HS.out hm HP.out).mono ?_
  rintro e w1 ⟨p1, n1, c1, rfl, ho1, hb⟩
  have HO1 := Lib.hid (ho1.wide HB.out.size (Nat.le_refl _) (Nat.le_refl _))
  have HB1 := Lib.hid (below_on HB.out hb)
  clear hb ho1 HP
  go_wp2_with fail
  go_ret
  exact ⟨_, _, _, rfl, HO1.out, HB1.out⟩
/-! ### in the reference -/
def RW (ks : List I5) (org per : Int) (xs : List I6) (k : Nat) (p : Option Addr) (m c : Nat) (w wr : World) : Prop := OwS SlSpan.E 64 wr w.heap.size wr.heap.size p m c (((xs.take k).filter (isM ks org per)).map spn) ∧ Below w.heap.size w wr
theorem RW.len {ks : List I5} {org per : Int} {xs : List I6} {k : Nat} {p : Option Addr} {m c : Nat} {w wr : World} (h : RW ks org per xs k p m c w wr) : m ≤ k := by
  have h1 := h.1.len
  have h2 := List.length_filter_le (isM ks org per) (xs.take k)
  rw [List.length_take] at h2
  rw [List.length_map] at h1
  omega
theorem RW.next {ks : List I5} {org per : Int} {xs : List I6} {k : Nat} {p : Option Addr} {m c : Nat} {w wr w1 : World} {x : I6} (h : RW ks org per xs k p m c w wr) (hb : Below wr.heap.size wr w1) (hk : k < xs.length) (hx : xs.getD k SlMandate.zero = x) (hf : isM ks org per x = false) : RW ks org per xs (k + 1) p m c w w1 := ⟨by rw [filt_no hk hx hf]; exact (h.1.below hb).wide (Nat.le_refl _) hb.size (Nat.le_refl _), below_on h.2 hb⟩
set_option maxRecDepth 100000 in
set_option maxHeartbeats 8000000 in
theorem spec_mandateSpans_any (p : Option Addr) (n c : Nat) (ks : List I5) (hR : ∀ x ∈ ks, SlKey.InR x) (q : Option Addr) (m c' : Nat) (xs : List I6) (hX : ∀ x ∈ xs, SlMandate.InR x) (org per : Int) (w : World) (hr : RdS SlKey.E w p n ks) (hs : RdS SlMandate.E w q m xs) (hm : m ≤ 10000000) : Calls Try.prog 33 #[.slice p n c, .slice q m c', .int .i64 org, .int .i64 per] w (SlSpan.Makes (msp ks org per xs) w) := by
  obtain ⟨i0, hi, hz0, hz1, hz2⟩ := info_parts SlSpan.info
  have HR := Lib.hid hr
  have HS := Lib.hid hs
  have HL := Lib.hid hs.len
  have HM : Hid (RW ks org per xs 0 (some ⟨w.heap.size, 0, none⟩) 0 0 w (w.alloc (.cells #[] 64))) := Lib.hid ⟨lit_own SlSpan.E 64 w w.heap.size [] #[] 0 rfl rfl (by unfold maxLen; omega) (Nat.le_refl _), box1 _ _⟩
  clear hr hs
  go_enter Try.func33, Try.ntmps33
  go_wp2_with fail
  go_loopw [9, 10] (fun v i wr => ∃ (k m1 c1 : Nat) (p' : Option Addr), k ≤ m ∧ i = .int .i64 k ∧ v = .slice p' m1 c1 ∧ Hid (RW ks org per xs k p' m1 c1 w wr)) (fun _ i _ => m - (intOf i).toNat)
  case atStart => exact ⟨0, _, _, _, Nat.zero_le _, rfl, rfl, HM⟩
  case round =>
    obtain ⟨k, m1, c1, p', hk, rfl, rfl, HK⟩ := hrel
    have hml := HK.out.len
    by_cases hlt : k < m
    · obtain ⟨b, o, rfl, hbb, hat⟩ := SlMandate.rd_at (HS.out.below HK.out.2) hlt
      have HKX : Hid (k < xs.length) := Lib.hid (by rw [HL.out]; exact hlt)
      have HI := Lib.hid (hX (xs.getD k SlMandate.zero) (getD_mem SlMandate.zero HKX.out))
      generalize hx : xs.getD k SlMandate.zero = x at hat HI
      have HXx := Lib.hid hx
      clear hx
      obtain ⟨x0, x1, x2, x3, x4, x5⟩ := x
      have HAT := Lib.hid hat
      obtain ⟨c0, c1, c2, c3, c4, c5⟩ := hat
      obtain ⟨ii0, ii1, ii2, ii3, ii4, ii5⟩ := HI.out
      have I0 := Lib.hid ii0
      have I1 := Lib.hid ii1
      have I2 := Lib.hid ii2
      have I3 := Lib.hid ii3
      have I4 := Lib.hid ii4
      have I5 := Lib.hid ii5
      clear ii0 ii1 ii2 ii3 ii4 ii5
      have hs := isM_def ks org per x0 x1 x2 x3 x4 x5
      by_cases h1 : x0 = org
      rotate_left
      · have e1 : (x0 == org) = false := beq_eq_false_iff_ne.2 h1
        have HK1 := Lib.hid (HK.out.next (Below.refl _ _) HKX.out HXx.out (by rw [hs, decide_eq_false h1]; rfl))
        clear hs h1
        go_wp2_with fail
        go_roundw
        case rel => exact ⟨k + 1, _, _, _, by omega, by go_num, rfl, HK1⟩
        case measure => simp [intOf]; omega
      by_cases h2 : x1 = per
      rotate_left
      · have e1 : (x1 == per) = false := beq_eq_false_iff_ne.2 h2
        have HK1 := Lib.hid (HK.out.next (Below.refl _ _) HKX.out HXx.out (by rw [hs, decide_eq_false h2]; simp))
        clear hs h2
        subst h1
        go_wp2_with fail
        go_roundw
        case rel => exact ⟨k + 1, _, _, _, by omega, by go_num, rfl, HK1⟩
        case measure => simp [intOf]; omega
      obtain ⟨β, hβ⟩ : ∃ β, MMandate.chk ks (x0, x1, x2, x3, x4, x5) = β := ⟨_, rfl⟩
      have HC := Lib.hid hβ
      rw [decide_eq_true h1, decide_eq_true h2, hβ] at hs
      clear hβ
      have HSs := Lib.hid hs
      clear hs
      subst h1
      subst h2
      cases β
      · go_wp2_with fail
        refine (MMandate.spec_check_any p n c ks hR x0 x1 x2 x3 x4 x5 I0.out I1.out I2.out I3.out I4.out I5.out _ (HR.out.below HK.out.2)).mono ?_
        rintro e w1 ⟨rfl, hb1⟩
        rw [HC.out]
        have HK1 := Lib.hid (HK.out.next hb1 HKX.out HXx.out (by rw [HSs.out]; rfl))
        clear hb1 c0 c1 c2 c3 c4 c5
        go_wp2_with fail
        go_roundw
        case rel => exact ⟨k + 1, _, _, _, by omega, by go_num, rfl, HK1⟩
        case measure => simp [intOf]; omega
      · have HIn : Hid (((xs.take (k + 1)).filter (isM ks x0 x1)).map spn = ((xs.take k).filter (isM ks x0 x1)).map spn ++ [(x2, x3)]) := Lib.hid (by rw [filt_yes HKX.out HXx.out (by rw [HSs.out]; rfl), List.map_append]; rfl)
        go_wp2_with fail
        refine (MMandate.spec_check_any p n c ks hR x0 x1 x2 x3 x4 x5 I0.out I1.out I2.out I3.out I4.out I5.out _ (HR.out.below HK.out.2)).mono ?_
        rintro e w1 ⟨rfl, hb1⟩
        rw [HC.out]
        have HO1 := Lib.hid ((HK.out.1.below hb1).wide (Nat.le_refl _) hb1.size (Nat.le_refl _))
        have HB1 := Lib.hid (below_on HK.out.2 hb1)
        have hsz := HB1.out.size
        have HLit := Lib.hid (one_s w1 x2 x3)
        clear c0 c1 c2 c3 c4 c5
        obtain ⟨c0, c1, c2, c3, c4, c5⟩ := HAT.out.below hb1 hbb
        have k1 : (0 : Int) ≤ (k : Int) := by omega
        have k2 : (k : Int) < (m : Int) := by omega
        have HA1 := Lib.hid (HAT.out.below hb1 hbb)
        have hb1s : b < w1.heap.size := Nat.lt_of_lt_of_le hbb hb1.size
        clear hb1
        go_wp2_with fail
        go_region_law (refine step_appS (E := SlSpan.E) (by rfl) (.tmp 42) (.tmp 54) 52 (by rfl) i0 _ 16 Try.underlying52 hi hz0 hz1 hz2 (by rfl) (by rfl) (HO1.out.alloc _).drew1 (some ⟨w1.heap.size, 0, none⟩) 1 1 [(x2, x3)] (by rfl) HLit.out.drew1 (by first | (simp; done) | (simp; omega)) (by omega) (by omega) ?_; intro p2 c2 w2 how2 hg2; rw [← HIn.out] at how2; have HK2 : Hid (RW ks x0 x1 xs (k + 1) p2 (m1 + 1) c2 w w2) := Lib.hid ⟨how2.wide (Nat.le_refl _) (Nat.le_refl _) (Nat.le_refl _), below_rowS (drewB (HB1.out.alloc hsz _)) (HO1.out.alloc _).drew1 hg2 (Nat.le_refl _)⟩; clear how2 hg2)
        all_goals
          go_wp2_with fail
          go_roundw
          case rel => exact ⟨k + 1, _, _, _, by omega, by go_num, rfl, HK2⟩
          case measure => simp [intOf]; omega
    · obtain rfl : k = m := by omega
      have HT : Hid (xs.take k = xs) := Lib.hid (List.take_of_length_le (by rw [HL.out]; exact Nat.le_refl _))
      go_wp2_with fail
      refine (Jo.spec_join_any _ _ _ (((xs.take k).filter (isM ks org per)).map spn) _ HK.out.1.rd (by omega)).mono ?_
      rintro e w2 ⟨p2, n2, c2, rfl, ho2, hb2⟩
      have HO2 := Lib.hid (ho2.wide HK.out.2.size (Nat.le_refl _) (Nat.le_refl _))
      have HB2 := Lib.hid (below_on HK.out.2 hb2)
      clear ho2 hb2
      go_wp2_with fail
      go_ret
      exact ⟨_, _, _, rfl, by have h := HO2.out; rw [HT.out] at h; exact h, HB2.out⟩
/-! ### who may sign -/
def may (ks : List I5) (org per : Int) (xs : List I6) (s : Jn.Sp) : Bool := if org = 0 then Jn.okB s else Jn.covers (msp ks org per xs) s
set_option maxRecDepth 100000 in
set_option maxHeartbeats 4000000 in
theorem may_any (p : Option Addr) (n c : Nat) (ks : List I5) (hR : ∀ x ∈ ks, SlKey.InR x) (q : Option Addr) (m c' : Nat) (xs : List I6) (hX : ∀ x ∈ xs, SlMandate.InR x) (org per : Int) (s0 s1 : Int) (w : World) (hr : RdS SlKey.E w p n ks) (hs : RdS SlMandate.E w q m xs) (hm : m ≤ 10000000) : Calls Try.prog 43 #[.slice p n c, .slice q m c', .int .i64 org, .int .i64 per, .agg #[.int .i64 s0, .int .i64 s1]] w fun e w' => e = .returned (.bool (may ks org per xs (s0, s1))) ∧ Below w.heap.size w w' := by
  have hb := Ki.box1 w (.cells #[.int .i64 s0, .int .i64 s1] 64)
  have HB := Lib.hid hb
  have HX' := Lib.hid (Bx.new w 64 #[.int .i64 s0, .int .i64 s1])
  have HS := Lib.hid (hs.below hb)
  have HR := Lib.hid (hr.below hb)
  have HML : Hid ((msp ks org per xs).length ≤ 1048576000) := Lib.hid (by
    have h1 := Jn.join_len ((xs.filter (isM ks org per)).map spn)
    have h2 := List.length_filter_le (isM ks org per) xs
    rw [List.length_map] at h1
    have h3 := hs.len
    unfold msp
    omega)
  clear hb hr hs
  by_cases h0 : org = 0
  · have HE : Hid (may ks org per xs (s0, s1) = Jn.okB (s0, s1)) := Lib.hid (if_pos h0)
    subst h0
    go_enter Try.func43, Try.ntmps43
    go_wp2_with fail
    generalize w.alloc (.cells #[.int .i64 s0, .int .i64 s1] 64) = V at HB HX' HS HR ⊢
    refine (Sps.isSpan_any s0 s1 _).mono ?_
    rintro e w1 ⟨rfl, hb⟩
    have HB1 := Lib.hid (below_on HB.out hb)
    clear hb
    go_wp2_with fail
    go_ret
    exact says (by rw [HE.out]; try rfl) HB1.out
  have HE : Hid (may ks org per xs (s0, s1) = Jn.covers (msp ks org per xs) (s0, s1)) := Lib.hid (if_neg h0)
  have e0 : (org == 0) = false := beq_eq_false_iff_ne.2 h0
  clear h0
  go_enter Try.func43, Try.ntmps43
  go_wp2_with fail
  generalize w.alloc (.cells #[.int .i64 s0, .int .i64 s1] 64) = V at HB HX' HS HR ⊢
  replace HB := Lib.hid (drewB HB.out)
  replace HX' := Lib.hid HX'.out.drew1
  replace HS := Lib.hid HS.out.drew1
  replace HR := Lib.hid HR.out.drew1
  go_region_held3 (fun w' => w'.cell? ⟨w.heap.size, 0, none⟩ = some (.int .i64 s0) ∧ w'.cell? ⟨w.heap.size, 1, none⟩ = some (.int .i64 s1)) (first | exact ⟨HX'.out.two.1, HX'.out.two.2.1⟩ | go_keep) (first
    | (go_at_call 35; (with_reducible refine (mandateSpans_any p n c ks hR q m c' xs hX org per _ HR.out HS.out hm).mono ?_); rintro e w1 ⟨p1, n1, c1, rfl, ho, hb⟩; replace HB := Lib.hid (below_on HB.out hb); replace HX' := Lib.hid (HX'.out.below hb); have HO := Lib.hid ho; have hn1 : n1 ≤ 1099511627776 := (by have h1 := HO.out.len; have h2 := HML.out; omega); clear ho hb)
    | (go_at_call 71; (with_reducible refine (Tc.covers_any _ _ _ (msp ks org per xs) s0 s1 _ HO.out.rd hn1).mono ?_); rintro e w2 ⟨rfl, hb⟩; replace HB := Lib.hid (below_on HB.out hb); replace HX' := Lib.hid (HX'.out.below hb); clear hb))
  go_wp2_with fail
  go_ret
  exact says (by rw [HE.out]; try rfl) HB.out
set_option maxRecDepth 100000 in
set_option maxHeartbeats 4000000 in
theorem spec_may_any (p : Option Addr) (n c : Nat) (ks : List I5) (hR : ∀ x ∈ ks, SlKey.InR x) (q : Option Addr) (m c' : Nat) (xs : List I6) (hX : ∀ x ∈ xs, SlMandate.InR x) (org per : Int) (s0 s1 : Int) (w : World) (hr : RdS SlKey.E w p n ks) (hs : RdS SlMandate.E w q m xs) (hm : m ≤ 10000000) : Calls Try.prog 41 #[.slice p n c, .slice q m c', .int .i64 org, .int .i64 per, .agg #[.int .i64 s0, .int .i64 s1]] w fun e w' => e = .returned (.bool (may ks org per xs (s0, s1))) ∧ Below w.heap.size w w' := by
  have hb := Ki.box1 w (.cells #[.int .i64 s0, .int .i64 s1] 64)
  have HB := Lib.hid hb
  have HX' := Lib.hid (Bx.new w 64 #[.int .i64 s0, .int .i64 s1])
  have HS := Lib.hid (hs.below hb)
  have HR := Lib.hid (hr.below hb)
  have HML : Hid ((msp ks org per xs).length ≤ 1048576000) := Lib.hid (by
    have h1 := Jn.join_len ((xs.filter (isM ks org per)).map spn)
    have h2 := List.length_filter_le (isM ks org per) xs
    rw [List.length_map] at h1
    have h3 := hs.len
    unfold msp
    omega)
  clear hb hr hs
  by_cases h0 : org = 0
  · have HE : Hid (may ks org per xs (s0, s1) = Jn.okB (s0, s1)) := Lib.hid (if_pos h0)
    subst h0
    go_enter Try.func41, Try.ntmps41
    go_wp2_with fail
    generalize w.alloc (.cells #[.int .i64 s0, .int .i64 s1] 64) = V at HB HX' HS HR ⊢
    refine (Sps.spec_isSpan_any s0 s1 _).mono ?_
    rintro e w1 ⟨rfl, hb⟩
    have HB1 := Lib.hid (below_on HB.out hb)
    clear hb
    go_wp2_with fail
    go_ret
    exact says (by rw [HE.out]; try rfl) HB1.out
  have HE : Hid (may ks org per xs (s0, s1) = Jn.covers (msp ks org per xs) (s0, s1)) := Lib.hid (if_neg h0)
  have e0 : (org == 0) = false := beq_eq_false_iff_ne.2 h0
  clear h0
  go_enter Try.func41, Try.ntmps41
  go_wp2_with fail
  generalize w.alloc (.cells #[.int .i64 s0, .int .i64 s1] 64) = V at HB HX' HS HR ⊢
  replace HB := Lib.hid (drewB HB.out)
  replace HX' := Lib.hid HX'.out.drew1
  replace HS := Lib.hid HS.out.drew1
  replace HR := Lib.hid HR.out.drew1
  go_region_held3 (fun w' => w'.cell? ⟨w.heap.size, 0, none⟩ = some (.int .i64 s0) ∧ w'.cell? ⟨w.heap.size, 1, none⟩ = some (.int .i64 s1)) (first | exact ⟨HX'.out.two.1, HX'.out.two.2.1⟩ | go_keep) (first
    | (go_at_call 33; (with_reducible refine (spec_mandateSpans_any p n c ks hR q m c' xs hX org per _ HR.out HS.out hm).mono ?_); rintro e w1 ⟨p1, n1, c1, rfl, ho, hb⟩; replace HB := Lib.hid (below_on HB.out hb); replace HX' := Lib.hid (HX'.out.below hb); have HO := Lib.hid ho; have hn1 : n1 ≤ 1099511627776 := (by have h1 := HO.out.len; have h2 := HML.out; omega); clear ho hb)
    | (go_at_call 69; (with_reducible refine (Tc.spec_covers_any _ _ _ (msp ks org per xs) s0 s1 _ HO.out.rd hn1).mono ?_); rintro e w2 ⟨rfl, hb⟩; replace HB := Lib.hid (below_on HB.out hb); replace HX' := Lib.hid (HX'.out.below hb); clear hb))
  go_wp2_with fail
  go_ret
  exact says (by rw [HE.out]; try rfl) HB.out
end Go.Proofs.Ytjoeacdoblgncaa.Mp
