/- The laws' marks over redacted documents of the call's own. -/
import Derived.Test.YtjlckfbacphblaaOe
namespace Go.Proofs.Ytjlckfbacphblaa.Om
open Go.ChangeShapes Go.WideShapes Go.ChangeAt Go.RowKit Sl St Tn Dm Dk Mk SlRed Rr

/-! ### the digests, with their slices' places -/
def InB (hs : List SlL.Hd) (g : Nat) : Prop := ∃ (i : Nat) (h : SlL.Hd), hs[i]? = some h ∧ (SlL.hv h).ownBlock = some g
def OwX (w : World) (lo hi : Nat) (p : Option Addr) (n c : Nat) (hs : List SlL.Hd) (xs : List (List Int)) : Prop :=
  OwS SlL.E 25 w lo hi p n c hs ∧ xs.length = n ∧ (∀ (i : Nat) (h : SlL.Hd) (x : List Int), hs[i]? = some h → xs[i]? = some x → Ow .i64 3 w lo hi h.1 h.2.1 h.2.2 x) ∧
    ∀ (i j : Nat) (h h' : SlL.Hd) (g : Nat), hs[i]? = some h → hs[j]? = some h' → i ≠ j → (SlL.hv h).ownBlock = some g → (SlL.hv h').ownBlock ≠ some g
section
variable {w w' : World} {lo hi : Nat} {p : Option Addr} {n c : Nat} {hs : List SlL.Hd} {xs : List (List Int)}
theorem OwX.rd (h : OwX w lo hi p n c hs xs) : SlL.RdL w p n xs := ⟨hs, h.1.rd, h.2.1, fun i k x e1 e2 => (h.2.2.1 i k x e1 e2).rd⟩
theorem OwX.row {k : Nat} (h : OwX w lo hi p n c hs xs) (hk : k < n) : ∃ g pk nk ck, p = some ⟨g, 0, none⟩ ∧ w.cell? ⟨g, k, none⟩ = some (.slice pk nk ck) ∧ Ow .i64 3 w lo hi pk nk ck (xs.getD k []) ∧ (∀ i, (Value.slice pk nk ck).ownBlock = some i → InB hs i) ∧
    ∀ w' y, w.grownBy w' (Value.slice pk nk ck).ownBlock → Ow .i64 3 w' lo hi pk nk ck y → OwX w' lo hi p n c hs (xs.set k y) := by
  obtain ⟨a1, a2, a3, a4⟩ := h
  rcases a1.form with ⟨_, h0, _⟩ | ⟨g, rfl, g1, g2, _, _⟩
  · omega
  have hl := a1.len
  have hx : hs[k]? = some (hs[k]'(by omega)) := List.getElem?_eq_getElem _
  generalize hs[k]'(by omega) = x at hx
  have hy : xs[k]? = some (xs[k]'(by omega)) := List.getElem?_eq_getElem _
  have hd : xs.getD k [] = xs[k]'(by omega) := by rw [List.getD_eq_getElem?_getD, hy]; rfl
  have h0 := a1.cell (j := 0) hx rfl
  rw [SlL.C_eq, Nat.mul_one, Nat.add_zero] at h0
  have ho := a3 k x _ hx hy
  refine ⟨g, x.1, x.2.1, x.2.2, rfl, h0, by rw [hd]; exact ho, fun i e => ⟨k, x, hx, e⟩, fun w' y hg ho' => ⟨?_, by rw [List.length_set]; exact a2, fun i h z e1 e2 => ?_, a4⟩⟩
  · refine owS_turn a1 (Turn.of_grown hg) fun g' e1 e2 => ?_
    exact type_ne (own_type a1.1 e1) (own_type ho.1 e2) (by decide)
  · by_cases hik : i = k
    · subst hik
      rw [hx, Option.some.injEq] at e1
      subst e1
      rw [List.getElem?_set_self (by omega), Option.some.injEq] at e2
      subst e2
      exact ho'
    · rw [List.getElem?_set_ne (Ne.symm hik)] at e2
      exact owI_turn (a3 i h z e1 e2) (Turn.of_grown hg) fun g' e3 e4 => a4 i k h x g' e1 hx hik e3 e4
end
def MarkMid (lo hi : Nat) (p : Option Addr) (n c : Nat) (hs : List SlL.Hd) (xs : List (List Int)) (m : Nat) (j : Nat) (w wr : World) : Prop :=
  OwX wr lo hi p n c hs (SlL.mkL m (xs.take j) ++ xs.drop j) ∧ Turn (InB hs) w wr
/-- The call answers the next mark; the slices bear the marks; no block but theirs has turned. -/
def Marked (lo hi : Nat) (p : Option Addr) (n c : Nat) (hs : List SlL.Hd) (xs : List (List Int)) (m : Nat) (w : World) (e : Ending) (w' : World) : Prop := e = .returned (.int .i64 ((m + SlL.tl xs : Nat) : Int)) ∧ OwX w' lo hi p n c hs (SlL.mkL m xs) ∧ Turn (InB hs) w w'
set_option maxRecDepth 100000 in
set_option maxHeartbeats 2000000 in
theorem markL_any (lo hi : Nat) (p : Option Addr) (n c : Nat) (hs : List SlL.Hd) (xs : List (List Int)) (m : Nat) (w : World) (ho : OwX w lo hi p n c hs xs) (hm' : m + SlL.tl xs ≤ 1000000000) : Calls Try.prog 82 #[.slice p n c, .int .i64 m] w (Marked lo hi p n c hs xs m w) := by
  have HL := Lib.hid ho.2.1
  have hle := ho.rd.le
  have HM : Hid (MarkMid lo hi p n c hs xs m 0 w w) := ⟨ho, Turn.refl _ _⟩
  clear ho
  go_enter Try.func82, Try.ntmps82
  go_wp2_with fail
  go_loopw [1, 5] (fun x i wr => ∃ k t : Nat, k ≤ n ∧ i = .int .i64 k ∧ x = .int .i64 (t : Int) ∧ Hid (t = m + SlL.tl (xs.take k)) ∧ Hid (MarkMid lo hi p n c hs xs m k w wr)) (fun _ i _ => n - (intOf i).toNat)
  case atStart => exact ⟨0, m, Nat.zero_le _, rfl, rfl, Lib.hid rfl, HM⟩
  case round =>
    obtain ⟨k, t, hk, rfl, rfl, HT, HK⟩ := hrel
    by_cases hlt : k < n
    · obtain ⟨g, pk, nk, ck, rfl, hc, hro, hin, hnext⟩ := HK.out.1.row hlt
      have hkx : k < xs.length := by rw [HL.out]; exact hlt
      have hget : (SlL.mkL m (xs.take k) ++ xs.drop k).getD k [] = xs.getD k [] := by
        have hk2 : (SlL.mkL m (xs.take k)).length = k := by rw [SlL.mkL_len, List.length_take]; omega
        rw [List.getD_eq_getElem?_getD, List.getElem?_append_right (by omega), hk2, Nat.sub_self, List.getElem?_drop, Nat.add_zero, List.getD_eq_getElem?_getD]
      rw [hget] at hro
      have hlen := hro.len
      have htk := SlL.tl_take hkx
      have hle2 := SlL.tl_le xs (k + 1)
      have ht : t + nk = m + SlL.tl (xs.take (k + 1)) := by rw [htk, HT.out, hlen]; omega
      have hb : t + nk ≤ 1000000000 := by omega
      have HT2 := Lib.hid ht
      have HRO := Lib.hid hro
      have HIN := Lib.hid hin
      have HNX := Lib.hid hnext
      have HS := Lib.hid (SlL.mkL_set m xs k hkx)
      have HLN := Lib.hid hlen
      clear hro hnext hget htk hle2 ht hlen hin
      go_wp2_with fail
      refine (SlI.mark_any lo hi pk nk ck (xs.getD k []) (t : Int) _ HRO.out (by omega) (by omega)).mono ?_
      rintro e w1 ⟨rfl, h1, hg⟩
      have HN : Hid (MarkMid lo hi (some ⟨g, 0, none⟩) n c hs xs m (k + 1) w w1) := by
        refine Lib.hid ⟨?_, ?_⟩
        · have h2 := HNX.out w1 _ hg h1
          rw [← HLN.out, HT.out, HS.out] at h2
          exact h2
        · exact HK.out.2.trans ((Turn.of_grown hg).mono fun i e => HIN.out i e)
      clear h1 hg
      go_wp2_with fail
      go_roundw
      case rel => exact ⟨k + 1, t + nk, by omega, by go_num, by go_num, HT2, HN⟩
      case measure => simp [intOf]; omega
    · obtain rfl : k = n := by omega
      go_wp2_with fail
      go_ret
      have h1 := HK.out
      have ht := HT.out
      unfold MarkMid at h1
      rw [List.take_of_length_le (by rw [HL.out]; exact Nat.le_refl _), List.drop_of_length_le (by rw [HL.out]; exact Nat.le_refl _), List.append_nil] at h1
      rw [List.take_of_length_le (by rw [HL.out]; exact Nat.le_refl _)] at ht
      exact ⟨by rw [← ht]; rfl, h1⟩

/-! ### the blocks of a redacted document -/
def SR (a : Ra) (hs : List SlL.Hd) (g : Nat) : Prop := own a.msp a.msn a.msc = some g ∨ own a.shp a.shn a.shc = some g ∨ own a.psp a.psn a.psc = some g ∨ own a.ssp a.ssn a.ssc = some g ∨ InB hs g
section
variable {lo R : Nat} {w w' w4 : World} {a : Ra} {D : Rc} {hs : List SlL.Hd}
theorem OwRh.inb (h : OwRh lo w a D hs) {g : Nat} (hg : InB hs g) : (lo ≤ g ∧ g < w.heap.size) ∧ ∃ cur, w.heap[g]? = some (.cells cur 3 (0, 0)) := by
  obtain ⟨i, k, e1, e2⟩ := hg
  have hl := h.ds.len
  have hi2 : i < hs.length := (List.getElem?_eq_some_iff.1 e1).1
  have hx : D.ds[i]? = some (D.ds[i]'(by rw [h.len, ← hl]; exact hi2)) := List.getElem?_eq_getElem _
  exact ⟨(h.inn i k _ e1 hx).far g e2, own_type (h.inn i k _ e1 hx).1 e2⟩
theorem OwRh.far (h : OwRh lo w a D hs) {g : Nat} (hg : SR a hs g) : lo ≤ g ∧ g < w.heap.size := by
  rcases hg with e | e | e | e | e
  · exact h.ms.far g e
  · exact h.sh.far g e
  · exact h.ps.far g e
  · exact h.ss.far g e
  · exact (OwRh.inb h e).1
theorem OwRh.notBox (h : OwRh lo w a D hs) {T : TypeId} {cs : Array Value} (hX : Bx w R T cs) (h1 : 3 ≠ T) (h2 : 4 ≠ T) (h3 : 9 ≠ T) : ¬ SR a hs R := by
  rintro (e | e | e | e | e)
  · exact bx_type h.ms.1 hX h1 e rfl
  · exact bx_type h.sh.1 hX h2 e rfl
  · exact bx_type h.ps.1 hX h3 e rfl
  · exact bx_type h.ss.1 hX h1 e rfl
  · exact type_ne (OwRh.inb h e).2 ⟨_, hX⟩ h1
/-- the methods turn where they lie -/
theorem OwRh.putM (h : OwRh lo w a D hs) {xs : List Int} (hg : w.grownBy w4 (own a.msp a.msn a.msc)) (ho : Ow .i64 3 w4 lo w.heap.size a.msp a.msn a.msc xs) : OwRh lo w4 a { D with ms := xs } hs := by
  have ht := Turn.of_grown hg
  have ne : ∀ {T : TypeId} {l s n' g : Nat} {v : Value} {ys : List Value}, w.ownsRow l T s v n' ys → T ≠ 3 → v.ownBlock = some g → ¬ own a.msp a.msn a.msc = some g := fun hr hT e e2 => type_ne (own_type hr e) (own_type h.ms.1 e2) hT
  exact ⟨h.t, ho.wide (Nat.le_refl _) ht.size (Nat.le_refl _), owS_t h.sh ht (fun g e => ne h.sh.1 (by decide) e), owS_t h.ps ht (fun g e => ne h.ps.1 (by decide) e), owI_t h.ss ht (fun g e e2 => h.m_s g e2 e), owS_t h.ds ht (fun g e => ne h.ds.1 (by decide) e), h.len,
    fun i k x e1 e2 => owI_t (h.inn i k x e1 e2) ht (fun g e e3 => h.m_i g e3 i k e1 e), h.dis, h.m_s, h.m_i, h.s_i⟩
/-- the salts turn where they lie -/
theorem OwRh.putS (h : OwRh lo w a D hs) {xs : List Int} (hg : w.grownBy w4 (own a.ssp a.ssn a.ssc)) (ho : Ow .i64 3 w4 lo w.heap.size a.ssp a.ssn a.ssc xs) : OwRh lo w4 a { D with ss := xs } hs := by
  have ht := Turn.of_grown hg
  have ne : ∀ {T : TypeId} {l s n' g : Nat} {v : Value} {ys : List Value}, w.ownsRow l T s v n' ys → T ≠ 3 → v.ownBlock = some g → ¬ own a.ssp a.ssn a.ssc = some g := fun hr hT e e2 => type_ne (own_type hr e) (own_type h.ss.1 e2) hT
  exact ⟨h.t, owI_t h.ms ht (fun g e e2 => h.m_s g e e2), owS_t h.sh ht (fun g e => ne h.sh.1 (by decide) e), owS_t h.ps ht (fun g e => ne h.ps.1 (by decide) e), ho.wide (Nat.le_refl _) ht.size (Nat.le_refl _), owS_t h.ds ht (fun g e => ne h.ds.1 (by decide) e), h.len,
    fun i k x e1 e2 => owI_t (h.inn i k x e1 e2) ht (fun g e e3 => h.s_i g e3 i k e1 e), h.dis, h.m_s, h.m_i, h.s_i⟩
/-- the flags turn where they lie -/
theorem OwRh.putH (h : OwRh lo w a D hs) {xs : List Bool} (hg : w.grownBy w4 (own a.shp a.shn a.shc)) (ho : OwS SlBool.E 4 w4 lo w.heap.size a.shp a.shn a.shc xs) : OwRh lo w4 a { D with sh := xs } hs :=
  h.growH hg (ho.wide (Nat.le_refl _) hg.size (Nat.le_refl _))
/-- the parts turn where they lie -/
theorem OwRh.putP (h : OwRh lo w a D hs) {xs : List ByteArray} (hg : w.grownBy w4 (own a.psp a.psn a.psc)) (ho : OwS SlStr.E 9 w4 lo w.heap.size a.psp a.psn a.psc xs) : OwRh lo w4 a { D with ps := xs } hs :=
  h.growP hg (ho.wide (Nat.le_refl _) hg.size (Nat.le_refl _))
theorem OwRh.ox (h : OwRh lo w a D hs) : OwX w lo w.heap.size a.dsp a.dsn a.dsc hs D.ds := ⟨h.ds, h.len, h.inn, h.dis⟩
/-- the digests turn where they lie -/
theorem OwRh.putD (h : OwRh lo w a D hs) {xs : List (List Int)} (ht : Turn (InB hs) w w4) (ho : OwX w4 lo w.heap.size a.dsp a.dsn a.dsc hs xs) : OwRh lo w4 a { D with ds := xs } hs := by
  have ne : ∀ {T : TypeId} {l s n' g : Nat} {v : Value} {ys : List Value}, w.ownsRow l T s v n' ys → T ≠ 3 → v.ownBlock = some g → ¬ InB hs g := fun hr hT e e2 => type_ne (own_type hr e) (OwRh.inb h e2).2 hT
  exact ⟨h.t, owI_t h.ms ht (fun g e ⟨i, k, e1, e2⟩ => h.m_i g e i k e1 e2), owS_t h.sh ht (fun g e => ne h.sh.1 (by decide) e), owS_t h.ps ht (fun g e => ne h.ps.1 (by decide) e), owI_t h.ss ht (fun g e ⟨i, k, e1, e2⟩ => h.s_i g e i k e1 e2), ho.1.wide (Nat.le_refl _) ht.size (Nat.le_refl _), ho.2.1,
    fun i k x e1 e2 => (ho.2.2.1 i k x e1 e2).wide (Nat.le_refl _) ht.size (Nat.le_refl _), h.dis, h.m_s, h.m_i, h.s_i⟩
end

/-! ### marks and what holds them -/
def marksR (a : Ra) (D : Rc) (k : Nat) : Rc :=
  ⟨D.t, marks intK (k : Int) a.msn, SlBool.bmarks (k + a.msn) a.shn, tmarks (k + a.msn + a.shn) a.psn, marks intK ((k + a.msn + a.shn + a.psn : Nat) : Int) a.ssn, SlL.mkL (k + a.msn + a.shn + a.psn + a.ssn) D.ds⟩
def total (a : Ra) (D : Rc) : Nat := a.msn + a.shn + a.psn + a.ssn + SlL.tl D.ds
set_option maxRecDepth 100000 in
set_option maxHeartbeats 4000000 in
theorem markR_any (lo : Nat) (a : Ra) (D : Rc) (hs : List SlL.Hd) (k : Nat) (w : World) (ho : OwRh lo w a D hs) (hk : 1 ≤ k) (hb : k + total a D ≤ 1000000000) :
    Calls Try.prog 35 #[a.val, .int .i64 k] w fun e w' => e = .returned (.int .i64 ((k + total a D : Nat) : Int)) ∧ OwRh lo w' a (marksR a D k) hs ∧ Turn (SR a hs) w w' := by
  obtain ⟨t, msp, msn, msc, shp, shn, shc, psp, psn, psc, ssp, ssn, ssc, dsp, dsn, dsc⟩ := a
  obtain ⟨dt, dms, dsh, dps, dss, dds⟩ := D
  have HO := Lib.hid (ho.below (box1 w (.cells #[.int .i64 t, .slice msp msn msc, .slice shp shn shc, .slice psp psn psc, .slice ssp ssn ssc, .slice dsp dsn dsc] 43)))
  have HX := Lib.hid (Bx.new w 43 #[.int .i64 t, .slice msp msn msc, .slice shp shn shc, .slice psp psn psc, .slice ssp ssn ssc, .slice dsp dsn dsc])
  have HT : Hid (Turn (SR ⟨t, msp, msn, msc, shp, shn, shc, psp, psn, psc, ssp, ssn, ssc, dsp, dsn, dsc⟩ hs) w (w.alloc (.cells #[.int .i64 t, .slice msp msn msc, .slice shp shn shc, .slice psp psn psc, .slice ssp ssn ssc, .slice dsp dsn dsc] 43))) := Lib.hid ((Turn.refl _ _).alloc _)
  clear ho
  simp only [total] at hb ⊢
  obtain ⟨x0, x1, x2, x3, x4, x5⟩ := bx6 HX.out
  unfold Ra.val Ra.cells
  go_enter Try.func35, Try.ntmps35
  go_wp2_with fail
  refine (SlI.mark_any lo _ msp msn msc dms (k : Int) _ HO.out.ms (by omega) (by omega)).mono ?_
  rintro e w1 ⟨rfl, h1, hg⟩
  have ht := (Turn.of_grown hg).mono (T := SR ⟨t, msp, msn, msc, shp, shn, shc, psp, psn, psc, ssp, ssn, ssc, dsp, dsn, dsc⟩ hs) (fun i e => Or.inl e)
  replace HX := Lib.hid (bx_turn HX.out ht (OwRh.notBox HO.out HX.out (by decide) (by decide) (by decide)))
  replace HT := Lib.hid (HT.out.trans ht)
  replace HO := Lib.hid (OwRh.putM HO.out hg h1)
  clear h1 hg ht x0 x1 x2 x3 x4 x5
  obtain ⟨x0, x1, x2, x3, x4, x5⟩ := bx6 HX.out
  rw [show ((k : Int) + (msn : Int)) = ((k + msn : Nat) : Int) by omega]
  go_wp2_with fail
  refine (SlBool.mark_any lo _ shp shn shc dsh (k + msn) _ HO.out.sh (by omega) (by omega)).mono ?_
  rintro e w2 ⟨rfl, h1, hg⟩
  have ht := (Turn.of_grown hg).mono (T := SR ⟨t, msp, msn, msc, shp, shn, shc, psp, psn, psc, ssp, ssn, ssc, dsp, dsn, dsc⟩ hs) (fun i e => Or.inr (Or.inl e))
  replace HX := Lib.hid (bx_turn HX.out ht (OwRh.notBox HO.out HX.out (by decide) (by decide) (by decide)))
  replace HT := Lib.hid (HT.out.trans ht)
  replace HO := Lib.hid (OwRh.putH HO.out hg h1)
  clear h1 hg ht x0 x1 x2 x3 x4 x5
  obtain ⟨x0, x1, x2, x3, x4, x5⟩ := bx6 HX.out
  rw [show (((k + msn : Nat) : Int) + (shn : Int)) = ((k + msn + shn : Nat) : Int) by omega]
  go_wp2_with fail
  refine (Mk.mark_any lo _ psp psn psc dps (k + msn + shn) _ HO.out.ps (by omega) (by omega)).mono ?_
  rintro e w3 ⟨rfl, h1, hg⟩
  have ht := (Turn.of_grown hg).mono (T := SR ⟨t, msp, msn, msc, shp, shn, shc, psp, psn, psc, ssp, ssn, ssc, dsp, dsn, dsc⟩ hs) (fun i e => Or.inr (Or.inr (Or.inl e)))
  replace HX := Lib.hid (bx_turn HX.out ht (OwRh.notBox HO.out HX.out (by decide) (by decide) (by decide)))
  replace HT := Lib.hid (HT.out.trans ht)
  replace HO := Lib.hid (OwRh.putP HO.out hg h1)
  clear h1 hg ht x0 x1 x2 x3 x4 x5
  obtain ⟨x0, x1, x2, x3, x4, x5⟩ := bx6 HX.out
  rw [show (((k + msn + shn : Nat) : Int) + (psn : Int)) = ((k + msn + shn + psn : Nat) : Int) by omega]
  go_wp2_with fail
  refine (SlI.mark_any lo _ ssp ssn ssc dss ((k + msn + shn + psn : Nat) : Int) _ HO.out.ss (by omega) (by omega)).mono ?_
  rintro e w4 ⟨rfl, h1, hg⟩
  have ht := (Turn.of_grown hg).mono (T := SR ⟨t, msp, msn, msc, shp, shn, shc, psp, psn, psc, ssp, ssn, ssc, dsp, dsn, dsc⟩ hs) (fun i e => Or.inr (Or.inr (Or.inr (Or.inl e))))
  replace HX := Lib.hid (bx_turn HX.out ht (OwRh.notBox HO.out HX.out (by decide) (by decide) (by decide)))
  replace HT := Lib.hid (HT.out.trans ht)
  replace HO := Lib.hid (OwRh.putS HO.out hg h1)
  clear h1 hg ht x0 x1 x2 x3 x4 x5
  obtain ⟨x0, x1, x2, x3, x4, x5⟩ := bx6 HX.out
  rw [show (((k + msn + shn + psn : Nat) : Int) + (ssn : Int)) = ((k + msn + shn + psn + ssn : Nat) : Int) by omega]
  go_wp2_with fail
  refine (markL_any lo _ dsp dsn dsc hs dds (k + msn + shn + psn + ssn) _ (OwRh.ox HO.out) (by omega)).mono ?_
  rintro e w5 ⟨rfl, h1, ht0⟩
  have ht := ht0.mono (T := SR ⟨t, msp, msn, msc, shp, shn, shc, psp, psn, psc, ssp, ssn, ssc, dsp, dsn, dsc⟩ hs) (fun i e => Or.inr (Or.inr (Or.inr (Or.inr e))))
  replace HT := Lib.hid (HT.out.trans ht)
  replace HO := Lib.hid (OwRh.putD HO.out ht0 h1)
  clear h1 ht0 ht x0 x1 x2 x3 x4 x5
  go_wp2_with fail
  go_ret
  exact ⟨by rw [show k + (msn + shn + psn + ssn + SlL.tl dds) = k + msn + shn + psn + ssn + SlL.tl dds by omega]; rfl, HO.out, HT.out⟩
set_option maxRecDepth 100000 in
set_option maxHeartbeats 4000000 in
theorem heldR_any (a : Ra) (D : Rc) (k : Nat) (w : World) (hr : RdR w a (marksR a D k)) (hk : 1 ≤ k) (hb : k + total a D ≤ 1000000000) :
    Calls Try.prog 36 #[a.val, .int .i64 k] w fun e w' => e = .returned (.int .i64 ((k + total a D : Nat) : Int)) ∧ Below w.heap.size w w' := by
  obtain ⟨t, msp, msn, msc, shp, shn, shc, psp, psn, psc, ssp, ssn, ssc, dsp, dsn, dsc⟩ := a
  obtain ⟨dt, dms, dsh, dps, dss, dds⟩ := D
  have HR := Lib.hid hr
  have HX := Lib.hid (Bx.new w 43 #[.int .i64 t, .slice msp msn msc, .slice shp shn shc, .slice psp psn psc, .slice ssp ssn ssc, .slice dsp dsn dsc])
  have HB := Lib.hid (box1 w (.cells #[.int .i64 t, .slice msp msn msc, .slice shp shn shc, .slice psp psn psc, .slice ssp ssn ssc, .slice dsp dsn dsc] 43))
  clear hr
  simp only [total] at hb ⊢
  obtain ⟨x0, x1, x2, x3, x4, x5⟩ := bx6 HX.out
  have h1 : ¬ ((k + msn : Nat) : Int) < 0 := by omega
  have h2 : ¬ ((k + msn + shn : Nat) : Int) < 0 := by omega
  have h3 : ¬ ((k + msn + shn + psn : Nat) : Int) < 0 := by omega
  have h4 : ¬ ((k + msn + shn + psn + ssn : Nat) : Int) < 0 := by omega
  have h5 : ¬ ((k + msn + shn + psn + ssn + SlL.tl dds : Nat) : Int) < 0 := by omega
  unfold Ra.val Ra.cells
  go_enter Try.func36, Try.ntmps36
  go_wp2_with fail
  refine (SlI.held_any msp msn msc (k : Int) _ (HR.out.below HB.out).2.1 (by omega) (by omega)).mono ?_
  rintro e w1 ⟨rfl, rfl⟩
  rw [show ((k : Int) + (msn : Int)) = ((k + msn : Nat) : Int) by omega]
  go_wp2_with fail
  refine (SlBool.held_any shp shn shc (k + msn) _ (HR.out.below HB.out).2.2.1 (by omega) (by omega)).mono ?_
  rintro e w2 ⟨rfl, rfl⟩
  rw [show (((k + msn : Nat) : Int) + (shn : Int)) = ((k + msn + shn : Nat) : Int) by omega]
  go_wp2_with fail
  refine (Mk.held_any psp psn psc (k + msn + shn) _ (HR.out.below HB.out).2.2.2.1 (by omega) (by omega)).mono ?_
  rintro e w3 ⟨rfl, hb1⟩
  replace HX := Lib.hid (HX.out.below hb1)
  replace HB := Lib.hid (below_on HB.out hb1)
  clear hb1 x0 x1 x2 x3 x4 x5
  obtain ⟨x0, x1, x2, x3, x4, x5⟩ := bx6 HX.out
  rw [show (((k + msn + shn : Nat) : Int) + (psn : Int)) = ((k + msn + shn + psn : Nat) : Int) by omega]
  go_wp2_with fail
  refine (SlI.held_any ssp ssn ssc ((k + msn + shn + psn : Nat) : Int) _ (HR.out.below HB.out).2.2.2.2.1 (by omega) (by omega)).mono ?_
  rintro e w4 ⟨rfl, rfl⟩
  rw [show (((k + msn + shn + psn : Nat) : Int) + (ssn : Int)) = ((k + msn + shn + psn + ssn : Nat) : Int) by omega]
  go_wp2_with fail
  refine (SlL.held_any dsp dsn dsc dds (k + msn + shn + psn + ssn) _ (HR.out.below HB.out).2.2.2.2.2 (by omega)).mono ?_
  rintro e w5 ⟨rfl, rfl⟩
  go_wp2_with fail
  go_ret
  exact ⟨by rw [show k + (msn + shn + psn + ssn + SlL.tl dds) = k + msn + shn + psn + ssn + SlL.tl dds by omega]; rfl, HB.out⟩
end Go.Proofs.Ytjlckfbacphblaa.Om
