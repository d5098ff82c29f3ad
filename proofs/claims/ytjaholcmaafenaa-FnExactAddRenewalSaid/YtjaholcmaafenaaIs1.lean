/- Whether a strand is valid, in the program; and what both sides decide. -/
import Derived.Test.YtjaholcmaafenaaErA
import Derived.Test.YtjaholcmaafenaaDpStrand
import Derived.Test.YtjaholcmaafenaaInt
import Derived.LoopTactic
import Derived.Outline
namespace Go.Proofs.Ytjaholcmaafenaa.Is1
open Go.ChangeShapes Go.WideShapes Go.ChangeAt Go.RowKit Sl St Ed Dz Es Fi
def okD (xs : List DpPiece.A) (k : Nat) : Prop := ∀ x, xs[k]? = some x → ¬ findP xs x < (k : Int)
def okC (n : Int) (rs : List DpRenewal.A) (k : Nat) : Prop := ∀ x, rs[k]? = some x → 1 ≤ x.1 ∧ x.1 ≤ n ∧ ∀ y, 0 < k → rs[k - 1]? = some y → y.1 ≤ x.1
noncomputable def allB (p : Nat → Prop) : Bool := @decide (∀ k, p k) (Classical.propDecidable _)
theorem allB_no {p : Nat → Prop} {k : Nat} (h : ¬ p k) : allB p = false := @decide_eq_false _ (Classical.propDecidable _) fun a => h (a k)
theorem allB_yes {p : Nat → Prop} (h : ∀ k, p k) : allB p = true := @decide_eq_true _ (Classical.propDecidable _) h
theorem okD_all {xs : List DpPiece.A} {n : Nat} (hl : xs.length = n) (h : ∀ j, j < n → okD xs j) : allB (okD xs) = true := allB_yes fun k => by
  by_cases hk : k < n
  · exact h k hk
  · intro x hx
    rw [List.getElem?_eq_none (by omega)] at hx
    cases hx
theorem okC_all {m : Int} {rs : List DpRenewal.A} {n : Nat} (hl : rs.length = n) (h : ∀ j, j < n → okC m rs j) : allB (okC m rs) = true := allB_yes fun k => by
  by_cases hk : k < n
  · exact h k hk
  · intro x hx
    rw [List.getElem?_eq_none (by omega)] at hx
    cases hx
theorem next_all {p : Nat → Prop} {k : Nat} (h : ∀ j, j < k → p j) (hk : p k) : ∀ j, j < k + 1 → p j := fun j hj => by
  by_cases e : j = k
  · exact e ▸ hk
  · exact h j (by omega)
theorem okD_at {xs : List DpPiece.A} {k : Nat} {x : DpPiece.A} (hx : xs[k]? = some x) (h : ¬ findP xs x < (k : Int)) : okD xs k := fun y hy => by
  rw [hx] at hy
  exact (Option.some.inj hy) ▸ h
theorem okD_no {xs : List DpPiece.A} {k : Nat} {x : DpPiece.A} (hx : xs[k]? = some x) (h : findP xs x < (k : Int)) : ¬ okD xs k := fun a => a x hx h
/-- the least count that the next renewal may have -/
def Least (rs : List DpRenewal.A) (k : Nat) (m : Int) : Prop := 1 ≤ m ∧ (k = 0 → m = 1) ∧ ∀ y, 0 < k → rs[k - 1]? = some y → y.1 = m
theorem least_zero (rs : List DpRenewal.A) : Least rs 0 1 := ⟨by omega, fun _ => rfl, fun _ h => absurd h (Nat.lt_irrefl 0)⟩
theorem least_next {rs : List DpRenewal.A} {k : Nat} {x : DpRenewal.A} (hx : rs[k]? = some x) (h : 1 ≤ x.1) : Least rs (k + 1) x.1 := ⟨h, fun h => by omega, fun y _ hy => by
  rw [Nat.add_sub_cancel, hx] at hy
  cases hy
  rfl⟩
theorem okC_at {rs : List DpRenewal.A} {k : Nat} {x : DpRenewal.A} {m n : Int} (hx : rs[k]? = some x) (hm : Least rs k m) (h1 : m ≤ x.1) (h2 : x.1 ≤ n) : okC n rs k := fun y hy => by
  rw [hx] at hy
  cases hy
  obtain ⟨a, b, c⟩ := hm
  exact ⟨by omega, h2, fun z hk hz => by rw [c z hk hz]; exact h1⟩
theorem okC_no {rs : List DpRenewal.A} {k : Nat} {x : DpRenewal.A} {m n : Int} (hx : rs[k]? = some x) (hm : Least rs k m) (h : ¬ (m ≤ x.1 ∧ x.1 ≤ n)) : ¬ okC n rs k := fun a => by
  obtain ⟨a1, a2, a3⟩ := a x hx
  obtain ⟨b1, b2, b3⟩ := hm
  apply h
  refine ⟨?_, a2⟩
  rcases Nat.eq_zero_or_pos k with hk | hk
  · rw [b2 hk]
    exact a1
  · have hlt := (List.getElem?_eq_some_iff.1 hx).1
    obtain ⟨y, hy⟩ : ∃ y, rs[k - 1]? = some y := ⟨_, List.getElem?_eq_getElem (by omega)⟩
    rw [← b3 y hk hy]
    exact a3 y hk hy
def join4 (a b c d : Bool) : Bool := a && (b && (c && d))
noncomputable def isS (l0 : List DpPiece.A) (l1 : List DpRenewal.A) (n0 n1 : Nat) : Bool := join4 (decide (1 ≤ (n0 : Int) ∧ (n0 : Int) ≤ 12)) (allB (okD l0)) (decide ((n1 : Int) ≤ 8)) (allB (okC (n0 : Int) l1))
set_option maxRecDepth 100000 in
set_option maxHeartbeats 4000000 in
theorem distinct_any (xs : List DpPiece.A) (p : Option Addr) (n c : Nat) {S : Nat → Prop} (w : World) (hr : RdD DpPiece.E S w p n xs) : Calls Try.prog 143 #[.slice p n c] w (Val (.bool (allB (okD xs))) w) := by
  have HR := Lib.hid hr
  have hle := hr.le
  clear hr
  go_enter Try.func143, Try.ntmps143
  go_wp2_with fail
  go_loopw [7] (fun i wr => ∃ k : Nat, k ≤ n ∧ i = .int .i64 k ∧ Hid (∀ j, j < k → okD xs j) ∧ Hid (Below w.heap.size w wr)) (fun i _ => n - (intOf i).toNat)
  case atStart => exact ⟨0, Nat.zero_le _, rfl, Lib.hid (fun j hj => absurd hj (Nat.not_lt_zero j)), Lib.hid (Below.refl _ _)⟩
  case round =>
    obtain ⟨k, hk, rfl, HU, HB⟩ := hrel
    by_cases hlt : k < n
    · skip
      obtain ⟨b, o, x_e, cs_e, rfl, _, hbwe, hxe, hce, hrde⟩ := HR.out.at_ hlt
      obtain ⟨xe0, le1, xe2⟩ := x_e
      obtain ⟨pe1, ne1, ce1, rfl, be0, he1, be2⟩ := DpPiece.ex hrde
      have hcce : ∀ jj v, [.int .i64 xe0, .slice pe1 ne1 ce1, .int .i64 xe2][jj]? = some v → wr.cell? ⟨b, o + k * 3 + jj, none⟩ = some v := fun jj v hv => (HB.out.cell (p := ⟨b, o + k * 3 + jj, none⟩) hbwe).trans (hce jj v hv)
      have HXe := Lib.hid hxe
      have HCe := Lib.hid hcce
      have He1 := Lib.hid (he1.below HB.out)
      have hne1 := he1.le
      have Gbe0 := Lib.hid be0
      have Gbe2 := Lib.hid be2
      obtain ⟨u0, u1, u2⟩ := DpPiece.at_cells hcce
      clear hcce hce hxe hrde be0 he1 be2
      have hbx := box1 wr (.cells #[.int .i64 xe0, .slice pe1 ne1 ce1, .int .i64 xe2] 97)
      have HB1 := Lib.hid (HB.out.trans (hbx.mono HB.out.size))
      have HE1 := Lib.hid (He1.out.below hbx)
      have HR1 := Lib.hid ((HR.out.below HB.out).below hbx)
      obtain ⟨z, hz⟩ : ∃ z, findP xs (xe0, le1, xe2) = z := ⟨_, rfl⟩
      have HZ := Lib.hid hz
      clear hbx hz
      go_wp2_with fail
      refine (find_any xs _ _ _ _ _ _ xe0 le1 _ _ _ xe2 _ HR1.out HE1.out).mono ?_
      rintro e w1 ⟨rfl, hb⟩
      rw [HZ.out]
      have HB2 := Lib.hid (below_on HB1.out hb)
      clear hb u0 u1 u2
      by_cases hc : z < (k : Int)
      · have HF := Lib.hid (allB_no (okD_no HXe.out (by rw [HZ.out]; exact hc)))
        go_wp2_with fail
        go_ret
        exact val_of (by rw [HF.out]; first | done | rfl) HB2.out
      · have HU2 := Lib.hid (next_all HU.out (okD_at HXe.out (by rw [HZ.out]; exact hc)))
        go_wp2_with fail
        go_roundw
        case rel => exact ⟨k + 1, by omega, by go_num, HU2, HB2⟩
        case measure => simp [intOf]; omega
    · obtain rfl : k = n := by omega
      have HF := Lib.hid (okD_all HR.out.len HU.out)
      go_wp2_with fail
      go_ret
      exact val_of (by rw [HF.out]; first | done | rfl) HB.out
set_option maxRecDepth 100000 in
set_option maxHeartbeats 4000000 in
theorem counts_any (p0 : Option Addr) (n0 c0 : Nat) (rs : List DpRenewal.A) (p1 : Option Addr) (n1 c1 : Nat) {S : Nat → Prop} (w : World) (hr : RdD DpRenewal.E S w p1 n1 rs) : Calls Try.prog 144 #[.agg #[.slice p0 n0 c0, .slice p1 n1 c1]] w (Val (.bool (allB (okC (n0 : Int) rs))) w) := by
  have hb := box1 w (.cells #[.slice p0 n0 c0, .slice p1 n1 c1] 36)
  have HBV := Lib.hid hb
  have HX := Lib.hid (Bx.new w 36 #[.slice p0 n0 c0, .slice p1 n1 c1])
  have HR := Lib.hid (hr.below hb)
  have hle := hr.le
  clear hb hr
  go_enter Try.func144, Try.ntmps144
  go_wp2_with fail
  generalize (w.alloc (.cells #[.slice p0 n0 c0, .slice p1 n1 c1] 36)) = V at HBV HX HR ⊢
  obtain ⟨v0, v1⟩ := DpStrand.bxc HX.out
  go_loopw [3, 9] (fun s i wr => ∃ (k : Nat) (m : Int), k ≤ n1 ∧ i = .int .i64 k ∧ s = .int .i64 m ∧ Hid (Least rs k m) ∧ Hid (∀ j, j < k → okC (n0 : Int) rs j) ∧ Hid (Below V.heap.size V wr)) (fun _ i _ => n1 - (intOf i).toNat)
  case atStart => exact ⟨0, 1, Nat.zero_le _, rfl, rfl, Lib.hid (least_zero _), Lib.hid (fun j hj => absurd hj (Nat.not_lt_zero j)), Lib.hid (Below.refl _ _)⟩
  case round =>
    obtain ⟨k, m, hk, rfl, rfl, HL, HU, HB⟩ := hrel
    clear v0 v1
    by_cases hlt : k < n1
    · skip
      obtain ⟨b, o, x_e, cs_e, rfl, _, hbwe, hxe, hce, hrde⟩ := HR.out.at_ hlt
      obtain ⟨xe0, xe1, xe2, le3, le4⟩ := x_e
      obtain ⟨pe3, ne3, ce3, pe4, ne4, ce4, rfl, be0, be1, be2, he3, he4⟩ := DpRenewal.ex hrde
      have hcce : ∀ jj v, [.int .i64 xe0, .int .i64 xe1, .int .i64 xe2, .slice pe3 ne3 ce3, .slice pe4 ne4 ce4][jj]? = some v → wr.cell? ⟨b, o + k * 5 + jj, none⟩ = some v := fun jj v hv => (HB.out.cell (p := ⟨b, o + k * 5 + jj, none⟩) hbwe).trans (hce jj v hv)
      have HXe := Lib.hid hxe
      have HCe := Lib.hid hcce
      have He3 := Lib.hid (he3.below HB.out)
      have hne3 := he3.le
      have He4 := Lib.hid (he4.below HB.out)
      have hne4 := he4.le
      have Gbe0 := Lib.hid be0
      have Gbe1 := Lib.hid be1
      have Gbe2 := Lib.hid be2
      obtain ⟨u0, u1, u2, u3, u4⟩ := DpRenewal.at_cells hcce
      clear hcce hce hxe hrde be0 be1 be2 he3 he4
      have hbx := box1 wr (.cells #[.int .i64 xe0, .int .i64 xe1, .int .i64 xe2, .slice pe3 ne3 ce3, .slice pe4 ne4 ce4] 110)
      have hB1 := HB.out.trans (hbx.mono HB.out.size)
      have HB1 := Lib.hid hB1
      have HQ := Lib.hid (Bx.new wr 110 #[.int .i64 xe0, .int .i64 xe1, .int .i64 xe2, .slice pe3 ne3 ce3, .slice pe4 ne4 ce4])
      obtain ⟨v0, v1⟩ := DpStrand.bxc (HX.out.below hB1)
      clear hB1
      obtain ⟨β, hβ⟩ : ∃ β, decide (m ≤ xe0 ∧ xe0 ≤ (n0 : Int)) = β := ⟨_, rfl⟩
      have HE := Lib.hid hβ
      clear hβ hbx
      go_wp2_with fail
      refine (Ints.inRange_any _ _ _ β HE.out _).mono ?_
      rintro e w1 ⟨rfl, rfl⟩
      cases β
      · have HF := Lib.hid (allB_no (okC_no HXe.out HL.out (of_decide_eq_false HE.out)))
        have HBf := Lib.hid (HBV.out.trans (HB1.out.mono HBV.out.size))
        go_wp2_with fail
        go_ret
        exact val_of (by rw [HF.out]; first | done | rfl) HBf.out
      · have hin := of_decide_eq_true HE.out
        have hm := HL.out.1
        have HU2 := Lib.hid (next_all HU.out (okC_at HXe.out HL.out hin.1 hin.2))
        have HL2 := Lib.hid (least_next HXe.out (by show 1 ≤ xe0; omega))
        obtain ⟨q0, q1, q2, q3, q4⟩ := DpRenewal.bxc HQ.out
        clear hin hm
        go_wp2_with fail
        go_roundw
        case rel => exact ⟨k + 1, xe0, by omega, by go_num, rfl, HL2, HU2, HB1⟩
        case measure => simp [intOf]; omega
    · obtain rfl : k = n1 := by omega
      have HF := Lib.hid (okC_all HR.out.len HU.out)
      have HBf := Lib.hid (HBV.out.trans (HB.out.mono HBV.out.size))
      go_wp2_with fail
      go_ret
      exact val_of (by rw [HF.out]; first | done | rfl) HBf.out
set_option maxRecDepth 100000 in
set_option maxHeartbeats 4000000 in
theorem strand_any (l0 : List DpPiece.A) (p0 : Option Addr) (n0 c0 : Nat) (l1 : List DpRenewal.A) (p1 : Option Addr) (n1 c1 : Nat) {S0 S1 : Nat → Prop} (w : World) (h0 : RdD DpPiece.E S0 w p0 n0 l0) (h1 : RdD DpRenewal.E S1 w p1 n1 l1) : Calls Try.prog 131 #[.agg #[.slice p0 n0 c0, .slice p1 n1 c1]] w (Val (.bool (isS l0 l1 n0 n1)) w) := by
  have hb := box1 w (.cells #[.slice p0 n0 c0, .slice p1 n1 c1] 36)
  have HB := Lib.hid hb
  have HX := Lib.hid (Bx.new w 36 #[.slice p0 n0 c0, .slice p1 n1 c1])
  have H0 := Lib.hid (h0.below hb)
  have H1 := Lib.hid (h1.below hb)
  have e0 := h0.le
  have e1 := h1.le
  obtain ⟨b0, hb0⟩ : ∃ b, decide (1 ≤ (n0 : Int) ∧ (n0 : Int) ≤ 12) = b := ⟨_, rfl⟩
  obtain ⟨b1, hb1⟩ : ∃ b, allB (okD l0) = b := ⟨_, rfl⟩
  obtain ⟨b2, hb2⟩ : ∃ b, decide ((n1 : Int) ≤ 8) = b := ⟨_, rfl⟩
  obtain ⟨b3, hb3⟩ : ∃ b, allB (okC (n0 : Int) l1) = b := ⟨_, rfl⟩
  have HV : Hid (isS l0 l1 n0 n1 = join4 b0 b1 b2 b3) := Lib.hid (by unfold isS; rw [hb0, hb1, hb2, hb3])
  have E0 := Lib.hid hb0
  have E1 := Lib.hid hb1
  have E2 := Lib.hid hb2
  have E3 := Lib.hid hb3
  clear hb h0 h1 hb0 hb1 hb2 hb3
  go_enter Try.func131, Try.ntmps131
  go_wp2_with fail
  generalize (w.alloc (.cells #[.slice p0 n0 c0, .slice p1 n1 c1] 36)) = V at HB HX H0 H1 ⊢
  refine (Ints.inRange_any _ _ _ b0 E0.out _).mono ?_
  rintro e w1 ⟨rfl, rfl⟩
  cases b0
  · go_wp2_with fail
    go_ret
    exact val_of (by rw [HV.out]; rfl) HB.out
  obtain ⟨y0, y1⟩ := DpStrand.bxc HX.out
  go_wp2_with fail
  refine (distinct_any _ _ _ _ _ H0.out).mono ?_
  rintro e w2 ⟨rfl, hb⟩
  rw [E1.out]
  replace HB := Lib.hid (below_on HB.out hb)
  replace HX := Lib.hid (HX.out.below hb)
  replace H1 := Lib.hid (H1.out.below hb)
  clear hb y0 y1
  cases b1
  · go_wp2_with fail
    go_ret
    exact val_of (by rw [HV.out]; rfl) HB.out
  obtain ⟨y0, y1⟩ := DpStrand.bxc HX.out
  cases b2
  · have h8 := of_decide_eq_false E2.out
    go_wp2_with fail
    go_ret
    exact val_of (by rw [HV.out]; rfl) HB.out
  have h8 := of_decide_eq_true E2.out
  go_wp2_with fail
  refine (counts_any _ _ _ _ _ _ _ _ H1.out).mono ?_
  rintro e w3 ⟨rfl, hb⟩
  rw [E3.out]
  replace HB := Lib.hid (below_on HB.out hb)
  clear hb
  go_wp2_with fail
  go_ret
  exact val_of (by rw [HV.out]; rfl) HB.out
end Go.Proofs.Ytjaholcmaafenaa.Is1
