/- slices.Equal over slices of Step. slices.Equal over slices of Stamp. Renewals compared; in the program and in the reference. slices.EqualFunc over pieces and over renewals. The first piece equal to a piece; in the program and in the reference. -/
import Derived.Test.YtjaholcmaafenaaEd
import Derived.Test.YtjaholcmaafenaaDz
import Derived.Test.YtjaholcmaafenaaSlStep
import Derived.LoopTactic
import Derived.Laws.StructEq
import Derived.Deep.QuietTactic
import Derived.BigQuiet
import Derived.Outline
import Derived.Test.YtjaholcmaafenaaSlStamp
import Derived.Test.YtjaholcmaafenaaDpRenewal
import Derived.Test.YtjaholcmaafenaaDpPiece
import Derived.Test.YtjaholcmaafenaaEs
import Derived.Test.YtjaholcmaafenaaCqA
import Derived.Test.YtjaholcmaafenaaDpStrand
import Derived.Test.YtjaholcmaafenaaFnd
import Derived.Deep.RegionHeld3
namespace Go.Proofs.Ytjaholcmaafenaa.EqStep
open Go.ChangeShapes Go.WideShapes Go.ChangeAt Go.RowKit Sl St Ed Dz
theorem first_ne {α : Type} {xs ys : List α} {k : Nat} {x y : α} (hx : xs[k]? = some x) (hy : ys[k]? = some y) (h : x ≠ y) : xs ≠ ys := fun e => h (by rw [e, hy] at hx; exact (Option.some.inj hx).symm)
theorem all_eq {α : Type} {xs ys : List α} {n : Nat} (h : xs.length = n) (h' : ys.length = n) (ha : ∀ j, j < n → xs[j]? = ys[j]?) : xs = ys := by
  apply List.ext_getElem?
  intro i
  by_cases hi : i < n
  · exact ha i hi
  · rw [List.getElem?_eq_none (by omega), List.getElem?_eq_none (by omega)]
def eqL (xs ys : List (Int × Bool)) : Bool := decide (xs = ys)
end Go.Proofs.Ytjaholcmaafenaa.EqStep

namespace Go.Proofs.Ytjaholcmaafenaa.EqStamp
open Go.ChangeShapes Go.WideShapes Go.ChangeAt Go.RowKit Sl St Ed Dz
theorem first_ne {α : Type} {xs ys : List α} {k : Nat} {x y : α} (hx : xs[k]? = some x) (hy : ys[k]? = some y) (h : x ≠ y) : xs ≠ ys := fun e => h (by rw [e, hy] at hx; exact (Option.some.inj hx).symm)
theorem all_eq {α : Type} {xs ys : List α} {n : Nat} (h : xs.length = n) (h' : ys.length = n) (ha : ∀ j, j < n → xs[j]? = ys[j]?) : xs = ys := by
  apply List.ext_getElem?
  intro i
  by_cases hi : i < n
  · exact ha i hi
  · rw [List.getElem?_eq_none (by omega), List.getElem?_eq_none (by omega)]
def eqL (xs ys : List (Int × Int × Int × Int × Int)) : Bool := decide (xs = ys)
end Go.Proofs.Ytjaholcmaafenaa.EqStamp

namespace Go.Proofs.Ytjaholcmaafenaa.Er
open Go.ChangeShapes Go.WideShapes Go.ChangeAt Go.RowKit Sl St Ed Dz
noncomputable def eqR (a b : DpRenewal.A) : Bool := @decide (a = b) (Classical.propDecidable _)
theorem eqR_no {a b : DpRenewal.A} (h : a ≠ b) : eqR a b = false := @decide_eq_false _ (Classical.propDecidable _) h
theorem eqR_yes {a b : DpRenewal.A} (h : a = b) : eqR a b = true := @decide_eq_true _ (Classical.propDecidable _) h
theorem eqR_ints {x0 x1 x2 y0 y1 y2 : Int} {l3 m3 : List (Int × Bool)} {l4 m4 : List (Int × Int × Int × Int × Int)} (h0 : x0 = y0) (h1 : x1 = y1) (h2 : x2 = y2) : eqR (x0, x1, x2, l3, l4) (y0, y1, y2, m3, m4) = (EqStep.eqL l3 m3 && EqStamp.eqL l4 m4) := by
  subst h0 h1 h2
  unfold eqR EqStep.eqL EqStamp.eqL
  rw [Bool.eq_iff_iff]
  simp
end Go.Proofs.Ytjaholcmaafenaa.Er

namespace Go.Proofs.Ytjaholcmaafenaa.Ef
open Go.ChangeShapes Go.WideShapes Go.ChangeAt Go.RowKit Sl St Ed Dz
/-- as many, and each pair so -/
noncomputable def eqAll {α : Type} (f : α → α → Bool) (xs ys : List α) : Bool := @decide (xs.length = ys.length ∧ ∀ (i : Nat) (x y : α), xs[i]? = some x → ys[i]? = some y → f x y = true) (Classical.propDecidable _)
section
variable {α : Type} {f : α → α → Bool} {xs ys : List α}
theorem eqAll_len (h : xs.length ≠ ys.length) : eqAll f xs ys = false := @decide_eq_false _ (Classical.propDecidable _) fun ⟨h1, _⟩ => h h1
theorem eqAll_at {k : Nat} {x y : α} (hx : xs[k]? = some x) (hy : ys[k]? = some y) (h : f x y = false) : eqAll f xs ys = false := @decide_eq_false _ (Classical.propDecidable _) fun ⟨_, h2⟩ => by
  have := h2 k x y hx hy
  rw [h] at this
  cases this
def Upto (f : α → α → Bool) (xs ys : List α) (k : Nat) : Prop := ∀ (i : Nat) (x y : α), i < k → xs[i]? = some x → ys[i]? = some y → f x y = true
theorem upto_zero : Upto f xs ys 0 := fun _ _ _ h => absurd h (Nat.not_lt_zero _)
theorem upto_next {k : Nat} {x y : α} (h : Upto f xs ys k) (hx : xs[k]? = some x) (hy : ys[k]? = some y) (hf : f x y = true) : Upto f xs ys (k + 1) := fun i a b hi ha hb => by
  by_cases e : i = k
  · subst e
    rw [hx] at ha
    rw [hy] at hb
    cases ha
    cases hb
    exact hf
  · exact h i a b (by omega) ha hb
theorem eqAll_yes {n : Nat} (h1 : xs.length = n) (h2 : ys.length = n) (h : Upto f xs ys n) : eqAll f xs ys = true := @decide_eq_true _ (Classical.propDecidable _) ⟨h1.trans h2.symm, fun i x y hx hy => h i x y (by have := (List.getElem?_eq_some_iff.1 hx).1; omega) hx hy⟩
end
def eqP (a b : DpPiece.A) : Bool := decide (Cp.cP a.1 b.1 a.2.1 b.2.1 a.2.2 b.2.2 = 0)
end Go.Proofs.Ytjaholcmaafenaa.Ef

namespace Go.Proofs.Ytjaholcmaafenaa.Fi
open Go.ChangeShapes Go.WideShapes Go.ChangeAt Go.RowKit Sl St Ed Dz Es Fnd
theorem first_yes {α : Type} {p : α → Bool} {xs : List α} {k : Nat} {x : α} (h : noneB p xs k) (hx : xs[k]? = some x) (hp : p x = true) : first p xs = k := by
  have hk := (List.getElem?_eq_some_iff.1 hx).1
  refine first_at (z := x) hk ?_ ?_
  · rw [List.getD_eq_getElem?_getD, hx]
    exact hp
  · intro j hj
    exact h j _ hj (idx x (by omega))
theorem first_no {α : Type} {p : α → Bool} {xs : List α} {n : Nat} (h : noneB p xs n) (hl : xs.length = n) : first p xs = -1 := by
  cases xs with
  | nil => rfl
  | cons y ys => exact first_none (z := y) fun j hj => h j _ (by omega) (idx y hj)
def isP (y x : DpPiece.A) : Bool := Ef.eqP x y
noncomputable def findP (xs : List DpPiece.A) (y : DpPiece.A) : Int := first (isP y) xs
set_option maxRecDepth 100000 in
set_option maxHeartbeats 4000000 in
theorem clo_any (g : Nat) (xe0 : Int) (le1 : List Int) (pe1 : Option Addr) (ne1 ce1 : Nat) (xe2 : Int) (y0 : Int) (ly : List Int) (q : Option Addr) (d e : Nat) (y2 : Int) {S T : Nat → Prop} (w : World) (hx : RdD int S w pe1 ne1 le1) (hy : RdD int T w q d ly) (hg : Bx w g 97 #[.int .i64 y0, .slice q d e, .int .i64 y2]) : Calls Try.prog 150 #[.agg #[.int .i64 xe0, .slice pe1 ne1 ce1, .int .i64 xe2], .pointer (some ⟨g, 0, none⟩)] w (Val (.bool (isP (y0, ly, y2) (xe0, le1, xe2))) w) := by
  have hb := box1 w (.cells #[.int .i64 xe0, .slice pe1 ne1 ce1, .int .i64 xe2] 97)
  have HBV := Lib.hid hb
  have HX := Lib.hid (Bx.new w 97 #[.int .i64 xe0, .slice pe1 ne1 ce1, .int .i64 xe2])
  have HY := Lib.hid (hg.below hb)
  have H0 := Lib.hid (hx.below hb)
  have H1 := Lib.hid (hy.below hb)
  clear hb hx hy hg
  have lg := HY.out.lt
  obtain ⟨v0, v1, v2⟩ := DpPiece.bxc HY.out
  go_enter Try.func150, Try.ntmps150
  go_wp2_with fail
  refine (Cp.equal_any xe0 _ _ _ xe2 y0 _ _ _ y2 le1 ly _ H0.out.ints H1.out.ints).mono ?_
  rintro e1 w1 ⟨rfl, hb⟩
  have HB := Lib.hid (below_on HBV.out hb)
  clear hb v0 v1 v2
  go_wp2_with fail
  go_ret
  exact val_of rfl HB.out
set_option maxRecDepth 100000 in
set_option maxHeartbeats 4000000 in
theorem index_any (g : Nat) (y0 : Int) (ly : List Int) (q : Option Addr) (d e : Nat) (y2 : Int) (xs : List DpPiece.A) (p : Option Addr) (n c : Nat) {S T : Nat → Prop} (w : World) (hr : RdD DpPiece.E S w p n xs) (hy : RdD int T w q d ly) (hg : Bx w g 97 #[.int .i64 y0, .slice q d e, .int .i64 y2]) : Calls Try.prog 149 #[.slice p n c, .func (.func 150) #[] #[.pointer (some ⟨g, 0, none⟩)]] w (Val (.int .i64 (findP xs (y0, ly, y2))) w) := by
  have HR := Lib.hid hr
  have hle := hr.le
  have HY := Lib.hid hy
  have HG := Lib.hid hg
  clear hr hy hg
  go_enter Try.func149, Try.ntmps149
  go_wp2_with fail
  go_loopw [8] (fun i wr => ∃ k : Nat, k ≤ n ∧ i = .int .i64 k ∧ Hid (noneB (isP (y0, ly, y2)) xs k) ∧ Hid (Below w.heap.size w wr)) (fun i _ => n - (intOf i).toNat)
  case atStart => exact ⟨0, Nat.zero_le _, rfl, Lib.hid (noneB_zero _), Lib.hid (Below.refl _ _)⟩
  case round =>
    obtain ⟨k, hk, rfl, HN, HB⟩ := hrel
    by_cases hlt : k < n
    · skip
      obtain ⟨b, o, x_e, cs_e, rfl, _, hbwe, hxe, hce, hrde⟩ := HR.out.at_ hlt
      obtain ⟨xe0, le1, xe2⟩ := x_e
      obtain ⟨pe1, ne1, ce1, rfl, be0, he1, be2⟩ := DpPiece.ex hrde
      have hcce : ∀ jj v, [.int .i64 xe0, .slice pe1 ne1 ce1, .int .i64 xe2][jj]? = some v → wr.cell? ⟨b, o + k * 3 + jj, none⟩ = some v := fun jj v hv => (HB.out.cell (p := ⟨b, o + k * 3 + jj, none⟩) hbwe).trans (hce jj v hv)
      have HXe := Lib.hid hxe
      have HCe := Lib.hid hcce
      have He1 := Lib.hid (he1.below HB.out)
      have hne1 := he1.le
      have Gbe0 := Lib.hid be0
      have Gbe2 := Lib.hid be2
      obtain ⟨u0, u1, u2⟩ := DpPiece.at_cells hcce
      clear hcce hce hxe hrde be0 he1 be2
      go_wp2_with fail
      refine (clo_any g xe0 le1 _ _ _ xe2 y0 ly _ _ _ y2 _ He1.out (HY.out.below HB.out) (HG.out.below HB.out)).mono ?_
      rintro e1 w1 ⟨rfl, hb⟩
      obtain ⟨β, hβ⟩ : ∃ b, isP (y0, ly, y2) (xe0, le1, xe2) = b := ⟨_, rfl⟩
      rw [hβ]
      have HP := Lib.hid hβ
      have HB1 := Lib.hid (below_on HB.out hb)
      clear hβ hb u0 u1 u2
      cases β
      · have HN1 := Lib.hid (noneB_next HN.out HXe.out HP.out)
        go_wp2_with fail
        go_roundw
        case rel => exact ⟨k + 1, by omega, by go_num, HN1, HB1⟩
        case measure => simp [intOf]; omega
      · have HA : Hid (findP xs (y0, ly, y2) = k) := Lib.hid (first_yes HN.out HXe.out HP.out)
        go_wp2_with fail
        go_ret
        exact val_of (by rw [HA.out]; first | done | rfl) HB1.out
    · obtain rfl : k = n := by omega
      have HA : Hid (findP xs (y0, ly, y2) = -1) := Lib.hid (first_no HN.out HR.out.len)
      go_wp2_with fail
      go_ret
      exact val_of (by rw [HA.out]; first | done | rfl) HB.out
set_option maxRecDepth 100000 in
set_option maxHeartbeats 4000000 in
theorem find_any (l0 : List DpPiece.A) (p0 : Option Addr) (n0 c0 : Nat) (p1 : Option Addr) (n1 c1 : Nat) (y0 : Int) (ly : List Int) (q : Option Addr) (d e : Nat) (y2 : Int) {S T : Nat → Prop} (w : World) (h0 : RdD DpPiece.E S w p0 n0 l0) (hy : RdD int T w q d ly) : Calls Try.prog 148 #[.agg #[.slice p0 n0 c0, .slice p1 n1 c1], .agg #[.int .i64 y0, .slice q d e, .int .i64 y2]] w (Val (.int .i64 (findP l0 (y0, ly, y2))) w) := by
  have hb : Below w.heap.size w ((w.alloc (.cells #[.slice p0 n0 c0, .slice p1 n1 c1] 36)).alloc (.cells #[.int .i64 y0, .slice q d e, .int .i64 y2] 97)) := (box1 w _).alloc (by simp) _
  have hg := Bx.new (w.alloc (.cells #[.slice p0 n0 c0, .slice p1 n1 c1] 36)) 97 #[.int .i64 y0, .slice q d e, .int .i64 y2]
  rw [World.size_alloc] at hg
  have HBV := Lib.hid hb
  have HX := Lib.hid ((Bx.new w 36 #[.slice p0 n0 c0, .slice p1 n1 c1]).alloc (.cells #[.int .i64 y0, .slice q d e, .int .i64 y2] 97))
  have HG := Lib.hid hg
  have H0 := Lib.hid (h0.below hb)
  have HY := Lib.hid (hy.below hb)
  have hle := h0.le
  clear hb hg h0 hy
  go_enter Try.func148, Try.ntmps148
  go_wp2_with fail
  generalize ((w.alloc (.cells #[.slice p0 n0 c0, .slice p1 n1 c1] 36)).alloc (.cells #[.int .i64 y0, .slice q d e, .int .i64 y2] 97)) = V at HBV HX HG H0 HY ⊢
  refine (index_any _ y0 ly _ _ _ y2 l0 _ _ _ _ H0.out HY.out HG.out).mono ?_
  rintro e1 w1 ⟨rfl, hb⟩
  have HB := Lib.hid (below_on HBV.out hb)
  clear hb
  go_wp2_with fail
  go_ret
  exact val_of rfl HB.out
set_option maxRecDepth 100000 in
set_option maxHeartbeats 8000000 in
theorem spec_find_any (l0 : List DpPiece.A) (p0 : Option Addr) (n0 c0 : Nat) (p1 : Option Addr) (n1 c1 : Nat) (y0 : Int) (ly : List Int) (q : Option Addr) (d e : Nat) (y2 : Int) {S T : Nat → Prop} (w : World) (h0 : RdD DpPiece.E S w p0 n0 l0) (hy : RdD int T w q d ly) : Calls Try.prog 129 #[.agg #[.slice p0 n0 c0, .slice p1 n1 c1], .agg #[.int .i64 y0, .slice q d e, .int .i64 y2]] w (Val (.int .i64 (findP l0 (y0, ly, y2))) w) := by
  have hb : Below w.heap.size w ((w.alloc (.cells #[.slice p0 n0 c0, .slice p1 n1 c1] 36)).alloc (.cells #[.int .i64 y0, .slice q d e, .int .i64 y2] 97)) := (box1 w _).alloc (by simp) _
  have hg := Bx.new (w.alloc (.cells #[.slice p0 n0 c0, .slice p1 n1 c1] 36)) 97 #[.int .i64 y0, .slice q d e, .int .i64 y2]
  rw [World.size_alloc] at hg
  have HBV := Lib.hid hb
  have HX := Lib.hid ((Bx.new w 36 #[.slice p0 n0 c0, .slice p1 n1 c1]).alloc (.cells #[.int .i64 y0, .slice q d e, .int .i64 y2] 97))
  have HG := Lib.hid hg
  have H0 := Lib.hid (h0.below hb)
  have HY := Lib.hid (hy.below hb)
  have hle := h0.le
  clear hb hg h0 hy
  go_enter Try.func129, Try.ntmps129
  go_wp2_with fail
  generalize ((w.alloc (.cells #[.slice p0 n0 c0, .slice p1 n1 c1] 36)).alloc (.cells #[.int .i64 y0, .slice q d e, .int .i64 y2] 97)) = V at HBV HX HG H0 HY ⊢
  go_loopw [5] (fun i wr => ∃ k : Nat, k ≤ n0 ∧ i = .int .i64 k ∧ Hid (noneB (isP (y0, ly, y2)) l0 k) ∧ Hid (Below V.heap.size V wr)) (fun i _ => n0 - (intOf i).toNat)
  case atStart => exact ⟨0, Nat.zero_le _, rfl, Lib.hid (noneB_zero _), Lib.hid (Below.refl _ _)⟩
  case round =>
    obtain ⟨k, hk, rfl, HU, HB⟩ := hrel
    obtain ⟨r0, r1⟩ := DpStrand.bxc (HX.out.below HB.out)
    obtain ⟨s0, s1, s2⟩ := DpPiece.bxc (HG.out.below HB.out)
    by_cases hlt : k < n0
    · skip
      obtain ⟨b, o, x_x, cs_x, rfl, _, hbwx, hxx, hcx, hrdx⟩ := H0.out.at_ hlt
      obtain ⟨xx0, lx1, xx2⟩ := x_x
      obtain ⟨px1, nx1, cx1, rfl, bx0, hx1, bx2⟩ := DpPiece.ex hrdx
      have hccx : ∀ jj v, [.int .i64 xx0, .slice px1 nx1 cx1, .int .i64 xx2][jj]? = some v → wr.cell? ⟨b, o + k * 3 + jj, none⟩ = some v := fun jj v hv => (HB.out.cell (p := ⟨b, o + k * 3 + jj, none⟩) hbwx).trans (hcx jj v hv)
      have HXx := Lib.hid hxx
      have HCx := Lib.hid hccx
      have Hx1 := Lib.hid (hx1.below HB.out)
      have hnx1 := hx1.le
      have Gbx0 := Lib.hid bx0
      have Gbx2 := Lib.hid bx2
      obtain ⟨u0, u1, u2⟩ := DpPiece.at_cells hccx
      clear hccx hcx hxx hrdx bx0 hx1 bx2
      have HY2 := Lib.hid (HY.out.below HB.out)
      have HCC : Hid (∀ w' : World, Below V.heap.size V w' → w'.cell? ⟨w.heap.size, 0, none⟩ = some (.slice (some ⟨b, o, none⟩) n0 c0) ∧ w'.cell? ⟨w.heap.size, 1, none⟩ = some (.slice p1 n1 c1) ∧ w'.cell? ⟨w.heap.size + 1, 0, none⟩ = some (.int .i64 y0) ∧ w'.cell? ⟨w.heap.size + 1, 1, none⟩ = some (.slice q d e) ∧ w'.cell? ⟨w.heap.size + 1, 2, none⟩ = some (.int .i64 y2) ∧ w'.cell? ⟨b, o + k * 3, none⟩ = some (.int .i64 xx0) ∧ w'.cell? ⟨b, o + k * 3 + 1, none⟩ = some (.slice px1 nx1 cx1) ∧ w'.cell? ⟨b, o + k * 3 + 2, none⟩ = some (.int .i64 xx2)) := Lib.hid fun w' hb' => by
        obtain ⟨a1, a2⟩ := DpStrand.bxc (HX.out.below hb')
        obtain ⟨a3, a4, a5⟩ := DpPiece.bxc (HG.out.below hb')
        have h2 := fun j v hv => (hb'.cell (p := ⟨b, o + k * 3 + j, none⟩) hbwx).trans ((HB.out.cell (p := ⟨b, o + k * 3 + j, none⟩) hbwx).symm.trans (HCx.out j v hv))
        exact ⟨a1, a2, a3, a4, a5, h2 0 _ rfl, h2 1 _ rfl, h2 2 _ rfl⟩
      obtain ⟨β, hβ⟩ : ∃ β, isP (y0, ly, y2) (xx0, lx1, xx2) = β := ⟨_, rfl⟩
      have HE := Lib.hid hβ
      have HBd : Hid (Below V.heap.size V wr.drew) := Lib.hid (below_drewN HB.out 1)
      have i1 : (0 : Int) ≤ (k : Int) := by omega
      have i2 : (k : Int) < (n0 : Int) := by omega
      clear hβ
      go_wp2_with fail
      go_region_held3 (fun w' => w'.cell? ⟨w.heap.size, 0, none⟩ = some (.slice (some ⟨b, o, none⟩) n0 c0) ∧ w'.cell? ⟨w.heap.size, 1, none⟩ = some (.slice p1 n1 c1) ∧ w'.cell? ⟨w.heap.size + 1, 0, none⟩ = some (.int .i64 y0) ∧ w'.cell? ⟨w.heap.size + 1, 1, none⟩ = some (.slice q d e) ∧ w'.cell? ⟨w.heap.size + 1, 2, none⟩ = some (.int .i64 y2) ∧ w'.cell? ⟨b, o + k * 3, none⟩ = some (.int .i64 xx0) ∧ w'.cell? ⟨b, o + k * 3 + 1, none⟩ = some (.slice px1 nx1 cx1) ∧ w'.cell? ⟨b, o + k * 3 + 2, none⟩ = some (.int .i64 xx2)) (first | exact HCC.out _ HB4.out | exact HCC.out _ HBd.out | go_keep) (first | (go_at_call 141; (with_reducible refine (Cq.spec_equal_any xx0 _ _ _ xx2 y0 _ _ _ y2 lx1 ly _ Hx1.out.drew1.ints HY2.out.drew1.ints).mono ?_); rintro e1 w1 ⟨he1, hb⟩; have HB4 : Hid (Below V.heap.size V w1) := Lib.hid (below_on HBd.out hb); have he2 : e1 = .returned (.bool β) := he1.trans (by rw [← HE.out]; first | done | rfl); subst he2; clear he1 hb) | fail)
      cases β
      · have HU2 := Lib.hid (noneB_next HU.out HXx.out HE.out)
        go_wp2_with fail
        go_roundw
        case rel => exact ⟨k + 1, by omega, by go_num, HU2, HB4⟩
        case measure => simp [intOf]; omega
      · have HF : Hid (findP l0 (y0, ly, y2) = k) := Lib.hid (first_yes HU.out HXx.out HE.out)
        have HBf := Lib.hid (HBV.out.trans (HB4.out.mono HBV.out.size))
        go_wp2_with fail
        go_ret
        exact val_of (by rw [HF.out]; first | done | rfl) HBf.out
    · obtain rfl : k = n0 := by omega
      have HF : Hid (findP l0 (y0, ly, y2) = -1) := Lib.hid (first_no HU.out H0.out.len)
      have HBf := Lib.hid (HBV.out.trans (HB.out.mono HBV.out.size))
      go_wp2_with fail
      go_ret
      exact val_of (by rw [HF.out]; first | done | rfl) HBf.out
end Go.Proofs.Ytjaholcmaafenaa.Fi
