/- Where an item is in a world; in the program and in the reference. -/
import Derived.Test.YtkmgnicngcandaaDpWorld
import Derived.Test.YtkmgnicngcandaaFt
import Derived.Test.YtkmgnicngcandaaEs
import Derived.LoopTactic
import Derived.Outline
namespace Go.Proofs.Ytkmgnicngcandaa.Fiw
open Go.ChangeShapes Go.WideShapes Go.ChangeAt Go.RowKit Sl St Ed Dz Es Fnd
def has (id : Int) (x : DpArchive.A) : Bool := decide (0 ≤ Ft.findI x.2 id)
def at_ (id : Int) (xs : List DpArchive.A) : Int × Int := match firstN (has id) xs with | some k => ((k : Int), match xs[k]? with | some x => Ft.findI x.2 id | none => -1) | none => (-1, -1)
theorem at_yes {id : Int} {xs : List DpArchive.A} {k : Nat} {x : DpArchive.A} (h : noneB (has id) xs k) (hx : xs[k]? = some x) (hp : has id x = true) : at_ id xs = ((k : Int), Ft.findI x.2 id) := by
  have hk := (List.getElem?_eq_some_iff.1 hx).1
  have hd : xs.getD k x = x := by rw [List.getD_eq_getElem?_getD, hx]; rfl
  unfold at_
  rcases firstN_cases (has id) x xs with ⟨j, hj, he, hq, hr⟩ | ⟨_, hn⟩
  · rw [he]
    rcases Nat.lt_trichotomy j k with g | g | g
    · rw [h j _ g (idx x hj)] at hq
      cases hq
    · subst g
      simp only [hx]
    · have := hr k g
      rw [hd, hp] at this
      cases this
  · have := hn k hk
    rw [hd, hp] at this
    cases this
theorem at_no {id : Int} {xs : List DpArchive.A} {n : Nat} (h : noneB (has id) xs n) (hl : xs.length = n) : at_ id xs = (-1, -1) := by
  unfold at_
  cases xs with
  | nil => rfl
  | cons y ys =>
    rcases firstN_cases (has id) y (y :: ys) with ⟨j, hj, he, hq, hr⟩ | ⟨he, _⟩
    · rw [h j _ (by omega) (idx y hj)] at hq
      cases hq
    · rw [he]
set_option maxRecDepth 100000 in
set_option maxHeartbeats 8000000 in
theorem find_any (p0 : Option Addr) (n0 c0 : Nat) (p1 : Option Addr) (n1 c1 : Nat) (p2 : Option Addr) (n2 c2 : Nat) (x3 : Int) (x4 : Int) (p5 : Option Addr) (n5 c5 : Nat) (p6 : Option Addr) (n6 c6 : Nat) (p8 : Option Addr) (n8 c8 : Nat) (p9 : Option Addr) (n9 c9 : Nat) (x10 : Int) (p11 : Option Addr) (n11 c11 : Nat) (l7 : List DpArchive.A) (p7 : Option Addr) (n7 c7 : Nat) (id : Int) {S : Nat → Prop} (w : World) (h : RdD DpArchive.E S w p7 n7 l7) : Calls Try.prog 22 #[.agg #[.slice p0 n0 c0, .slice p1 n1 c1, .slice p2 n2 c2, .int .i64 x3, .int .i64 x4, .slice p5 n5 c5, .slice p6 n6 c6, .slice p7 n7 c7, .slice p8 n8 c8, .slice p9 n9 c9, .int .i64 x10, .slice p11 n11 c11], .int .i64 id] w (Val (.tuple #[.int .i64 (at_ id l7).1, .int .i64 (at_ id l7).2]) w) := by
  have hb := box1 w (.cells #[.slice p0 n0 c0, .slice p1 n1 c1, .slice p2 n2 c2, .int .i64 x3, .int .i64 x4, .slice p5 n5 c5, .slice p6 n6 c6, .slice p7 n7 c7, .slice p8 n8 c8, .slice p9 n9 c9, .int .i64 x10, .slice p11 n11 c11] 79)
  have HBV := Lib.hid hb
  have HX := Lib.hid (Bx.new w 79 #[.slice p0 n0 c0, .slice p1 n1 c1, .slice p2 n2 c2, .int .i64 x3, .int .i64 x4, .slice p5 n5 c5, .slice p6 n6 c6, .slice p7 n7 c7, .slice p8 n8 c8, .slice p9 n9 c9, .int .i64 x10, .slice p11 n11 c11])
  have H := Lib.hid (h.below hb)
  have hle := h.le
  have HL := Lib.hid h.len
  clear hb h
  obtain ⟨i0, i1, i2, i3, i4, i5, i6, i7, i8, i9, i10, i11⟩ := DpWorld.bxc HX.out
  go_enter Try.func22, Try.ntmps22
  go_wp2_with fail
  clear i0 i1 i2 i3 i4 i5 i6 i7 i8 i9 i10 i11
  generalize (w.alloc (.cells #[.slice p0 n0 c0, .slice p1 n1 c1, .slice p2 n2 c2, .int .i64 x3, .int .i64 x4, .slice p5 n5 c5, .slice p6 n6 c6, .slice p7 n7 c7, .slice p8 n8 c8, .slice p9 n9 c9, .int .i64 x10, .slice p11 n11 c11] 79)) = V at HBV HX H ⊢
  go_loopw [12] (fun i wr => ∃ k : Nat, k ≤ n7 ∧ i = .int .i64 k ∧ Hid (noneB (has id) l7 k) ∧ Hid (Below V.heap.size V wr)) (fun i _ => n7 - (intOf i).toNat)
  case atStart => exact ⟨0, Nat.zero_le _, rfl, Lib.hid (noneB_zero _), Lib.hid (Below.refl _ _)⟩
  case round =>
    obtain ⟨k, hk, rfl, HN, HB⟩ := hrel
    skip
    by_cases hlt : k < n7
    · skip
      obtain ⟨b, o, x_e, cs_e, rfl, _, hbwe, hxe, hce, hrde⟩ := H.out.at_ hlt
      obtain ⟨xe0, le1⟩ := x_e
      obtain ⟨pe1, ne1, ce1, rfl, be0, he1⟩ := DpArchive.ex hrde
      have hcce : ∀ jj v, [.int .i64 xe0, .slice pe1 ne1 ce1][jj]? = some v → wr.cell? ⟨b, o + k * 2 + jj, none⟩ = some v := fun jj v hv => (HB.out.cell (p := ⟨b, o + k * 2 + jj, none⟩) hbwe).trans (hce jj v hv)
      have HXe := Lib.hid hxe
      have HCe := Lib.hid hcce
      have He1 := Lib.hid (he1.below HB.out)
      have hne1 := he1.le
      have Gbe0 := Lib.hid be0
      obtain ⟨u0, u1⟩ := DpArchive.at_cells hcce
      clear hcce hce hxe hrde be0 he1
      have i1 : (0 : Int) ≤ (k : Int) := by omega
      have i2 : (k : Int) < (n7 : Int) := by omega
      have HX2 := Lib.hid (Bx.new wr 54 #[.int .i64 xe0, .slice pe1 ne1 ce1])
      have hbx := box1 wr (.cells #[.int .i64 xe0, .slice pe1 ne1 ce1] 54)
      have HB2 := Lib.hid (below_on HB.out hbx)
      have He1' := Lib.hid (He1.out.below hbx)
      clear hbx
      go_wp2_with fail
      generalize (wr.alloc (.cells #[.int .i64 xe0, .slice pe1 ne1 ce1] 54)) = W2 at HX2 HB2 He1' ⊢
      obtain ⟨q0, q1⟩ := DpArchive.bxc HX2.out
      go_wp2_with fail
      refine (Ft.find_any xe0 le1 _ _ _ id _ He1'.out).mono ?_
      rintro e w3 ⟨rfl, hb⟩
      have HB3 := Lib.hid (below_on HB2.out hb)
      clear hb u0 u1 q0 q1
      obtain ⟨f, hf⟩ : ∃ z, Ft.findI le1 id = z := ⟨_, rfl⟩
      rw [hf]
      have HF := Lib.hid hf
      clear hf
      by_cases hp : 0 ≤ f
      · have HA := Lib.hid (at_yes HN.out HXe.out (show has id (xe0, le1) = true from decide_eq_true (by show 0 ≤ Ft.findI le1 id; rw [HF.out]; exact hp)))
        go_wp2_with fail
        go_ret2
        exact val_of (by rw [HA.out, HF.out]; first | done | rfl) (HBV.out.trans (HB3.out.mono HBV.out.size))
      · have HN2 := Lib.hid (noneB_next HN.out HXe.out (show has id (xe0, le1) = false from decide_eq_false (by show ¬ 0 ≤ Ft.findI le1 id; rw [HF.out]; exact hp)))
        go_wp2_with fail
        go_roundw
        case rel => exact ⟨k + 1, by omega, by go_num, HN2, HB3⟩
        case measure => simp [intOf]; omega
    · obtain rfl : k = n7 := by omega
      have HA := Lib.hid (at_no HN.out HL.out)
      go_wp2_with fail
      go_ret2
      exact val_of (by rw [HA.out]; first | done | rfl) (HBV.out.trans (HB.out.mono HBV.out.size))
set_option maxRecDepth 100000 in
set_option maxHeartbeats 8000000 in
theorem spec_find_any (p0 : Option Addr) (n0 c0 : Nat) (p1 : Option Addr) (n1 c1 : Nat) (p2 : Option Addr) (n2 c2 : Nat) (x3 : Int) (x4 : Int) (p5 : Option Addr) (n5 c5 : Nat) (p6 : Option Addr) (n6 c6 : Nat) (p8 : Option Addr) (n8 c8 : Nat) (p9 : Option Addr) (n9 c9 : Nat) (x10 : Int) (p11 : Option Addr) (n11 c11 : Nat) (l7 : List DpArchive.A) (p7 : Option Addr) (n7 c7 : Nat) (id : Int) {S : Nat → Prop} (w : World) (h : RdD DpArchive.E S w p7 n7 l7) : Calls Try.prog 20 #[.agg #[.slice p0 n0 c0, .slice p1 n1 c1, .slice p2 n2 c2, .int .i64 x3, .int .i64 x4, .slice p5 n5 c5, .slice p6 n6 c6, .slice p7 n7 c7, .slice p8 n8 c8, .slice p9 n9 c9, .int .i64 x10, .slice p11 n11 c11], .int .i64 id] w (Val (.tuple #[.int .i64 (at_ id l7).1, .int .i64 (at_ id l7).2]) w) := by
  have hb := box1 w (.cells #[.slice p0 n0 c0, .slice p1 n1 c1, .slice p2 n2 c2, .int .i64 x3, .int .i64 x4, .slice p5 n5 c5, .slice p6 n6 c6, .slice p7 n7 c7, .slice p8 n8 c8, .slice p9 n9 c9, .int .i64 x10, .slice p11 n11 c11] 79)
  have HBV := Lib.hid hb
  have HX := Lib.hid (Bx.new w 79 #[.slice p0 n0 c0, .slice p1 n1 c1, .slice p2 n2 c2, .int .i64 x3, .int .i64 x4, .slice p5 n5 c5, .slice p6 n6 c6, .slice p7 n7 c7, .slice p8 n8 c8, .slice p9 n9 c9, .int .i64 x10, .slice p11 n11 c11])
  have H := Lib.hid (h.below hb)
  have hle := h.le
  have HL := Lib.hid h.len
  clear hb h
  skip
  go_enter Try.func20, Try.ntmps20
  go_wp2_with fail
  skip
  generalize (w.alloc (.cells #[.slice p0 n0 c0, .slice p1 n1 c1, .slice p2 n2 c2, .int .i64 x3, .int .i64 x4, .slice p5 n5 c5, .slice p6 n6 c6, .slice p7 n7 c7, .slice p8 n8 c8, .slice p9 n9 c9, .int .i64 x10, .slice p11 n11 c11] 79)) = V at HBV HX H ⊢
  go_loopw [6] (fun i wr => ∃ k : Nat, k ≤ n7 ∧ i = .int .i64 k ∧ Hid (noneB (has id) l7 k) ∧ Hid (Below V.heap.size V wr)) (fun i _ => n7 - (intOf i).toNat)
  case atStart => exact ⟨0, Nat.zero_le _, rfl, Lib.hid (noneB_zero _), Lib.hid (Below.refl _ _)⟩
  case round =>
    obtain ⟨k, hk, rfl, HN, HB⟩ := hrel
    obtain ⟨i0, i1, i2, i3, i4, i5, i6, i7, i8, i9, i10, i11⟩ := DpWorld.bxc (HX.out.below HB.out)
    by_cases hlt : k < n7
    · skip
      obtain ⟨b, o, x_e, cs_e, rfl, _, hbwe, hxe, hce, hrde⟩ := H.out.at_ hlt
      obtain ⟨xe0, le1⟩ := x_e
      obtain ⟨pe1, ne1, ce1, rfl, be0, he1⟩ := DpArchive.ex hrde
      have hcce : ∀ jj v, [.int .i64 xe0, .slice pe1 ne1 ce1][jj]? = some v → wr.cell? ⟨b, o + k * 2 + jj, none⟩ = some v := fun jj v hv => (HB.out.cell (p := ⟨b, o + k * 2 + jj, none⟩) hbwe).trans (hce jj v hv)
      have HXe := Lib.hid hxe
      have HCe := Lib.hid hcce
      have He1 := Lib.hid (he1.below HB.out)
      have hne1 := he1.le
      have Gbe0 := Lib.hid be0
      obtain ⟨u0, u1⟩ := DpArchive.at_cells hcce
      clear hcce hce hxe hrde be0 he1
      have i1 : (0 : Int) ≤ (k : Int) := by omega
      have i2 : (k : Int) < (n7 : Int) := by omega
      go_wp2_with fail
      refine (Ft.spec_find_any xe0 le1 _ _ _ id _ He1.out).mono ?_
      rintro e w3 ⟨rfl, hb⟩
      have HB3 := Lib.hid (below_on HB.out hb)
      clear hb u0 u1 i0 i1 i2 i3 i4 i5 i6 i7 i8 i9 i10 i11
      obtain ⟨f, hf⟩ : ∃ z, Ft.findI le1 id = z := ⟨_, rfl⟩
      rw [hf]
      have HF := Lib.hid hf
      clear hf
      by_cases hp : 0 ≤ f
      · have HA := Lib.hid (at_yes HN.out HXe.out (show has id (xe0, le1) = true from decide_eq_true (by show 0 ≤ Ft.findI le1 id; rw [HF.out]; exact hp)))
        go_wp2_with fail
        go_ret2
        exact val_of (by rw [HA.out, HF.out]; first | done | rfl) (HBV.out.trans (HB3.out.mono HBV.out.size))
      · have HN2 := Lib.hid (noneB_next HN.out HXe.out (show has id (xe0, le1) = false from decide_eq_false (by show ¬ 0 ≤ Ft.findI le1 id; rw [HF.out]; exact hp)))
        go_wp2_with fail
        go_roundw
        case rel => exact ⟨k + 1, by omega, by go_num, HN2, HB3⟩
        case measure => simp [intOf]; omega
    · obtain rfl : k = n7 := by omega
      have HA := Lib.hid (at_no HN.out HL.out)
      go_wp2_with fail
      go_ret2
      exact val_of (by rw [HA.out]; first | done | rfl) (HBV.out.trans (HB.out.mono HBV.out.size))
end Go.Proofs.Ytkmgnicngcandaa.Fiw
