/- The walk of the law FnExactAddRenewal. -/
import Derived.Test.YtjaholcmaafenaaEd
import Derived.Test.YtjaholcmaafenaaDz
import Derived.Test.YtjaholcmaafenaaSlI
import Derived.Test.YtjaholcmaafenaaDpStrand
import Derived.Test.YtjaholcmaafenaaDpRenewal
import Derived.Test.YtjaholcmaafenaaAdd
import Derived.Test.YtjaholcmaafenaaSad
import Derived.Test.YtjaholcmaafenaaEk
import Derived.Test.YtjaholcmaafenaaLf
import Derived.Test.YtjaholcmaafenaaLdStrand
import Derived.Test.YtjaholcmaafenaaDfStrand
import Derived.Test.YtjaholcmaafenaaMdStrand
import Derived.Test.YtjaholcmaafenaaDfRenewal
import Derived.Test.YtjaholcmaafenaaMdRenewal
import Derived.OpenShut
import Derived.Deep.RegionHeld3
import Derived.Laws.Strings
namespace Go.Proofs.Ytjaholcmaafenaa.fnExactAddRenewal
open Go.ChangeShapes Go.WideShapes Go.ChangeAt Go.RowKit Sl St Ed Ek Lf Is1 Adp
theorem drewB {W w : World} {B : Nat} (h : Below B W w) : Below B W w.drew := below_drewN h 1
theorem setN {w : World} {g : Nat} {T : TypeId} {c0 c1 : Value} (h : Bx w g T #[c0, c1]) (u0 u1 : Value) : Bx ((w.setCell ⟨g, 0, none⟩ u0).setCell ⟨g, 1, none⟩ u1) g T #[u0, u1] := by
  have k := ((h.set_ 0 u0).set_ 1 u1)
  simp only [List.setIfInBounds_toArray, List.set_cons_zero, List.set_cons_succ] at k
  exact k
theorem farN {w : World} {g k : Nat} {T : TypeId} {cs : Array Value} (h : Bx w k T cs) (hn : k < g) (u0 u1 : Value) : Bx ((w.setCell ⟨g, 0, none⟩ u0).setCell ⟨g, 1, none⟩ u1) k T cs := ((h.far (q := ⟨g, 0, none⟩) (Nat.ne_of_lt hn) _).far (q := ⟨g, 1, none⟩) (Nat.ne_of_lt hn) _)
theorem belN {W w : World} {g : Nat} (h : Below W.heap.size W w) (hg : W.heap.size ≤ g) (u0 u1 : Value) : Below W.heap.size W ((w.setCell ⟨g, 0, none⟩ u0).setCell ⟨g, 1, none⟩ u1) := ((h.setCell (p := ⟨g, 0, none⟩) hg _).setCell (p := ⟨g, 1, none⟩) hg _)
theorem farD {α : Type} {E : Ent α} {w : World} {g : Nat} {p : Option Addr} {n : Nat} {xs : List α} (h : RdD E (fun b => b ≠ g) w p n xs) (u0 u1 : Value) : RdD E (fun b => b ≠ g) ((w.setCell ⟨g, 0, none⟩ u0).setCell ⟨g, 1, none⟩ u1) p n xs := ((h.far (q := ⟨g, 0, none⟩) (fun h => h rfl) _).far (q := ⟨g, 1, none⟩) (fun h => h rfl) _)
theorem farB {α : Type} {E : Ent α} {w : World} {g B : Nat} {p : Option Addr} {n : Nat} {xs : List α} (h : RdD E (fun b => b < B) w p n xs) (hg : B ≤ g) (u0 u1 : Value) : RdD E (fun b => b < B) ((w.setCell ⟨g, 0, none⟩ u0).setCell ⟨g, 1, none⟩ u1) p n xs := ((h.far (q := ⟨g, 0, none⟩) (Nat.not_lt.2 hg) _).far (q := ⟨g, 1, none⟩) (Nat.not_lt.2 hg) _)
theorem farHd {w : World} {g : Nat} {k : Int} {X : List L1} {lo hi : Nat} (h : Hd k X w) (hX : Inn lo hi X) (hg : hi ≤ g) (u0 u1 : Value) : Hd k X ((w.setCell ⟨g, 0, none⟩ u0).setCell ⟨g, 1, none⟩ u1) := fun i l hl => by
  have hm := hX l (List.mem_of_getElem? hl)
  rw [World.cell?_setCell_other _ _ _ _ (fun e => by have := (Addr.mk.inj e).1; omega), World.cell?_setCell_other _ _ _ _ (fun e => by have := (Addr.mk.inj e).1; omega)]
  exact h i l hl
theorem farRR {α : Type} {E : Ent α} {lo hi : Nat} {w : World} {g : Nat} {p : Option Addr} {n : Nat} {xs : List α} (h : RRd E lo hi w p n xs) (hg : hi ≤ g) (u0 u1 : Value) : RRd E lo hi ((w.setCell ⟨g, 0, none⟩ u0).setCell ⟨g, 1, none⟩ u1) p n xs := (Lf.RRd.far (Lf.RRd.far h (q := ⟨g, 0, none⟩) (Or.inr hg) _) (q := ⟨g, 1, none⟩) (Or.inr hg) _)

set_option maxRecDepth 100000 in
set_option maxHeartbeats 16000000 in
theorem walk {H : Type} {enc : TypeId × Value → H} (W : World) (base : Nat)
    (v0 : Value) (d0 : DataW H) (p0 : List MemPlace) (h0 : DataW.Trod enc Try.prog W 0 (fun _ => true) true 25 v0 d0 p0) (k0 : Value.okWide Try.prog W .any base 25 v0)
    (v1 : Value) (d1 : DataW H) (p1 : List MemPlace) (h1 : DataW.Trod enc Try.prog W 0 (fun _ => true) true 105 v1 d1 p1) (k1 : Value.okWide Try.prog W .any base 105 v1)
    (_hsz : (DataW.weightsEach Try.prog [25, 105] [d0, d1]).all (· ≤ reachBytes) = true) :
    Calls Try.prog 9 #[v0, v1] W fun e w' => e = .returned (.bool true) ∧ Below W.heap.size W w' := by
  obtain ⟨l0_0, l0_1, p0_0, n0_0, c0_0, p0_1, n0_1, c0_1, rfl, h0_0, h0_1⟩ := DpStrand.open_val h0 k0
  have HP0_0 := Lib.hid h0_0
  have HP0_1 := Lib.hid h0_1
  have hn0_0 := h0_0.le
  have hn0_1 := h0_1.le
  clear h0_0 h0_1
  clear h0 k0
  obtain ⟨x1_0, x1_1, x1_2, l1_3, l1_4, p1_3, n1_3, c1_3, p1_4, n1_4, c1_4, rfl, b1_0, b1_1, b1_2, h1_3, h1_4⟩ := DpRenewal.open_val h1 k1
  have HG1_0 := Lib.hid b1_0
  have HG1_1 := Lib.hid b1_1
  have HG1_2 := Lib.hid b1_2
  have HP1_3 := Lib.hid h1_3
  have HP1_4 := Lib.hid h1_4
  have hn1_3 := h1_3.le
  have hn1_4 := h1_4.le
  clear b1_0 b1_1 b1_2 h1_3 h1_4
  clear h1 k1
  clear _hsz
  have HB := Lib.hid (Below.refl W.heap.size W)
  have HX0 := Lib.hid (Bx.new W 25 #[.slice p0_0 n0_0 c0_0, .slice p0_1 n0_1 c0_1])
  replace HB := Lib.hid (HB.out.alloc HB.out.size (.cells #[.slice p0_0 n0_0 c0_0, .slice p0_1 n0_1 c0_1] 25))
  have lX0 := HX0.out.lt
  have hbx1 := Bx.new (W.alloc (.cells #[.slice p0_0 n0_0 c0_0, .slice p0_1 n0_1 c0_1] 25)) 105 #[.int .i64 x1_0, .int .i64 x1_1, .int .i64 x1_2, .slice p1_3 n1_3 c1_3, .slice p1_4 n1_4 c1_4]
  rw [World.size_alloc] at hbx1
  have HX1 := Lib.hid hbx1
  clear hbx1
  replace HX0 := Lib.hid (HX0.out.alloc (.cells #[.int .i64 x1_0, .int .i64 x1_1, .int .i64 x1_2, .slice p1_3 n1_3 c1_3, .slice p1_4 n1_4 c1_4] 105))
  replace HB := Lib.hid (HB.out.alloc HB.out.size (.cells #[.int .i64 x1_0, .int .i64 x1_1, .int .i64 x1_2, .slice p1_3 n1_3 c1_3, .slice p1_4 n1_4 c1_4] 105))
  have lX1 := HX1.out.lt
  obtain ⟨m0, hm0⟩ : ∃ m : Nat, DpStrand.E.wt (l0_0, l0_1) = m := ⟨_, rfl⟩
  have HM0 := Lib.hid hm0
  clear hm0
  obtain ⟨m1, hm1⟩ : ∃ m : Nat, DpRenewal.E.wt (x1_0, x1_1, x1_2, l1_3, l1_4) = m := ⟨_, rfl⟩
  have HM1 := Lib.hid hm1
  clear hm1
  rcases hM : addR l0_0 l0_1 (x1_0, x1_1, x1_2, l1_3, l1_4) with ⟨⟨rr0, rr1⟩, bM⟩
  have HMd := Lib.hid hM
  clear hM
  obtain ⟨mR, hmR⟩ : ∃ m : Nat, DpStrand.E.wt (rr0, rr1) = m := ⟨_, rfl⟩
  have HWR := Lib.hid hmR
  clear hmR
  by_cases hbig0 : 1048576 < m0
  · go_enter Try.func9, Try.ntmps9
    obtain ⟨i0, i1⟩ := DpStrand.bxc HX0.out
    go_wp2_with fail
    refine (DpStrand.sz_big _ _ _ _ _ _ _ _ _ _ _ HM0.out (HP0_0.out.below HB.out) (HP0_1.out.below HB.out) (by omega) (by omega) (by omega)).mono ?_
    rintro e w1 ⟨rfl, hb⟩
    replace HB := Lib.hid (below_on HB.out hb)
    replace HX0 := Lib.hid (HX0.out.below hb)
    replace HX1 := Lib.hid (HX1.out.below hb)
    clear hb
    clear i0 i1
    go_wp2_with fail
    go_ret
    exact ⟨rfl, HB.out⟩
  by_cases hbig1 : 1048576 < m0 + m1
  · go_enter Try.func9, Try.ntmps9
    obtain ⟨i0, i1⟩ := DpStrand.bxc HX0.out
    go_wp2_with fail
    refine (DpStrand.sz_fits _ _ _ _ _ _ _ _ _ _ _ HM0.out (HP0_0.out.below HB.out) (HP0_1.out.below HB.out) (by omega) (by omega)).mono ?_
    rintro e w2 ⟨rfl, hb⟩
    replace HB := Lib.hid (below_on HB.out hb)
    replace HX0 := Lib.hid (HX0.out.below hb)
    replace HX1 := Lib.hid (HX1.out.below hb)
    clear hb
    clear i0 i1
    obtain ⟨i0, i1, i2, i3, i4⟩ := DpRenewal.bxc HX1.out
    go_wp2_with fail
    refine (DpRenewal.sz_big _ _ _ _ _ _ _ _ _ _ _ _ _ _ HM1.out (HP1_3.out.below HB.out) (HP1_4.out.below HB.out) (by omega) (by omega) (by omega)).mono ?_
    rintro e w3 ⟨rfl, hb⟩
    replace HB := Lib.hid (below_on HB.out hb)
    replace HX0 := Lib.hid (HX0.out.below hb)
    replace HX1 := Lib.hid (HX1.out.below hb)
    clear hb
    clear i0 i1 i2 i3 i4
    go_wp2_with fail
    go_ret
    exact ⟨rfl, HB.out⟩
  go_enter Try.func9, Try.ntmps9
  obtain ⟨i0, i1⟩ := DpStrand.bxc HX0.out
  go_wp2_with fail
  refine (DpStrand.sz_fits _ _ _ _ _ _ _ _ _ _ _ HM0.out (HP0_0.out.below HB.out) (HP0_1.out.below HB.out) (by omega) (by omega)).mono ?_
  rintro e w4 ⟨rfl, hb⟩
  replace HB := Lib.hid (below_on HB.out hb)
  replace HX0 := Lib.hid (HX0.out.below hb)
  replace HX1 := Lib.hid (HX1.out.below hb)
  clear hb
  clear i0 i1
  obtain ⟨i0, i1, i2, i3, i4⟩ := DpRenewal.bxc HX1.out
  go_wp2_with fail
  refine (DpRenewal.sz_fits _ _ _ _ _ _ _ _ _ _ _ _ _ _ HM1.out (HP1_3.out.below HB.out) (HP1_4.out.below HB.out) (by omega) (by omega)).mono ?_
  rintro e w5 ⟨rfl, hb⟩
  replace HB := Lib.hid (below_on HB.out hb)
  replace HX0 := Lib.hid (HX0.out.below hb)
  replace HX1 := Lib.hid (HX1.out.below hb)
  clear hb
  clear i0 i1 i2 i3 i4
  have sm0 : m0 ≤ 1048576 := by omega
  have sm1 : m1 ≤ 1048576 := by omega
  have smt : m0 + m1 ≤ 1048576 := by omega
  clear hbig0
  clear hbig1
  have sn0_0 : n0_0 ≤ 1048576 := by have h := HM0.out; have k := HP0_0.out.len; simp only [DpStrand.wt_eq] at h; omega
  have sn0_1 : n0_1 ≤ 1048576 := by have h := HM0.out; have k := HP0_1.out.len; simp only [DpStrand.wt_eq] at h; omega
  have sn1_3 : n1_3 ≤ 1048576 := by have h := HM1.out; have k := HP1_3.out.len; simp only [DpRenewal.wt_eq] at h; omega
  have sn1_4 : n1_4 ≤ 1048576 := by have h := HM1.out; have k := HP1_4.out.len; simp only [DpRenewal.wt_eq] at h; omega
  have sW := HB.out.size
  have bR : mR ≤ 1048577 := by have h := HWR.out; have h1 := HM0.out; have h2 := HM1.out; obtain ⟨_, hI⟩ := addR_is HMd.out rfl rfl; cases bM <;> (obtain ⟨rfl, rfl⟩ := Prod.mk.inj hI) <;> simp only [DpStrand.wt_eq, List.length_append, List.length_singleton, wts_snoc] at h h1 <;> omega
  have lY0 := HX0.out.lt
  have lY1 := HX1.out.lt
  obtain ⟨j0_0, j0_1⟩ := DpStrand.bxc HX0.out
  obtain ⟨j1_0, j1_1, j1_2, j1_3, j1_4⟩ := DpRenewal.bxc HX1.out
  go_wp2_with fail
  clear j0_0 j0_1
  clear j1_0 j1_1 j1_2 j1_3 j1_4
  have HZ : Hid True := Lib.hid trivial
  have HBu := HB
  have HX0u := HX0
  have HX1u := HX1
  replace HB := Lib.hid (drewB HB.out)
  replace HX0 := Lib.hid (HX0.out.below (drewB (Below.refl _ _)))
  replace HX1 := Lib.hid (HX1.out.below (drewB (Below.refl _ _)))
  go_region_held3 (fun w' => (w'.cell? ⟨W.heap.size, 0, none⟩ = some (.slice p0_0 n0_0 c0_0) ∧ w'.cell? ⟨W.heap.size, 1, none⟩ = some (.slice p0_1 n0_1 c0_1)) ∧ w'.cell? ⟨W.heap.size + 1, 0, none⟩ = some (.int .i64 x1_0) ∧ w'.cell? ⟨W.heap.size + 1, 1, none⟩ = some (.int .i64 x1_1) ∧ w'.cell? ⟨W.heap.size + 1, 2, none⟩ = some (.int .i64 x1_2) ∧ w'.cell? ⟨W.heap.size + 1, 3, none⟩ = some (.slice p1_3 n1_3 c1_3) ∧ w'.cell? ⟨W.heap.size + 1, 4, none⟩ = some (.slice p1_4 n1_4 c1_4)) (first | with_reducible exact ⟨DpStrand.bxc HX0.out, DpRenewal.bxc HX1.out⟩ | with_reducible exact ⟨DpStrand.bxc (HX0.out.alloc _), DpRenewal.bxc (HX1.out.alloc _)⟩ | with_reducible exact ⟨DpStrand.bxc (HX0u.out.alloc _).drew1, DpRenewal.bxc (HX1u.out.alloc _).drew1⟩ | with_reducible exact ⟨DpStrand.bxc (farN HX0.out HN0.out _ _), DpRenewal.bxc (farN HX1.out HN1.out _ _)⟩ | fail) (first | (go_at_call 13; (with_reducible refine (DpStrand.toK_any _ _ _ _ _ _ _ _ _ (HP0_0.out.below HB.out) (HP0_1.out.below HB.out) (by rw [HM0.out]; omega)).mono ?_); rintro e w6 ⟨qHT0_0, dHT0_0, qHT0_1, dHT0_1, rfl, ho0, ho1, hk0, hk1, hb⟩; replace HZ := Lib.hid (HZ.out.below hb); replace HB := Lib.hid (below_on HB.out hb); replace HX0 := Lib.hid (HX0.out.below hb); replace HX1 := Lib.hid (HX1.out.below hb); have HT0_0 := Lib.hid ho0; have HT0_1 := Lib.hid ho1; have HT0k_0 := Lib.hid hk0; have HT0k_1 := Lib.hid hk1; clear ho0 ho1; clear hk0 hk1; clear hb) | (go_at_call 13; (with_reducible refine (DpStrand.toK_any _ _ _ _ _ _ _ _ _ (HP0_0.out.below HB.out) (HP0_1.out.below HB.out) (by rw [HM0.out]; omega)).mono ?_); rintro e w6 ⟨qHT0_0, dHT0_0, qHT0_1, dHT0_1, rfl, ho0, ho1, hk0, hk1, hb⟩; replace HB := Lib.hid (below_on HB.out hb); replace HX0 := Lib.hid (HX0.out.below hb); replace HX1 := Lib.hid (HX1.out.below hb); have HT0_0 := Lib.hid ho0; have HT0_1 := Lib.hid ho1; have HT0k_0 := Lib.hid hk0; have HT0k_1 := Lib.hid hk1; clear ho0 ho1; clear hk0 hk1; clear hb) | (go_at_call 13; have HN0 : Hid (W.heap.size < w5.heap.size) := Lib.hid HX0u.out.lt; have HN1 : Hid (W.heap.size + 1 < w5.heap.size) := Lib.hid HX1u.out.lt; have HZ := Lib.hid (Bx.new w5 36 #[.slice none 0 0, .slice none 0 0]).drew1; replace HB := Lib.hid (drewB (HBu.out.alloc HBu.out.size (.cells #[.slice none 0 0, .slice none 0 0] 36))); replace HX0 := Lib.hid ((HX0u.out.alloc (.cells #[.slice none 0 0, .slice none 0 0] 36)).below (drewB (Below.refl _ _))); replace HX1 := Lib.hid ((HX1u.out.alloc (.cells #[.slice none 0 0, .slice none 0 0] 36)).below (drewB (Below.refl _ _))); (with_reducible refine (DpStrand.toK_any _ _ _ _ _ _ _ _ _ (HP0_0.out.below HB.out) (HP0_1.out.below HB.out) (by rw [HM0.out]; omega)).mono ?_); rintro e w6 ⟨qHT0_0, dHT0_0, qHT0_1, dHT0_1, rfl, ho0, ho1, hk0, hk1, hb⟩; replace HZ := Lib.hid (HZ.out.below hb); replace HB := Lib.hid (below_on HB.out hb); replace HX0 := Lib.hid (HX0.out.below hb); replace HX1 := Lib.hid (HX1.out.below hb); have HT0_0 := Lib.hid ho0; have HT0_1 := Lib.hid ho1; have HT0k_0 := Lib.hid hk0; have HT0k_1 := Lib.hid hk1; clear ho0 ho1; clear hk0 hk1; clear hb) | (go_at_call 59; (with_reducible refine (DpRenewal.toK_any _ _ _ _ _ _ _ _ _ _ _ _ (HP1_3.out.below HB.out) (HP1_4.out.below HB.out) (by rw [HM1.out]; omega)).mono ?_); rintro e w7 ⟨qHT1_0, dHT1_0, qHT1_1, dHT1_1, rfl, ho0, ho1, hk0, hk1, hb⟩; replace HZ := Lib.hid (HZ.out.below hb); replace HB := Lib.hid (below_on HB.out hb); replace HX0 := Lib.hid (HX0.out.below hb); replace HX1 := Lib.hid (HX1.out.below hb); replace HT0_0 := Lib.hid (HT0_0.out.below hb); replace HT0_1 := Lib.hid (HT0_1.out.below hb); have HT1_0 := Lib.hid ho0; have HT1_1 := Lib.hid ho1; have HT1k_0 := Lib.hid hk0; have HT1k_1 := Lib.hid hk1; clear ho0 ho1; clear hk0 hk1; clear hb) | (go_at_call 59; (with_reducible refine (DpRenewal.toK_any _ _ _ _ _ _ _ _ _ _ _ _ (HP1_3.out.below HB.out) (HP1_4.out.below HB.out) (by rw [HM1.out]; omega)).mono ?_); rintro e w7 ⟨qHT1_0, dHT1_0, qHT1_1, dHT1_1, rfl, ho0, ho1, hk0, hk1, hb⟩; replace HB := Lib.hid (below_on HB.out hb); replace HX0 := Lib.hid (HX0.out.below hb); replace HX1 := Lib.hid (HX1.out.below hb); replace HT0_0 := Lib.hid (HT0_0.out.below hb); replace HT0_1 := Lib.hid (HT0_1.out.below hb); have HT1_0 := Lib.hid ho0; have HT1_1 := Lib.hid ho1; have HT1k_0 := Lib.hid hk0; have HT1k_1 := Lib.hid hk1; clear ho0 ho1; clear hk0 hk1; clear hb) | (go_at_call 59; have HN0 : Hid (W.heap.size < w6.heap.size) := Lib.hid HX0.out.lt; have HN1 : Hid (W.heap.size + 1 < w6.heap.size) := Lib.hid HX1.out.lt; have HZ := Lib.hid (Bx.new w6 36 #[.slice none 0 0, .slice none 0 0]); replace HB := Lib.hid (HB.out.alloc HB.out.size (.cells #[.slice none 0 0, .slice none 0 0] 36)); replace HX0 := Lib.hid (HX0.out.alloc (.cells #[.slice none 0 0, .slice none 0 0] 36)); replace HX1 := Lib.hid (HX1.out.alloc (.cells #[.slice none 0 0, .slice none 0 0] 36)); replace HT0_0 := Lib.hid (HT0_0.out.alloc (.cells #[.slice none 0 0, .slice none 0 0] 36)); replace HT0_1 := Lib.hid (HT0_1.out.alloc (.cells #[.slice none 0 0, .slice none 0 0] 36)); (with_reducible refine (DpRenewal.toK_any _ _ _ _ _ _ _ _ _ _ _ _ (HP1_3.out.below HB.out) (HP1_4.out.below HB.out) (by rw [HM1.out]; omega)).mono ?_); rintro e w7 ⟨qHT1_0, dHT1_0, qHT1_1, dHT1_1, rfl, ho0, ho1, hk0, hk1, hb⟩; replace HZ := Lib.hid (HZ.out.below hb); replace HB := Lib.hid (below_on HB.out hb); replace HX0 := Lib.hid (HX0.out.below hb); replace HX1 := Lib.hid (HX1.out.below hb); replace HT0_0 := Lib.hid (HT0_0.out.below hb); replace HT0_1 := Lib.hid (HT0_1.out.below hb); have HT1_0 := Lib.hid ho0; have HT1_1 := Lib.hid ho1; have HT1k_0 := Lib.hid hk0; have HT1k_1 := Lib.hid hk1; clear ho0 ho1; clear hk0 hk1; clear hb) | (go_at_call 58; (with_reducible refine (Sad.addRenewal_any l0_0 _ _ _ l0_1 _ _ _ x1_0 x1_1 x1_2 l1_3 _ _ _ l1_4 _ _ _ bM rr0 rr1 _ HT0_0.out HT0_1.out HG1_0.out HG1_1.out HG1_2.out HT1_0.out HT1_1.out (by have h1 := HM0.out; have h2 := HM1.out; omega) HMd.out).mono ?_); rintro e w8 ⟨pW0, nW0, cW0, pW1, nW1, cW1, rfl, ho0, ho1, hb⟩; have HW0 := Lib.hid (awayZ HZ.out ho0); have HW1 := Lib.hid (awayZ HZ.out ho1); clear ho0 ho1; replace HZ := Lib.hid (HZ.out.below hb); replace HB := Lib.hid (below_on HB.out hb); replace HX0 := Lib.hid (HX0.out.below hb); replace HX1 := Lib.hid (HX1.out.below hb); replace HT0_0 := Lib.hid (HT0_0.out.below hb); replace HT0_1 := Lib.hid (HT0_1.out.below hb); replace HT1_0 := Lib.hid (HT1_0.out.below hb); replace HT1_1 := Lib.hid (HT1_1.out.below hb); obtain ⟨q0, q1⟩ := DpStrand.bxc HZ.out; have fz0 := HZ.out.free 0; have fz1 := HZ.out.free 1; clear hb) | (go_at_call 58; (with_reducible refine (Sad.addRenewal_any l0_0 _ _ _ l0_1 _ _ _ x1_0 x1_1 x1_2 l1_3 _ _ _ l1_4 _ _ _ bM rr0 rr1 _ HT0_0.out HT0_1.out HG1_0.out HG1_1.out HG1_2.out HT1_0.out HT1_1.out (by have h1 := HM0.out; have h2 := HM1.out; omega) HMd.out).mono ?_); rintro e w8 ⟨pW0, nW0, cW0, pW1, nW1, cW1, rfl, ho0, ho1, hb⟩; have HW0 := Lib.hid ho0; have HW1 := Lib.hid ho1; clear ho0 ho1; replace HB := Lib.hid (below_on HB.out hb); replace HX0 := Lib.hid (HX0.out.below hb); replace HX1 := Lib.hid (HX1.out.below hb); replace HT0_0 := Lib.hid (HT0_0.out.below hb); replace HT0_1 := Lib.hid (HT0_1.out.below hb); replace HT1_0 := Lib.hid (HT1_0.out.below hb); replace HT1_1 := Lib.hid (HT1_1.out.below hb); clear hb) | (go_at_call 58; have HN0 : Hid (W.heap.size < w7.heap.size) := Lib.hid HX0.out.lt; have HN1 : Hid (W.heap.size + 1 < w7.heap.size) := Lib.hid HX1.out.lt; have HZ := Lib.hid (Bx.new w7 36 #[.slice none 0 0, .slice none 0 0]); replace HB := Lib.hid (HB.out.alloc HB.out.size (.cells #[.slice none 0 0, .slice none 0 0] 36)); replace HX0 := Lib.hid (HX0.out.alloc (.cells #[.slice none 0 0, .slice none 0 0] 36)); replace HX1 := Lib.hid (HX1.out.alloc (.cells #[.slice none 0 0, .slice none 0 0] 36)); replace HT0_0 := Lib.hid (HT0_0.out.alloc (.cells #[.slice none 0 0, .slice none 0 0] 36)); replace HT0_1 := Lib.hid (HT0_1.out.alloc (.cells #[.slice none 0 0, .slice none 0 0] 36)); replace HT1_0 := Lib.hid (HT1_0.out.alloc (.cells #[.slice none 0 0, .slice none 0 0] 36)); replace HT1_1 := Lib.hid (HT1_1.out.alloc (.cells #[.slice none 0 0, .slice none 0 0] 36)); (with_reducible refine (Sad.addRenewal_any l0_0 _ _ _ l0_1 _ _ _ x1_0 x1_1 x1_2 l1_3 _ _ _ l1_4 _ _ _ bM rr0 rr1 _ HT0_0.out HT0_1.out HG1_0.out HG1_1.out HG1_2.out HT1_0.out HT1_1.out (by have h1 := HM0.out; have h2 := HM1.out; omega) HMd.out).mono ?_); rintro e w8 ⟨pW0, nW0, cW0, pW1, nW1, cW1, rfl, ho0, ho1, hb⟩; have HW0 := Lib.hid (awayZ HZ.out ho0); have HW1 := Lib.hid (awayZ HZ.out ho1); clear ho0 ho1; replace HZ := Lib.hid (HZ.out.below hb); replace HB := Lib.hid (below_on HB.out hb); replace HX0 := Lib.hid (HX0.out.below hb); replace HX1 := Lib.hid (HX1.out.below hb); replace HT0_0 := Lib.hid (HT0_0.out.below hb); replace HT0_1 := Lib.hid (HT0_1.out.below hb); replace HT1_0 := Lib.hid (HT1_0.out.below hb); replace HT1_1 := Lib.hid (HT1_1.out.below hb); obtain ⟨q0, q1⟩ := DpStrand.bxc HZ.out; have fz0 := HZ.out.free 0; have fz1 := HZ.out.free 1; clear hb) | fail)
  all_goals
    clear HBu HX0u HX1u HT0_0 HT0_1 HT1_0 HT1_1
    first | (have hg0 : W.heap.size ≤ w5.heap.size := (by have h := HN0.out; omega); replace HZ : Hid (Bx ((w8.setCell ⟨w5.heap.size, 0, none⟩ (.slice pW0 nW0 cW0)).setCell ⟨w5.heap.size, 1, none⟩ (.slice pW1 nW1 cW1)) w5.heap.size 36 #[.slice pW0 nW0 cW0, .slice pW1 nW1 cW1]) := Lib.hid (setN HZ.out _ _); replace HB : Hid (Below W.heap.size W ((w8.setCell ⟨w5.heap.size, 0, none⟩ (.slice pW0 nW0 cW0)).setCell ⟨w5.heap.size, 1, none⟩ (.slice pW1 nW1 cW1))) := Lib.hid (belN HB.out hg0 _ _); replace HX0 := Lib.hid (farN HX0.out HN0.out (.slice pW0 nW0 cW0) (.slice pW1 nW1 cW1)); replace HX1 := Lib.hid (farN HX1.out HN1.out (.slice pW0 nW0 cW0) (.slice pW1 nW1 cW1)); replace HW0 := Lib.hid (farD HW0.out (.slice pW0 nW0 cW0) (.slice pW1 nW1 cW1)); replace HW1 := Lib.hid (farD HW1.out (.slice pW0 nW0 cW0) (.slice pW1 nW1 cW1)); replace HW0 := Lib.hid (HW0.out.mono (S' := fun _ => True) (fun _ _ => trivial)); replace HW1 := Lib.hid (HW1.out.mono (S' := fun _ => True) (fun _ _ => trivial)); generalize ((w8.setCell ⟨w5.heap.size, 0, none⟩ (.slice pW0 nW0 cW0)).setCell ⟨w5.heap.size, 1, none⟩ (.slice pW1 nW1 cW1)) = wz at HZ HB HX0 HX1 HW0 HW1 ⊢; generalize w5.heap.size = gz at HZ ⊢; clear hg0 HN0 HN1  q0 fz0 q1 fz1) | (have hg0 : W.heap.size ≤ w6.heap.size := (by have h := HN0.out; omega); replace HZ : Hid (Bx ((w8.setCell ⟨w6.heap.size, 0, none⟩ (.slice pW0 nW0 cW0)).setCell ⟨w6.heap.size, 1, none⟩ (.slice pW1 nW1 cW1)) w6.heap.size 36 #[.slice pW0 nW0 cW0, .slice pW1 nW1 cW1]) := Lib.hid (setN HZ.out _ _); replace HB : Hid (Below W.heap.size W ((w8.setCell ⟨w6.heap.size, 0, none⟩ (.slice pW0 nW0 cW0)).setCell ⟨w6.heap.size, 1, none⟩ (.slice pW1 nW1 cW1))) := Lib.hid (belN HB.out hg0 _ _); replace HX0 := Lib.hid (farN HX0.out HN0.out (.slice pW0 nW0 cW0) (.slice pW1 nW1 cW1)); replace HX1 := Lib.hid (farN HX1.out HN1.out (.slice pW0 nW0 cW0) (.slice pW1 nW1 cW1)); replace HW0 := Lib.hid (farD HW0.out (.slice pW0 nW0 cW0) (.slice pW1 nW1 cW1)); replace HW1 := Lib.hid (farD HW1.out (.slice pW0 nW0 cW0) (.slice pW1 nW1 cW1)); replace HW0 := Lib.hid (HW0.out.mono (S' := fun _ => True) (fun _ _ => trivial)); replace HW1 := Lib.hid (HW1.out.mono (S' := fun _ => True) (fun _ _ => trivial)); generalize ((w8.setCell ⟨w6.heap.size, 0, none⟩ (.slice pW0 nW0 cW0)).setCell ⟨w6.heap.size, 1, none⟩ (.slice pW1 nW1 cW1)) = wz at HZ HB HX0 HX1 HW0 HW1 ⊢; generalize w6.heap.size = gz at HZ ⊢; clear hg0 HN0 HN1  q0 fz0 q1 fz1) | (have hg0 : W.heap.size ≤ w7.heap.size := (by have h := HN0.out; omega); replace HZ : Hid (Bx ((w8.setCell ⟨w7.heap.size, 0, none⟩ (.slice pW0 nW0 cW0)).setCell ⟨w7.heap.size, 1, none⟩ (.slice pW1 nW1 cW1)) w7.heap.size 36 #[.slice pW0 nW0 cW0, .slice pW1 nW1 cW1]) := Lib.hid (setN HZ.out _ _); replace HB : Hid (Below W.heap.size W ((w8.setCell ⟨w7.heap.size, 0, none⟩ (.slice pW0 nW0 cW0)).setCell ⟨w7.heap.size, 1, none⟩ (.slice pW1 nW1 cW1))) := Lib.hid (belN HB.out hg0 _ _); replace HX0 := Lib.hid (farN HX0.out HN0.out (.slice pW0 nW0 cW0) (.slice pW1 nW1 cW1)); replace HX1 := Lib.hid (farN HX1.out HN1.out (.slice pW0 nW0 cW0) (.slice pW1 nW1 cW1)); replace HW0 := Lib.hid (farD HW0.out (.slice pW0 nW0 cW0) (.slice pW1 nW1 cW1)); replace HW1 := Lib.hid (farD HW1.out (.slice pW0 nW0 cW0) (.slice pW1 nW1 cW1)); replace HW0 := Lib.hid (HW0.out.mono (S' := fun _ => True) (fun _ _ => trivial)); replace HW1 := Lib.hid (HW1.out.mono (S' := fun _ => True) (fun _ _ => trivial)); generalize ((w8.setCell ⟨w7.heap.size, 0, none⟩ (.slice pW0 nW0 cW0)).setCell ⟨w7.heap.size, 1, none⟩ (.slice pW1 nW1 cW1)) = wz at HZ HB HX0 HX1 HW0 HW1 ⊢; generalize w7.heap.size = gz at HZ ⊢; clear hg0 HN0 HN1  q0 fz0 q1 fz1) | (have HZ := Lib.hid (Bx.new w8 36 #[.slice pW0 nW0 cW0, .slice pW1 nW1 cW1]); replace HB := Lib.hid (HB.out.alloc HB.out.size (.cells #[.slice pW0 nW0 cW0, .slice pW1 nW1 cW1] 36)); replace HX0 := Lib.hid (HX0.out.alloc (.cells #[.slice pW0 nW0 cW0, .slice pW1 nW1 cW1] 36)); replace HX1 := Lib.hid (HX1.out.alloc (.cells #[.slice pW0 nW0 cW0, .slice pW1 nW1 cW1] 36)); replace HW0 := Lib.hid ((HW0.out.alloc (.cells #[.slice pW0 nW0 cW0, .slice pW1 nW1 cW1] 36)).mono (S' := fun _ => True) (fun _ _ => trivial)); replace HW1 := Lib.hid ((HW1.out.alloc (.cells #[.slice pW0 nW0 cW0, .slice pW1 nW1 cW1] 36)).mono (S' := fun _ => True) (fun _ _ => trivial)); generalize w8.alloc (.cells #[.slice pW0 nW0 cW0, .slice pW1 nW1 cW1] 36) = wz at HZ HB HX0 HX1 HW0 HW1 ⊢; generalize w8.heap.size = gz at HZ ⊢)
    replace HZ := HZ
    have HWb := HZ
    clear HZ
    replace HW0 := Lib.hid (bel HW0.out)
    replace HW1 := Lib.hid (bel HW1.out)
    have sB := HB.out.size
    have lWb := HWb.out.lt
    have lZ0 := HX0.out.lt
    have lZ1 := HX1.out.lt
    obtain ⟨i0, i1⟩ := DpStrand.bxc HX0.out
    go_wp2_with fail
    refine (DfStrand.toF_any _ _ _ _ _ _ _ _ _ (HP0_0.out.below HB.out) (HP0_1.out.below HB.out) (by rw [HM0.out]; omega)).mono ?_
    rintro e w10 ⟨qHU0_0, dHU0_0, qHU0_1, dHU0_1, rfl, ho0, ho1, hk0, hk1, hb⟩
    replace HB := Lib.hid (below_on HB.out hb)
    replace HX0 := Lib.hid (HX0.out.below hb)
    replace HX1 := Lib.hid (HX1.out.below hb)
    replace HWb := Lib.hid (HWb.out.below hb)
    replace HW0 := Lib.hid (HW0.out.below hb)
    replace HW1 := Lib.hid (HW1.out.below hb)
    have HU0_0 := Lib.hid ho0.rd
    have HU0_1 := Lib.hid ho1.rd
    have HV0_0 := Lib.hid ho0.rr
    have HV0_1 := Lib.hid ho1.rr
    have HU0k_0 := Lib.hid hk0
    have HU0k_1 := Lib.hid hk1
    clear ho0 hk0 ho1 hk1
    have sz10 := hb.size
    clear hb
    clear i0 i1
    have HS0 := Lib.hid (Bx.new w10 36 #[.slice qHU0_0 n0_0 dHU0_0, .slice qHU0_1 n0_1 dHU0_1])
    have lHS0 := HS0.out.lt
    replace HB := Lib.hid (HB.out.alloc HB.out.size (.cells #[.slice qHU0_0 n0_0 dHU0_0, .slice qHU0_1 n0_1 dHU0_1] 36))
    replace HX0 := Lib.hid (HX0.out.alloc (.cells #[.slice qHU0_0 n0_0 dHU0_0, .slice qHU0_1 n0_1 dHU0_1] 36))
    replace HX1 := Lib.hid (HX1.out.alloc (.cells #[.slice qHU0_0 n0_0 dHU0_0, .slice qHU0_1 n0_1 dHU0_1] 36))
    replace HWb := Lib.hid (HWb.out.alloc (.cells #[.slice qHU0_0 n0_0 dHU0_0, .slice qHU0_1 n0_1 dHU0_1] 36))
    replace HW0 := Lib.hid (HW0.out.alloc (.cells #[.slice qHU0_0 n0_0 dHU0_0, .slice qHU0_1 n0_1 dHU0_1] 36))
    replace HW1 := Lib.hid (HW1.out.alloc (.cells #[.slice qHU0_0 n0_0 dHU0_0, .slice qHU0_1 n0_1 dHU0_1] 36))
    replace HU0_0 := Lib.hid (HU0_0.out.alloc (.cells #[.slice qHU0_0 n0_0 dHU0_0, .slice qHU0_1 n0_1 dHU0_1] 36))
    replace HU0_1 := Lib.hid (HU0_1.out.alloc (.cells #[.slice qHU0_0 n0_0 dHU0_0, .slice qHU0_1 n0_1 dHU0_1] 36))
    replace HV0_0 := Lib.hid (HV0_0.out.alloc (.cells #[.slice qHU0_0 n0_0 dHU0_0, .slice qHU0_1 n0_1 dHU0_1] 36))
    replace HV0_1 := Lib.hid (HV0_1.out.alloc (.cells #[.slice qHU0_0 n0_0 dHU0_0, .slice qHU0_1 n0_1 dHU0_1] 36))
    obtain ⟨i0, i1, i2, i3, i4⟩ := DpRenewal.bxc HX1.out
    go_wp2_with fail
    refine (DfRenewal.toF_any _ _ _ _ _ _ _ _ _ _ _ _ (HP1_3.out.below HB.out) (HP1_4.out.below HB.out) (by rw [HM1.out]; omega)).mono ?_
    rintro e w11 ⟨qHU1_0, dHU1_0, qHU1_1, dHU1_1, rfl, ho0, ho1, hk0, hk1, hb⟩
    replace HB := Lib.hid (below_on HB.out hb)
    replace HX0 := Lib.hid (HX0.out.below hb)
    replace HX1 := Lib.hid (HX1.out.below hb)
    replace HWb := Lib.hid (HWb.out.below hb)
    replace HW0 := Lib.hid (HW0.out.below hb)
    replace HW1 := Lib.hid (HW1.out.below hb)
    replace HU0_0 := Lib.hid (HU0_0.out.below hb)
    replace HU0_1 := Lib.hid (HU0_1.out.below hb)
    replace HV0_0 := Lib.hid (HV0_0.out.below hb)
    replace HV0_1 := Lib.hid (HV0_1.out.below hb)
    replace HS0 := Lib.hid (HS0.out.below hb)
    have HU1_0 := Lib.hid ho0.rd
    have HU1_1 := Lib.hid ho1.rd
    have HV1_0 := Lib.hid ho0.rr
    have HV1_1 := Lib.hid ho1.rr
    have HU1k_0 := Lib.hid hk0
    have HU1k_1 := Lib.hid hk1
    clear ho0 hk0 ho1 hk1
    have sz11 := hb.size
    rw [World.size_alloc] at sz11
    clear hb
    clear i0 i1 i2 i3 i4
    rw [World.size_alloc] at HV1_0
    rw [World.size_alloc] at HV1_1
    have HS1 := Lib.hid (Bx.new w11 110 #[.int .i64 x1_0, .int .i64 x1_1, .int .i64 x1_2, .slice qHU1_0 n1_3 dHU1_0, .slice qHU1_1 n1_4 dHU1_1])
    have lHS1 := HS1.out.lt
    replace HB := Lib.hid (HB.out.alloc HB.out.size (.cells #[.int .i64 x1_0, .int .i64 x1_1, .int .i64 x1_2, .slice qHU1_0 n1_3 dHU1_0, .slice qHU1_1 n1_4 dHU1_1] 110))
    replace HX0 := Lib.hid (HX0.out.alloc (.cells #[.int .i64 x1_0, .int .i64 x1_1, .int .i64 x1_2, .slice qHU1_0 n1_3 dHU1_0, .slice qHU1_1 n1_4 dHU1_1] 110))
    replace HX1 := Lib.hid (HX1.out.alloc (.cells #[.int .i64 x1_0, .int .i64 x1_1, .int .i64 x1_2, .slice qHU1_0 n1_3 dHU1_0, .slice qHU1_1 n1_4 dHU1_1] 110))
    replace HWb := Lib.hid (HWb.out.alloc (.cells #[.int .i64 x1_0, .int .i64 x1_1, .int .i64 x1_2, .slice qHU1_0 n1_3 dHU1_0, .slice qHU1_1 n1_4 dHU1_1] 110))
    replace HW0 := Lib.hid (HW0.out.alloc (.cells #[.int .i64 x1_0, .int .i64 x1_1, .int .i64 x1_2, .slice qHU1_0 n1_3 dHU1_0, .slice qHU1_1 n1_4 dHU1_1] 110))
    replace HW1 := Lib.hid (HW1.out.alloc (.cells #[.int .i64 x1_0, .int .i64 x1_1, .int .i64 x1_2, .slice qHU1_0 n1_3 dHU1_0, .slice qHU1_1 n1_4 dHU1_1] 110))
    replace HU0_0 := Lib.hid (HU0_0.out.alloc (.cells #[.int .i64 x1_0, .int .i64 x1_1, .int .i64 x1_2, .slice qHU1_0 n1_3 dHU1_0, .slice qHU1_1 n1_4 dHU1_1] 110))
    replace HU0_1 := Lib.hid (HU0_1.out.alloc (.cells #[.int .i64 x1_0, .int .i64 x1_1, .int .i64 x1_2, .slice qHU1_0 n1_3 dHU1_0, .slice qHU1_1 n1_4 dHU1_1] 110))
    replace HV0_0 := Lib.hid (HV0_0.out.alloc (.cells #[.int .i64 x1_0, .int .i64 x1_1, .int .i64 x1_2, .slice qHU1_0 n1_3 dHU1_0, .slice qHU1_1 n1_4 dHU1_1] 110))
    replace HV0_1 := Lib.hid (HV0_1.out.alloc (.cells #[.int .i64 x1_0, .int .i64 x1_1, .int .i64 x1_2, .slice qHU1_0 n1_3 dHU1_0, .slice qHU1_1 n1_4 dHU1_1] 110))
    replace HS0 := Lib.hid (HS0.out.alloc (.cells #[.int .i64 x1_0, .int .i64 x1_1, .int .i64 x1_2, .slice qHU1_0 n1_3 dHU1_0, .slice qHU1_1 n1_4 dHU1_1] 110))
    replace HU1_0 := Lib.hid (HU1_0.out.alloc (.cells #[.int .i64 x1_0, .int .i64 x1_1, .int .i64 x1_2, .slice qHU1_0 n1_3 dHU1_0, .slice qHU1_1 n1_4 dHU1_1] 110))
    replace HU1_1 := Lib.hid (HU1_1.out.alloc (.cells #[.int .i64 x1_0, .int .i64 x1_1, .int .i64 x1_2, .slice qHU1_0 n1_3 dHU1_0, .slice qHU1_1 n1_4 dHU1_1] 110))
    replace HV1_0 := Lib.hid (HV1_0.out.alloc (.cells #[.int .i64 x1_0, .int .i64 x1_1, .int .i64 x1_2, .slice qHU1_0 n1_3 dHU1_0, .slice qHU1_1 n1_4 dHU1_1] 110))
    replace HV1_1 := Lib.hid (HV1_1.out.alloc (.cells #[.int .i64 x1_0, .int .i64 x1_1, .int .i64 x1_2, .slice qHU1_0 n1_3 dHU1_0, .slice qHU1_1 n1_4 dHU1_1] 110))
    obtain ⟨k0_0, k0_1⟩ := DpStrand.bxc HS0.out
    obtain ⟨k1_0, k1_1, k1_2, k1_3, k1_4⟩ := DpRenewal.bxc HS1.out
    go_wp2_with fail
    refine (Adp.addRenewal_any l0_0 _ _ _ l0_1 _ _ _ x1_0 x1_1 x1_2 l1_3 _ _ _ l1_4 _ _ _ bM rr0 rr1 _ HU0_0.out HU0_1.out HG1_0.out HG1_1.out HG1_2.out HU1_0.out HU1_1.out HU0k_0.out HU0k_1.out HU1k_0.out HU1k_1.out (by have h1 := HM0.out; have h2 := HM1.out; omega) HMd.out).mono ?_
    rintro e w12 ⟨pG0, nG0, cG0, pG1, nG1, cG1, mid1G, rfl, ho0, ho1, _, _, hmdG0, hmdG1, hb⟩
    replace HB := Lib.hid (below_on HB.out hb)
    replace HX0 := Lib.hid (HX0.out.below hb)
    replace HX1 := Lib.hid (HX1.out.below hb)
    replace HWb := Lib.hid (HWb.out.below hb)
    replace HW0 := Lib.hid (HW0.out.below hb)
    replace HW1 := Lib.hid (HW1.out.below hb)
    replace HU0_0 := Lib.hid (HU0_0.out.below hb)
    replace HU0_1 := Lib.hid (HU0_1.out.below hb)
    replace HV0_0 := Lib.hid (HV0_0.out.below hb)
    replace HV0_1 := Lib.hid (HV0_1.out.below hb)
    replace HS0 := Lib.hid (HS0.out.below hb)
    replace HU1_0 := Lib.hid (HU1_0.out.below hb)
    replace HU1_1 := Lib.hid (HU1_1.out.below hb)
    replace HV1_0 := Lib.hid (HV1_0.out.below hb)
    replace HV1_1 := Lib.hid (HV1_1.out.below hb)
    replace HS1 := Lib.hid (HS1.out.below hb)
    have HG0 := Lib.hid ho0
    have HG1 := Lib.hid ho1
    clear ho0 ho1
    have sz12 := hb.size
    rw [World.size_alloc] at sz12
    clear hb
    clear k0_0 k0_1
    clear k1_0 k1_1 k1_2 k1_3 k1_4
    rw [World.size_alloc] at HG0 hmdG0
    obtain rfl : nW0 = nG0 := HW0.out.len.symm.trans HG0.out.len
    obtain rfl : nW1 = nG1 := HW1.out.len.symm.trans HG1.out.len
    have HGb := Lib.hid (Bx.new w12 36 #[.slice pG0 nW0 cG0, .slice pG1 nW1 cG1])
    have lHGb := HGb.out.lt
    replace HB := Lib.hid (HB.out.alloc HB.out.size (.cells #[.slice pG0 nW0 cG0, .slice pG1 nW1 cG1] 36))
    replace HX0 := Lib.hid (HX0.out.alloc (.cells #[.slice pG0 nW0 cG0, .slice pG1 nW1 cG1] 36))
    replace HX1 := Lib.hid (HX1.out.alloc (.cells #[.slice pG0 nW0 cG0, .slice pG1 nW1 cG1] 36))
    replace HWb := Lib.hid (HWb.out.alloc (.cells #[.slice pG0 nW0 cG0, .slice pG1 nW1 cG1] 36))
    replace HW0 := Lib.hid (HW0.out.alloc (.cells #[.slice pG0 nW0 cG0, .slice pG1 nW1 cG1] 36))
    replace HW1 := Lib.hid (HW1.out.alloc (.cells #[.slice pG0 nW0 cG0, .slice pG1 nW1 cG1] 36))
    replace HU0_0 := Lib.hid (HU0_0.out.alloc (.cells #[.slice pG0 nW0 cG0, .slice pG1 nW1 cG1] 36))
    replace HU0_1 := Lib.hid (HU0_1.out.alloc (.cells #[.slice pG0 nW0 cG0, .slice pG1 nW1 cG1] 36))
    replace HV0_0 := Lib.hid (HV0_0.out.alloc (.cells #[.slice pG0 nW0 cG0, .slice pG1 nW1 cG1] 36))
    replace HV0_1 := Lib.hid (HV0_1.out.alloc (.cells #[.slice pG0 nW0 cG0, .slice pG1 nW1 cG1] 36))
    replace HS0 := Lib.hid (HS0.out.alloc (.cells #[.slice pG0 nW0 cG0, .slice pG1 nW1 cG1] 36))
    replace HU1_0 := Lib.hid (HU1_0.out.alloc (.cells #[.slice pG0 nW0 cG0, .slice pG1 nW1 cG1] 36))
    replace HU1_1 := Lib.hid (HU1_1.out.alloc (.cells #[.slice pG0 nW0 cG0, .slice pG1 nW1 cG1] 36))
    replace HV1_0 := Lib.hid (HV1_0.out.alloc (.cells #[.slice pG0 nW0 cG0, .slice pG1 nW1 cG1] 36))
    replace HV1_1 := Lib.hid (HV1_1.out.alloc (.cells #[.slice pG0 nW0 cG0, .slice pG1 nW1 cG1] 36))
    replace HS1 := Lib.hid (HS1.out.alloc (.cells #[.slice pG0 nW0 cG0, .slice pG1 nW1 cG1] 36))
    replace HG0 := Lib.hid (HG0.out.alloc (.cells #[.slice pG0 nW0 cG0, .slice pG1 nW1 cG1] 36))
    replace HG1 := Lib.hid (HG1.out.alloc (.cells #[.slice pG0 nW0 cG0, .slice pG1 nW1 cG1] 36))
    have lGb := HGb.out.lt
    rw [World.size_alloc] at lGb
    obtain ⟨g0_, g1_⟩ := DpStrand.bxc HGb.out
    obtain ⟨o0_, o1_⟩ := DpStrand.bxc HWb.out
    go_wp2_with fail
    refine (DpStrand.eq_any _ _ _ _ _ _ _ _ _ _ _ _ _ HG0.out.rd HW0.out HG1.out.rd HW1.out).mono ?_
    rintro e w13 ⟨rfl, hb⟩
    replace HB := Lib.hid (below_on HB.out hb)
    replace HX0 := Lib.hid (HX0.out.below hb)
    replace HX1 := Lib.hid (HX1.out.below hb)
    replace HWb := Lib.hid (HWb.out.below hb)
    replace HW0 := Lib.hid (HW0.out.below hb)
    replace HW1 := Lib.hid (HW1.out.below hb)
    replace HU0_0 := Lib.hid (HU0_0.out.below hb)
    replace HU0_1 := Lib.hid (HU0_1.out.below hb)
    replace HV0_0 := Lib.hid (HV0_0.out.below hb)
    replace HV0_1 := Lib.hid (HV0_1.out.below hb)
    replace HS0 := Lib.hid (HS0.out.below hb)
    replace HU1_0 := Lib.hid (HU1_0.out.below hb)
    replace HU1_1 := Lib.hid (HU1_1.out.below hb)
    replace HV1_0 := Lib.hid (HV1_0.out.below hb)
    replace HV1_1 := Lib.hid (HV1_1.out.below hb)
    replace HS1 := Lib.hid (HS1.out.below hb)
    replace HG0 := Lib.hid (HG0.out.below hb)
    replace HG1 := Lib.hid (HG1.out.below hb)
    replace HGb := Lib.hid (HGb.out.below hb)
    have sz13 := hb.size
    rw [World.size_alloc] at sz13
    clear hb
    clear g0_ o0_ g1_ o1_
    obtain ⟨j0_0, j0_1⟩ := DpStrand.bxc HS0.out
    obtain ⟨j1_0, j1_1⟩ := DpStrand.bxc HX0.out
    go_wp2_with fail
    replace HB := Lib.hid (drewB HB.out)
    replace HX0 := Lib.hid (HX0.out.below (drewB (Below.refl _ _)))
    replace HX1 := Lib.hid (HX1.out.below (drewB (Below.refl _ _)))
    replace HWb := Lib.hid (HWb.out.below (drewB (Below.refl _ _)))
    replace HW0 := Lib.hid (HW0.out.below (drewB (Below.refl _ _)))
    replace HW1 := Lib.hid (HW1.out.below (drewB (Below.refl _ _)))
    replace HU0_0 := Lib.hid (HU0_0.out.below (drewB (Below.refl _ _)))
    replace HU0_1 := Lib.hid (HU0_1.out.below (drewB (Below.refl _ _)))
    replace HV0_0 := Lib.hid (HV0_0.out.below (drewB (Below.refl _ _)))
    replace HV0_1 := Lib.hid (HV0_1.out.below (drewB (Below.refl _ _)))
    replace HS0 := Lib.hid (HS0.out.below (drewB (Below.refl _ _)))
    replace HU1_0 := Lib.hid (HU1_0.out.below (drewB (Below.refl _ _)))
    replace HU1_1 := Lib.hid (HU1_1.out.below (drewB (Below.refl _ _)))
    replace HV1_0 := Lib.hid (HV1_0.out.below (drewB (Below.refl _ _)))
    replace HV1_1 := Lib.hid (HV1_1.out.below (drewB (Below.refl _ _)))
    replace HS1 := Lib.hid (HS1.out.below (drewB (Below.refl _ _)))
    replace HG0 := Lib.hid (HG0.out.below (drewB (Below.refl _ _)))
    replace HG1 := Lib.hid (HG1.out.below (drewB (Below.refl _ _)))
    replace HGb := Lib.hid (HGb.out.below (drewB (Below.refl _ _)))
    go_region_held3 (fun w' => (w'.cell? ⟨w10.heap.size, 0, none⟩ = some (.slice qHU0_0 n0_0 dHU0_0) ∧ w'.cell? ⟨w10.heap.size, 1, none⟩ = some (.slice qHU0_1 n0_1 dHU0_1)) ∧ w'.cell? ⟨W.heap.size, 0, none⟩ = some (.slice p0_0 n0_0 c0_0) ∧ w'.cell? ⟨W.heap.size, 1, none⟩ = some (.slice p0_1 n0_1 c0_1)) (first | exact ⟨DpStrand.bxc HS0.out, DpStrand.bxc HX0.out⟩ | go_keep) (first | (go_at_call 13; (with_reducible refine (DpStrand.toK_any _ _ _ _ _ _ _ _ _ (HP0_0.out.below HB.out) (HP0_1.out.below HB.out) (by rw [HM0.out]; omega)).mono ?_); rintro e w14 ⟨qHY0_0, dHY0_0, qHY0_1, dHY0_1, rfl, ho0, ho1, hk0, hk1, hb⟩; replace HB := Lib.hid (below_on HB.out hb); replace HX0 := Lib.hid (HX0.out.below hb); replace HX1 := Lib.hid (HX1.out.below hb); replace HWb := Lib.hid (HWb.out.below hb); replace HW0 := Lib.hid (HW0.out.below hb); replace HW1 := Lib.hid (HW1.out.below hb); replace HU0_0 := Lib.hid (HU0_0.out.below hb); replace HU0_1 := Lib.hid (HU0_1.out.below hb); replace HV0_0 := Lib.hid (HV0_0.out.below hb); replace HV0_1 := Lib.hid (HV0_1.out.below hb); replace HS0 := Lib.hid (HS0.out.below hb); replace HU1_0 := Lib.hid (HU1_0.out.below hb); replace HU1_1 := Lib.hid (HU1_1.out.below hb); replace HV1_0 := Lib.hid (HV1_0.out.below hb); replace HV1_1 := Lib.hid (HV1_1.out.below hb); replace HS1 := Lib.hid (HS1.out.below hb); replace HG0 := Lib.hid (HG0.out.below hb); replace HG1 := Lib.hid (HG1.out.below hb); replace HGb := Lib.hid (HGb.out.below hb); have HY0_0 := Lib.hid ho0; have HY0_1 := Lib.hid ho1; have HY0k_0 := Lib.hid hk0; have HY0k_1 := Lib.hid hk1; clear ho0 ho1; clear hk0 hk1; clear hb) | (go_at_call 17; (with_reducible refine (DpStrand.eq_any _ _ _ _ _ _ _ _ _ _ _ _ _ HU0_0.out HY0_0.out HU0_1.out HY0_1.out).mono ?_); rintro e w15 ⟨rfl, hb⟩; replace HB := Lib.hid (below_on HB.out hb); replace HX0 := Lib.hid (HX0.out.below hb); replace HX1 := Lib.hid (HX1.out.below hb); replace HWb := Lib.hid (HWb.out.below hb); replace HW0 := Lib.hid (HW0.out.below hb); replace HW1 := Lib.hid (HW1.out.below hb); replace HU0_0 := Lib.hid (HU0_0.out.below hb); replace HU0_1 := Lib.hid (HU0_1.out.below hb); replace HV0_0 := Lib.hid (HV0_0.out.below hb); replace HV0_1 := Lib.hid (HV0_1.out.below hb); replace HS0 := Lib.hid (HS0.out.below hb); replace HU1_0 := Lib.hid (HU1_0.out.below hb); replace HU1_1 := Lib.hid (HU1_1.out.below hb); replace HV1_0 := Lib.hid (HV1_0.out.below hb); replace HV1_1 := Lib.hid (HV1_1.out.below hb); replace HS1 := Lib.hid (HS1.out.below hb); replace HG0 := Lib.hid (HG0.out.below hb); replace HG1 := Lib.hid (HG1.out.below hb); replace HGb := Lib.hid (HGb.out.below hb); replace HY0_0 := Lib.hid (HY0_0.out.below hb); replace HY0_1 := Lib.hid (HY0_1.out.below hb); clear hb))
    clear j0_0 j0_1
    clear j1_0 j1_1
    clear HY0_0
    clear HY0_1
    obtain ⟨j0_0, j0_1, j0_2, j0_3, j0_4⟩ := DpRenewal.bxc HS1.out
    obtain ⟨j1_0, j1_1, j1_2, j1_3, j1_4⟩ := DpRenewal.bxc HX1.out
    go_wp2_with fail
    replace HB := Lib.hid (drewB HB.out)
    replace HX0 := Lib.hid (HX0.out.below (drewB (Below.refl _ _)))
    replace HX1 := Lib.hid (HX1.out.below (drewB (Below.refl _ _)))
    replace HWb := Lib.hid (HWb.out.below (drewB (Below.refl _ _)))
    replace HW0 := Lib.hid (HW0.out.below (drewB (Below.refl _ _)))
    replace HW1 := Lib.hid (HW1.out.below (drewB (Below.refl _ _)))
    replace HU0_0 := Lib.hid (HU0_0.out.below (drewB (Below.refl _ _)))
    replace HU0_1 := Lib.hid (HU0_1.out.below (drewB (Below.refl _ _)))
    replace HV0_0 := Lib.hid (HV0_0.out.below (drewB (Below.refl _ _)))
    replace HV0_1 := Lib.hid (HV0_1.out.below (drewB (Below.refl _ _)))
    replace HS0 := Lib.hid (HS0.out.below (drewB (Below.refl _ _)))
    replace HU1_0 := Lib.hid (HU1_0.out.below (drewB (Below.refl _ _)))
    replace HU1_1 := Lib.hid (HU1_1.out.below (drewB (Below.refl _ _)))
    replace HV1_0 := Lib.hid (HV1_0.out.below (drewB (Below.refl _ _)))
    replace HV1_1 := Lib.hid (HV1_1.out.below (drewB (Below.refl _ _)))
    replace HS1 := Lib.hid (HS1.out.below (drewB (Below.refl _ _)))
    replace HG0 := Lib.hid (HG0.out.below (drewB (Below.refl _ _)))
    replace HG1 := Lib.hid (HG1.out.below (drewB (Below.refl _ _)))
    replace HGb := Lib.hid (HGb.out.below (drewB (Below.refl _ _)))
    go_region_held3 (fun w' => (w'.cell? ⟨w11.heap.size, 0, none⟩ = some (.int .i64 x1_0) ∧ w'.cell? ⟨w11.heap.size, 1, none⟩ = some (.int .i64 x1_1) ∧ w'.cell? ⟨w11.heap.size, 2, none⟩ = some (.int .i64 x1_2) ∧ w'.cell? ⟨w11.heap.size, 3, none⟩ = some (.slice qHU1_0 n1_3 dHU1_0) ∧ w'.cell? ⟨w11.heap.size, 4, none⟩ = some (.slice qHU1_1 n1_4 dHU1_1)) ∧ w'.cell? ⟨W.heap.size + 1, 0, none⟩ = some (.int .i64 x1_0) ∧ w'.cell? ⟨W.heap.size + 1, 1, none⟩ = some (.int .i64 x1_1) ∧ w'.cell? ⟨W.heap.size + 1, 2, none⟩ = some (.int .i64 x1_2) ∧ w'.cell? ⟨W.heap.size + 1, 3, none⟩ = some (.slice p1_3 n1_3 c1_3) ∧ w'.cell? ⟨W.heap.size + 1, 4, none⟩ = some (.slice p1_4 n1_4 c1_4)) (first | exact ⟨DpRenewal.bxc HS1.out, DpRenewal.bxc HX1.out⟩ | go_keep) (first | (go_at_call 59; (with_reducible refine (DpRenewal.toK_any _ _ _ _ _ _ _ _ _ _ _ _ (HP1_3.out.below HB.out) (HP1_4.out.below HB.out) (by rw [HM1.out]; omega)).mono ?_); rintro e w16 ⟨qHY1_0, dHY1_0, qHY1_1, dHY1_1, rfl, ho0, ho1, hk0, hk1, hb⟩; replace HB := Lib.hid (below_on HB.out hb); replace HX0 := Lib.hid (HX0.out.below hb); replace HX1 := Lib.hid (HX1.out.below hb); replace HWb := Lib.hid (HWb.out.below hb); replace HW0 := Lib.hid (HW0.out.below hb); replace HW1 := Lib.hid (HW1.out.below hb); replace HU0_0 := Lib.hid (HU0_0.out.below hb); replace HU0_1 := Lib.hid (HU0_1.out.below hb); replace HV0_0 := Lib.hid (HV0_0.out.below hb); replace HV0_1 := Lib.hid (HV0_1.out.below hb); replace HS0 := Lib.hid (HS0.out.below hb); replace HU1_0 := Lib.hid (HU1_0.out.below hb); replace HU1_1 := Lib.hid (HU1_1.out.below hb); replace HV1_0 := Lib.hid (HV1_0.out.below hb); replace HV1_1 := Lib.hid (HV1_1.out.below hb); replace HS1 := Lib.hid (HS1.out.below hb); replace HG0 := Lib.hid (HG0.out.below hb); replace HG1 := Lib.hid (HG1.out.below hb); replace HGb := Lib.hid (HGb.out.below hb); have HY1_0 := Lib.hid ho0; have HY1_1 := Lib.hid ho1; have HY1k_0 := Lib.hid hk0; have HY1k_1 := Lib.hid hk1; clear ho0 ho1; clear hk0 hk1; clear hb) | (go_at_call 61; (with_reducible refine (DpRenewal.eq_any _ _ _ _ _ _ _ _ _ _ _ _ _ _ _ _ HU1_0.out HY1_0.out HU1_1.out HY1_1.out).mono ?_); rintro e w17 ⟨rfl, hb⟩; replace HB := Lib.hid (below_on HB.out hb); replace HX0 := Lib.hid (HX0.out.below hb); replace HX1 := Lib.hid (HX1.out.below hb); replace HWb := Lib.hid (HWb.out.below hb); replace HW0 := Lib.hid (HW0.out.below hb); replace HW1 := Lib.hid (HW1.out.below hb); replace HU0_0 := Lib.hid (HU0_0.out.below hb); replace HU0_1 := Lib.hid (HU0_1.out.below hb); replace HV0_0 := Lib.hid (HV0_0.out.below hb); replace HV0_1 := Lib.hid (HV0_1.out.below hb); replace HS0 := Lib.hid (HS0.out.below hb); replace HU1_0 := Lib.hid (HU1_0.out.below hb); replace HU1_1 := Lib.hid (HU1_1.out.below hb); replace HV1_0 := Lib.hid (HV1_0.out.below hb); replace HV1_1 := Lib.hid (HV1_1.out.below hb); replace HS1 := Lib.hid (HS1.out.below hb); replace HG0 := Lib.hid (HG0.out.below hb); replace HG1 := Lib.hid (HG1.out.below hb); replace HGb := Lib.hid (HGb.out.below hb); replace HY1_0 := Lib.hid (HY1_0.out.below hb); replace HY1_1 := Lib.hid (HY1_1.out.below hb); clear hb))
    clear j0_0 j0_1 j0_2 j0_3 j0_4
    clear j1_0 j1_1 j1_2 j1_3 j1_4
    clear HY1_0
    clear HY1_1
    clear HU0_0
    clear HU0_1
    clear HU1_0
    clear HU1_1
    have HNW0 : Hid ((l0_0.map MdPiece.M.nw).sum + (l0_1.map MdRenewal.M.nw).sum ≤ 16777216) := Lib.hid (by have h0_0 := Ek.nw_wts MdPiece.M (by show 3 ≤ 16; omega) l0_0; have h0_1 := Ek.nw_wts MdRenewal.M (by show 5 ≤ 16; omega) l0_1; have h := HM0.out; simp only [DpStrand.wt_eq] at h; omega)
    have lG17 := HGb.out.lt
    obtain ⟨k0_0, k0_1⟩ := DpStrand.bxc HS0.out
    go_wp2_with fail
    refine (MdStrand.mark_any (wz.heap.size) (w10.heap.size) _ _ _ _ _ _ _ _ 1 _ (by omega) HV0_0.out HV0_1.out (by omega) (by have h := HNW0.out; omega)).mono ?_
    rintro e w18 ⟨kk0, rfl, hk0, hkb, hm⟩
    have HKC0 : Hid (kk0 ≤ 1 + 16777216 * 1) := Lib.hid (by have h := HNW0.out; omega)
    replace HB := Lib.hid (hm.on HB.out (by omega) (by omega))
    clear k0_0 k0_1
    replace HX0 := Lib.hid (hm.bx HX0.out (Or.inr (by omega)))
    replace HX1 := Lib.hid (hm.bx HX1.out (Or.inr (by omega)))
    replace HWb := Lib.hid (hm.bx HWb.out (Or.inr (by omega)))
    replace HW0 := Lib.hid (rdB hm HW0.out (by omega))
    replace HW1 := Lib.hid (rdB hm HW1.out (by omega))
    replace HS0 := Lib.hid (hm.bx HS0.out (Or.inl (by omega)))
    replace HV1_0 := Lib.hid (HV1_0.out.away hm (Or.inl (by omega)))
    replace HV1_1 := Lib.hid (HV1_1.out.away hm (Or.inl (by omega)))
    replace HS1 := Lib.hid (hm.bx HS1.out (Or.inl (by omega)))
    replace HG0 := Lib.hid (HG0.out.away hm (Or.inl (by omega)))
    replace HG1 := Lib.hid (HG1.out.away hm (Or.inl (by omega)))
    replace HGb := Lib.hid (hm.bx HGb.out (Or.inl (by omega)))
    have sz18 := hm.size
    clear hm hkb
    clear HV0_0
    clear HV0_1
    have HNW1 : Hid ((l1_3.map MdStep.M.nw).sum + (l1_4.map MdStamp.M.nw).sum ≤ 16777216) := Lib.hid (by have h1_3 := Ek.nw_wts MdStep.M (by show 2 ≤ 16; omega) l1_3; have h1_4 := Ek.nw_wts MdStamp.M (by show 5 ≤ 16; omega) l1_4; have h := HM1.out; simp only [DpRenewal.wt_eq] at h; omega)
    have lG18 := HGb.out.lt
    obtain ⟨k1_0, k1_1, k1_2, k1_3, k1_4⟩ := DpRenewal.bxc HS1.out
    go_wp2_with fail
    refine (MdRenewal.mark_any (w10.heap.size + 1) (w11.heap.size) _ _ _ _ _ _ _ _ _ _ _ kk0 _ (by omega) HV1_0.out HV1_1.out (by omega) (by have h := HNW1.out; have hq := HKC0.out; omega)).mono ?_
    rintro e w19 ⟨kk1, rfl, hk1, hkb, hm⟩
    have HKC1 : Hid (kk1 ≤ 1 + 16777216 * 2) := Lib.hid (by have h := HNW1.out; have hq := HKC0.out; omega)
    replace HB := Lib.hid (hm.on HB.out (by omega) (by omega))
    clear k1_0 k1_1 k1_2 k1_3 k1_4
    replace HX0 := Lib.hid (hm.bx HX0.out (Or.inr (by omega)))
    replace HX1 := Lib.hid (hm.bx HX1.out (Or.inr (by omega)))
    replace HWb := Lib.hid (hm.bx HWb.out (Or.inr (by omega)))
    replace HW0 := Lib.hid (rdB hm HW0.out (by omega))
    replace HW1 := Lib.hid (rdB hm HW1.out (by omega))
    replace HS0 := Lib.hid (hm.bx HS0.out (Or.inr (by omega)))
    replace HS1 := Lib.hid (hm.bx HS1.out (Or.inl (by omega)))
    replace HG0 := Lib.hid (HG0.out.away hm (Or.inl (by omega)))
    replace HG1 := Lib.hid (HG1.out.away hm (Or.inl (by omega)))
    replace HGb := Lib.hid (hm.bx HGb.out (Or.inl (by omega)))
    have sz19 := hm.size
    clear hm hkb
    clear HV1_0
    clear HV1_1
    have hkd : decide (kk1 < 0) = false := decide_eq_false (by omega)
    obtain ⟨g0_, g1_⟩ := DpStrand.bxc HGb.out
    obtain ⟨o0_, o1_⟩ := DpStrand.bxc HWb.out
    go_wp2_with fail
    refine (DpStrand.eq_any _ _ _ _ _ _ _ _ _ _ _ _ _ HG0.out.rd HW0.out HG1.out.rd HW1.out).mono ?_
    rintro e w20 ⟨rfl, hb⟩
    replace HB := Lib.hid (below_on HB.out hb)
    replace HX0 := Lib.hid (HX0.out.below hb)
    replace HX1 := Lib.hid (HX1.out.below hb)
    replace HWb := Lib.hid (HWb.out.below hb)
    replace HW0 := Lib.hid (HW0.out.below hb)
    replace HW1 := Lib.hid (HW1.out.below hb)
    replace HS0 := Lib.hid (HS0.out.below hb)
    replace HS1 := Lib.hid (HS1.out.below hb)
    replace HG0 := Lib.hid (HG0.out.below hb)
    replace HG1 := Lib.hid (HG1.out.below hb)
    replace HGb := Lib.hid (HGb.out.below hb)
    have sz20 := hb.size
    clear hb
    clear g0_ o0_ g1_ o1_
    clear HS0
    clear HS1
    have lG20 := HGb.out.lt
    obtain ⟨fs0, rf0, nd0⟩ := HG0.out.2
    obtain ⟨m0_, hm0_⟩ : ∃ m, (lvs pG0 LdPiece.L.C fs0).length = m := ⟨_, rfl⟩
    have cn0 := lvs_cnt LdPiece.lk HG0.out.rr rf0
    have nw0 := Ek.nw_wts MdPiece.M (by show 3 ≤ 16; omega) rr0
    have HF0 := Lib.hid (RRd.wide (lo' := w11.heap.size + 1) (hi' := w12.heap.size) rf0 (by omega) (by omega))
    have HM0_ := Lib.hid hm0_
    have in0 := Inn.of LdPiece.lk.pl rf0
    obtain ⟨fs1, rf1, nd1⟩ := HG1.out.2
    obtain ⟨m1_, hm1_⟩ : ∃ m, (lvs pG1 LdRenewal.L.C fs1).length = m := ⟨_, rfl⟩
    have cn1 := lvs_cnt LdRenewal.lk HG1.out.rr rf1
    have nw1 := Ek.nw_wts MdRenewal.M (by show 5 ≤ 16; omega) rr1
    have HF1 := Lib.hid (RRd.wide (lo' := w11.heap.size + 1) (hi' := w12.heap.size) rf1 (by omega) (by omega))
    have HM1_ := Lib.hid hm1_
    have in1 := Inn.of LdRenewal.lk.pl rf1
    have HTT : Hid (m0_ + m1_ ≤ 16777232) := Lib.hid (by have h := HWR.out; rw [DpStrand.wt_eq] at h; rw [hm0_] at cn0; rw [hm1_] at cn1; omega)
    have HND := Lib.hid (show (ads ((lvs pG0 LdPiece.L.C fs0) ++ (lvs pG1 LdRenewal.L.C fs1))).Nodup from (nd_two nd0 nd1 in0 in1 (Or.inl (by omega))))
    have HIN : Hid (Inn (w11.heap.size + 1) (w12.heap.size) ((lvs pG0 LdPiece.L.C fs0) ++ (lvs pG1 LdRenewal.L.C fs1))) := Lib.hid ((((Inn.wide in0 (Nat.le_refl _) (by omega)).append (Inn.wide in1 (by omega) (Nat.le_refl _)))).wide (by omega) (by omega))
    clear rf0 nd0 hm0_ cn0 nw0 in0 rf1 nd1 hm1_ cn1 nw1 in1
    clear HG0
    clear HG1
    obtain ⟨g0_, g1_⟩ := DpStrand.bxc HGb.out
    go_wp2_with fail
    refine (LdStrand.mark_any (w11.heap.size + 1) (w12.heap.size) _ _ _ _ _ _ _ _ _ _ 1 _ (by omega) HF0.out HM0_.out HF1.out HM1_.out (by omega) (by have h := HTT.out; omega) HND.out).mono ?_
    rintro e w21 ⟨rfl, hm⟩
    replace HB := Lib.hid (hm.mm.on HB.out (by omega) (by omega))
    replace HX0 := Lib.hid (hm.mm.bx HX0.out (Or.inr (by omega)))
    replace HX1 := Lib.hid (hm.mm.bx HX1.out (Or.inr (by omega)))
    replace HWb := Lib.hid (hm.mm.bx HWb.out (Or.inr (by omega)))
    replace HW0 := Lib.hid (rdB hm.mm HW0.out (by omega))
    replace HW1 := Lib.hid (rdB hm.mm HW1.out (by omega))
    replace HGb := Lib.hid (hm.mm.bx HGb.out (Or.inl (by omega)))
    replace HF0 := Lib.hid (RRd.pk LdPiece.lk.pk HF0.out hm.mm)
    replace HF1 := Lib.hid (RRd.pk LdRenewal.lk.pk HF1.out hm.mm)
    have HHd := Lib.hid hm.hd
    have sz21 := hm.mm.size
    clear hm HND g0_ g1_
    obtain ⟨g0_, g1_⟩ := DpStrand.bxc HGb.out
    go_wp2_with fail
    refine (LdStrand.held_any _ _ _ _ _ _ _ _ _ _ 1 _ HF0.out.rd HM0_.out HF1.out.rd HM1_.out (by omega) (by have h := HTT.out; omega) HHd.out).mono ?_
    rintro e w22 ⟨rfl, hb⟩
    replace HB := Lib.hid (below_on HB.out hb)
    replace HX0 := Lib.hid (HX0.out.below hb)
    replace HX1 := Lib.hid (HX1.out.below hb)
    replace HWb := Lib.hid (HWb.out.below hb)
    replace HW0 := Lib.hid (HW0.out.below hb)
    replace HW1 := Lib.hid (HW1.out.below hb)
    replace HGb := Lib.hid (HGb.out.below hb)
    replace HF0 := Lib.hid (HF0.out.below hb)
    replace HF1 := Lib.hid (HF1.out.below hb)
    replace HHd := Lib.hid (HHd.out.below hb)
    have sz22 := hb.size
    clear hb
    clear g0_ g1_
    obtain ⟨j0_0, j0_1⟩ := DpStrand.bxc HX0.out
    obtain ⟨j1_0, j1_1, j1_2, j1_3, j1_4⟩ := DpRenewal.bxc HX1.out
    go_wp2_with fail
    clear j0_0 j0_1
    clear j1_0 j1_1 j1_2 j1_3 j1_4
    have HZ : Hid True := Lib.hid trivial
    have HBu := HB
    have HX0u := HX0
    have HX1u := HX1
    have HWbu := HWb
    have HW0u := HW0
    have HW1u := HW1
    have HGbu := HGb
    have HF0u := HF0
    have HF1u := HF1
    have HHdu := HHd
    replace HB := Lib.hid (drewB HB.out)
    replace HX0 := Lib.hid (HX0.out.below (drewB (Below.refl _ _)))
    replace HX1 := Lib.hid (HX1.out.below (drewB (Below.refl _ _)))
    replace HWb := Lib.hid (HWb.out.below (drewB (Below.refl _ _)))
    replace HW0 := Lib.hid (HW0.out.below (drewB (Below.refl _ _)))
    replace HW1 := Lib.hid (HW1.out.below (drewB (Below.refl _ _)))
    replace HGb := Lib.hid (HGb.out.below (drewB (Below.refl _ _)))
    replace HF0 := Lib.hid (HF0.out.below (drewB (Below.refl _ _)))
    replace HF1 := Lib.hid (HF1.out.below (drewB (Below.refl _ _)))
    replace HHd := Lib.hid (HHd.out.below (drewB (Below.refl _ _)))
    go_region_held3 (fun w' => (w'.cell? ⟨W.heap.size, 0, none⟩ = some (.slice p0_0 n0_0 c0_0) ∧ w'.cell? ⟨W.heap.size, 1, none⟩ = some (.slice p0_1 n0_1 c0_1)) ∧ w'.cell? ⟨W.heap.size + 1, 0, none⟩ = some (.int .i64 x1_0) ∧ w'.cell? ⟨W.heap.size + 1, 1, none⟩ = some (.int .i64 x1_1) ∧ w'.cell? ⟨W.heap.size + 1, 2, none⟩ = some (.int .i64 x1_2) ∧ w'.cell? ⟨W.heap.size + 1, 3, none⟩ = some (.slice p1_3 n1_3 c1_3) ∧ w'.cell? ⟨W.heap.size + 1, 4, none⟩ = some (.slice p1_4 n1_4 c1_4)) (first | with_reducible exact ⟨DpStrand.bxc HX0.out, DpRenewal.bxc HX1.out⟩ | with_reducible exact ⟨DpStrand.bxc (HX0.out.alloc _), DpRenewal.bxc (HX1.out.alloc _)⟩ | with_reducible exact ⟨DpStrand.bxc (HX0u.out.alloc _).drew1, DpRenewal.bxc (HX1u.out.alloc _).drew1⟩ | with_reducible exact ⟨DpStrand.bxc (farN HX0.out HN0.out _ _), DpRenewal.bxc (farN HX1.out HN1.out _ _)⟩ | fail) (first | (go_at_call 13; (with_reducible refine (DpStrand.toK_any _ _ _ _ _ _ _ _ _ (HP0_0.out.below HB.out) (HP0_1.out.below HB.out) (by rw [HM0.out]; omega)).mono ?_); rintro e w23 ⟨qHZ0_0, dHZ0_0, qHZ0_1, dHZ0_1, rfl, ho0, ho1, hk0, hk1, hb⟩; replace HZ := Lib.hid (HZ.out.below hb); replace HB := Lib.hid (below_on HB.out hb); replace HX0 := Lib.hid (HX0.out.below hb); replace HX1 := Lib.hid (HX1.out.below hb); replace HWb := Lib.hid (HWb.out.below hb); replace HW0 := Lib.hid (HW0.out.below hb); replace HW1 := Lib.hid (HW1.out.below hb); replace HGb := Lib.hid (HGb.out.below hb); replace HF0 := Lib.hid (HF0.out.below hb); replace HF1 := Lib.hid (HF1.out.below hb); replace HHd := Lib.hid (HHd.out.below hb); have HZ0_0 := Lib.hid ho0; have HZ0_1 := Lib.hid ho1; have HZ0k_0 := Lib.hid hk0; have HZ0k_1 := Lib.hid hk1; clear ho0 ho1; clear hk0 hk1; clear hb) | (go_at_call 13; (with_reducible refine (DpStrand.toK_any _ _ _ _ _ _ _ _ _ (HP0_0.out.below HB.out) (HP0_1.out.below HB.out) (by rw [HM0.out]; omega)).mono ?_); rintro e w23 ⟨qHZ0_0, dHZ0_0, qHZ0_1, dHZ0_1, rfl, ho0, ho1, hk0, hk1, hb⟩; replace HB := Lib.hid (below_on HB.out hb); replace HX0 := Lib.hid (HX0.out.below hb); replace HX1 := Lib.hid (HX1.out.below hb); replace HWb := Lib.hid (HWb.out.below hb); replace HW0 := Lib.hid (HW0.out.below hb); replace HW1 := Lib.hid (HW1.out.below hb); replace HGb := Lib.hid (HGb.out.below hb); replace HF0 := Lib.hid (HF0.out.below hb); replace HF1 := Lib.hid (HF1.out.below hb); replace HHd := Lib.hid (HHd.out.below hb); have HZ0_0 := Lib.hid ho0; have HZ0_1 := Lib.hid ho1; have HZ0k_0 := Lib.hid hk0; have HZ0k_1 := Lib.hid hk1; clear ho0 ho1; clear hk0 hk1; clear hb) | (go_at_call 13; have HN0 : Hid (W.heap.size < w22.heap.size) := Lib.hid HX0u.out.lt; have HN1 : Hid (W.heap.size + 1 < w22.heap.size) := Lib.hid HX1u.out.lt; have HN_HWb := Lib.hid HWbu.out.lt; have HN_HGb := Lib.hid HGbu.out.lt; have HZ := Lib.hid (Bx.new w22 36 #[.slice none 0 0, .slice none 0 0]).drew1; replace HB := Lib.hid (drewB (HBu.out.alloc HBu.out.size (.cells #[.slice none 0 0, .slice none 0 0] 36))); replace HX0 := Lib.hid ((HX0u.out.alloc (.cells #[.slice none 0 0, .slice none 0 0] 36)).below (drewB (Below.refl _ _))); replace HX1 := Lib.hid ((HX1u.out.alloc (.cells #[.slice none 0 0, .slice none 0 0] 36)).below (drewB (Below.refl _ _))); replace HWb := Lib.hid ((HWbu.out.alloc (.cells #[.slice none 0 0, .slice none 0 0] 36)).below (drewB (Below.refl _ _))); replace HW0 := Lib.hid ((HW0u.out.alloc (.cells #[.slice none 0 0, .slice none 0 0] 36)).below (drewB (Below.refl _ _))); replace HW1 := Lib.hid ((HW1u.out.alloc (.cells #[.slice none 0 0, .slice none 0 0] 36)).below (drewB (Below.refl _ _))); replace HGb := Lib.hid ((HGbu.out.alloc (.cells #[.slice none 0 0, .slice none 0 0] 36)).below (drewB (Below.refl _ _))); replace HF0 := Lib.hid ((HF0u.out.alloc (.cells #[.slice none 0 0, .slice none 0 0] 36)).below (drewB (Below.refl _ _))); replace HF1 := Lib.hid ((HF1u.out.alloc (.cells #[.slice none 0 0, .slice none 0 0] 36)).below (drewB (Below.refl _ _))); replace HHd := Lib.hid ((HHdu.out.below (Dz.box1 _ (.cells #[.slice none 0 0, .slice none 0 0] 36))).below (drewB (Below.refl _ _))); (with_reducible refine (DpStrand.toK_any _ _ _ _ _ _ _ _ _ (HP0_0.out.below HB.out) (HP0_1.out.below HB.out) (by rw [HM0.out]; omega)).mono ?_); rintro e w23 ⟨qHZ0_0, dHZ0_0, qHZ0_1, dHZ0_1, rfl, ho0, ho1, hk0, hk1, hb⟩; replace HZ := Lib.hid (HZ.out.below hb); replace HB := Lib.hid (below_on HB.out hb); replace HX0 := Lib.hid (HX0.out.below hb); replace HX1 := Lib.hid (HX1.out.below hb); replace HWb := Lib.hid (HWb.out.below hb); replace HW0 := Lib.hid (HW0.out.below hb); replace HW1 := Lib.hid (HW1.out.below hb); replace HGb := Lib.hid (HGb.out.below hb); replace HF0 := Lib.hid (HF0.out.below hb); replace HF1 := Lib.hid (HF1.out.below hb); replace HHd := Lib.hid (HHd.out.below hb); have HZ0_0 := Lib.hid ho0; have HZ0_1 := Lib.hid ho1; have HZ0k_0 := Lib.hid hk0; have HZ0k_1 := Lib.hid hk1; clear ho0 ho1; clear hk0 hk1; clear hb) | (go_at_call 59; (with_reducible refine (DpRenewal.toK_any _ _ _ _ _ _ _ _ _ _ _ _ (HP1_3.out.below HB.out) (HP1_4.out.below HB.out) (by rw [HM1.out]; omega)).mono ?_); rintro e w24 ⟨qHZ1_0, dHZ1_0, qHZ1_1, dHZ1_1, rfl, ho0, ho1, hk0, hk1, hb⟩; replace HZ := Lib.hid (HZ.out.below hb); replace HB := Lib.hid (below_on HB.out hb); replace HX0 := Lib.hid (HX0.out.below hb); replace HX1 := Lib.hid (HX1.out.below hb); replace HWb := Lib.hid (HWb.out.below hb); replace HW0 := Lib.hid (HW0.out.below hb); replace HW1 := Lib.hid (HW1.out.below hb); replace HGb := Lib.hid (HGb.out.below hb); replace HF0 := Lib.hid (HF0.out.below hb); replace HF1 := Lib.hid (HF1.out.below hb); replace HHd := Lib.hid (HHd.out.below hb); replace HZ0_0 := Lib.hid (HZ0_0.out.below hb); replace HZ0_1 := Lib.hid (HZ0_1.out.below hb); have HZ1_0 := Lib.hid ho0; have HZ1_1 := Lib.hid ho1; have HZ1k_0 := Lib.hid hk0; have HZ1k_1 := Lib.hid hk1; clear ho0 ho1; clear hk0 hk1; clear hb) | (go_at_call 59; (with_reducible refine (DpRenewal.toK_any _ _ _ _ _ _ _ _ _ _ _ _ (HP1_3.out.below HB.out) (HP1_4.out.below HB.out) (by rw [HM1.out]; omega)).mono ?_); rintro e w24 ⟨qHZ1_0, dHZ1_0, qHZ1_1, dHZ1_1, rfl, ho0, ho1, hk0, hk1, hb⟩; replace HB := Lib.hid (below_on HB.out hb); replace HX0 := Lib.hid (HX0.out.below hb); replace HX1 := Lib.hid (HX1.out.below hb); replace HWb := Lib.hid (HWb.out.below hb); replace HW0 := Lib.hid (HW0.out.below hb); replace HW1 := Lib.hid (HW1.out.below hb); replace HGb := Lib.hid (HGb.out.below hb); replace HF0 := Lib.hid (HF0.out.below hb); replace HF1 := Lib.hid (HF1.out.below hb); replace HHd := Lib.hid (HHd.out.below hb); replace HZ0_0 := Lib.hid (HZ0_0.out.below hb); replace HZ0_1 := Lib.hid (HZ0_1.out.below hb); have HZ1_0 := Lib.hid ho0; have HZ1_1 := Lib.hid ho1; have HZ1k_0 := Lib.hid hk0; have HZ1k_1 := Lib.hid hk1; clear ho0 ho1; clear hk0 hk1; clear hb) | (go_at_call 59; have HN0 : Hid (W.heap.size < w23.heap.size) := Lib.hid HX0.out.lt; have HN1 : Hid (W.heap.size + 1 < w23.heap.size) := Lib.hid HX1.out.lt; have HN_HWb := Lib.hid HWb.out.lt; have HN_HGb := Lib.hid HGb.out.lt; have HZ := Lib.hid (Bx.new w23 36 #[.slice none 0 0, .slice none 0 0]); replace HB := Lib.hid (HB.out.alloc HB.out.size (.cells #[.slice none 0 0, .slice none 0 0] 36)); replace HX0 := Lib.hid (HX0.out.alloc (.cells #[.slice none 0 0, .slice none 0 0] 36)); replace HX1 := Lib.hid (HX1.out.alloc (.cells #[.slice none 0 0, .slice none 0 0] 36)); replace HWb := Lib.hid (HWb.out.alloc (.cells #[.slice none 0 0, .slice none 0 0] 36)); replace HW0 := Lib.hid (HW0.out.alloc (.cells #[.slice none 0 0, .slice none 0 0] 36)); replace HW1 := Lib.hid (HW1.out.alloc (.cells #[.slice none 0 0, .slice none 0 0] 36)); replace HGb := Lib.hid (HGb.out.alloc (.cells #[.slice none 0 0, .slice none 0 0] 36)); replace HF0 := Lib.hid (HF0.out.alloc (.cells #[.slice none 0 0, .slice none 0 0] 36)); replace HF1 := Lib.hid (HF1.out.alloc (.cells #[.slice none 0 0, .slice none 0 0] 36)); replace HHd := Lib.hid (HHd.out.below (Dz.box1 _ (.cells #[.slice none 0 0, .slice none 0 0] 36))); replace HZ0_0 := Lib.hid (HZ0_0.out.alloc (.cells #[.slice none 0 0, .slice none 0 0] 36)); replace HZ0_1 := Lib.hid (HZ0_1.out.alloc (.cells #[.slice none 0 0, .slice none 0 0] 36)); (with_reducible refine (DpRenewal.toK_any _ _ _ _ _ _ _ _ _ _ _ _ (HP1_3.out.below HB.out) (HP1_4.out.below HB.out) (by rw [HM1.out]; omega)).mono ?_); rintro e w24 ⟨qHZ1_0, dHZ1_0, qHZ1_1, dHZ1_1, rfl, ho0, ho1, hk0, hk1, hb⟩; replace HZ := Lib.hid (HZ.out.below hb); replace HB := Lib.hid (below_on HB.out hb); replace HX0 := Lib.hid (HX0.out.below hb); replace HX1 := Lib.hid (HX1.out.below hb); replace HWb := Lib.hid (HWb.out.below hb); replace HW0 := Lib.hid (HW0.out.below hb); replace HW1 := Lib.hid (HW1.out.below hb); replace HGb := Lib.hid (HGb.out.below hb); replace HF0 := Lib.hid (HF0.out.below hb); replace HF1 := Lib.hid (HF1.out.below hb); replace HHd := Lib.hid (HHd.out.below hb); replace HZ0_0 := Lib.hid (HZ0_0.out.below hb); replace HZ0_1 := Lib.hid (HZ0_1.out.below hb); have HZ1_0 := Lib.hid ho0; have HZ1_1 := Lib.hid ho1; have HZ1k_0 := Lib.hid hk0; have HZ1k_1 := Lib.hid hk1; clear ho0 ho1; clear hk0 hk1; clear hb) | (go_at_call 60; (with_reducible refine (Adp.addRenewal_any l0_0 _ _ _ l0_1 _ _ _ x1_0 x1_1 x1_2 l1_3 _ _ _ l1_4 _ _ _ bM rr0 rr1 _ HZ0_0.out HZ0_1.out HG1_0.out HG1_1.out HG1_2.out HZ1_0.out HZ1_1.out HZ0k_0.out HZ0k_1.out HZ1k_0.out HZ1k_1.out (by have h1 := HM0.out; have h2 := HM1.out; omega) HMd.out).mono ?_); rintro e w25 ⟨pH0, nH0, cH0, pH1, nH1, cH1, mid1H, rfl, ho0, ho1, _, _, hmdH0, hmdH1, hb⟩; have HH0 := Lib.hid (awayO HZ.out ho0 (by omega)); have HH1 := Lib.hid (awayO HZ.out ho1 (by omega)); clear ho0 ho1; replace HZ := Lib.hid (HZ.out.below hb); replace HB := Lib.hid (below_on HB.out hb); replace HX0 := Lib.hid (HX0.out.below hb); replace HX1 := Lib.hid (HX1.out.below hb); replace HWb := Lib.hid (HWb.out.below hb); replace HW0 := Lib.hid (HW0.out.below hb); replace HW1 := Lib.hid (HW1.out.below hb); replace HGb := Lib.hid (HGb.out.below hb); replace HF0 := Lib.hid (HF0.out.below hb); replace HF1 := Lib.hid (HF1.out.below hb); replace HHd := Lib.hid (HHd.out.below hb); replace HZ0_0 := Lib.hid (HZ0_0.out.below hb); replace HZ0_1 := Lib.hid (HZ0_1.out.below hb); replace HZ1_0 := Lib.hid (HZ1_0.out.below hb); replace HZ1_1 := Lib.hid (HZ1_1.out.below hb); obtain ⟨q0, q1⟩ := DpStrand.bxc HZ.out; have fz0 := HZ.out.free 0; have fz1 := HZ.out.free 1; clear hb) | (go_at_call 60; (with_reducible refine (Adp.addRenewal_any l0_0 _ _ _ l0_1 _ _ _ x1_0 x1_1 x1_2 l1_3 _ _ _ l1_4 _ _ _ bM rr0 rr1 _ HZ0_0.out HZ0_1.out HG1_0.out HG1_1.out HG1_2.out HZ1_0.out HZ1_1.out HZ0k_0.out HZ0k_1.out HZ1k_0.out HZ1k_1.out (by have h1 := HM0.out; have h2 := HM1.out; omega) HMd.out).mono ?_); rintro e w25 ⟨pH0, nH0, cH0, pH1, nH1, cH1, mid1H, rfl, ho0, ho1, _, _, hmdH0, hmdH1, hb⟩; have HH0 := Lib.hid ho0.rd; have HH1 := Lib.hid ho1.rd; clear ho0 ho1; replace HB := Lib.hid (below_on HB.out hb); replace HX0 := Lib.hid (HX0.out.below hb); replace HX1 := Lib.hid (HX1.out.below hb); replace HWb := Lib.hid (HWb.out.below hb); replace HW0 := Lib.hid (HW0.out.below hb); replace HW1 := Lib.hid (HW1.out.below hb); replace HGb := Lib.hid (HGb.out.below hb); replace HF0 := Lib.hid (HF0.out.below hb); replace HF1 := Lib.hid (HF1.out.below hb); replace HHd := Lib.hid (HHd.out.below hb); replace HZ0_0 := Lib.hid (HZ0_0.out.below hb); replace HZ0_1 := Lib.hid (HZ0_1.out.below hb); replace HZ1_0 := Lib.hid (HZ1_0.out.below hb); replace HZ1_1 := Lib.hid (HZ1_1.out.below hb); clear hb) | (go_at_call 60; have HN0 : Hid (W.heap.size < w24.heap.size) := Lib.hid HX0.out.lt; have HN1 : Hid (W.heap.size + 1 < w24.heap.size) := Lib.hid HX1.out.lt; have HN_HWb := Lib.hid HWb.out.lt; have HN_HGb := Lib.hid HGb.out.lt; have HZ := Lib.hid (Bx.new w24 36 #[.slice none 0 0, .slice none 0 0]); replace HB := Lib.hid (HB.out.alloc HB.out.size (.cells #[.slice none 0 0, .slice none 0 0] 36)); replace HX0 := Lib.hid (HX0.out.alloc (.cells #[.slice none 0 0, .slice none 0 0] 36)); replace HX1 := Lib.hid (HX1.out.alloc (.cells #[.slice none 0 0, .slice none 0 0] 36)); replace HWb := Lib.hid (HWb.out.alloc (.cells #[.slice none 0 0, .slice none 0 0] 36)); replace HW0 := Lib.hid (HW0.out.alloc (.cells #[.slice none 0 0, .slice none 0 0] 36)); replace HW1 := Lib.hid (HW1.out.alloc (.cells #[.slice none 0 0, .slice none 0 0] 36)); replace HGb := Lib.hid (HGb.out.alloc (.cells #[.slice none 0 0, .slice none 0 0] 36)); replace HF0 := Lib.hid (HF0.out.alloc (.cells #[.slice none 0 0, .slice none 0 0] 36)); replace HF1 := Lib.hid (HF1.out.alloc (.cells #[.slice none 0 0, .slice none 0 0] 36)); replace HHd := Lib.hid (HHd.out.below (Dz.box1 _ (.cells #[.slice none 0 0, .slice none 0 0] 36))); replace HZ0_0 := Lib.hid (HZ0_0.out.alloc (.cells #[.slice none 0 0, .slice none 0 0] 36)); replace HZ0_1 := Lib.hid (HZ0_1.out.alloc (.cells #[.slice none 0 0, .slice none 0 0] 36)); replace HZ1_0 := Lib.hid (HZ1_0.out.alloc (.cells #[.slice none 0 0, .slice none 0 0] 36)); replace HZ1_1 := Lib.hid (HZ1_1.out.alloc (.cells #[.slice none 0 0, .slice none 0 0] 36)); (with_reducible refine (Adp.addRenewal_any l0_0 _ _ _ l0_1 _ _ _ x1_0 x1_1 x1_2 l1_3 _ _ _ l1_4 _ _ _ bM rr0 rr1 _ HZ0_0.out HZ0_1.out HG1_0.out HG1_1.out HG1_2.out HZ1_0.out HZ1_1.out HZ0k_0.out HZ0k_1.out HZ1k_0.out HZ1k_1.out (by have h1 := HM0.out; have h2 := HM1.out; omega) HMd.out).mono ?_); rintro e w25 ⟨pH0, nH0, cH0, pH1, nH1, cH1, mid1H, rfl, ho0, ho1, _, _, hmdH0, hmdH1, hb⟩; have HH0 := Lib.hid (awayO HZ.out ho0 (by omega)); have HH1 := Lib.hid (awayO HZ.out ho1 (by omega)); clear ho0 ho1; replace HZ := Lib.hid (HZ.out.below hb); replace HB := Lib.hid (below_on HB.out hb); replace HX0 := Lib.hid (HX0.out.below hb); replace HX1 := Lib.hid (HX1.out.below hb); replace HWb := Lib.hid (HWb.out.below hb); replace HW0 := Lib.hid (HW0.out.below hb); replace HW1 := Lib.hid (HW1.out.below hb); replace HGb := Lib.hid (HGb.out.below hb); replace HF0 := Lib.hid (HF0.out.below hb); replace HF1 := Lib.hid (HF1.out.below hb); replace HHd := Lib.hid (HHd.out.below hb); replace HZ0_0 := Lib.hid (HZ0_0.out.below hb); replace HZ0_1 := Lib.hid (HZ0_1.out.below hb); replace HZ1_0 := Lib.hid (HZ1_0.out.below hb); replace HZ1_1 := Lib.hid (HZ1_1.out.below hb); obtain ⟨q0, q1⟩ := DpStrand.bxc HZ.out; have fz0 := HZ.out.free 0; have fz1 := HZ.out.free 1; clear hb) | fail)
    all_goals
      clear HBu HX0u HX1u HWbu HW0u HW1u HGbu HF0u HF1u HHdu HZ0_0 HZ0_1 HZ1_0 HZ1_1
      first | (have hg0 : W.heap.size ≤ w22.heap.size := (by have h := HN0.out; omega); replace HZ : Hid (Bx ((w25.setCell ⟨w22.heap.size, 0, none⟩ (.slice pH0 nH0 cH0)).setCell ⟨w22.heap.size, 1, none⟩ (.slice pH1 nH1 cH1)) w22.heap.size 36 #[.slice pH0 nH0 cH0, .slice pH1 nH1 cH1]) := Lib.hid (setN HZ.out _ _); replace HB : Hid (Below W.heap.size W ((w25.setCell ⟨w22.heap.size, 0, none⟩ (.slice pH0 nH0 cH0)).setCell ⟨w22.heap.size, 1, none⟩ (.slice pH1 nH1 cH1))) := Lib.hid (belN HB.out hg0 _ _); replace HX0 := Lib.hid (farN HX0.out HN0.out (.slice pH0 nH0 cH0) (.slice pH1 nH1 cH1)); replace HX1 := Lib.hid (farN HX1.out HN1.out (.slice pH0 nH0 cH0) (.slice pH1 nH1 cH1)); replace HH0 := Lib.hid (farD HH0.out (.slice pH0 nH0 cH0) (.slice pH1 nH1 cH1)); replace HH1 := Lib.hid (farD HH1.out (.slice pH0 nH0 cH0) (.slice pH1 nH1 cH1)); replace HWb := Lib.hid (farN HWb.out HN_HWb.out (.slice pH0 nH0 cH0) (.slice pH1 nH1 cH1)); replace HW0 := Lib.hid (farB (g := w22.heap.size) HW0.out (by have h_HWb := HN_HWb.out; have h_HGb := HN_HGb.out; have h := HN0.out; omega) (.slice pH0 nH0 cH0) (.slice pH1 nH1 cH1)); replace HW1 := Lib.hid (farB (g := w22.heap.size) HW1.out (by have h_HWb := HN_HWb.out; have h_HGb := HN_HGb.out; have h := HN0.out; omega) (.slice pH0 nH0 cH0) (.slice pH1 nH1 cH1)); replace HGb := Lib.hid (farN HGb.out HN_HGb.out (.slice pH0 nH0 cH0) (.slice pH1 nH1 cH1)); replace HF0 := Lib.hid (farRR (g := w22.heap.size) HF0.out (by have h_HWb := HN_HWb.out; have h_HGb := HN_HGb.out; omega) (.slice pH0 nH0 cH0) (.slice pH1 nH1 cH1)); replace HF1 := Lib.hid (farRR (g := w22.heap.size) HF1.out (by have h_HWb := HN_HWb.out; have h_HGb := HN_HGb.out; omega) (.slice pH0 nH0 cH0) (.slice pH1 nH1 cH1)); replace HHd := Lib.hid (farHd (g := w22.heap.size) HHd.out HIN.out (by have h_HWb := HN_HWb.out; have h_HGb := HN_HGb.out; omega) (.slice pH0 nH0 cH0) (.slice pH1 nH1 cH1)); replace HH0 := Lib.hid (HH0.out.mono (S' := fun _ => True) (fun _ _ => trivial)); replace HH1 := Lib.hid (HH1.out.mono (S' := fun _ => True) (fun _ _ => trivial)); generalize ((w25.setCell ⟨w22.heap.size, 0, none⟩ (.slice pH0 nH0 cH0)).setCell ⟨w22.heap.size, 1, none⟩ (.slice pH1 nH1 cH1)) = wz at HZ HB HX0 HX1 HWb HW0 HW1 HGb HF0 HF1 HHd HH0 HH1 ⊢; generalize w22.heap.size = gz at HZ ⊢; clear hg0 HN0 HN1 HN_HWb HN_HGb q0 fz0 q1 fz1) | (have hg0 : W.heap.size ≤ w23.heap.size := (by have h := HN0.out; omega); replace HZ : Hid (Bx ((w25.setCell ⟨w23.heap.size, 0, none⟩ (.slice pH0 nH0 cH0)).setCell ⟨w23.heap.size, 1, none⟩ (.slice pH1 nH1 cH1)) w23.heap.size 36 #[.slice pH0 nH0 cH0, .slice pH1 nH1 cH1]) := Lib.hid (setN HZ.out _ _); replace HB : Hid (Below W.heap.size W ((w25.setCell ⟨w23.heap.size, 0, none⟩ (.slice pH0 nH0 cH0)).setCell ⟨w23.heap.size, 1, none⟩ (.slice pH1 nH1 cH1))) := Lib.hid (belN HB.out hg0 _ _); replace HX0 := Lib.hid (farN HX0.out HN0.out (.slice pH0 nH0 cH0) (.slice pH1 nH1 cH1)); replace HX1 := Lib.hid (farN HX1.out HN1.out (.slice pH0 nH0 cH0) (.slice pH1 nH1 cH1)); replace HH0 := Lib.hid (farD HH0.out (.slice pH0 nH0 cH0) (.slice pH1 nH1 cH1)); replace HH1 := Lib.hid (farD HH1.out (.slice pH0 nH0 cH0) (.slice pH1 nH1 cH1)); replace HWb := Lib.hid (farN HWb.out HN_HWb.out (.slice pH0 nH0 cH0) (.slice pH1 nH1 cH1)); replace HW0 := Lib.hid (farB (g := w23.heap.size) HW0.out (by have h_HWb := HN_HWb.out; have h_HGb := HN_HGb.out; have h := HN0.out; omega) (.slice pH0 nH0 cH0) (.slice pH1 nH1 cH1)); replace HW1 := Lib.hid (farB (g := w23.heap.size) HW1.out (by have h_HWb := HN_HWb.out; have h_HGb := HN_HGb.out; have h := HN0.out; omega) (.slice pH0 nH0 cH0) (.slice pH1 nH1 cH1)); replace HGb := Lib.hid (farN HGb.out HN_HGb.out (.slice pH0 nH0 cH0) (.slice pH1 nH1 cH1)); replace HF0 := Lib.hid (farRR (g := w23.heap.size) HF0.out (by have h_HWb := HN_HWb.out; have h_HGb := HN_HGb.out; omega) (.slice pH0 nH0 cH0) (.slice pH1 nH1 cH1)); replace HF1 := Lib.hid (farRR (g := w23.heap.size) HF1.out (by have h_HWb := HN_HWb.out; have h_HGb := HN_HGb.out; omega) (.slice pH0 nH0 cH0) (.slice pH1 nH1 cH1)); replace HHd := Lib.hid (farHd (g := w23.heap.size) HHd.out HIN.out (by have h_HWb := HN_HWb.out; have h_HGb := HN_HGb.out; omega) (.slice pH0 nH0 cH0) (.slice pH1 nH1 cH1)); replace HH0 := Lib.hid (HH0.out.mono (S' := fun _ => True) (fun _ _ => trivial)); replace HH1 := Lib.hid (HH1.out.mono (S' := fun _ => True) (fun _ _ => trivial)); generalize ((w25.setCell ⟨w23.heap.size, 0, none⟩ (.slice pH0 nH0 cH0)).setCell ⟨w23.heap.size, 1, none⟩ (.slice pH1 nH1 cH1)) = wz at HZ HB HX0 HX1 HWb HW0 HW1 HGb HF0 HF1 HHd HH0 HH1 ⊢; generalize w23.heap.size = gz at HZ ⊢; clear hg0 HN0 HN1 HN_HWb HN_HGb q0 fz0 q1 fz1) | (have hg0 : W.heap.size ≤ w24.heap.size := (by have h := HN0.out; omega); replace HZ : Hid (Bx ((w25.setCell ⟨w24.heap.size, 0, none⟩ (.slice pH0 nH0 cH0)).setCell ⟨w24.heap.size, 1, none⟩ (.slice pH1 nH1 cH1)) w24.heap.size 36 #[.slice pH0 nH0 cH0, .slice pH1 nH1 cH1]) := Lib.hid (setN HZ.out _ _); replace HB : Hid (Below W.heap.size W ((w25.setCell ⟨w24.heap.size, 0, none⟩ (.slice pH0 nH0 cH0)).setCell ⟨w24.heap.size, 1, none⟩ (.slice pH1 nH1 cH1))) := Lib.hid (belN HB.out hg0 _ _); replace HX0 := Lib.hid (farN HX0.out HN0.out (.slice pH0 nH0 cH0) (.slice pH1 nH1 cH1)); replace HX1 := Lib.hid (farN HX1.out HN1.out (.slice pH0 nH0 cH0) (.slice pH1 nH1 cH1)); replace HH0 := Lib.hid (farD HH0.out (.slice pH0 nH0 cH0) (.slice pH1 nH1 cH1)); replace HH1 := Lib.hid (farD HH1.out (.slice pH0 nH0 cH0) (.slice pH1 nH1 cH1)); replace HWb := Lib.hid (farN HWb.out HN_HWb.out (.slice pH0 nH0 cH0) (.slice pH1 nH1 cH1)); replace HW0 := Lib.hid (farB (g := w24.heap.size) HW0.out (by have h_HWb := HN_HWb.out; have h_HGb := HN_HGb.out; have h := HN0.out; omega) (.slice pH0 nH0 cH0) (.slice pH1 nH1 cH1)); replace HW1 := Lib.hid (farB (g := w24.heap.size) HW1.out (by have h_HWb := HN_HWb.out; have h_HGb := HN_HGb.out; have h := HN0.out; omega) (.slice pH0 nH0 cH0) (.slice pH1 nH1 cH1)); replace HGb := Lib.hid (farN HGb.out HN_HGb.out (.slice pH0 nH0 cH0) (.slice pH1 nH1 cH1)); replace HF0 := Lib.hid (farRR (g := w24.heap.size) HF0.out (by have h_HWb := HN_HWb.out; have h_HGb := HN_HGb.out; omega) (.slice pH0 nH0 cH0) (.slice pH1 nH1 cH1)); replace HF1 := Lib.hid (farRR (g := w24.heap.size) HF1.out (by have h_HWb := HN_HWb.out; have h_HGb := HN_HGb.out; omega) (.slice pH0 nH0 cH0) (.slice pH1 nH1 cH1)); replace HHd := Lib.hid (farHd (g := w24.heap.size) HHd.out HIN.out (by have h_HWb := HN_HWb.out; have h_HGb := HN_HGb.out; omega) (.slice pH0 nH0 cH0) (.slice pH1 nH1 cH1)); replace HH0 := Lib.hid (HH0.out.mono (S' := fun _ => True) (fun _ _ => trivial)); replace HH1 := Lib.hid (HH1.out.mono (S' := fun _ => True) (fun _ _ => trivial)); generalize ((w25.setCell ⟨w24.heap.size, 0, none⟩ (.slice pH0 nH0 cH0)).setCell ⟨w24.heap.size, 1, none⟩ (.slice pH1 nH1 cH1)) = wz at HZ HB HX0 HX1 HWb HW0 HW1 HGb HF0 HF1 HHd HH0 HH1 ⊢; generalize w24.heap.size = gz at HZ ⊢; clear hg0 HN0 HN1 HN_HWb HN_HGb q0 fz0 q1 fz1) | (have HZ := Lib.hid (Bx.new w25 36 #[.slice pH0 nH0 cH0, .slice pH1 nH1 cH1]); replace HB := Lib.hid (HB.out.alloc HB.out.size (.cells #[.slice pH0 nH0 cH0, .slice pH1 nH1 cH1] 36)); replace HX0 := Lib.hid (HX0.out.alloc (.cells #[.slice pH0 nH0 cH0, .slice pH1 nH1 cH1] 36)); replace HX1 := Lib.hid (HX1.out.alloc (.cells #[.slice pH0 nH0 cH0, .slice pH1 nH1 cH1] 36)); replace HWb := Lib.hid (HWb.out.alloc (.cells #[.slice pH0 nH0 cH0, .slice pH1 nH1 cH1] 36)); replace HW0 := Lib.hid (HW0.out.alloc (.cells #[.slice pH0 nH0 cH0, .slice pH1 nH1 cH1] 36)); replace HW1 := Lib.hid (HW1.out.alloc (.cells #[.slice pH0 nH0 cH0, .slice pH1 nH1 cH1] 36)); replace HGb := Lib.hid (HGb.out.alloc (.cells #[.slice pH0 nH0 cH0, .slice pH1 nH1 cH1] 36)); replace HF0 := Lib.hid (HF0.out.alloc (.cells #[.slice pH0 nH0 cH0, .slice pH1 nH1 cH1] 36)); replace HF1 := Lib.hid (HF1.out.alloc (.cells #[.slice pH0 nH0 cH0, .slice pH1 nH1 cH1] 36)); replace HHd := Lib.hid (HHd.out.below (Dz.box1 _ (.cells #[.slice pH0 nH0 cH0, .slice pH1 nH1 cH1] 36))); replace HH0 := Lib.hid ((HH0.out.alloc (.cells #[.slice pH0 nH0 cH0, .slice pH1 nH1 cH1] 36)).mono (S' := fun _ => True) (fun _ _ => trivial)); replace HH1 := Lib.hid ((HH1.out.alloc (.cells #[.slice pH0 nH0 cH0, .slice pH1 nH1 cH1] 36)).mono (S' := fun _ => True) (fun _ _ => trivial)); generalize w25.alloc (.cells #[.slice pH0 nH0 cH0, .slice pH1 nH1 cH1] 36) = wz at HZ HB HX0 HX1 HWb HW0 HW1 HGb HF0 HF1 HHd HH0 HH1 ⊢; generalize w25.heap.size = gz at HZ ⊢)
      have HHb := HZ
      clear HZ
      obtain rfl : nW0 = nH0 := HW0.out.len.symm.trans HH0.out.len
      obtain rfl : nW1 = nH1 := HW1.out.len.symm.trans HH1.out.len
      obtain ⟨g0_, g1_⟩ := DpStrand.bxc HHb.out
      obtain ⟨o0_, o1_⟩ := DpStrand.bxc HWb.out
      go_wp2_with fail
      refine (DpStrand.eq_any _ _ _ _ _ _ _ _ _ _ _ _ _ HH0.out HW0.out HH1.out HW1.out).mono ?_
      rintro e w26 ⟨rfl, hb⟩
      replace HB := Lib.hid (below_on HB.out hb)
      replace HX0 := Lib.hid (HX0.out.below hb)
      replace HX1 := Lib.hid (HX1.out.below hb)
      replace HWb := Lib.hid (HWb.out.below hb)
      replace HW0 := Lib.hid (HW0.out.below hb)
      replace HW1 := Lib.hid (HW1.out.below hb)
      replace HGb := Lib.hid (HGb.out.below hb)
      replace HF0 := Lib.hid (HF0.out.below hb)
      replace HF1 := Lib.hid (HF1.out.below hb)
      replace HHd := Lib.hid (HHd.out.below hb)
      replace HHb := Lib.hid (HHb.out.below hb)
      replace HH0 := Lib.hid (HH0.out.below hb)
      replace HH1 := Lib.hid (HH1.out.below hb)
      have sz26 := hb.size
      clear hb
      clear g0_ o0_ g1_ o1_
      obtain ⟨g0_, g1_⟩ := DpStrand.bxc HGb.out
      go_wp2_with fail
      refine (LdStrand.held_any _ _ _ _ _ _ _ _ _ _ 1 _ HF0.out.rd HM0_.out HF1.out.rd HM1_.out (by omega) (by have h := HTT.out; omega) HHd.out).mono ?_
      rintro e w27 ⟨rfl, hb⟩
      replace HB := Lib.hid (below_on HB.out hb)
      replace HX0 := Lib.hid (HX0.out.below hb)
      replace HX1 := Lib.hid (HX1.out.below hb)
      replace HWb := Lib.hid (HWb.out.below hb)
      replace HW0 := Lib.hid (HW0.out.below hb)
      replace HW1 := Lib.hid (HW1.out.below hb)
      replace HGb := Lib.hid (HGb.out.below hb)
      replace HF0 := Lib.hid (HF0.out.below hb)
      replace HF1 := Lib.hid (HF1.out.below hb)
      replace HHd := Lib.hid (HHd.out.below hb)
      replace HHb := Lib.hid (HHb.out.below hb)
      replace HH0 := Lib.hid (HH0.out.below hb)
      replace HH1 := Lib.hid (HH1.out.below hb)
      have sz27 := hb.size
      clear hb
      clear g0_ g1_
      go_wp2_with fail
      go_ret
      exact ⟨rfl, HB.out⟩
end Go.Proofs.Ytjaholcmaafenaa.fnExactAddRenewal
