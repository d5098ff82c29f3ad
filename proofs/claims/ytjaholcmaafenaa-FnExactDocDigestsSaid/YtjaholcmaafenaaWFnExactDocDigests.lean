/- The walk of the law FnExactDocDigests. -/
import Derived.Test.YtjaholcmaafenaaEd
import Derived.Test.YtjaholcmaafenaaDz
import Derived.Test.YtjaholcmaafenaaSlI
import Derived.Test.YtjaholcmaafenaaDpStrand
import Derived.Test.YtjaholcmaafenaaDpDocument
import Derived.Test.YtjaholcmaafenaaDds
import Derived.Test.YtjaholcmaafenaaEk
import Derived.Test.YtjaholcmaafenaaDfStrand
import Derived.Test.YtjaholcmaafenaaMdStrand
import Derived.Test.YtjaholcmaafenaaDfDocument
import Derived.Test.YtjaholcmaafenaaMdDocument
import Derived.OpenShut
import Derived.Deep.RegionHeld3
import Derived.Laws.Strings
namespace Go.Proofs.Ytjaholcmaafenaa.fnExactDocDigests
open Go.ChangeShapes Go.WideShapes Go.ChangeAt Go.RowKit Sl St Ed Dds
theorem drewB {W w : World} {B : Nat} (h : Below B W w) : Below B W w.drew := below_drewN h 1
set_option maxRecDepth 100000 in
set_option maxHeartbeats 8000000 in
theorem walk {H : Type} {enc : TypeId × Value → H} (W : World) (base : Nat)
    (v0 : Value) (d0 : DataW H) (p0 : List MemPlace) (h0 : DataW.Trod enc Try.prog W 0 (fun _ => true) true 25 v0 d0 p0) (k0 : Value.okWide Try.prog W .any base 25 v0)
    (v1 : Value) (d1 : DataW H) (p1 : List MemPlace) (h1 : DataW.Trod enc Try.prog W 0 (fun _ => true) true 29 v1 d1 p1) (k1 : Value.okWide Try.prog W .any base 29 v1)
    (_hsz : (DataW.weightsEach Try.prog [25, 29] [d0, d1]).all (· ≤ reachBytes) = true) :
    Calls Try.prog 3 #[v0, v1] W fun e w' => e = .returned (.bool true) ∧ Below W.heap.size W w' := by
  obtain ⟨l0_0, l0_1, p0_0, n0_0, c0_0, p0_1, n0_1, c0_1, rfl, h0_0, h0_1⟩ := DpStrand.open_val h0 k0
  have HP0_0 := Lib.hid h0_0
  have HP0_1 := Lib.hid h0_1
  have hn0_0 := h0_0.le
  have hn0_1 := h0_1.le
  clear h0_0 h0_1
  clear h0 k0
  obtain ⟨x1_0, l1_1, l1_2, p1_1, n1_1, c1_1, p1_2, n1_2, c1_2, rfl, b1_0, h1_1, h1_2⟩ := DpDocument.open_val h1 k1
  have HG1_0 := Lib.hid b1_0
  have HP1_1 := Lib.hid h1_1
  have HP1_2 := Lib.hid h1_2
  have hn1_1 := h1_1.le
  have hn1_2 := h1_2.le
  clear b1_0 h1_1 h1_2
  clear h1 k1
  clear _hsz
  have HB := Lib.hid (Below.refl W.heap.size W)
  have HX0 := Lib.hid (Bx.new W 25 #[.slice p0_0 n0_0 c0_0, .slice p0_1 n0_1 c0_1])
  replace HB := Lib.hid (HB.out.alloc HB.out.size (.cells #[.slice p0_0 n0_0 c0_0, .slice p0_1 n0_1 c0_1] 25))
  have lX0 := HX0.out.lt
  have hbx1 := Bx.new (W.alloc (.cells #[.slice p0_0 n0_0 c0_0, .slice p0_1 n0_1 c0_1] 25)) 29 #[.int .i64 x1_0, .slice p1_1 n1_1 c1_1, .slice p1_2 n1_2 c1_2]
  rw [World.size_alloc] at hbx1
  have HX1 := Lib.hid hbx1
  clear hbx1
  replace HX0 := Lib.hid (HX0.out.alloc (.cells #[.int .i64 x1_0, .slice p1_1 n1_1 c1_1, .slice p1_2 n1_2 c1_2] 29))
  replace HB := Lib.hid (HB.out.alloc HB.out.size (.cells #[.int .i64 x1_0, .slice p1_1 n1_1 c1_1, .slice p1_2 n1_2 c1_2] 29))
  have lX1 := HX1.out.lt
  obtain ⟨m0, hm0⟩ : ∃ m : Nat, DpStrand.E.wt (l0_0, l0_1) = m := ⟨_, rfl⟩
  have HM0 := Lib.hid hm0
  clear hm0
  obtain ⟨m1, hm1⟩ : ∃ m : Nat, DpDocument.E.wt (x1_0, l1_1, l1_2) = m := ⟨_, rfl⟩
  have HM1 := Lib.hid hm1
  clear hm1
  by_cases hbig0 : 1048576 < m0
  · go_enter Try.func3, Try.ntmps3
    obtain ⟨i0, i1⟩ := DpStrand.bxc HX0.out
    go_wp2_with fail
    refine (DpStrand.sz_big _ _ _ _ _ _ _ _ _ _ _ HM0.out (HP0_0.out.below HB.out) (HP0_1.out.below HB.out) (by omega) (by omega) (by omega)).mono ?_
    rintro e w1 ⟨rfl, hb⟩
    replace HB := Lib.hid (below_on HB.out hb)
    replace HX0 := Lib.hid (HX0.out.below hb)
    replace HX1 := Lib.hid (HX1.out.below hb)
    clear hb
    clear i0 i1
    go_wp2_with fail
    go_ret
    exact ⟨rfl, HB.out⟩
  by_cases hbig1 : 1048576 < m0 + m1
  · go_enter Try.func3, Try.ntmps3
    obtain ⟨i0, i1⟩ := DpStrand.bxc HX0.out
    go_wp2_with fail
    refine (DpStrand.sz_fits _ _ _ _ _ _ _ _ _ _ _ HM0.out (HP0_0.out.below HB.out) (HP0_1.out.below HB.out) (by omega) (by omega)).mono ?_
    rintro e w2 ⟨rfl, hb⟩
    replace HB := Lib.hid (below_on HB.out hb)
    replace HX0 := Lib.hid (HX0.out.below hb)
    replace HX1 := Lib.hid (HX1.out.below hb)
    clear hb
    clear i0 i1
    obtain ⟨i0, i1, i2⟩ := DpDocument.bxc HX1.out
    go_wp2_with fail
    refine (DpDocument.sz_big _ _ _ _ _ _ _ _ _ _ _ _ HM1.out (HP1_1.out.below HB.out) (HP1_2.out.below HB.out) (by omega) (by omega) (by omega)).mono ?_
    rintro e w3 ⟨rfl, hb⟩
    replace HB := Lib.hid (below_on HB.out hb)
    replace HX0 := Lib.hid (HX0.out.below hb)
    replace HX1 := Lib.hid (HX1.out.below hb)
    clear hb
    clear i0 i1 i2
    go_wp2_with fail
    go_ret
    exact ⟨rfl, HB.out⟩
  go_enter Try.func3, Try.ntmps3
  obtain ⟨i0, i1⟩ := DpStrand.bxc HX0.out
  go_wp2_with fail
  refine (DpStrand.sz_fits _ _ _ _ _ _ _ _ _ _ _ HM0.out (HP0_0.out.below HB.out) (HP0_1.out.below HB.out) (by omega) (by omega)).mono ?_
  rintro e w4 ⟨rfl, hb⟩
  replace HB := Lib.hid (below_on HB.out hb)
  replace HX0 := Lib.hid (HX0.out.below hb)
  replace HX1 := Lib.hid (HX1.out.below hb)
  clear hb
  clear i0 i1
  obtain ⟨i0, i1, i2⟩ := DpDocument.bxc HX1.out
  go_wp2_with fail
  refine (DpDocument.sz_fits _ _ _ _ _ _ _ _ _ _ _ _ HM1.out (HP1_1.out.below HB.out) (HP1_2.out.below HB.out) (by omega) (by omega)).mono ?_
  rintro e w5 ⟨rfl, hb⟩
  replace HB := Lib.hid (below_on HB.out hb)
  replace HX0 := Lib.hid (HX0.out.below hb)
  replace HX1 := Lib.hid (HX1.out.below hb)
  clear hb
  clear i0 i1 i2
  have sm0 : m0 ≤ 1048576 := by omega
  have sm1 : m1 ≤ 1048576 := by omega
  have smt : m0 + m1 ≤ 1048576 := by omega
  clear hbig0
  clear hbig1
  have sn0_0 : n0_0 ≤ 1048576 := by have h := HM0.out; have k := HP0_0.out.len; simp only [DpStrand.wt_eq] at h; omega
  have sn0_1 : n0_1 ≤ 1048576 := by have h := HM0.out; have k := HP0_1.out.len; simp only [DpStrand.wt_eq] at h; omega
  have sn1_1 : n1_1 ≤ 1048576 := by have h := HM1.out; have k := HP1_1.out.len; simp only [DpDocument.wt_eq] at h; omega
  have sn1_2 : n1_2 ≤ 1048576 := by have h := HM1.out; have k := HP1_2.out.len; simp only [DpDocument.wt_eq] at h; omega
  have sW := HB.out.size
  have lY0 := HX0.out.lt
  have lY1 := HX1.out.lt
  obtain ⟨j0_0, j0_1⟩ := DpStrand.bxc HX0.out
  obtain ⟨j1_0, j1_1, j1_2⟩ := DpDocument.bxc HX1.out
  go_wp2_with fail
  replace HB := Lib.hid (drewB HB.out)
  replace HX0 := Lib.hid (HX0.out.below (drewB (Below.refl _ _)))
  replace HX1 := Lib.hid (HX1.out.below (drewB (Below.refl _ _)))
  go_region_held3 (fun w' => (w'.cell? ⟨W.heap.size, 0, none⟩ = some (.slice p0_0 n0_0 c0_0) ∧ w'.cell? ⟨W.heap.size, 1, none⟩ = some (.slice p0_1 n0_1 c0_1)) ∧ w'.cell? ⟨W.heap.size + 1, 0, none⟩ = some (.int .i64 x1_0) ∧ w'.cell? ⟨W.heap.size + 1, 1, none⟩ = some (.slice p1_1 n1_1 c1_1) ∧ w'.cell? ⟨W.heap.size + 1, 2, none⟩ = some (.slice p1_2 n1_2 c1_2)) (first | exact ⟨DpStrand.bxc HX0.out, DpDocument.bxc HX1.out⟩ | go_keep) (first | (go_at_call 13; (with_reducible refine (DpStrand.to_any _ _ _ _ _ _ _ _ _ (HP0_0.out.below HB.out) (HP0_1.out.below HB.out) (by rw [HM0.out]; omega)).mono ?_); rintro e w6 ⟨qHT0_0, dHT0_0, qHT0_1, dHT0_1, rfl, ho0, ho1, hb⟩; replace HB := Lib.hid (below_on HB.out hb); replace HX0 := Lib.hid (HX0.out.below hb); replace HX1 := Lib.hid (HX1.out.below hb); have HT0_0 := Lib.hid ho0; have HT0_1 := Lib.hid ho1; clear ho0 ho1; clear hb) | (go_at_call 14; (with_reducible refine (DpDocument.to_any _ _ _ _ _ _ _ _ _ _ (HP1_1.out.below HB.out) (HP1_2.out.below HB.out) (by rw [HM1.out]; omega)).mono ?_); rintro e w7 ⟨qHT1_0, dHT1_0, qHT1_1, dHT1_1, rfl, ho0, ho1, hb⟩; replace HB := Lib.hid (below_on HB.out hb); replace HX0 := Lib.hid (HX0.out.below hb); replace HX1 := Lib.hid (HX1.out.below hb); replace HT0_0 := Lib.hid (HT0_0.out.below hb); replace HT0_1 := Lib.hid (HT0_1.out.below hb); have HT1_0 := Lib.hid ho0; have HT1_1 := Lib.hid ho1; clear ho0 ho1; clear hb) | (go_at_call 12; (with_reducible refine (Dds.spec_docs_any _ _ _ _ _ _ _ _ _ _ _ _ _ _ _ _ _ _ HT0_0.out HT0_1.out HT1_0.out HT1_1.out (by omega)).mono ?_); rintro e w8 ⟨qHW, mHW, dHW, rfl, ho, hb⟩; replace HB := Lib.hid (below_on HB.out hb); replace HX0 := Lib.hid (HX0.out.below hb); replace HX1 := Lib.hid (HX1.out.below hb); replace HT0_0 := Lib.hid (HT0_0.out.below hb); replace HT0_1 := Lib.hid (HT0_1.out.below hb); replace HT1_0 := Lib.hid (HT1_0.out.below hb); replace HT1_1 := Lib.hid (HT1_1.out.below hb); have HW := Lib.hid ho; clear ho; have szHW := hb.size; clear hb))
  clear j0_0 j0_1
  clear j1_0 j1_1 j1_2
  clear HT0_0
  clear HT0_1
  clear HT1_0
  clear HT1_1
  have sB := HB.out.size
  have lZ0 := HX0.out.lt
  have lZ1 := HX1.out.lt
  have bm : mHW ≤ 1048576 := by have h1 := HW.out.len; have h2 := digs_len (x1_0, l1_1, l1_2) l0_1; have h3 := HP0_1.out.len; omega
  obtain ⟨i0, i1⟩ := DpStrand.bxc HX0.out
  go_wp2_with fail
  refine (DfStrand.toF_any _ _ _ _ _ _ _ _ _ (HP0_0.out.below HB.out) (HP0_1.out.below HB.out) (by rw [HM0.out]; omega)).mono ?_
  rintro e w9 ⟨qHU0_0, dHU0_0, qHU0_1, dHU0_1, rfl, ho0, ho1, hk0, hk1, hb⟩
  replace HB := Lib.hid (below_on HB.out hb)
  replace HX0 := Lib.hid (HX0.out.below hb)
  replace HX1 := Lib.hid (HX1.out.below hb)
  replace HW := Lib.hid (HW.out.below hb)
  have HU0_0 := Lib.hid ho0.rd
  have HU0_1 := Lib.hid ho1.rd
  have HV0_0 := Lib.hid ho0.rr
  have HV0_1 := Lib.hid ho1.rr
  clear ho0 hk0 ho1 hk1
  have sz9 := hb.size
  clear hb
  clear i0 i1
  have HS0 := Lib.hid (Bx.new w9 36 #[.slice qHU0_0 n0_0 dHU0_0, .slice qHU0_1 n0_1 dHU0_1])
  have lHS0 := HS0.out.lt
  replace HB := Lib.hid (HB.out.alloc HB.out.size (.cells #[.slice qHU0_0 n0_0 dHU0_0, .slice qHU0_1 n0_1 dHU0_1] 36))
  replace HX0 := Lib.hid (HX0.out.alloc (.cells #[.slice qHU0_0 n0_0 dHU0_0, .slice qHU0_1 n0_1 dHU0_1] 36))
  replace HX1 := Lib.hid (HX1.out.alloc (.cells #[.slice qHU0_0 n0_0 dHU0_0, .slice qHU0_1 n0_1 dHU0_1] 36))
  replace HW := Lib.hid (HW.out.alloc (.cells #[.slice qHU0_0 n0_0 dHU0_0, .slice qHU0_1 n0_1 dHU0_1] 36))
  replace HU0_0 := Lib.hid (HU0_0.out.alloc (.cells #[.slice qHU0_0 n0_0 dHU0_0, .slice qHU0_1 n0_1 dHU0_1] 36))
  replace HU0_1 := Lib.hid (HU0_1.out.alloc (.cells #[.slice qHU0_0 n0_0 dHU0_0, .slice qHU0_1 n0_1 dHU0_1] 36))
  replace HV0_0 := Lib.hid (HV0_0.out.alloc (.cells #[.slice qHU0_0 n0_0 dHU0_0, .slice qHU0_1 n0_1 dHU0_1] 36))
  replace HV0_1 := Lib.hid (HV0_1.out.alloc (.cells #[.slice qHU0_0 n0_0 dHU0_0, .slice qHU0_1 n0_1 dHU0_1] 36))
  obtain ⟨i0, i1, i2⟩ := DpDocument.bxc HX1.out
  go_wp2_with fail
  refine (DfDocument.toF_any _ _ _ _ _ _ _ _ _ _ (HP1_1.out.below HB.out) (HP1_2.out.below HB.out) (by rw [HM1.out]; omega)).mono ?_
  rintro e w10 ⟨qHU1_0, dHU1_0, qHU1_1, dHU1_1, rfl, ho0, ho1, hk0, hk1, hb⟩
  replace HB := Lib.hid (below_on HB.out hb)
  replace HX0 := Lib.hid (HX0.out.below hb)
  replace HX1 := Lib.hid (HX1.out.below hb)
  replace HW := Lib.hid (HW.out.below hb)
  replace HU0_0 := Lib.hid (HU0_0.out.below hb)
  replace HU0_1 := Lib.hid (HU0_1.out.below hb)
  replace HV0_0 := Lib.hid (HV0_0.out.below hb)
  replace HV0_1 := Lib.hid (HV0_1.out.below hb)
  replace HS0 := Lib.hid (HS0.out.below hb)
  have HU1_0 := Lib.hid ho0.rd
  have HU1_1 := Lib.hid ho1.rd
  have HV1_0 := Lib.hid ho0.rr
  have HV1_1 := Lib.hid ho1.rr
  clear ho0 hk0 ho1 hk1
  have sz10 := hb.size
  rw [World.size_alloc] at sz10
  clear hb
  clear i0 i1 i2
  rw [World.size_alloc] at HV1_0
  rw [World.size_alloc] at HV1_1
  have HS1 := Lib.hid (Bx.new w10 38 #[.int .i64 x1_0, .slice qHU1_0 n1_1 dHU1_0, .slice qHU1_1 n1_2 dHU1_1])
  have lHS1 := HS1.out.lt
  replace HB := Lib.hid (HB.out.alloc HB.out.size (.cells #[.int .i64 x1_0, .slice qHU1_0 n1_1 dHU1_0, .slice qHU1_1 n1_2 dHU1_1] 38))
  replace HX0 := Lib.hid (HX0.out.alloc (.cells #[.int .i64 x1_0, .slice qHU1_0 n1_1 dHU1_0, .slice qHU1_1 n1_2 dHU1_1] 38))
  replace HX1 := Lib.hid (HX1.out.alloc (.cells #[.int .i64 x1_0, .slice qHU1_0 n1_1 dHU1_0, .slice qHU1_1 n1_2 dHU1_1] 38))
  replace HW := Lib.hid (HW.out.alloc (.cells #[.int .i64 x1_0, .slice qHU1_0 n1_1 dHU1_0, .slice qHU1_1 n1_2 dHU1_1] 38))
  replace HU0_0 := Lib.hid (HU0_0.out.alloc (.cells #[.int .i64 x1_0, .slice qHU1_0 n1_1 dHU1_0, .slice qHU1_1 n1_2 dHU1_1] 38))
  replace HU0_1 := Lib.hid (HU0_1.out.alloc (.cells #[.int .i64 x1_0, .slice qHU1_0 n1_1 dHU1_0, .slice qHU1_1 n1_2 dHU1_1] 38))
  replace HV0_0 := Lib.hid (HV0_0.out.alloc (.cells #[.int .i64 x1_0, .slice qHU1_0 n1_1 dHU1_0, .slice qHU1_1 n1_2 dHU1_1] 38))
  replace HV0_1 := Lib.hid (HV0_1.out.alloc (.cells #[.int .i64 x1_0, .slice qHU1_0 n1_1 dHU1_0, .slice qHU1_1 n1_2 dHU1_1] 38))
  replace HS0 := Lib.hid (HS0.out.alloc (.cells #[.int .i64 x1_0, .slice qHU1_0 n1_1 dHU1_0, .slice qHU1_1 n1_2 dHU1_1] 38))
  replace HU1_0 := Lib.hid (HU1_0.out.alloc (.cells #[.int .i64 x1_0, .slice qHU1_0 n1_1 dHU1_0, .slice qHU1_1 n1_2 dHU1_1] 38))
  replace HU1_1 := Lib.hid (HU1_1.out.alloc (.cells #[.int .i64 x1_0, .slice qHU1_0 n1_1 dHU1_0, .slice qHU1_1 n1_2 dHU1_1] 38))
  replace HV1_0 := Lib.hid (HV1_0.out.alloc (.cells #[.int .i64 x1_0, .slice qHU1_0 n1_1 dHU1_0, .slice qHU1_1 n1_2 dHU1_1] 38))
  replace HV1_1 := Lib.hid (HV1_1.out.alloc (.cells #[.int .i64 x1_0, .slice qHU1_0 n1_1 dHU1_0, .slice qHU1_1 n1_2 dHU1_1] 38))
  obtain ⟨k0_0, k0_1⟩ := DpStrand.bxc HS0.out
  obtain ⟨k1_0, k1_1, k1_2⟩ := DpDocument.bxc HS1.out
  go_wp2_with fail
  refine (Dds.docs_any _ _ _ _ _ _ _ _ _ _ _ _ _ _ _ _ _ _ HU0_0.out HU0_1.out HU1_0.out HU1_1.out (by omega)).mono ?_
  rintro e w11 ⟨qHG, mHG, dHG, rfl, ho, hb⟩
  replace HB := Lib.hid (below_on HB.out hb)
  replace HX0 := Lib.hid (HX0.out.below hb)
  replace HX1 := Lib.hid (HX1.out.below hb)
  replace HW := Lib.hid (HW.out.below hb)
  replace HU0_0 := Lib.hid (HU0_0.out.below hb)
  replace HU0_1 := Lib.hid (HU0_1.out.below hb)
  replace HV0_0 := Lib.hid (HV0_0.out.below hb)
  replace HV0_1 := Lib.hid (HV0_1.out.below hb)
  replace HS0 := Lib.hid (HS0.out.below hb)
  replace HU1_0 := Lib.hid (HU1_0.out.below hb)
  replace HU1_1 := Lib.hid (HU1_1.out.below hb)
  replace HV1_0 := Lib.hid (HV1_0.out.below hb)
  replace HV1_1 := Lib.hid (HV1_1.out.below hb)
  replace HS1 := Lib.hid (HS1.out.below hb)
  have HG := Lib.hid ho
  clear ho
  have sz11 := hb.size
  rw [World.size_alloc] at sz11
  clear hb
  clear k0_0 k0_1
  clear k1_0 k1_1 k1_2
  obtain rfl : mHW = mHG := HW.out.len.symm.trans HG.out.len
  go_wp2_with fail
  refine (SlI.eq_any _ _ _ _ _ _ _ HG.out.rd HW.out.rd).mono ?_
  rintro e w12 ⟨rfl, hb⟩
  replace HB := Lib.hid (below_on HB.out hb)
  replace HX0 := Lib.hid (HX0.out.below hb)
  replace HX1 := Lib.hid (HX1.out.below hb)
  replace HW := Lib.hid (HW.out.below hb)
  replace HU0_0 := Lib.hid (HU0_0.out.below hb)
  replace HU0_1 := Lib.hid (HU0_1.out.below hb)
  replace HV0_0 := Lib.hid (HV0_0.out.below hb)
  replace HV0_1 := Lib.hid (HV0_1.out.below hb)
  replace HS0 := Lib.hid (HS0.out.below hb)
  replace HU1_0 := Lib.hid (HU1_0.out.below hb)
  replace HU1_1 := Lib.hid (HU1_1.out.below hb)
  replace HV1_0 := Lib.hid (HV1_0.out.below hb)
  replace HV1_1 := Lib.hid (HV1_1.out.below hb)
  replace HS1 := Lib.hid (HS1.out.below hb)
  replace HG := Lib.hid (HG.out.below hb)
  have sz12 := hb.size
  clear hb
  obtain ⟨j0_0, j0_1⟩ := DpStrand.bxc HS0.out
  obtain ⟨j1_0, j1_1⟩ := DpStrand.bxc HX0.out
  go_wp2_with fail
  replace HB := Lib.hid (drewB HB.out)
  replace HX0 := Lib.hid (HX0.out.below (drewB (Below.refl _ _)))
  replace HX1 := Lib.hid (HX1.out.below (drewB (Below.refl _ _)))
  replace HW := Lib.hid (HW.out.below (drewB (Below.refl _ _)))
  replace HU0_0 := Lib.hid (HU0_0.out.below (drewB (Below.refl _ _)))
  replace HU0_1 := Lib.hid (HU0_1.out.below (drewB (Below.refl _ _)))
  replace HV0_0 := Lib.hid (HV0_0.out.below (drewB (Below.refl _ _)))
  replace HV0_1 := Lib.hid (HV0_1.out.below (drewB (Below.refl _ _)))
  replace HS0 := Lib.hid (HS0.out.below (drewB (Below.refl _ _)))
  replace HU1_0 := Lib.hid (HU1_0.out.below (drewB (Below.refl _ _)))
  replace HU1_1 := Lib.hid (HU1_1.out.below (drewB (Below.refl _ _)))
  replace HV1_0 := Lib.hid (HV1_0.out.below (drewB (Below.refl _ _)))
  replace HV1_1 := Lib.hid (HV1_1.out.below (drewB (Below.refl _ _)))
  replace HS1 := Lib.hid (HS1.out.below (drewB (Below.refl _ _)))
  replace HG := Lib.hid (HG.out.below (drewB (Below.refl _ _)))
  go_region_held3 (fun w' => (w'.cell? ⟨w9.heap.size, 0, none⟩ = some (.slice qHU0_0 n0_0 dHU0_0) ∧ w'.cell? ⟨w9.heap.size, 1, none⟩ = some (.slice qHU0_1 n0_1 dHU0_1)) ∧ w'.cell? ⟨W.heap.size, 0, none⟩ = some (.slice p0_0 n0_0 c0_0) ∧ w'.cell? ⟨W.heap.size, 1, none⟩ = some (.slice p0_1 n0_1 c0_1)) (first | exact ⟨DpStrand.bxc HS0.out, DpStrand.bxc HX0.out⟩ | go_keep) (first | (go_at_call 13; (with_reducible refine (DpStrand.to_any _ _ _ _ _ _ _ _ _ (HP0_0.out.below HB.out) (HP0_1.out.below HB.out) (by rw [HM0.out]; omega)).mono ?_); rintro e w13 ⟨qHY0_0, dHY0_0, qHY0_1, dHY0_1, rfl, ho0, ho1, hb⟩; replace HB := Lib.hid (below_on HB.out hb); replace HX0 := Lib.hid (HX0.out.below hb); replace HX1 := Lib.hid (HX1.out.below hb); replace HW := Lib.hid (HW.out.below hb); replace HU0_0 := Lib.hid (HU0_0.out.below hb); replace HU0_1 := Lib.hid (HU0_1.out.below hb); replace HV0_0 := Lib.hid (HV0_0.out.below hb); replace HV0_1 := Lib.hid (HV0_1.out.below hb); replace HS0 := Lib.hid (HS0.out.below hb); replace HU1_0 := Lib.hid (HU1_0.out.below hb); replace HU1_1 := Lib.hid (HU1_1.out.below hb); replace HV1_0 := Lib.hid (HV1_0.out.below hb); replace HV1_1 := Lib.hid (HV1_1.out.below hb); replace HS1 := Lib.hid (HS1.out.below hb); replace HG := Lib.hid (HG.out.below hb); have HY0_0 := Lib.hid ho0; have HY0_1 := Lib.hid ho1; clear ho0 ho1; clear hb) | (go_at_call 17; (with_reducible refine (DpStrand.eq_any _ _ _ _ _ _ _ _ _ _ _ _ _ HU0_0.out HY0_0.out HU0_1.out HY0_1.out).mono ?_); rintro e w14 ⟨rfl, hb⟩; replace HB := Lib.hid (below_on HB.out hb); replace HX0 := Lib.hid (HX0.out.below hb); replace HX1 := Lib.hid (HX1.out.below hb); replace HW := Lib.hid (HW.out.below hb); replace HU0_0 := Lib.hid (HU0_0.out.below hb); replace HU0_1 := Lib.hid (HU0_1.out.below hb); replace HV0_0 := Lib.hid (HV0_0.out.below hb); replace HV0_1 := Lib.hid (HV0_1.out.below hb); replace HS0 := Lib.hid (HS0.out.below hb); replace HU1_0 := Lib.hid (HU1_0.out.below hb); replace HU1_1 := Lib.hid (HU1_1.out.below hb); replace HV1_0 := Lib.hid (HV1_0.out.below hb); replace HV1_1 := Lib.hid (HV1_1.out.below hb); replace HS1 := Lib.hid (HS1.out.below hb); replace HG := Lib.hid (HG.out.below hb); replace HY0_0 := Lib.hid (HY0_0.out.below hb); replace HY0_1 := Lib.hid (HY0_1.out.below hb); clear hb))
  clear j0_0 j0_1
  clear j1_0 j1_1
  clear HY0_0
  clear HY0_1
  obtain ⟨j0_0, j0_1, j0_2⟩ := DpDocument.bxc HS1.out
  obtain ⟨j1_0, j1_1, j1_2⟩ := DpDocument.bxc HX1.out
  go_wp2_with fail
  replace HB := Lib.hid (drewB HB.out)
  replace HX0 := Lib.hid (HX0.out.below (drewB (Below.refl _ _)))
  replace HX1 := Lib.hid (HX1.out.below (drewB (Below.refl _ _)))
  replace HW := Lib.hid (HW.out.below (drewB (Below.refl _ _)))
  replace HU0_0 := Lib.hid (HU0_0.out.below (drewB (Below.refl _ _)))
  replace HU0_1 := Lib.hid (HU0_1.out.below (drewB (Below.refl _ _)))
  replace HV0_0 := Lib.hid (HV0_0.out.below (drewB (Below.refl _ _)))
  replace HV0_1 := Lib.hid (HV0_1.out.below (drewB (Below.refl _ _)))
  replace HS0 := Lib.hid (HS0.out.below (drewB (Below.refl _ _)))
  replace HU1_0 := Lib.hid (HU1_0.out.below (drewB (Below.refl _ _)))
  replace HU1_1 := Lib.hid (HU1_1.out.below (drewB (Below.refl _ _)))
  replace HV1_0 := Lib.hid (HV1_0.out.below (drewB (Below.refl _ _)))
  replace HV1_1 := Lib.hid (HV1_1.out.below (drewB (Below.refl _ _)))
  replace HS1 := Lib.hid (HS1.out.below (drewB (Below.refl _ _)))
  replace HG := Lib.hid (HG.out.below (drewB (Below.refl _ _)))
  go_region_held3 (fun w' => (w'.cell? ⟨w10.heap.size, 0, none⟩ = some (.int .i64 x1_0) ∧ w'.cell? ⟨w10.heap.size, 1, none⟩ = some (.slice qHU1_0 n1_1 dHU1_0) ∧ w'.cell? ⟨w10.heap.size, 2, none⟩ = some (.slice qHU1_1 n1_2 dHU1_1)) ∧ w'.cell? ⟨W.heap.size + 1, 0, none⟩ = some (.int .i64 x1_0) ∧ w'.cell? ⟨W.heap.size + 1, 1, none⟩ = some (.slice p1_1 n1_1 c1_1) ∧ w'.cell? ⟨W.heap.size + 1, 2, none⟩ = some (.slice p1_2 n1_2 c1_2)) (first | exact ⟨DpDocument.bxc HS1.out, DpDocument.bxc HX1.out⟩ | go_keep) (first | (go_at_call 14; (with_reducible refine (DpDocument.to_any _ _ _ _ _ _ _ _ _ _ (HP1_1.out.below HB.out) (HP1_2.out.below HB.out) (by rw [HM1.out]; omega)).mono ?_); rintro e w15 ⟨qHY1_0, dHY1_0, qHY1_1, dHY1_1, rfl, ho0, ho1, hb⟩; replace HB := Lib.hid (below_on HB.out hb); replace HX0 := Lib.hid (HX0.out.below hb); replace HX1 := Lib.hid (HX1.out.below hb); replace HW := Lib.hid (HW.out.below hb); replace HU0_0 := Lib.hid (HU0_0.out.below hb); replace HU0_1 := Lib.hid (HU0_1.out.below hb); replace HV0_0 := Lib.hid (HV0_0.out.below hb); replace HV0_1 := Lib.hid (HV0_1.out.below hb); replace HS0 := Lib.hid (HS0.out.below hb); replace HU1_0 := Lib.hid (HU1_0.out.below hb); replace HU1_1 := Lib.hid (HU1_1.out.below hb); replace HV1_0 := Lib.hid (HV1_0.out.below hb); replace HV1_1 := Lib.hid (HV1_1.out.below hb); replace HS1 := Lib.hid (HS1.out.below hb); replace HG := Lib.hid (HG.out.below hb); have HY1_0 := Lib.hid ho0; have HY1_1 := Lib.hid ho1; clear ho0 ho1; clear hb) | (go_at_call 18; (with_reducible refine (DpDocument.eq_any _ _ _ _ _ _ _ _ _ _ _ _ _ _ HU1_0.out HY1_0.out HU1_1.out HY1_1.out).mono ?_); rintro e w16 ⟨rfl, hb⟩; replace HB := Lib.hid (below_on HB.out hb); replace HX0 := Lib.hid (HX0.out.below hb); replace HX1 := Lib.hid (HX1.out.below hb); replace HW := Lib.hid (HW.out.below hb); replace HU0_0 := Lib.hid (HU0_0.out.below hb); replace HU0_1 := Lib.hid (HU0_1.out.below hb); replace HV0_0 := Lib.hid (HV0_0.out.below hb); replace HV0_1 := Lib.hid (HV0_1.out.below hb); replace HS0 := Lib.hid (HS0.out.below hb); replace HU1_0 := Lib.hid (HU1_0.out.below hb); replace HU1_1 := Lib.hid (HU1_1.out.below hb); replace HV1_0 := Lib.hid (HV1_0.out.below hb); replace HV1_1 := Lib.hid (HV1_1.out.below hb); replace HS1 := Lib.hid (HS1.out.below hb); replace HG := Lib.hid (HG.out.below hb); replace HY1_0 := Lib.hid (HY1_0.out.below hb); replace HY1_1 := Lib.hid (HY1_1.out.below hb); clear hb))
  clear j0_0 j0_1 j0_2
  clear j1_0 j1_1 j1_2
  clear HY1_0
  clear HY1_1
  clear HU0_0
  clear HU0_1
  clear HU1_0
  clear HU1_1
  have sG := HG.out.2.2.1
  have HNW0 : Hid ((l0_0.map MdPiece.M.nw).sum + (l0_1.map MdRenewal.M.nw).sum ≤ 16777216) := Lib.hid (by have h0_0 := Ek.nw_wts MdPiece.M (by show 3 ≤ 16; omega) l0_0; have h0_1 := Ek.nw_wts MdRenewal.M (by show 5 ≤ 16; omega) l0_1; have h := HM0.out; simp only [DpStrand.wt_eq] at h; omega)
  obtain ⟨k0_0, k0_1⟩ := DpStrand.bxc HS0.out
  go_wp2_with fail
  refine (MdStrand.mark_any (w8.heap.size) (w9.heap.size) _ _ _ _ _ _ _ _ 1 _ (by omega) HV0_0.out HV0_1.out (by omega) (by have h := HNW0.out; omega)).mono ?_
  rintro e w17 ⟨kk0, rfl, hk0, hkb, hm⟩
  have HKC0 : Hid (kk0 ≤ 1 + 16777216 * 1) := Lib.hid (by have h := HNW0.out; omega)
  replace HB := Lib.hid (hm.on HB.out (by omega) (by omega))
  clear k0_0 k0_1
  replace HX0 := Lib.hid (hm.bx HX0.out (Or.inr (by omega)))
  replace HX1 := Lib.hid (hm.bx HX1.out (Or.inr (by omega)))
  replace HW := Lib.hid (hm.ow HW.out (Or.inr (by omega)))
  replace HS0 := Lib.hid (hm.bx HS0.out (Or.inl (by omega)))
  replace HV1_0 := Lib.hid (HV1_0.out.away hm (Or.inl (by omega)))
  replace HV1_1 := Lib.hid (HV1_1.out.away hm (Or.inl (by omega)))
  replace HS1 := Lib.hid (hm.bx HS1.out (Or.inl (by omega)))
  replace HG := Lib.hid (hm.ow HG.out (Or.inl (by omega)))
  have sz17 := hm.size
  clear hm hkb
  clear HV0_0
  clear HV0_1
  have HNW1 : Hid ((l1_1.map Ek.mStr.nw).sum + (l1_2.map Ek.mInt.nw).sum ≤ 16777216) := Lib.hid (by have h1_1 := Ek.nw_wts Ek.mStr (by show 1 ≤ 16; omega) l1_1; have h1_2 := Ek.nw_wts Ek.mInt (by show 1 ≤ 16; omega) l1_2; have h := HM1.out; simp only [DpDocument.wt_eq] at h; omega)
  obtain ⟨k1_0, k1_1, k1_2⟩ := DpDocument.bxc HS1.out
  go_wp2_with fail
  refine (MdDocument.mark_any (w9.heap.size + 1) (w10.heap.size) _ _ _ _ _ _ _ _ _ kk0 _ (by omega) HV1_0.out HV1_1.out (by omega) (by have h := HNW1.out; have hq := HKC0.out; omega)).mono ?_
  rintro e w18 ⟨kk1, rfl, hk1, hkb, hm⟩
  have HKC1 : Hid (kk1 ≤ 1 + 16777216 * 2) := Lib.hid (by have h := HNW1.out; have hq := HKC0.out; omega)
  replace HB := Lib.hid (hm.on HB.out (by omega) (by omega))
  clear k1_0 k1_1 k1_2
  replace HX0 := Lib.hid (hm.bx HX0.out (Or.inr (by omega)))
  replace HX1 := Lib.hid (hm.bx HX1.out (Or.inr (by omega)))
  replace HW := Lib.hid (hm.ow HW.out (Or.inr (by omega)))
  replace HS0 := Lib.hid (hm.bx HS0.out (Or.inr (by omega)))
  replace HS1 := Lib.hid (hm.bx HS1.out (Or.inl (by omega)))
  replace HG := Lib.hid (hm.ow HG.out (Or.inl (by omega)))
  have sz18 := hm.size
  clear hm hkb
  clear HV1_0
  clear HV1_1
  have hkd : decide (kk1 < 0) = false := decide_eq_false (by omega)
  go_wp2_with fail
  refine (SlI.eq_any _ _ _ _ _ _ _ HG.out.rd HW.out.rd).mono ?_
  rintro e w19 ⟨rfl, hb⟩
  replace HB := Lib.hid (below_on HB.out hb)
  replace HX0 := Lib.hid (HX0.out.below hb)
  replace HX1 := Lib.hid (HX1.out.below hb)
  replace HW := Lib.hid (HW.out.below hb)
  replace HS0 := Lib.hid (HS0.out.below hb)
  replace HS1 := Lib.hid (HS1.out.below hb)
  replace HG := Lib.hid (HG.out.below hb)
  have sz19 := hb.size
  clear hb
  clear HS0
  clear HS1
  go_wp2_with fail
  refine (SlI.mark_any _ _ _ _ _ _ _ _ HG.out (by omega) (by have := HG.out.le; omega)).mono ?_
  rintro e w20 ⟨rfl, ho, hg⟩
  replace HB := Lib.hid (below_row HB.out HG.out hg (by omega))
  replace HX0 := Lib.hid (HX0.out.grown hg (fun e => by have := HG.out.far _ e.symm; have := HX0.out.lt; omega))
  replace HX1 := Lib.hid (HX1.out.grown hg (fun e => by have := HG.out.far _ e.symm; have := HX1.out.lt; omega))
  replace HW := Lib.hid (HW.out.kept hg (fun g e => by have := HG.out.far g e; omega))
  replace HG := Lib.hid ho
  clear ho hg
  go_wp2_with fail
  refine (SlI.held_any _ _ _ _ _ HG.out.rd (by omega) (by omega)).mono ?_
  rintro e w21 ⟨rfl, rfl⟩
  obtain ⟨j0_0, j0_1⟩ := DpStrand.bxc HX0.out
  obtain ⟨j1_0, j1_1, j1_2⟩ := DpDocument.bxc HX1.out
  go_wp2_with fail
  replace HB := Lib.hid (drewB HB.out)
  replace HX0 := Lib.hid (HX0.out.below (drewB (Below.refl _ _)))
  replace HX1 := Lib.hid (HX1.out.below (drewB (Below.refl _ _)))
  replace HW := Lib.hid (HW.out.below (drewB (Below.refl _ _)))
  replace HG := Lib.hid (HG.out.below (drewB (Below.refl _ _)))
  go_region_held3 (fun w' => (w'.cell? ⟨W.heap.size, 0, none⟩ = some (.slice p0_0 n0_0 c0_0) ∧ w'.cell? ⟨W.heap.size, 1, none⟩ = some (.slice p0_1 n0_1 c0_1)) ∧ w'.cell? ⟨W.heap.size + 1, 0, none⟩ = some (.int .i64 x1_0) ∧ w'.cell? ⟨W.heap.size + 1, 1, none⟩ = some (.slice p1_1 n1_1 c1_1) ∧ w'.cell? ⟨W.heap.size + 1, 2, none⟩ = some (.slice p1_2 n1_2 c1_2)) (first | exact ⟨DpStrand.bxc HX0.out, DpDocument.bxc HX1.out⟩ | go_keep) (first | (go_at_call 13; (with_reducible refine (DpStrand.to_any _ _ _ _ _ _ _ _ _ (HP0_0.out.below HB.out) (HP0_1.out.below HB.out) (by rw [HM0.out]; omega)).mono ?_); rintro e w22 ⟨qHZ0_0, dHZ0_0, qHZ0_1, dHZ0_1, rfl, ho0, ho1, hb⟩; replace HB := Lib.hid (below_on HB.out hb); replace HX0 := Lib.hid (HX0.out.below hb); replace HX1 := Lib.hid (HX1.out.below hb); replace HW := Lib.hid (HW.out.below hb); replace HG := Lib.hid (HG.out.below hb); have HZ0_0 := Lib.hid ho0; have HZ0_1 := Lib.hid ho1; clear ho0 ho1; clear hb) | (go_at_call 14; (with_reducible refine (DpDocument.to_any _ _ _ _ _ _ _ _ _ _ (HP1_1.out.below HB.out) (HP1_2.out.below HB.out) (by rw [HM1.out]; omega)).mono ?_); rintro e w23 ⟨qHZ1_0, dHZ1_0, qHZ1_1, dHZ1_1, rfl, ho0, ho1, hb⟩; replace HB := Lib.hid (below_on HB.out hb); replace HX0 := Lib.hid (HX0.out.below hb); replace HX1 := Lib.hid (HX1.out.below hb); replace HW := Lib.hid (HW.out.below hb); replace HG := Lib.hid (HG.out.below hb); replace HZ0_0 := Lib.hid (HZ0_0.out.below hb); replace HZ0_1 := Lib.hid (HZ0_1.out.below hb); have HZ1_0 := Lib.hid ho0; have HZ1_1 := Lib.hid ho1; clear ho0 ho1; clear hb) | (go_at_call 15; (with_reducible refine (Dds.docs_any _ _ _ _ _ _ _ _ _ _ _ _ _ _ _ _ _ _ HZ0_0.out HZ0_1.out HZ1_0.out HZ1_1.out (by omega)).mono ?_); rintro e w24 ⟨qHH, mHH, dHH, rfl, ho, hb⟩; replace HB := Lib.hid (below_on HB.out hb); replace HX0 := Lib.hid (HX0.out.below hb); replace HX1 := Lib.hid (HX1.out.below hb); replace HW := Lib.hid (HW.out.below hb); replace HG := Lib.hid (HG.out.below hb); replace HZ0_0 := Lib.hid (HZ0_0.out.below hb); replace HZ0_1 := Lib.hid (HZ0_1.out.below hb); replace HZ1_0 := Lib.hid (HZ1_0.out.below hb); replace HZ1_1 := Lib.hid (HZ1_1.out.below hb); have HH := Lib.hid ho; clear ho; clear hb))
  clear j0_0 j0_1
  clear j1_0 j1_1 j1_2
  clear HZ0_0
  clear HZ0_1
  clear HZ1_0
  clear HZ1_1
  obtain rfl : mHW = mHH := HW.out.len.symm.trans HH.out.len
  go_wp2_with fail
  refine (SlI.eq_any _ _ _ _ _ _ _ HH.out.rd HW.out.rd).mono ?_
  rintro e w25 ⟨rfl, hb⟩
  replace HB := Lib.hid (below_on HB.out hb)
  replace HX0 := Lib.hid (HX0.out.below hb)
  replace HX1 := Lib.hid (HX1.out.below hb)
  replace HW := Lib.hid (HW.out.below hb)
  replace HG := Lib.hid (HG.out.below hb)
  replace HH := Lib.hid (HH.out.below hb)
  have sz25 := hb.size
  clear hb
  go_wp2_with fail
  refine (SlI.held_any _ _ _ _ _ HG.out.rd (by omega) (by omega)).mono ?_
  rintro e w26 ⟨rfl, rfl⟩
  go_wp2_with fail
  go_ret
  exact ⟨rfl, HB.out⟩
end Go.Proofs.Ytjaholcmaafenaa.fnExactDocDigests
