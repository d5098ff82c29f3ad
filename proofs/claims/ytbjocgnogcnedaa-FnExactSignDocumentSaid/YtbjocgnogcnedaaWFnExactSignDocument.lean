/- The walk of the law FnExactSignDocument. -/
import Derived.Test.YtbjocgnogcnedaaEd
import Derived.Test.YtbjocgnogcnedaaDz
import Derived.Test.YtbjocgnogcnedaaSlI
import Derived.Test.YtbjocgnogcnedaaSlKey
import Derived.Test.YtbjocgnogcnedaaDpDocument
import Derived.Test.YtbjocgnogcnedaaSdc
import Derived.Test.YtbjocgnogcnedaaSlSignature
import Derived.OpenShut
import Derived.Deep.RegionHeld3
import Derived.Laws.Strings
namespace Go.Proofs.Ytbjocgnogcnedaa.fnExactSignDocument
open Go.ChangeShapes Go.WideShapes Go.ChangeAt Go.RowKit Sl St Ed Fnd Kn Kr Ki Km Ko SlSignature Sdc
theorem drewB {W w : World} {B : Nat} (h : Below B W w) : Below B W w.drew := below_drewN h 1
theorem setN {w : World} {g : Nat} {T : TypeId} {c0 c1 c2 c3 c4 c5 c6 c7 c8 : Value} (h : Bx w g T #[c0, c1, c2, c3, c4, c5, c6, c7, c8]) (u0 u1 u2 u3 u4 u5 u6 u7 u8 : Value) : Bx (((((((((w.setCell ⟨g, 0, none⟩ u0).setCell ⟨g, 1, none⟩ u1).setCell ⟨g, 2, none⟩ u2).setCell ⟨g, 3, none⟩ u3).setCell ⟨g, 4, none⟩ u4).setCell ⟨g, 5, none⟩ u5).setCell ⟨g, 6, none⟩ u6).setCell ⟨g, 7, none⟩ u7).setCell ⟨g, 8, none⟩ u8) g T #[u0, u1, u2, u3, u4, u5, u6, u7, u8] := by
  have k := (((((((((h.set_ 0 u0).set_ 1 u1).set_ 2 u2).set_ 3 u3).set_ 4 u4).set_ 5 u5).set_ 6 u6).set_ 7 u7).set_ 8 u8)
  simp only [List.setIfInBounds_toArray, List.set_cons_zero, List.set_cons_succ] at k
  exact k
theorem farN {w : World} {g k : Nat} {T : TypeId} {cs : Array Value} (h : Bx w k T cs) (hn : k < g) (u0 u1 u2 u3 u4 u5 u6 u7 u8 : Value) : Bx (((((((((w.setCell ⟨g, 0, none⟩ u0).setCell ⟨g, 1, none⟩ u1).setCell ⟨g, 2, none⟩ u2).setCell ⟨g, 3, none⟩ u3).setCell ⟨g, 4, none⟩ u4).setCell ⟨g, 5, none⟩ u5).setCell ⟨g, 6, none⟩ u6).setCell ⟨g, 7, none⟩ u7).setCell ⟨g, 8, none⟩ u8) k T cs := (((((((((h.far (q := ⟨g, 0, none⟩) (Nat.ne_of_lt hn) _).far (q := ⟨g, 1, none⟩) (Nat.ne_of_lt hn) _).far (q := ⟨g, 2, none⟩) (Nat.ne_of_lt hn) _).far (q := ⟨g, 3, none⟩) (Nat.ne_of_lt hn) _).far (q := ⟨g, 4, none⟩) (Nat.ne_of_lt hn) _).far (q := ⟨g, 5, none⟩) (Nat.ne_of_lt hn) _).far (q := ⟨g, 6, none⟩) (Nat.ne_of_lt hn) _).far (q := ⟨g, 7, none⟩) (Nat.ne_of_lt hn) _).far (q := ⟨g, 8, none⟩) (Nat.ne_of_lt hn) _)
theorem belN {W w : World} {g : Nat} (h : Below W.heap.size W w) (hg : W.heap.size < g) (u0 u1 u2 u3 u4 u5 u6 u7 u8 : Value) : Below W.heap.size W (((((((((w.setCell ⟨g, 0, none⟩ u0).setCell ⟨g, 1, none⟩ u1).setCell ⟨g, 2, none⟩ u2).setCell ⟨g, 3, none⟩ u3).setCell ⟨g, 4, none⟩ u4).setCell ⟨g, 5, none⟩ u5).setCell ⟨g, 6, none⟩ u6).setCell ⟨g, 7, none⟩ u7).setCell ⟨g, 8, none⟩ u8) := (((((((((h.setCell (p := ⟨g, 0, none⟩) (Nat.le_of_lt hg) _).setCell (p := ⟨g, 1, none⟩) (Nat.le_of_lt hg) _).setCell (p := ⟨g, 2, none⟩) (Nat.le_of_lt hg) _).setCell (p := ⟨g, 3, none⟩) (Nat.le_of_lt hg) _).setCell (p := ⟨g, 4, none⟩) (Nat.le_of_lt hg) _).setCell (p := ⟨g, 5, none⟩) (Nat.le_of_lt hg) _).setCell (p := ⟨g, 6, none⟩) (Nat.le_of_lt hg) _).setCell (p := ⟨g, 7, none⟩) (Nat.le_of_lt hg) _).setCell (p := ⟨g, 8, none⟩) (Nat.le_of_lt hg) _)
set_option maxRecDepth 100000 in
set_option maxHeartbeats 16000000 in
theorem walk {H : Type} {enc : TypeId × Value → H} (W : World) (base : Nat)
    (v0 : Value) (d0 : DataW H) (p0 : List MemPlace) (h0 : DataW.Trod enc Try.prog W 0 (fun _ => true) true 22 v0 d0 p0) (k0 : Value.okWide Try.prog W .any base 22 v0)
    (v1 : Value) (d1 : DataW H) (p1 : List MemPlace) (h1 : DataW.Trod enc Try.prog W 0 (fun _ => true) true 3 v1 d1 p1) (k1 : Value.okWide Try.prog W .any base 3 v1)
    (v2 : Value) (d2 : DataW H) (p2 : List MemPlace) (h2 : DataW.Trod enc Try.prog W 0 (fun _ => true) true 3 v2 d2 p2) (k2 : Value.okWide Try.prog W .any base 3 v2)
    (v3 : Value) (d3 : DataW H) (p3 : List MemPlace) (h3 : DataW.Trod enc Try.prog W 0 (fun _ => true) true 3 v3 d3 p3) (k3 : Value.okWide Try.prog W .any base 3 v3)
    (v4 : Value) (d4 : DataW H) (p4 : List MemPlace) (h4 : DataW.Trod enc Try.prog W 0 (fun _ => true) true 26 v4 d4 p4) (k4 : Value.okWide Try.prog W .any base 26 v4)
    (v5 : Value) (d5 : DataW H) (p5 : List MemPlace) (h5 : DataW.Trod enc Try.prog W 0 (fun _ => true) true 3 v5 d5 p5) (k5 : Value.okWide Try.prog W .any base 3 v5)
    (_hsz : (DataW.weightsEach Try.prog [22, 3, 3, 3, 26, 3] [d0, d1, d2, d3, d4, d5]).all (· ≤ reachBytes) = true) :
    Calls Try.prog 3 #[v0, v1, v2, v3, v4, v5] W fun e w' => e = .returned (.bool true) ∧ Below W.heap.size W w' := by
  obtain ⟨p0, n0, c0, l0, rfl, hr0, hg0⟩ := SlKey.open_argR h0 k0
  have HP0 : Hid (RdD (flat SlKey.E SlKey.InR) (fun _ => True) W p0 n0 l0) := Lib.hid (RdD.ofS hr0 hg0 (fun _ _ _ _ => trivial))
  have hn0 := hr0.le
  clear hr0 hg0
  clear h0 k0
  obtain ⟨x1, rfl, _, _, wf1⟩ := open_int Try.underlying3 k1 h1
  have xb1 := bounds_i64 wf1
  have XB1 := Lib.hid xb1
  have XI1 : Hid (Ed.InI x1) := Lib.hid xb1
  clear wf1 xb1
  clear h1 k1
  obtain ⟨x2, rfl, _, _, wf2⟩ := open_int Try.underlying3 k2 h2
  have xb2 := bounds_i64 wf2
  have XB2 := Lib.hid xb2
  have XI2 : Hid (Ed.InI x2) := Lib.hid xb2
  clear wf2 xb2
  clear h2 k2
  obtain ⟨x3, rfl, _, _, wf3⟩ := open_int Try.underlying3 k3 h3
  have xb3 := bounds_i64 wf3
  have XB3 := Lib.hid xb3
  have XI3 : Hid (Ed.InI x3) := Lib.hid xb3
  clear wf3 xb3
  clear h3 k3
  obtain ⟨x4_0, l4_1, l4_2, p4_1, n4_1, c4_1, p4_2, n4_2, c4_2, rfl, b4_0, h4_1, h4_2⟩ := DpDocument.open_val h4 k4
  have HG4_0 := Lib.hid b4_0
  have HP4_1 := Lib.hid h4_1
  have HP4_2 := Lib.hid h4_2
  have hn4_1 := h4_1.le
  have hn4_2 := h4_2.le
  clear b4_0 h4_1 h4_2
  clear h4 k4
  obtain ⟨x5, rfl, _, _, wf5⟩ := open_int Try.underlying3 k5 h5
  have xb5 := bounds_i64 wf5
  have XB5 := Lib.hid xb5
  have XI5 : Hid (Ed.InI x5) := Lib.hid xb5
  clear wf5 xb5
  clear h5 k5
  clear _hsz
  have HB := Lib.hid (Below.refl W.heap.size W)
  have HX4 := Lib.hid (Bx.new W 26 #[.int .i64 x4_0, .slice p4_1 n4_1 c4_1, .slice p4_2 n4_2 c4_2])
  replace HB := Lib.hid (HB.out.alloc HB.out.size (.cells #[.int .i64 x4_0, .slice p4_1 n4_1 c4_1, .slice p4_2 n4_2 c4_2] 26))
  have lX4 := HX4.out.lt
  obtain ⟨m4, hm4⟩ : ∃ m : Nat, DpDocument.E.wt (x4_0, l4_1, l4_2) = m := ⟨_, rfl⟩
  have HM4 := Lib.hid hm4
  clear hm4
  rcases hM : KSignature.mkd l0 (x1, x2, x3, Dm.docD x3 (x4_0, l4_1, l4_2), x5, 0, 0, 0, 0) with ⟨⟨y0, y1, y2, y3, y4, y5, y6, y7, y8⟩, bM⟩
  have HMd := Lib.hid hM
  clear hM
  by_cases hbig0 : 1048576 < n0
  · go_enter Try.func3, Try.ntmps3
    go_wp2_with fail
    refine (SlKey.sz_big _ _ _ _ _ (by omega) (by omega) (by omega) hn0).mono ?_
    rintro e w1 ⟨rfl, rfl⟩
    go_wp2_with fail
    go_ret
    exact ⟨rfl, HB.out⟩
  by_cases hbig4 : 1048576 < n0 + m4
  · go_enter Try.func3, Try.ntmps3
    go_wp2_with fail
    refine (SlKey.sz_fits _ _ _ _ _ (by omega) (by omega)).mono ?_
    rintro e w2 ⟨rfl, rfl⟩
    obtain ⟨i0, i1, i2⟩ := DpDocument.bxc HX4.out
    go_wp2_with fail
    refine (DpDocument.sz_big _ _ _ _ _ _ _ _ _ _ _ _ HM4.out (HP4_1.out.below HB.out) (HP4_2.out.below HB.out) (by omega) (by omega) (by omega)).mono ?_
    rintro e w3 ⟨rfl, hb⟩
    replace HB := Lib.hid (below_on HB.out hb)
    replace HX4 := Lib.hid (HX4.out.below hb)
    clear hb
    clear i0 i1 i2
    go_wp2_with fail
    go_ret
    exact ⟨rfl, HB.out⟩
  go_enter Try.func3, Try.ntmps3
  go_wp2_with fail
  refine (SlKey.sz_fits _ _ _ _ _ (by omega) (by omega)).mono ?_
  rintro e w4 ⟨rfl, rfl⟩
  obtain ⟨i0, i1, i2⟩ := DpDocument.bxc HX4.out
  go_wp2_with fail
  refine (DpDocument.sz_fits _ _ _ _ _ _ _ _ _ _ _ _ HM4.out (HP4_1.out.below HB.out) (HP4_2.out.below HB.out) (by omega) (by omega)).mono ?_
  rintro e w5 ⟨rfl, hb⟩
  replace HB := Lib.hid (below_on HB.out hb)
  replace HX4 := Lib.hid (HX4.out.below hb)
  clear hb
  clear i0 i1 i2
  have sm0 : n0 ≤ 1048576 := by omega
  have sm4 : m4 ≤ 1048576 := by omega
  have smt : n0 + m4 ≤ 1048576 := by omega
  clear hbig0
  clear hbig4
  have sn4_1 : n4_1 ≤ 1048576 := by have h := HM4.out; have k := HP4_1.out.len; simp only [DpDocument.wt_eq] at h; omega
  have sn4_2 : n4_2 ≤ 1048576 := by have h := HM4.out; have k := HP4_2.out.len; simp only [DpDocument.wt_eq] at h; omega
  obtain ⟨j0_0, j0_1, j0_2⟩ := DpDocument.bxc HX4.out
  go_wp2_with fail
  clear j0_0 j0_1 j0_2
  have HZ : Hid True := Lib.hid trivial
  have HBu := HB
  have HXu := HX4
  replace HB := Lib.hid (drewB HB.out)
  replace HX4 := Lib.hid HX4.out.drew1
  go_region_held3 (fun w' => w'.cell? ⟨W.heap.size, 0, none⟩ = some (.int .i64 x4_0) ∧ w'.cell? ⟨W.heap.size, 1, none⟩ = some (.slice p4_1 n4_1 c4_1) ∧ w'.cell? ⟨W.heap.size, 2, none⟩ = some (.slice p4_2 n4_2 c4_2)) (first | with_reducible exact DpDocument.bxc HX4.out | with_reducible exact DpDocument.bxc (HX4.out.alloc _) | with_reducible exact DpDocument.bxc (HXu.out.alloc _).drew1 | with_reducible exact DpDocument.bxc (farN HX4.out HN.out _ _ _ _ _ _ _ _ _) | fail) (first | (go_at_call 8; (with_reducible refine (SlKey.to_any _ _ _ _ _ (HP0.out.below HB.out).rdS (by omega)).mono ?_); rintro e w6 ⟨qHT0, mHT0, dHT0, rfl, ho, hb⟩; replace HZ := Lib.hid (HZ.out.below hb); replace HB := Lib.hid (below_on HB.out hb); replace HX4 := Lib.hid (HX4.out.below hb); have HT0 := Lib.hid (RdD.ofOwS ho HP0.out.allP); obtain rfl : n0 = mHT0 := HP0.out.len.symm.trans HT0.out.len; clear ho; clear hb) | (go_at_call 8; (with_reducible refine (SlKey.to_any _ _ _ _ _ (HP0.out.below HB.out).rdS (by omega)).mono ?_); rintro e w6 ⟨qHT0, mHT0, dHT0, rfl, ho, hb⟩; replace HB := Lib.hid (below_on HB.out hb); replace HX4 := Lib.hid (HX4.out.below hb); have HT0 := Lib.hid (RdD.ofOwS ho HP0.out.allP); obtain rfl : n0 = mHT0 := HP0.out.len.symm.trans HT0.out.len; clear ho; clear hb) | (go_at_call 8; have HN : Hid (W.heap.size < w5.heap.size) := Lib.hid HXu.out.lt; have HZ := Lib.hid (Bx.new w5 30 #[.int .i64 0, .int .i64 0, .int .i64 0, .int .i64 0, .int .i64 0, .int .i64 0, .int .i64 0, .int .i64 0, .int .i64 0]).drew1; replace HB := Lib.hid (drewB (HBu.out.alloc HBu.out.size (.cells #[.int .i64 0, .int .i64 0, .int .i64 0, .int .i64 0, .int .i64 0, .int .i64 0, .int .i64 0, .int .i64 0, .int .i64 0] 30))); replace HX4 := Lib.hid (HXu.out.alloc (.cells #[.int .i64 0, .int .i64 0, .int .i64 0, .int .i64 0, .int .i64 0, .int .i64 0, .int .i64 0, .int .i64 0, .int .i64 0] 30)).drew1; (with_reducible refine (SlKey.to_any _ _ _ _ _ (HP0.out.below HB.out).rdS (by omega)).mono ?_); rintro e w6 ⟨qHT0, mHT0, dHT0, rfl, ho, hb⟩; replace HZ := Lib.hid (HZ.out.below hb); replace HB := Lib.hid (below_on HB.out hb); replace HX4 := Lib.hid (HX4.out.below hb); have HT0 := Lib.hid (RdD.ofOwS ho HP0.out.allP); obtain rfl : n0 = mHT0 := HP0.out.len.symm.trans HT0.out.len; clear ho; clear hb) | (go_at_call 9; (with_reducible refine (DpDocument.to_any _ _ _ _ _ _ _ _ _ _ (HP4_1.out.below HB.out) (HP4_2.out.below HB.out) (by rw [HM4.out]; omega)).mono ?_); rintro e w7 ⟨qHT4_0, dHT4_0, qHT4_1, dHT4_1, rfl, ho0, ho1, hb⟩; replace HZ := Lib.hid (HZ.out.below hb); replace HB := Lib.hid (below_on HB.out hb); replace HX4 := Lib.hid (HX4.out.below hb); replace HT0 := Lib.hid (HT0.out.below hb); have HT4_0 := Lib.hid ho0; have HT4_1 := Lib.hid ho1; clear ho0 ho1; clear hb) | (go_at_call 9; (with_reducible refine (DpDocument.to_any _ _ _ _ _ _ _ _ _ _ (HP4_1.out.below HB.out) (HP4_2.out.below HB.out) (by rw [HM4.out]; omega)).mono ?_); rintro e w7 ⟨qHT4_0, dHT4_0, qHT4_1, dHT4_1, rfl, ho0, ho1, hb⟩; replace HB := Lib.hid (below_on HB.out hb); replace HX4 := Lib.hid (HX4.out.below hb); replace HT0 := Lib.hid (HT0.out.below hb); have HT4_0 := Lib.hid ho0; have HT4_1 := Lib.hid ho1; clear ho0 ho1; clear hb) | (go_at_call 9; have HN : Hid (W.heap.size < w6.heap.size) := Lib.hid HX4.out.lt; have HZ := Lib.hid (Bx.new w6 30 #[.int .i64 0, .int .i64 0, .int .i64 0, .int .i64 0, .int .i64 0, .int .i64 0, .int .i64 0, .int .i64 0, .int .i64 0]); replace HB := Lib.hid (HB.out.alloc HB.out.size (.cells #[.int .i64 0, .int .i64 0, .int .i64 0, .int .i64 0, .int .i64 0, .int .i64 0, .int .i64 0, .int .i64 0, .int .i64 0] 30)); replace HX4 := Lib.hid (HX4.out.alloc (.cells #[.int .i64 0, .int .i64 0, .int .i64 0, .int .i64 0, .int .i64 0, .int .i64 0, .int .i64 0, .int .i64 0, .int .i64 0] 30)); replace HT0 := Lib.hid (HT0.out.alloc (.cells #[.int .i64 0, .int .i64 0, .int .i64 0, .int .i64 0, .int .i64 0, .int .i64 0, .int .i64 0, .int .i64 0, .int .i64 0] 30)); (with_reducible refine (DpDocument.to_any _ _ _ _ _ _ _ _ _ _ (HP4_1.out.below HB.out) (HP4_2.out.below HB.out) (by rw [HM4.out]; omega)).mono ?_); rintro e w7 ⟨qHT4_0, dHT4_0, qHT4_1, dHT4_1, rfl, ho0, ho1, hb⟩; replace HZ := Lib.hid (HZ.out.below hb); replace HB := Lib.hid (below_on HB.out hb); replace HX4 := Lib.hid (HX4.out.below hb); replace HT0 := Lib.hid (HT0.out.below hb); have HT4_0 := Lib.hid ho0; have HT4_1 := Lib.hid ho1; clear ho0 ho1; clear hb) | (go_at_call 7; (with_reducible refine (Sdc.spec_doc_any _ _ _ _ _ _ _ _ _ _ _ _ _ _ _ _ _ y0 y1 y2 y3 y4 y5 y6 y7 y8 bM _ XI1.out XI2.out XI3.out XI5.out HMd.out HT0.out HT4_0.out HT4_1.out).mono ?_); rintro e w8 ⟨rfl, hb⟩; replace HZ := Lib.hid (HZ.out.below hb); replace HB := Lib.hid (below_on HB.out hb); replace HX4 := Lib.hid (HX4.out.below hb); replace HT0 := Lib.hid (HT0.out.below hb); replace HT4_0 := Lib.hid (HT4_0.out.below hb); replace HT4_1 := Lib.hid (HT4_1.out.below hb); obtain ⟨q0, q1, q2, q3, q4, q5, q6, q7, q8⟩ := SlSignature.bxc HZ.out; have fz0 := HZ.out.free 0; have fz1 := HZ.out.free 1; have fz2 := HZ.out.free 2; have fz3 := HZ.out.free 3; have fz4 := HZ.out.free 4; have fz5 := HZ.out.free 5; have fz6 := HZ.out.free 6; have fz7 := HZ.out.free 7; have fz8 := HZ.out.free 8; clear hb) | (go_at_call 7; (with_reducible refine (Sdc.spec_doc_any _ _ _ _ _ _ _ _ _ _ _ _ _ _ _ _ _ y0 y1 y2 y3 y4 y5 y6 y7 y8 bM _ XI1.out XI2.out XI3.out XI5.out HMd.out HT0.out HT4_0.out HT4_1.out).mono ?_); rintro e w8 ⟨rfl, hb⟩; replace HB := Lib.hid (below_on HB.out hb); replace HX4 := Lib.hid (HX4.out.below hb); replace HT0 := Lib.hid (HT0.out.below hb); replace HT4_0 := Lib.hid (HT4_0.out.below hb); replace HT4_1 := Lib.hid (HT4_1.out.below hb); clear hb) | (go_at_call 7; have HN : Hid (W.heap.size < w7.heap.size) := Lib.hid HX4.out.lt; have HZ := Lib.hid (Bx.new w7 30 #[.int .i64 0, .int .i64 0, .int .i64 0, .int .i64 0, .int .i64 0, .int .i64 0, .int .i64 0, .int .i64 0, .int .i64 0]); replace HB := Lib.hid (HB.out.alloc HB.out.size (.cells #[.int .i64 0, .int .i64 0, .int .i64 0, .int .i64 0, .int .i64 0, .int .i64 0, .int .i64 0, .int .i64 0, .int .i64 0] 30)); replace HX4 := Lib.hid (HX4.out.alloc (.cells #[.int .i64 0, .int .i64 0, .int .i64 0, .int .i64 0, .int .i64 0, .int .i64 0, .int .i64 0, .int .i64 0, .int .i64 0] 30)); replace HT0 := Lib.hid (HT0.out.alloc (.cells #[.int .i64 0, .int .i64 0, .int .i64 0, .int .i64 0, .int .i64 0, .int .i64 0, .int .i64 0, .int .i64 0, .int .i64 0] 30)); replace HT4_0 := Lib.hid (HT4_0.out.alloc (.cells #[.int .i64 0, .int .i64 0, .int .i64 0, .int .i64 0, .int .i64 0, .int .i64 0, .int .i64 0, .int .i64 0, .int .i64 0] 30)); replace HT4_1 := Lib.hid (HT4_1.out.alloc (.cells #[.int .i64 0, .int .i64 0, .int .i64 0, .int .i64 0, .int .i64 0, .int .i64 0, .int .i64 0, .int .i64 0, .int .i64 0] 30)); (with_reducible refine (Sdc.spec_doc_any _ _ _ _ _ _ _ _ _ _ _ _ _ _ _ _ _ y0 y1 y2 y3 y4 y5 y6 y7 y8 bM _ XI1.out XI2.out XI3.out XI5.out HMd.out HT0.out HT4_0.out HT4_1.out).mono ?_); rintro e w8 ⟨rfl, hb⟩; replace HZ := Lib.hid (HZ.out.below hb); replace HB := Lib.hid (below_on HB.out hb); replace HX4 := Lib.hid (HX4.out.below hb); replace HT0 := Lib.hid (HT0.out.below hb); replace HT4_0 := Lib.hid (HT4_0.out.below hb); replace HT4_1 := Lib.hid (HT4_1.out.below hb); obtain ⟨q0, q1, q2, q3, q4, q5, q6, q7, q8⟩ := SlSignature.bxc HZ.out; have fz0 := HZ.out.free 0; have fz1 := HZ.out.free 1; have fz2 := HZ.out.free 2; have fz3 := HZ.out.free 3; have fz4 := HZ.out.free 4; have fz5 := HZ.out.free 5; have fz6 := HZ.out.free 6; have fz7 := HZ.out.free 7; have fz8 := HZ.out.free 8; clear hb) | fail)
  all_goals
    clear HBu HXu HT0 HT4_0 HT4_1
    first | (have HN' : Hid (W.heap.size < w5.heap.size) := HN; replace HZ : Hid (Bx (((((((((w8.setCell ⟨w5.heap.size, 0, none⟩ (.int .i64 y0)).setCell ⟨w5.heap.size, 1, none⟩ (.int .i64 y1)).setCell ⟨w5.heap.size, 2, none⟩ (.int .i64 y2)).setCell ⟨w5.heap.size, 3, none⟩ (.int .i64 y3)).setCell ⟨w5.heap.size, 4, none⟩ (.int .i64 y4)).setCell ⟨w5.heap.size, 5, none⟩ (.int .i64 y5)).setCell ⟨w5.heap.size, 6, none⟩ (.int .i64 y6)).setCell ⟨w5.heap.size, 7, none⟩ (.int .i64 y7)).setCell ⟨w5.heap.size, 8, none⟩ (.int .i64 y8)) w5.heap.size 30 #[.int .i64 y0, .int .i64 y1, .int .i64 y2, .int .i64 y3, .int .i64 y4, .int .i64 y5, .int .i64 y6, .int .i64 y7, .int .i64 y8]) := Lib.hid (setN HZ.out _ _ _ _ _ _ _ _ _); replace HB : Hid (Below W.heap.size W (((((((((w8.setCell ⟨w5.heap.size, 0, none⟩ (.int .i64 y0)).setCell ⟨w5.heap.size, 1, none⟩ (.int .i64 y1)).setCell ⟨w5.heap.size, 2, none⟩ (.int .i64 y2)).setCell ⟨w5.heap.size, 3, none⟩ (.int .i64 y3)).setCell ⟨w5.heap.size, 4, none⟩ (.int .i64 y4)).setCell ⟨w5.heap.size, 5, none⟩ (.int .i64 y5)).setCell ⟨w5.heap.size, 6, none⟩ (.int .i64 y6)).setCell ⟨w5.heap.size, 7, none⟩ (.int .i64 y7)).setCell ⟨w5.heap.size, 8, none⟩ (.int .i64 y8))) := Lib.hid (belN HB.out HN'.out _ _ _ _ _ _ _ _ _); replace HX4 := Lib.hid (farN HX4.out HN'.out (.int .i64 y0) (.int .i64 y1) (.int .i64 y2) (.int .i64 y3) (.int .i64 y4) (.int .i64 y5) (.int .i64 y6) (.int .i64 y7) (.int .i64 y8)); generalize (((((((((w8.setCell ⟨w5.heap.size, 0, none⟩ (.int .i64 y0)).setCell ⟨w5.heap.size, 1, none⟩ (.int .i64 y1)).setCell ⟨w5.heap.size, 2, none⟩ (.int .i64 y2)).setCell ⟨w5.heap.size, 3, none⟩ (.int .i64 y3)).setCell ⟨w5.heap.size, 4, none⟩ (.int .i64 y4)).setCell ⟨w5.heap.size, 5, none⟩ (.int .i64 y5)).setCell ⟨w5.heap.size, 6, none⟩ (.int .i64 y6)).setCell ⟨w5.heap.size, 7, none⟩ (.int .i64 y7)).setCell ⟨w5.heap.size, 8, none⟩ (.int .i64 y8)) = wz at HZ HB HX4 ⊢; generalize w5.heap.size = gz at HZ ⊢; clear HN HN' q0 fz0 q1 fz1 q2 fz2 q3 fz3 q4 fz4 q5 fz5 q6 fz6 q7 fz7 q8 fz8) | (have HN' : Hid (W.heap.size < w6.heap.size) := HN; replace HZ : Hid (Bx (((((((((w8.setCell ⟨w6.heap.size, 0, none⟩ (.int .i64 y0)).setCell ⟨w6.heap.size, 1, none⟩ (.int .i64 y1)).setCell ⟨w6.heap.size, 2, none⟩ (.int .i64 y2)).setCell ⟨w6.heap.size, 3, none⟩ (.int .i64 y3)).setCell ⟨w6.heap.size, 4, none⟩ (.int .i64 y4)).setCell ⟨w6.heap.size, 5, none⟩ (.int .i64 y5)).setCell ⟨w6.heap.size, 6, none⟩ (.int .i64 y6)).setCell ⟨w6.heap.size, 7, none⟩ (.int .i64 y7)).setCell ⟨w6.heap.size, 8, none⟩ (.int .i64 y8)) w6.heap.size 30 #[.int .i64 y0, .int .i64 y1, .int .i64 y2, .int .i64 y3, .int .i64 y4, .int .i64 y5, .int .i64 y6, .int .i64 y7, .int .i64 y8]) := Lib.hid (setN HZ.out _ _ _ _ _ _ _ _ _); replace HB : Hid (Below W.heap.size W (((((((((w8.setCell ⟨w6.heap.size, 0, none⟩ (.int .i64 y0)).setCell ⟨w6.heap.size, 1, none⟩ (.int .i64 y1)).setCell ⟨w6.heap.size, 2, none⟩ (.int .i64 y2)).setCell ⟨w6.heap.size, 3, none⟩ (.int .i64 y3)).setCell ⟨w6.heap.size, 4, none⟩ (.int .i64 y4)).setCell ⟨w6.heap.size, 5, none⟩ (.int .i64 y5)).setCell ⟨w6.heap.size, 6, none⟩ (.int .i64 y6)).setCell ⟨w6.heap.size, 7, none⟩ (.int .i64 y7)).setCell ⟨w6.heap.size, 8, none⟩ (.int .i64 y8))) := Lib.hid (belN HB.out HN'.out _ _ _ _ _ _ _ _ _); replace HX4 := Lib.hid (farN HX4.out HN'.out (.int .i64 y0) (.int .i64 y1) (.int .i64 y2) (.int .i64 y3) (.int .i64 y4) (.int .i64 y5) (.int .i64 y6) (.int .i64 y7) (.int .i64 y8)); generalize (((((((((w8.setCell ⟨w6.heap.size, 0, none⟩ (.int .i64 y0)).setCell ⟨w6.heap.size, 1, none⟩ (.int .i64 y1)).setCell ⟨w6.heap.size, 2, none⟩ (.int .i64 y2)).setCell ⟨w6.heap.size, 3, none⟩ (.int .i64 y3)).setCell ⟨w6.heap.size, 4, none⟩ (.int .i64 y4)).setCell ⟨w6.heap.size, 5, none⟩ (.int .i64 y5)).setCell ⟨w6.heap.size, 6, none⟩ (.int .i64 y6)).setCell ⟨w6.heap.size, 7, none⟩ (.int .i64 y7)).setCell ⟨w6.heap.size, 8, none⟩ (.int .i64 y8)) = wz at HZ HB HX4 ⊢; generalize w6.heap.size = gz at HZ ⊢; clear HN HN' q0 fz0 q1 fz1 q2 fz2 q3 fz3 q4 fz4 q5 fz5 q6 fz6 q7 fz7 q8 fz8) | (have HN' : Hid (W.heap.size < w7.heap.size) := HN; replace HZ : Hid (Bx (((((((((w8.setCell ⟨w7.heap.size, 0, none⟩ (.int .i64 y0)).setCell ⟨w7.heap.size, 1, none⟩ (.int .i64 y1)).setCell ⟨w7.heap.size, 2, none⟩ (.int .i64 y2)).setCell ⟨w7.heap.size, 3, none⟩ (.int .i64 y3)).setCell ⟨w7.heap.size, 4, none⟩ (.int .i64 y4)).setCell ⟨w7.heap.size, 5, none⟩ (.int .i64 y5)).setCell ⟨w7.heap.size, 6, none⟩ (.int .i64 y6)).setCell ⟨w7.heap.size, 7, none⟩ (.int .i64 y7)).setCell ⟨w7.heap.size, 8, none⟩ (.int .i64 y8)) w7.heap.size 30 #[.int .i64 y0, .int .i64 y1, .int .i64 y2, .int .i64 y3, .int .i64 y4, .int .i64 y5, .int .i64 y6, .int .i64 y7, .int .i64 y8]) := Lib.hid (setN HZ.out _ _ _ _ _ _ _ _ _); replace HB : Hid (Below W.heap.size W (((((((((w8.setCell ⟨w7.heap.size, 0, none⟩ (.int .i64 y0)).setCell ⟨w7.heap.size, 1, none⟩ (.int .i64 y1)).setCell ⟨w7.heap.size, 2, none⟩ (.int .i64 y2)).setCell ⟨w7.heap.size, 3, none⟩ (.int .i64 y3)).setCell ⟨w7.heap.size, 4, none⟩ (.int .i64 y4)).setCell ⟨w7.heap.size, 5, none⟩ (.int .i64 y5)).setCell ⟨w7.heap.size, 6, none⟩ (.int .i64 y6)).setCell ⟨w7.heap.size, 7, none⟩ (.int .i64 y7)).setCell ⟨w7.heap.size, 8, none⟩ (.int .i64 y8))) := Lib.hid (belN HB.out HN'.out _ _ _ _ _ _ _ _ _); replace HX4 := Lib.hid (farN HX4.out HN'.out (.int .i64 y0) (.int .i64 y1) (.int .i64 y2) (.int .i64 y3) (.int .i64 y4) (.int .i64 y5) (.int .i64 y6) (.int .i64 y7) (.int .i64 y8)); generalize (((((((((w8.setCell ⟨w7.heap.size, 0, none⟩ (.int .i64 y0)).setCell ⟨w7.heap.size, 1, none⟩ (.int .i64 y1)).setCell ⟨w7.heap.size, 2, none⟩ (.int .i64 y2)).setCell ⟨w7.heap.size, 3, none⟩ (.int .i64 y3)).setCell ⟨w7.heap.size, 4, none⟩ (.int .i64 y4)).setCell ⟨w7.heap.size, 5, none⟩ (.int .i64 y5)).setCell ⟨w7.heap.size, 6, none⟩ (.int .i64 y6)).setCell ⟨w7.heap.size, 7, none⟩ (.int .i64 y7)).setCell ⟨w7.heap.size, 8, none⟩ (.int .i64 y8)) = wz at HZ HB HX4 ⊢; generalize w7.heap.size = gz at HZ ⊢; clear HN HN' q0 fz0 q1 fz1 q2 fz2 q3 fz3 q4 fz4 q5 fz5 q6 fz6 q7 fz7 q8 fz8) | (have HZ := Lib.hid (Bx.new w8 30 #[.int .i64 y0, .int .i64 y1, .int .i64 y2, .int .i64 y3, .int .i64 y4, .int .i64 y5, .int .i64 y6, .int .i64 y7, .int .i64 y8]); replace HB := Lib.hid (HB.out.alloc HB.out.size (.cells #[.int .i64 y0, .int .i64 y1, .int .i64 y2, .int .i64 y3, .int .i64 y4, .int .i64 y5, .int .i64 y6, .int .i64 y7, .int .i64 y8] 30)); replace HX4 := Lib.hid (HX4.out.alloc (.cells #[.int .i64 y0, .int .i64 y1, .int .i64 y2, .int .i64 y3, .int .i64 y4, .int .i64 y5, .int .i64 y6, .int .i64 y7, .int .i64 y8] 30)); generalize w8.alloc (.cells #[.int .i64 y0, .int .i64 y1, .int .i64 y2, .int .i64 y3, .int .i64 y4, .int .i64 y5, .int .i64 y6, .int .i64 y7, .int .i64 y8] 30) = wz at HZ HB HX4 ⊢; generalize w8.heap.size = gz at HZ ⊢)
    as_aux_lemma =>
      go_wp2_with fail
      refine (SlKey.to_any _ _ _ _ _ (HP0.out.below HB.out).rdS (by omega)).mono ?_
      rintro e w9 ⟨qHU0, mHU0, dHU0, rfl, ho, hb⟩
      replace HB := Lib.hid (below_on HB.out hb)
      replace HX4 := Lib.hid (HX4.out.below hb)
      replace HZ := Lib.hid (HZ.out.below hb)
      have HU0 := Lib.hid (RdD.ofOwS ho HP0.out.allP)
      obtain rfl : n0 = mHU0 := HP0.out.len.symm.trans HU0.out.len
      clear ho
      clear hb
      obtain ⟨i0, i1, i2⟩ := DpDocument.bxc HX4.out
      go_wp2_with fail
      refine (DpDocument.to_any _ _ _ _ _ _ _ _ _ _ (HP4_1.out.below HB.out) (HP4_2.out.below HB.out) (by rw [HM4.out]; omega)).mono ?_
      rintro e w10 ⟨qHU4_0, dHU4_0, qHU4_1, dHU4_1, rfl, ho0, ho1, hb⟩
      replace HB := Lib.hid (below_on HB.out hb)
      replace HX4 := Lib.hid (HX4.out.below hb)
      replace HZ := Lib.hid (HZ.out.below hb)
      replace HU0 := Lib.hid (HU0.out.below hb)
      have HU4_0 := Lib.hid ho0
      have HU4_1 := Lib.hid ho1
      clear ho0 ho1
      clear hb
      clear i0 i1 i2
      have HS4 := Lib.hid (Bx.new w10 35 #[.int .i64 x4_0, .slice qHU4_0 n4_1 dHU4_0, .slice qHU4_1 n4_2 dHU4_1])
      have lHS4 := HS4.out.lt
      replace HB := Lib.hid (HB.out.alloc HB.out.size (.cells #[.int .i64 x4_0, .slice qHU4_0 n4_1 dHU4_0, .slice qHU4_1 n4_2 dHU4_1] 35))
      replace HX4 := Lib.hid (HX4.out.alloc (.cells #[.int .i64 x4_0, .slice qHU4_0 n4_1 dHU4_0, .slice qHU4_1 n4_2 dHU4_1] 35))
      replace HZ := Lib.hid (HZ.out.alloc (.cells #[.int .i64 x4_0, .slice qHU4_0 n4_1 dHU4_0, .slice qHU4_1 n4_2 dHU4_1] 35))
      replace HU0 := Lib.hid (HU0.out.alloc (.cells #[.int .i64 x4_0, .slice qHU4_0 n4_1 dHU4_0, .slice qHU4_1 n4_2 dHU4_1] 35))
      replace HU4_0 := Lib.hid (HU4_0.out.alloc (.cells #[.int .i64 x4_0, .slice qHU4_0 n4_1 dHU4_0, .slice qHU4_1 n4_2 dHU4_1] 35))
      replace HU4_1 := Lib.hid (HU4_1.out.alloc (.cells #[.int .i64 x4_0, .slice qHU4_0 n4_1 dHU4_0, .slice qHU4_1 n4_2 dHU4_1] 35))
      as_aux_lemma =>
        obtain ⟨k4_0, k4_1, k4_2⟩ := DpDocument.bxc HS4.out
        go_wp2_with fail
        refine (Sdc.doc_any _ _ _ _ _ _ _ _ _ _ _ _ _ _ _ _ _ y0 y1 y2 y3 y4 y5 y6 y7 y8 bM _ XI1.out XI2.out XI3.out XI5.out HMd.out HU0.out HU4_0.out HU4_1.out).mono ?_
        rintro e w11 ⟨rfl, hb⟩
        replace HB := Lib.hid (below_on HB.out hb)
        replace HX4 := Lib.hid (HX4.out.below hb)
        replace HZ := Lib.hid (HZ.out.below hb)
        replace HU0 := Lib.hid (HU0.out.below hb)
        replace HU4_0 := Lib.hid (HU4_0.out.below hb)
        replace HU4_1 := Lib.hid (HU4_1.out.below hb)
        replace HS4 := Lib.hid (HS4.out.below hb)
        clear hb
        clear k4_0 k4_1 k4_2
        have HG := Lib.hid (Bx.new w11 30 #[.int .i64 y0, .int .i64 y1, .int .i64 y2, .int .i64 y3, .int .i64 y4, .int .i64 y5, .int .i64 y6, .int .i64 y7, .int .i64 y8])
        have lHG := HG.out.lt
        replace HB := Lib.hid (HB.out.alloc HB.out.size (.cells #[.int .i64 y0, .int .i64 y1, .int .i64 y2, .int .i64 y3, .int .i64 y4, .int .i64 y5, .int .i64 y6, .int .i64 y7, .int .i64 y8] 30))
        replace HX4 := Lib.hid (HX4.out.alloc (.cells #[.int .i64 y0, .int .i64 y1, .int .i64 y2, .int .i64 y3, .int .i64 y4, .int .i64 y5, .int .i64 y6, .int .i64 y7, .int .i64 y8] 30))
        replace HZ := Lib.hid (HZ.out.alloc (.cells #[.int .i64 y0, .int .i64 y1, .int .i64 y2, .int .i64 y3, .int .i64 y4, .int .i64 y5, .int .i64 y6, .int .i64 y7, .int .i64 y8] 30))
        replace HU0 := Lib.hid (HU0.out.alloc (.cells #[.int .i64 y0, .int .i64 y1, .int .i64 y2, .int .i64 y3, .int .i64 y4, .int .i64 y5, .int .i64 y6, .int .i64 y7, .int .i64 y8] 30))
        replace HU4_0 := Lib.hid (HU4_0.out.alloc (.cells #[.int .i64 y0, .int .i64 y1, .int .i64 y2, .int .i64 y3, .int .i64 y4, .int .i64 y5, .int .i64 y6, .int .i64 y7, .int .i64 y8] 30))
        replace HU4_1 := Lib.hid (HU4_1.out.alloc (.cells #[.int .i64 y0, .int .i64 y1, .int .i64 y2, .int .i64 y3, .int .i64 y4, .int .i64 y5, .int .i64 y6, .int .i64 y7, .int .i64 y8] 30))
        replace HS4 := Lib.hid (HS4.out.alloc (.cells #[.int .i64 y0, .int .i64 y1, .int .i64 y2, .int .i64 y3, .int .i64 y4, .int .i64 y5, .int .i64 y6, .int .i64 y7, .int .i64 y8] 30))
        as_aux_lemma =>
          obtain ⟨g0_, g1_, g2_, g3_, g4_, g5_, g6_, g7_, g8_⟩ := SlSignature.bxc HG.out
          obtain ⟨o0_, o1_, o2_, o3_, o4_, o5_, o6_, o7_, o8_⟩ := SlSignature.bxc HZ.out
          go_wp2_with fail
          refine (SlSignature.same_any _ _ _ _ _ _ _ _ _ _).mono ?_
          rintro e w12 ⟨rfl, hb⟩
          replace HB := Lib.hid (below_on HB.out hb)
          replace HX4 := Lib.hid (HX4.out.below hb)
          replace HZ := Lib.hid (HZ.out.below hb)
          replace HU0 := Lib.hid (HU0.out.below hb)
          replace HU4_0 := Lib.hid (HU4_0.out.below hb)
          replace HU4_1 := Lib.hid (HU4_1.out.below hb)
          replace HS4 := Lib.hid (HS4.out.below hb)
          replace HG := Lib.hid (HG.out.below hb)
          clear hb
          clear g0_ o0_ g1_ o1_ g2_ o2_ g3_ o3_ g4_ o4_ g5_ o5_ g6_ o6_ g7_ o7_ g8_ o8_
          clear HZ
          clear HG
          as_aux_lemma =>
            go_wp2_with fail
            refine (SlKey.to_any _ _ _ _ _ (HP0.out.below HB.out).rdS (by omega)).mono ?_
            rintro e w13 ⟨qHY0, mHY0, dHY0, rfl, ho, hb⟩
            replace HB := Lib.hid (below_on HB.out hb)
            replace HX4 := Lib.hid (HX4.out.below hb)
            replace HU0 := Lib.hid (HU0.out.below hb)
            replace HU4_0 := Lib.hid (HU4_0.out.below hb)
            replace HU4_1 := Lib.hid (HU4_1.out.below hb)
            replace HS4 := Lib.hid (HS4.out.below hb)
            have HY0 := Lib.hid (RdD.ofOwS ho HP0.out.allP)
            obtain rfl : n0 = mHY0 := HP0.out.len.symm.trans HY0.out.len
            clear ho
            clear hb
            go_wp2_with fail
            refine (SlKey.eq_any _ _ _ _ _ _ _ HU0.out.rdS HY0.out.rdS).mono ?_
            rintro e w14 ⟨rfl, hb⟩
            replace HB := Lib.hid (below_on HB.out hb)
            replace HX4 := Lib.hid (HX4.out.below hb)
            replace HU0 := Lib.hid (HU0.out.below hb)
            replace HU4_0 := Lib.hid (HU4_0.out.below hb)
            replace HU4_1 := Lib.hid (HU4_1.out.below hb)
            replace HS4 := Lib.hid (HS4.out.below hb)
            replace HY0 := Lib.hid (HY0.out.below hb)
            clear hb
            clear HY0
            as_aux_lemma =>
              obtain ⟨j0_0, j0_1, j0_2⟩ := DpDocument.bxc HS4.out
              obtain ⟨j1_0, j1_1, j1_2⟩ := DpDocument.bxc HX4.out
              go_wp2_with fail
              replace HB := Lib.hid (drewB HB.out)
              replace HX4 := Lib.hid (HX4.out.below (drewB (Below.refl _ _)))
              replace HU0 := Lib.hid (HU0.out.below (drewB (Below.refl _ _)))
              replace HU4_0 := Lib.hid (HU4_0.out.below (drewB (Below.refl _ _)))
              replace HU4_1 := Lib.hid (HU4_1.out.below (drewB (Below.refl _ _)))
              replace HS4 := Lib.hid (HS4.out.below (drewB (Below.refl _ _)))
              go_region_held3 (fun w' => (w'.cell? ⟨w10.heap.size, 0, none⟩ = some (.int .i64 x4_0) ∧ w'.cell? ⟨w10.heap.size, 1, none⟩ = some (.slice qHU4_0 n4_1 dHU4_0) ∧ w'.cell? ⟨w10.heap.size, 2, none⟩ = some (.slice qHU4_1 n4_2 dHU4_1)) ∧ w'.cell? ⟨W.heap.size, 0, none⟩ = some (.int .i64 x4_0) ∧ w'.cell? ⟨W.heap.size, 1, none⟩ = some (.slice p4_1 n4_1 c4_1) ∧ w'.cell? ⟨W.heap.size, 2, none⟩ = some (.slice p4_2 n4_2 c4_2)) (first | exact ⟨DpDocument.bxc HS4.out, DpDocument.bxc HX4.out⟩ | go_keep) (first | (go_at_call 9; (with_reducible refine (DpDocument.to_any _ _ _ _ _ _ _ _ _ _ (HP4_1.out.below HB.out) (HP4_2.out.below HB.out) (by rw [HM4.out]; omega)).mono ?_); rintro e w15 ⟨qHY4_0, dHY4_0, qHY4_1, dHY4_1, rfl, ho0, ho1, hb⟩; replace HB := Lib.hid (below_on HB.out hb); replace HX4 := Lib.hid (HX4.out.below hb); replace HU0 := Lib.hid (HU0.out.below hb); replace HU4_0 := Lib.hid (HU4_0.out.below hb); replace HU4_1 := Lib.hid (HU4_1.out.below hb); replace HS4 := Lib.hid (HS4.out.below hb); have HY4_0 := Lib.hid ho0; have HY4_1 := Lib.hid ho1; clear ho0 ho1; clear hb) | (go_at_call 13; (with_reducible refine (DpDocument.eq_any _ _ _ _ _ _ _ _ _ _ _ _ _ _ HU4_0.out HY4_0.out HU4_1.out HY4_1.out).mono ?_); rintro e w16 ⟨rfl, hb⟩; replace HB := Lib.hid (below_on HB.out hb); replace HX4 := Lib.hid (HX4.out.below hb); replace HU0 := Lib.hid (HU0.out.below hb); replace HU4_0 := Lib.hid (HU4_0.out.below hb); replace HU4_1 := Lib.hid (HU4_1.out.below hb); replace HS4 := Lib.hid (HS4.out.below hb); replace HY4_0 := Lib.hid (HY4_0.out.below hb); replace HY4_1 := Lib.hid (HY4_1.out.below hb); clear hb))
              clear j0_0 j0_1 j0_2
              clear j1_0 j1_1 j1_2
              clear HY4_0
              clear HY4_1
              as_aux_lemma =>
                go_wp2_with fail
                go_ret
                exact ⟨rfl, HB.out⟩
end Go.Proofs.Ytbjocgnogcnedaa.fnExactSignDocument
