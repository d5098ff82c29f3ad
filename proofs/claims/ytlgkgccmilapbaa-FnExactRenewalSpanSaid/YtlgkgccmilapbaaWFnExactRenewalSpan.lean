/- The walk of the law FnExactRenewalSpan. -/
import Derived.Test.YtlgkgccmilapbaaEd
import Derived.Test.YtlgkgccmilapbaaDz
import Derived.Test.YtlgkgccmilapbaaSlI
import Derived.Test.YtlgkgccmilapbaaSlAuthority
import Derived.Test.YtlgkgccmilapbaaDpRenewal
import Derived.Test.YtlgkgccmilapbaaRsp
import Derived.Test.YtlgkgccmilapbaaSlSpan
import Derived.OpenShut
import Derived.Deep.RegionHeld3
import Derived.Laws.Strings
namespace Go.Proofs.Ytlgkgccmilapbaa.fnExactRenewalSpan
open Go.ChangeShapes Go.WideShapes Go.ChangeAt Go.RowKit Sl St Ed Jn Sps Rsp
theorem drewB {W w : World} {B : Nat} (h : Below B W w) : Below B W w.drew := below_drewN h 1
theorem setN {w : World} {g : Nat} {T : TypeId} {c0 c1 : Value} (h : Bx w g T #[c0, c1]) (u0 u1 : Value) : Bx ((w.setCell ⟨g, 0, none⟩ u0).setCell ⟨g, 1, none⟩ u1) g T #[u0, u1] := by
  have k := ((h.set_ 0 u0).set_ 1 u1)
  simp only [List.setIfInBounds_toArray, List.set_cons_zero, List.set_cons_succ] at k
  exact k
theorem farN {w : World} {g k : Nat} {T : TypeId} {cs : Array Value} (h : Bx w k T cs) (hn : k < g) (u0 u1 : Value) : Bx ((w.setCell ⟨g, 0, none⟩ u0).setCell ⟨g, 1, none⟩ u1) k T cs := ((h.far (q := ⟨g, 0, none⟩) (Nat.ne_of_lt hn) _).far (q := ⟨g, 1, none⟩) (Nat.ne_of_lt hn) _)
theorem belN {W w : World} {g : Nat} (h : Below W.heap.size W w) (hg : W.heap.size < g) (u0 u1 : Value) : Below W.heap.size W ((w.setCell ⟨g, 0, none⟩ u0).setCell ⟨g, 1, none⟩ u1) := ((h.setCell (p := ⟨g, 0, none⟩) (Nat.le_of_lt hg) _).setCell (p := ⟨g, 1, none⟩) (Nat.le_of_lt hg) _)
set_option maxRecDepth 100000 in
set_option maxHeartbeats 16000000 in
theorem walk {H : Type} {enc : TypeId × Value → H} (W : World) (base : Nat)
    (v0 : Value) (d0 : DataW H) (p0 : List MemPlace) (h0 : DataW.Trod enc Try.prog W 0 (fun _ => true) true 43 v0 d0 p0) (k0 : Value.okWide Try.prog W .any base 43 v0)
    (v1 : Value) (d1 : DataW H) (p1 : List MemPlace) (h1 : DataW.Trod enc Try.prog W 0 (fun _ => true) true 47 v1 d1 p1) (k1 : Value.okWide Try.prog W .any base 47 v1)
    (v2 : Value) (d2 : DataW H) (p2 : List MemPlace) (h2 : DataW.Trod enc Try.prog W 0 (fun _ => true) true 3 v2 d2 p2) (k2 : Value.okWide Try.prog W .any base 3 v2)
    (_hsz : (DataW.weightsEach Try.prog [43, 47, 3] [d0, d1, d2]).all (· ≤ reachBytes) = true) :
    Calls Try.prog 8 #[v0, v1, v2] W fun e w' => e = .returned (.bool true) ∧ Below W.heap.size W w' := by
  obtain ⟨p0, n0, c0, l0, rfl, hr0, hg0⟩ := SlAuthority.open_argR h0 k0
  have HP0 : Hid (RdD (flat SlAuthority.E SlAuthority.InR) (fun _ => True) W p0 n0 l0) := Lib.hid (RdD.ofS hr0 hg0 (fun _ _ _ _ => trivial))
  have hn0 := hr0.le
  clear hr0 hg0
  clear h0 k0
  obtain ⟨x1_0, x1_1, x1_2, l1_3, l1_4, p1_3, n1_3, c1_3, p1_4, n1_4, c1_4, rfl, b1_0, b1_1, b1_2, h1_3, h1_4⟩ := DpRenewal.open_val h1 k1
  have HG1_0 := Lib.hid b1_0
  have HG1_1 := Lib.hid b1_1
  have HG1_2 := Lib.hid b1_2
  have HP1_3 := Lib.hid h1_3
  have HP1_4 := Lib.hid h1_4
  have hn1_3 := h1_3.le
  have hn1_4 := h1_4.le
  clear b1_0 b1_1 b1_2 h1_3 h1_4
  clear h1 k1
  obtain ⟨x2, rfl, _, _, wf2⟩ := open_int Try.underlying3 k2 h2
  have xb2 := bounds_i64 wf2
  have XB2 := Lib.hid xb2
  have XI2 : Hid (Ed.InI x2) := Lib.hid xb2
  clear wf2 xb2
  clear h2 k2
  clear _hsz
  have HB := Lib.hid (Below.refl W.heap.size W)
  have HX1 := Lib.hid (Bx.new W 47 #[.int .i64 x1_0, .int .i64 x1_1, .int .i64 x1_2, .slice p1_3 n1_3 c1_3, .slice p1_4 n1_4 c1_4])
  replace HB := Lib.hid (HB.out.alloc HB.out.size (.cells #[.int .i64 x1_0, .int .i64 x1_1, .int .i64 x1_2, .slice p1_3 n1_3 c1_3, .slice p1_4 n1_4 c1_4] 47))
  have lX1 := HX1.out.lt
  obtain ⟨m1, hm1⟩ : ∃ m : Nat, DpRenewal.E.wt (x1_0, x1_1, x1_2, l1_3, l1_4) = m := ⟨_, rfl⟩
  have HM1 := Lib.hid hm1
  clear hm1
  rcases hM : Rsp.rsp l0 l1_4 x2 with ⟨⟨y0, y1⟩, bM⟩
  have HMd := Lib.hid hM
  clear hM
  by_cases hbig0 : 1048576 < n0
  · go_enter Try.func8, Try.ntmps8
    go_wp2_with fail
    refine (SlAuthority.sz_big _ _ _ _ _ (by omega) (by omega) (by omega) hn0).mono ?_
    rintro e w1 ⟨rfl, rfl⟩
    go_wp2_with fail
    go_ret
    exact ⟨rfl, HB.out⟩
  by_cases hbig1 : 1048576 < n0 + m1
  · go_enter Try.func8, Try.ntmps8
    go_wp2_with fail
    refine (SlAuthority.sz_fits _ _ _ _ _ (by omega) (by omega)).mono ?_
    rintro e w2 ⟨rfl, rfl⟩
    obtain ⟨i0, i1, i2, i3, i4⟩ := DpRenewal.bxc HX1.out
    go_wp2_with fail
    refine (DpRenewal.sz_big _ _ _ _ _ _ _ _ _ _ _ _ _ _ HM1.out (HP1_3.out.below HB.out) (HP1_4.out.below HB.out) (by omega) (by omega) (by omega)).mono ?_
    rintro e w3 ⟨rfl, hb⟩
    replace HB := Lib.hid (below_on HB.out hb)
    replace HX1 := Lib.hid (HX1.out.below hb)
    clear hb
    clear i0 i1 i2 i3 i4
    go_wp2_with fail
    go_ret
    exact ⟨rfl, HB.out⟩
  go_enter Try.func8, Try.ntmps8
  go_wp2_with fail
  refine (SlAuthority.sz_fits _ _ _ _ _ (by omega) (by omega)).mono ?_
  rintro e w4 ⟨rfl, rfl⟩
  obtain ⟨i0, i1, i2, i3, i4⟩ := DpRenewal.bxc HX1.out
  go_wp2_with fail
  refine (DpRenewal.sz_fits _ _ _ _ _ _ _ _ _ _ _ _ _ _ HM1.out (HP1_3.out.below HB.out) (HP1_4.out.below HB.out) (by omega) (by omega)).mono ?_
  rintro e w5 ⟨rfl, hb⟩
  replace HB := Lib.hid (below_on HB.out hb)
  replace HX1 := Lib.hid (HX1.out.below hb)
  clear hb
  clear i0 i1 i2 i3 i4
  have sm0 : n0 ≤ 1048576 := by omega
  have sm1 : m1 ≤ 1048576 := by omega
  have smt : n0 + m1 ≤ 1048576 := by omega
  clear hbig0
  clear hbig1
  have sn1_3 : n1_3 ≤ 1048576 := by have h := HM1.out; have k := HP1_3.out.len; simp only [DpRenewal.wt_eq] at h; omega
  have sn1_4 : n1_4 ≤ 1048576 := by have h := HM1.out; have k := HP1_4.out.len; simp only [DpRenewal.wt_eq] at h; omega
  obtain ⟨j0_0, j0_1, j0_2, j0_3, j0_4⟩ := DpRenewal.bxc HX1.out
  go_wp2_with fail
  clear j0_0 j0_1 j0_2 j0_3 j0_4
  have HZ : Hid True := Lib.hid trivial
  have HBu := HB
  have HXu := HX1
  replace HB := Lib.hid (drewB HB.out)
  replace HX1 := Lib.hid HX1.out.drew1
  go_region_held3 (fun w' => w'.cell? ⟨W.heap.size, 0, none⟩ = some (.int .i64 x1_0) ∧ w'.cell? ⟨W.heap.size, 1, none⟩ = some (.int .i64 x1_1) ∧ w'.cell? ⟨W.heap.size, 2, none⟩ = some (.int .i64 x1_2) ∧ w'.cell? ⟨W.heap.size, 3, none⟩ = some (.slice p1_3 n1_3 c1_3) ∧ w'.cell? ⟨W.heap.size, 4, none⟩ = some (.slice p1_4 n1_4 c1_4)) (first | with_reducible exact DpRenewal.bxc HX1.out | with_reducible exact DpRenewal.bxc (HX1.out.alloc _) | with_reducible exact DpRenewal.bxc (HXu.out.alloc _).drew1 | with_reducible exact DpRenewal.bxc (farN HX1.out HN.out _ _) | fail) (first | (go_at_call 31; (with_reducible refine (SlAuthority.to_any _ _ _ _ _ (HP0.out.below HB.out).rdS (by omega)).mono ?_); rintro e w6 ⟨qHT0, mHT0, dHT0, rfl, ho, hb⟩; replace HZ := Lib.hid (HZ.out.below hb); replace HB := Lib.hid (below_on HB.out hb); replace HX1 := Lib.hid (HX1.out.below hb); have HT0 := Lib.hid (RdD.ofOwS ho HP0.out.allP); obtain rfl : n0 = mHT0 := HP0.out.len.symm.trans HT0.out.len; clear ho; clear hb) | (go_at_call 31; (with_reducible refine (SlAuthority.to_any _ _ _ _ _ (HP0.out.below HB.out).rdS (by omega)).mono ?_); rintro e w6 ⟨qHT0, mHT0, dHT0, rfl, ho, hb⟩; replace HB := Lib.hid (below_on HB.out hb); replace HX1 := Lib.hid (HX1.out.below hb); have HT0 := Lib.hid (RdD.ofOwS ho HP0.out.allP); obtain rfl : n0 = mHT0 := HP0.out.len.symm.trans HT0.out.len; clear ho; clear hb) | (go_at_call 31; have HN : Hid (W.heap.size < w5.heap.size) := Lib.hid HXu.out.lt; have HZ := Lib.hid (Bx.new w5 40 #[.int .i64 0, .int .i64 0]).drew1; replace HB := Lib.hid (drewB (HBu.out.alloc HBu.out.size (.cells #[.int .i64 0, .int .i64 0] 40))); replace HX1 := Lib.hid (HXu.out.alloc (.cells #[.int .i64 0, .int .i64 0] 40)).drew1; (with_reducible refine (SlAuthority.to_any _ _ _ _ _ (HP0.out.below HB.out).rdS (by omega)).mono ?_); rintro e w6 ⟨qHT0, mHT0, dHT0, rfl, ho, hb⟩; replace HZ := Lib.hid (HZ.out.below hb); replace HB := Lib.hid (below_on HB.out hb); replace HX1 := Lib.hid (HX1.out.below hb); have HT0 := Lib.hid (RdD.ofOwS ho HP0.out.allP); obtain rfl : n0 = mHT0 := HP0.out.len.symm.trans HT0.out.len; clear ho; clear hb) | (go_at_call 32; (with_reducible refine (DpRenewal.to_any _ _ _ _ _ _ _ _ _ _ _ _ (HP1_3.out.below HB.out) (HP1_4.out.below HB.out) (by rw [HM1.out]; omega)).mono ?_); rintro e w7 ⟨qHT1_0, dHT1_0, qHT1_1, dHT1_1, rfl, ho0, ho1, hb⟩; replace HZ := Lib.hid (HZ.out.below hb); replace HB := Lib.hid (below_on HB.out hb); replace HX1 := Lib.hid (HX1.out.below hb); replace HT0 := Lib.hid (HT0.out.below hb); have HT1_0 := Lib.hid ho0; have HT1_1 := Lib.hid ho1; clear ho0 ho1; clear hb) | (go_at_call 32; (with_reducible refine (DpRenewal.to_any _ _ _ _ _ _ _ _ _ _ _ _ (HP1_3.out.below HB.out) (HP1_4.out.below HB.out) (by rw [HM1.out]; omega)).mono ?_); rintro e w7 ⟨qHT1_0, dHT1_0, qHT1_1, dHT1_1, rfl, ho0, ho1, hb⟩; replace HB := Lib.hid (below_on HB.out hb); replace HX1 := Lib.hid (HX1.out.below hb); replace HT0 := Lib.hid (HT0.out.below hb); have HT1_0 := Lib.hid ho0; have HT1_1 := Lib.hid ho1; clear ho0 ho1; clear hb) | (go_at_call 32; have HN : Hid (W.heap.size < w6.heap.size) := Lib.hid HX1.out.lt; have HZ := Lib.hid (Bx.new w6 40 #[.int .i64 0, .int .i64 0]); replace HB := Lib.hid (HB.out.alloc HB.out.size (.cells #[.int .i64 0, .int .i64 0] 40)); replace HX1 := Lib.hid (HX1.out.alloc (.cells #[.int .i64 0, .int .i64 0] 40)); replace HT0 := Lib.hid (HT0.out.alloc (.cells #[.int .i64 0, .int .i64 0] 40)); (with_reducible refine (DpRenewal.to_any _ _ _ _ _ _ _ _ _ _ _ _ (HP1_3.out.below HB.out) (HP1_4.out.below HB.out) (by rw [HM1.out]; omega)).mono ?_); rintro e w7 ⟨qHT1_0, dHT1_0, qHT1_1, dHT1_1, rfl, ho0, ho1, hb⟩; replace HZ := Lib.hid (HZ.out.below hb); replace HB := Lib.hid (below_on HB.out hb); replace HX1 := Lib.hid (HX1.out.below hb); replace HT0 := Lib.hid (HT0.out.below hb); have HT1_0 := Lib.hid ho0; have HT1_1 := Lib.hid ho1; clear ho0 ho1; clear hb) | (go_at_call 30; (with_reducible refine (Rsp.spec_span_any _ _ _ l0 x1_0 x1_1 x1_2 _ _ _ _ _ _ l1_4 x2 XB2.out y0 y1 bM HMd.out _ HT0.out.rdS HT1_1.out.rdS sn1_4).mono ?_); rintro e w8 ⟨rfl, hb⟩; replace HZ := Lib.hid (HZ.out.below hb); replace HB := Lib.hid (below_on HB.out hb); replace HX1 := Lib.hid (HX1.out.below hb); replace HT0 := Lib.hid (HT0.out.below hb); replace HT1_0 := Lib.hid (HT1_0.out.below hb); replace HT1_1 := Lib.hid (HT1_1.out.below hb); obtain ⟨q0, q1⟩ := SlSpan.bxc HZ.out; have fz0 := HZ.out.free 0; have fz1 := HZ.out.free 1; clear hb) | (go_at_call 30; (with_reducible refine (Rsp.spec_span_any _ _ _ l0 x1_0 x1_1 x1_2 _ _ _ _ _ _ l1_4 x2 XB2.out y0 y1 bM HMd.out _ HT0.out.rdS HT1_1.out.rdS sn1_4).mono ?_); rintro e w8 ⟨rfl, hb⟩; replace HB := Lib.hid (below_on HB.out hb); replace HX1 := Lib.hid (HX1.out.below hb); replace HT0 := Lib.hid (HT0.out.below hb); replace HT1_0 := Lib.hid (HT1_0.out.below hb); replace HT1_1 := Lib.hid (HT1_1.out.below hb); clear hb) | (go_at_call 30; have HN : Hid (W.heap.size < w7.heap.size) := Lib.hid HX1.out.lt; have HZ := Lib.hid (Bx.new w7 40 #[.int .i64 0, .int .i64 0]); replace HB := Lib.hid (HB.out.alloc HB.out.size (.cells #[.int .i64 0, .int .i64 0] 40)); replace HX1 := Lib.hid (HX1.out.alloc (.cells #[.int .i64 0, .int .i64 0] 40)); replace HT0 := Lib.hid (HT0.out.alloc (.cells #[.int .i64 0, .int .i64 0] 40)); replace HT1_0 := Lib.hid (HT1_0.out.alloc (.cells #[.int .i64 0, .int .i64 0] 40)); replace HT1_1 := Lib.hid (HT1_1.out.alloc (.cells #[.int .i64 0, .int .i64 0] 40)); (with_reducible refine (Rsp.spec_span_any _ _ _ l0 x1_0 x1_1 x1_2 _ _ _ _ _ _ l1_4 x2 XB2.out y0 y1 bM HMd.out _ HT0.out.rdS HT1_1.out.rdS sn1_4).mono ?_); rintro e w8 ⟨rfl, hb⟩; replace HZ := Lib.hid (HZ.out.below hb); replace HB := Lib.hid (below_on HB.out hb); replace HX1 := Lib.hid (HX1.out.below hb); replace HT0 := Lib.hid (HT0.out.below hb); replace HT1_0 := Lib.hid (HT1_0.out.below hb); replace HT1_1 := Lib.hid (HT1_1.out.below hb); obtain ⟨q0, q1⟩ := SlSpan.bxc HZ.out; have fz0 := HZ.out.free 0; have fz1 := HZ.out.free 1; clear hb) | fail)
  all_goals
    clear HBu HXu HT0 HT1_0 HT1_1
    first | (have HN' : Hid (W.heap.size < w5.heap.size) := HN; replace HZ : Hid (Bx ((w8.setCell ⟨w5.heap.size, 0, none⟩ (.int .i64 y0)).setCell ⟨w5.heap.size, 1, none⟩ (.int .i64 y1)) w5.heap.size 40 #[.int .i64 y0, .int .i64 y1]) := Lib.hid (setN HZ.out _ _); replace HB : Hid (Below W.heap.size W ((w8.setCell ⟨w5.heap.size, 0, none⟩ (.int .i64 y0)).setCell ⟨w5.heap.size, 1, none⟩ (.int .i64 y1))) := Lib.hid (belN HB.out HN'.out _ _); replace HX1 := Lib.hid (farN HX1.out HN'.out (.int .i64 y0) (.int .i64 y1)); generalize ((w8.setCell ⟨w5.heap.size, 0, none⟩ (.int .i64 y0)).setCell ⟨w5.heap.size, 1, none⟩ (.int .i64 y1)) = wz at HZ HB HX1 ⊢; generalize w5.heap.size = gz at HZ ⊢; clear HN HN' q0 fz0 q1 fz1) | (have HN' : Hid (W.heap.size < w6.heap.size) := HN; replace HZ : Hid (Bx ((w8.setCell ⟨w6.heap.size, 0, none⟩ (.int .i64 y0)).setCell ⟨w6.heap.size, 1, none⟩ (.int .i64 y1)) w6.heap.size 40 #[.int .i64 y0, .int .i64 y1]) := Lib.hid (setN HZ.out _ _); replace HB : Hid (Below W.heap.size W ((w8.setCell ⟨w6.heap.size, 0, none⟩ (.int .i64 y0)).setCell ⟨w6.heap.size, 1, none⟩ (.int .i64 y1))) := Lib.hid (belN HB.out HN'.out _ _); replace HX1 := Lib.hid (farN HX1.out HN'.out (.int .i64 y0) (.int .i64 y1)); generalize ((w8.setCell ⟨w6.heap.size, 0, none⟩ (.int .i64 y0)).setCell ⟨w6.heap.size, 1, none⟩ (.int .i64 y1)) = wz at HZ HB HX1 ⊢; generalize w6.heap.size = gz at HZ ⊢; clear HN HN' q0 fz0 q1 fz1) | (have HN' : Hid (W.heap.size < w7.heap.size) := HN; replace HZ : Hid (Bx ((w8.setCell ⟨w7.heap.size, 0, none⟩ (.int .i64 y0)).setCell ⟨w7.heap.size, 1, none⟩ (.int .i64 y1)) w7.heap.size 40 #[.int .i64 y0, .int .i64 y1]) := Lib.hid (setN HZ.out _ _); replace HB : Hid (Below W.heap.size W ((w8.setCell ⟨w7.heap.size, 0, none⟩ (.int .i64 y0)).setCell ⟨w7.heap.size, 1, none⟩ (.int .i64 y1))) := Lib.hid (belN HB.out HN'.out _ _); replace HX1 := Lib.hid (farN HX1.out HN'.out (.int .i64 y0) (.int .i64 y1)); generalize ((w8.setCell ⟨w7.heap.size, 0, none⟩ (.int .i64 y0)).setCell ⟨w7.heap.size, 1, none⟩ (.int .i64 y1)) = wz at HZ HB HX1 ⊢; generalize w7.heap.size = gz at HZ ⊢; clear HN HN' q0 fz0 q1 fz1) | (have HZ := Lib.hid (Bx.new w8 40 #[.int .i64 y0, .int .i64 y1]); replace HB := Lib.hid (HB.out.alloc HB.out.size (.cells #[.int .i64 y0, .int .i64 y1] 40)); replace HX1 := Lib.hid (HX1.out.alloc (.cells #[.int .i64 y0, .int .i64 y1] 40)); generalize w8.alloc (.cells #[.int .i64 y0, .int .i64 y1] 40) = wz at HZ HB HX1 ⊢; generalize w8.heap.size = gz at HZ ⊢)
    go_wp2_with fail
    refine (SlAuthority.to_any _ _ _ _ _ (HP0.out.below HB.out).rdS (by omega)).mono ?_
    rintro e w9 ⟨qHU0, mHU0, dHU0, rfl, ho, hb⟩
    replace HB := Lib.hid (below_on HB.out hb)
    replace HX1 := Lib.hid (HX1.out.below hb)
    replace HZ := Lib.hid (HZ.out.below hb)
    have HU0 := Lib.hid (RdD.ofOwS ho HP0.out.allP)
    obtain rfl : n0 = mHU0 := HP0.out.len.symm.trans HU0.out.len
    clear ho
    clear hb
    obtain ⟨i0, i1, i2, i3, i4⟩ := DpRenewal.bxc HX1.out
    go_wp2_with fail
    refine (DpRenewal.to_any _ _ _ _ _ _ _ _ _ _ _ _ (HP1_3.out.below HB.out) (HP1_4.out.below HB.out) (by rw [HM1.out]; omega)).mono ?_
    rintro e w10 ⟨qHU1_0, dHU1_0, qHU1_1, dHU1_1, rfl, ho0, ho1, hb⟩
    replace HB := Lib.hid (below_on HB.out hb)
    replace HX1 := Lib.hid (HX1.out.below hb)
    replace HZ := Lib.hid (HZ.out.below hb)
    replace HU0 := Lib.hid (HU0.out.below hb)
    have HU1_0 := Lib.hid ho0
    have HU1_1 := Lib.hid ho1
    clear ho0 ho1
    clear hb
    clear i0 i1 i2 i3 i4
    have HS1 := Lib.hid (Bx.new w10 57 #[.int .i64 x1_0, .int .i64 x1_1, .int .i64 x1_2, .slice qHU1_0 n1_3 dHU1_0, .slice qHU1_1 n1_4 dHU1_1])
    have lHS1 := HS1.out.lt
    replace HB := Lib.hid (HB.out.alloc HB.out.size (.cells #[.int .i64 x1_0, .int .i64 x1_1, .int .i64 x1_2, .slice qHU1_0 n1_3 dHU1_0, .slice qHU1_1 n1_4 dHU1_1] 57))
    replace HX1 := Lib.hid (HX1.out.alloc (.cells #[.int .i64 x1_0, .int .i64 x1_1, .int .i64 x1_2, .slice qHU1_0 n1_3 dHU1_0, .slice qHU1_1 n1_4 dHU1_1] 57))
    replace HZ := Lib.hid (HZ.out.alloc (.cells #[.int .i64 x1_0, .int .i64 x1_1, .int .i64 x1_2, .slice qHU1_0 n1_3 dHU1_0, .slice qHU1_1 n1_4 dHU1_1] 57))
    replace HU0 := Lib.hid (HU0.out.alloc (.cells #[.int .i64 x1_0, .int .i64 x1_1, .int .i64 x1_2, .slice qHU1_0 n1_3 dHU1_0, .slice qHU1_1 n1_4 dHU1_1] 57))
    replace HU1_0 := Lib.hid (HU1_0.out.alloc (.cells #[.int .i64 x1_0, .int .i64 x1_1, .int .i64 x1_2, .slice qHU1_0 n1_3 dHU1_0, .slice qHU1_1 n1_4 dHU1_1] 57))
    replace HU1_1 := Lib.hid (HU1_1.out.alloc (.cells #[.int .i64 x1_0, .int .i64 x1_1, .int .i64 x1_2, .slice qHU1_0 n1_3 dHU1_0, .slice qHU1_1 n1_4 dHU1_1] 57))
    obtain ⟨k1_0, k1_1, k1_2, k1_3, k1_4⟩ := DpRenewal.bxc HS1.out
    go_wp2_with fail
    refine (Rsp.span_any _ _ _ l0 x1_0 x1_1 x1_2 _ _ _ _ _ _ l1_4 x2 XB2.out y0 y1 bM HMd.out _ HU0.out.rdS HU1_1.out.rdS sn1_4).mono ?_
    rintro e w11 ⟨rfl, hb⟩
    replace HB := Lib.hid (below_on HB.out hb)
    replace HX1 := Lib.hid (HX1.out.below hb)
    replace HZ := Lib.hid (HZ.out.below hb)
    replace HU0 := Lib.hid (HU0.out.below hb)
    replace HU1_0 := Lib.hid (HU1_0.out.below hb)
    replace HU1_1 := Lib.hid (HU1_1.out.below hb)
    replace HS1 := Lib.hid (HS1.out.below hb)
    clear hb
    clear k1_0 k1_1 k1_2 k1_3 k1_4
    have HG := Lib.hid (Bx.new w11 40 #[.int .i64 y0, .int .i64 y1])
    have lHG := HG.out.lt
    replace HB := Lib.hid (HB.out.alloc HB.out.size (.cells #[.int .i64 y0, .int .i64 y1] 40))
    replace HX1 := Lib.hid (HX1.out.alloc (.cells #[.int .i64 y0, .int .i64 y1] 40))
    replace HZ := Lib.hid (HZ.out.alloc (.cells #[.int .i64 y0, .int .i64 y1] 40))
    replace HU0 := Lib.hid (HU0.out.alloc (.cells #[.int .i64 y0, .int .i64 y1] 40))
    replace HU1_0 := Lib.hid (HU1_0.out.alloc (.cells #[.int .i64 y0, .int .i64 y1] 40))
    replace HU1_1 := Lib.hid (HU1_1.out.alloc (.cells #[.int .i64 y0, .int .i64 y1] 40))
    replace HS1 := Lib.hid (HS1.out.alloc (.cells #[.int .i64 y0, .int .i64 y1] 40))
    obtain ⟨g0_, g1_⟩ := SlSpan.bxc HG.out
    obtain ⟨o0_, o1_⟩ := SlSpan.bxc HZ.out
    go_wp2_with fail
    refine (SlSpan.same_any _ _ _).mono ?_
    rintro e w12 ⟨rfl, hb⟩
    replace HB := Lib.hid (below_on HB.out hb)
    replace HX1 := Lib.hid (HX1.out.below hb)
    replace HZ := Lib.hid (HZ.out.below hb)
    replace HU0 := Lib.hid (HU0.out.below hb)
    replace HU1_0 := Lib.hid (HU1_0.out.below hb)
    replace HU1_1 := Lib.hid (HU1_1.out.below hb)
    replace HS1 := Lib.hid (HS1.out.below hb)
    replace HG := Lib.hid (HG.out.below hb)
    clear hb
    clear g0_ o0_ g1_ o1_
    clear HZ
    clear HG
    go_wp2_with fail
    refine (SlAuthority.to_any _ _ _ _ _ (HP0.out.below HB.out).rdS (by omega)).mono ?_
    rintro e w13 ⟨qHY0, mHY0, dHY0, rfl, ho, hb⟩
    replace HB := Lib.hid (below_on HB.out hb)
    replace HX1 := Lib.hid (HX1.out.below hb)
    replace HU0 := Lib.hid (HU0.out.below hb)
    replace HU1_0 := Lib.hid (HU1_0.out.below hb)
    replace HU1_1 := Lib.hid (HU1_1.out.below hb)
    replace HS1 := Lib.hid (HS1.out.below hb)
    have HY0 := Lib.hid (RdD.ofOwS ho HP0.out.allP)
    obtain rfl : n0 = mHY0 := HP0.out.len.symm.trans HY0.out.len
    clear ho
    clear hb
    go_wp2_with fail
    refine (SlAuthority.eq_any _ _ _ _ _ _ _ HU0.out.rdS HY0.out.rdS).mono ?_
    rintro e w14 ⟨rfl, hb⟩
    replace HB := Lib.hid (below_on HB.out hb)
    replace HX1 := Lib.hid (HX1.out.below hb)
    replace HU0 := Lib.hid (HU0.out.below hb)
    replace HU1_0 := Lib.hid (HU1_0.out.below hb)
    replace HU1_1 := Lib.hid (HU1_1.out.below hb)
    replace HS1 := Lib.hid (HS1.out.below hb)
    replace HY0 := Lib.hid (HY0.out.below hb)
    clear hb
    clear HY0
    obtain ⟨j0_0, j0_1, j0_2, j0_3, j0_4⟩ := DpRenewal.bxc HS1.out
    obtain ⟨j1_0, j1_1, j1_2, j1_3, j1_4⟩ := DpRenewal.bxc HX1.out
    go_wp2_with fail
    replace HB := Lib.hid (drewB HB.out)
    replace HX1 := Lib.hid (HX1.out.below (drewB (Below.refl _ _)))
    replace HU0 := Lib.hid (HU0.out.below (drewB (Below.refl _ _)))
    replace HU1_0 := Lib.hid (HU1_0.out.below (drewB (Below.refl _ _)))
    replace HU1_1 := Lib.hid (HU1_1.out.below (drewB (Below.refl _ _)))
    replace HS1 := Lib.hid (HS1.out.below (drewB (Below.refl _ _)))
    go_region_held3 (fun w' => (w'.cell? ⟨w10.heap.size, 0, none⟩ = some (.int .i64 x1_0) ∧ w'.cell? ⟨w10.heap.size, 1, none⟩ = some (.int .i64 x1_1) ∧ w'.cell? ⟨w10.heap.size, 2, none⟩ = some (.int .i64 x1_2) ∧ w'.cell? ⟨w10.heap.size, 3, none⟩ = some (.slice qHU1_0 n1_3 dHU1_0) ∧ w'.cell? ⟨w10.heap.size, 4, none⟩ = some (.slice qHU1_1 n1_4 dHU1_1)) ∧ w'.cell? ⟨W.heap.size, 0, none⟩ = some (.int .i64 x1_0) ∧ w'.cell? ⟨W.heap.size, 1, none⟩ = some (.int .i64 x1_1) ∧ w'.cell? ⟨W.heap.size, 2, none⟩ = some (.int .i64 x1_2) ∧ w'.cell? ⟨W.heap.size, 3, none⟩ = some (.slice p1_3 n1_3 c1_3) ∧ w'.cell? ⟨W.heap.size, 4, none⟩ = some (.slice p1_4 n1_4 c1_4)) (first | exact ⟨DpRenewal.bxc HS1.out, DpRenewal.bxc HX1.out⟩ | go_keep) (first | (go_at_call 32; (with_reducible refine (DpRenewal.to_any _ _ _ _ _ _ _ _ _ _ _ _ (HP1_3.out.below HB.out) (HP1_4.out.below HB.out) (by rw [HM1.out]; omega)).mono ?_); rintro e w15 ⟨qHY1_0, dHY1_0, qHY1_1, dHY1_1, rfl, ho0, ho1, hb⟩; replace HB := Lib.hid (below_on HB.out hb); replace HX1 := Lib.hid (HX1.out.below hb); replace HU0 := Lib.hid (HU0.out.below hb); replace HU1_0 := Lib.hid (HU1_0.out.below hb); replace HU1_1 := Lib.hid (HU1_1.out.below hb); replace HS1 := Lib.hid (HS1.out.below hb); have HY1_0 := Lib.hid ho0; have HY1_1 := Lib.hid ho1; clear ho0 ho1; clear hb) | (go_at_call 36; (with_reducible refine (DpRenewal.eq_any _ _ _ _ _ _ _ _ _ _ _ _ _ _ _ _ HU1_0.out HY1_0.out HU1_1.out HY1_1.out).mono ?_); rintro e w16 ⟨rfl, hb⟩; replace HB := Lib.hid (below_on HB.out hb); replace HX1 := Lib.hid (HX1.out.below hb); replace HU0 := Lib.hid (HU0.out.below hb); replace HU1_0 := Lib.hid (HU1_0.out.below hb); replace HU1_1 := Lib.hid (HU1_1.out.below hb); replace HS1 := Lib.hid (HS1.out.below hb); replace HY1_0 := Lib.hid (HY1_0.out.below hb); replace HY1_1 := Lib.hid (HY1_1.out.below hb); clear hb))
    clear j0_0 j0_1 j0_2 j0_3 j0_4
    clear j1_0 j1_1 j1_2 j1_3 j1_4
    clear HY1_0
    clear HY1_1
    go_wp2_with fail
    go_ret
    exact ⟨rfl, HB.out⟩
end Go.Proofs.Ytlgkgccmilapbaa.fnExactRenewalSpan
