/- The walk of the law FnExactMakeStamp. -/
import Derived.Test.YtkbdmocbeaejhaaSlKey
import Derived.Test.YtkbdmocbeaejhaaSlAuthority
import Derived.Test.YtkbdmocbeaejhaaSlStamp
import Derived.Test.YtkbdmocbeaejhaaKStampM
import Derived.Test.YtkbdmocbeaejhaaKStampS
import Derived.Test.YtkbdmocbeaejhaaSlB
import Derived.Test.YtkbdmocbeaejhaaSlI
import Derived.OpenShut
import Derived.Deep.RegionHeld3
namespace Go.Proofs.Ytkbdmocbeaejhaa.fnExactMakeStamp
open Go.ChangeShapes Go.WideShapes Go.ChangeAt Go.RowKit Sl St Fnd Kn SlKey Kr Ki Km Ko SlStamp Ti
theorem setN {w : World} {g : Nat} {T : TypeId} {c0 c1 c2 c3 c4 : Value} (h : Bx w g T #[c0, c1, c2, c3, c4]) (u0 u1 u2 u3 u4 : Value) : Bx (((((w.setCell ⟨g, 0, none⟩ u0).setCell ⟨g, 1, none⟩ u1).setCell ⟨g, 2, none⟩ u2).setCell ⟨g, 3, none⟩ u3).setCell ⟨g, 4, none⟩ u4) g T #[u0, u1, u2, u3, u4] := by
  have k := (((((h.set_ 0 u0).set_ 1 u1).set_ 2 u2).set_ 3 u3).set_ 4 u4)
  simp only [List.setIfInBounds_toArray, List.set_cons_zero, List.set_cons_succ] at k
  exact k
theorem farN {w : World} {g k : Nat} {T : TypeId} {cs : Array Value} (h : Bx w k T cs) (hn : k < g) (u0 u1 u2 u3 u4 : Value) : Bx (((((w.setCell ⟨g, 0, none⟩ u0).setCell ⟨g, 1, none⟩ u1).setCell ⟨g, 2, none⟩ u2).setCell ⟨g, 3, none⟩ u3).setCell ⟨g, 4, none⟩ u4) k T cs := (((((h.far (q := ⟨g, 0, none⟩) (Nat.ne_of_lt hn) _).far (q := ⟨g, 1, none⟩) (Nat.ne_of_lt hn) _).far (q := ⟨g, 2, none⟩) (Nat.ne_of_lt hn) _).far (q := ⟨g, 3, none⟩) (Nat.ne_of_lt hn) _).far (q := ⟨g, 4, none⟩) (Nat.ne_of_lt hn) _)
theorem belN {W w : World} {g : Nat} (h : Below W.heap.size W w) (hg : W.heap.size < g) (u0 u1 u2 u3 u4 : Value) : Below W.heap.size W (((((w.setCell ⟨g, 0, none⟩ u0).setCell ⟨g, 1, none⟩ u1).setCell ⟨g, 2, none⟩ u2).setCell ⟨g, 3, none⟩ u3).setCell ⟨g, 4, none⟩ u4) := (((((h.setCell (p := ⟨g, 0, none⟩) (Nat.le_of_lt hg) _).setCell (p := ⟨g, 1, none⟩) (Nat.le_of_lt hg) _).setCell (p := ⟨g, 2, none⟩) (Nat.le_of_lt hg) _).setCell (p := ⟨g, 3, none⟩) (Nat.le_of_lt hg) _).setCell (p := ⟨g, 4, none⟩) (Nat.le_of_lt hg) _)
theorem drewB {W w : World} {B : Nat} (h : Below B W w) : Below B W w.drew := below_drewN h 1
set_option maxRecDepth 100000 in
set_option maxHeartbeats 16000000 in
theorem walk {H : Type} {enc : TypeId × Value → H} (W : World) (base : Nat)
    (v0 : Value) (d0 : DataW H) (p0 : List MemPlace) (h0 : DataW.Trod enc Try.prog W 0 (fun _ => true) true 22 v0 d0 p0) (k0 : Value.okWide Try.prog W .any base 22 v0)
    (v1 : Value) (d1 : DataW H) (p1 : List MemPlace) (h1 : DataW.Trod enc Try.prog W 0 (fun _ => true) true 23 v1 d1 p1) (k1 : Value.okWide Try.prog W .any base 23 v1)
    (v2 : Value) (d2 : DataW H) (p2 : List MemPlace) (h2 : DataW.Trod enc Try.prog W 0 (fun _ => true) true 25 v2 d2 p2) (k2 : Value.okWide Try.prog W .any base 25 v2)
    (_hsz : (DataW.weightsEach Try.prog [22, 23, 25] [d0, d1, d2]).all (· ≤ reachBytes) = true) :
    Calls Try.prog 3 #[v0, v1, v2] W fun e w' => e = .returned (.bool true) ∧ Below W.heap.size W w' := by
  obtain ⟨a0, n0, c0, zs0, rfl, hr0, hg0⟩ := SlKey.open_argR h0 k0
  have HR0 := Lib.hid hr0
  have hn0 := hr0.le
  clear hr0
  clear h0 k0
  obtain ⟨a1, n1, c1, zs1, rfl, hr1, hg1⟩ := SlAuthority.open_argR h1 k1
  have HR1 := Lib.hid hr1
  have hn1 := hr1.le
  clear hr1
  clear h1 k1
  obtain ⟨x2_0, x2_1, x2_2, x2_3, x2_4, rfl, b2_0, b2_1, b2_2, b2_3, b2_4⟩ := SlStamp.open_val h2 k2
  have HG2_0 := Lib.hid b2_0
  have HG2_1 := Lib.hid b2_1
  have HG2_2 := Lib.hid b2_2
  have HG2_3 := Lib.hid b2_3
  have HG2_4 := Lib.hid b2_4
  clear b2_0 b2_1 b2_2 b2_3 b2_4
  clear h2 k2
  clear _hsz
  rcases hM : KStamp.mkd zs0 zs1 (x2_0, x2_1, x2_2, x2_3, x2_4) with ⟨⟨y0, y1, y2, y3, y4⟩, bM⟩
  have HM := Lib.hid hM
  clear hM
  have HB := Lib.hid (Below.refl W.heap.size W)
  have HX2 := Lib.hid (Bx.new W 25 #[.int .i64 x2_0, .int .i64 x2_1, .int .i64 x2_2, .int .i64 x2_3, .int .i64 x2_4])
  replace HB := Lib.hid (HB.out.alloc HB.out.size (.cells #[.int .i64 x2_0, .int .i64 x2_1, .int .i64 x2_2, .int .i64 x2_3, .int .i64 x2_4] 25))
  have lX2 := HX2.out.lt
  by_cases hbig0 : 1048576 < n0
  · go_enter Try.func3, Try.ntmps3
    go_wp2_with fail
    refine (SlKey.sz_big _ _ _ _ _ (by omega) (by omega) (by omega) hn0).mono ?_
    rintro e w0 ⟨rfl, rfl⟩
    go_wp2_with fail
    go_ret
    exact ⟨rfl, HB.out⟩
  by_cases hbig1 : 1048576 < n0 + n1
  · go_enter Try.func3, Try.ntmps3
    go_wp2_with fail
    refine (SlKey.sz_fits _ _ _ _ _ (by omega) (by omega)).mono ?_
    rintro e w0 ⟨rfl, rfl⟩
    go_wp2_with fail
    refine (SlAuthority.sz_big _ _ _ _ _ (by omega) (by omega) (by omega) hn1).mono ?_
    rintro e w0 ⟨rfl, rfl⟩
    go_wp2_with fail
    go_ret
    exact ⟨rfl, HB.out⟩
  go_enter Try.func3, Try.ntmps3
  go_wp2_with fail
  refine (SlKey.sz_fits _ _ _ _ _ (by omega) (by omega)).mono ?_
  rintro e w0 ⟨rfl, rfl⟩
  go_wp2_with fail
  refine (SlAuthority.sz_fits _ _ _ _ _ (by omega) (by omega)).mono ?_
  rintro e w0 ⟨rfl, rfl⟩
  go_wp2_with fail
  generalize W.alloc (.cells #[.int .i64 x2_0, .int .i64 x2_1, .int .i64 x2_2, .int .i64 x2_3, .int .i64 x2_4] 25) = V0 at HB HX2 ⊢
  have HBu := HB
  have HXu := HX2
  replace HB := Lib.hid (drewB HB.out)
  replace HX2 := Lib.hid HX2.out.drew1
  go_region_held3 (fun w' => w'.cell? ⟨W.heap.size, 0, none⟩ = some (.int .i64 x2_0) ∧ w'.cell? ⟨W.heap.size, 1, none⟩ = some (.int .i64 x2_1) ∧ w'.cell? ⟨W.heap.size, 2, none⟩ = some (.int .i64 x2_2) ∧ w'.cell? ⟨W.heap.size, 3, none⟩ = some (.int .i64 x2_3) ∧ w'.cell? ⟨W.heap.size, 4, none⟩ = some (.int .i64 x2_4)) (first | with_reducible exact SlStamp.bxc HX2.out | with_reducible exact SlStamp.bxc (HX2.out.alloc _) | with_reducible exact SlStamp.bxc (HXu.out.alloc _).drew1 | with_reducible exact SlStamp.bxc (farN HX2.out HN.out _ _ _ _ _)) (first | (go_at_call 18; (with_reducible refine (SlKey.to_any _ _ _ _ _ (HR0.out.below HB.out) (by omega)).mono ?_); rintro e w1 ⟨qHT0, mHT0, eHT0, rfl, ho, hb⟩; replace HZ := Lib.hid (HZ.out.below hb); replace HB := Lib.hid (below_on HB.out hb); replace HX2 := Lib.hid (HX2.out.below hb); have HT0 := Lib.hid ho; have bHT0 := HT0.out.le; obtain rfl : n0 = mHT0 := HR0.out.len.symm.trans HT0.out.len; clear ho; clear hb) | (go_at_call 18; (with_reducible refine (SlKey.to_any _ _ _ _ _ (HR0.out.below HB.out) (by omega)).mono ?_); rintro e w1 ⟨qHT0, mHT0, eHT0, rfl, ho, hb⟩; replace HB := Lib.hid (below_on HB.out hb); replace HX2 := Lib.hid (HX2.out.below hb); have HT0 := Lib.hid ho; have bHT0 := HT0.out.le; obtain rfl : n0 = mHT0 := HR0.out.len.symm.trans HT0.out.len; clear ho; clear hb) | (go_at_call 18; have HN : Hid (W.heap.size < V0.heap.size) := Lib.hid HXu.out.lt; have HZ := Lib.hid (Bx.new V0 28 #[.int .i64 0, .int .i64 0, .int .i64 0, .int .i64 0, .int .i64 0]).drew1; replace HB := Lib.hid (drewB (HBu.out.alloc HBu.out.size (.cells #[.int .i64 0, .int .i64 0, .int .i64 0, .int .i64 0, .int .i64 0] 28))); replace HX2 := Lib.hid (HXu.out.alloc (.cells #[.int .i64 0, .int .i64 0, .int .i64 0, .int .i64 0, .int .i64 0] 28)).drew1; (with_reducible refine (SlKey.to_any _ _ _ _ _ (HR0.out.below HB.out) (by omega)).mono ?_); rintro e w1 ⟨qHT0, mHT0, eHT0, rfl, ho, hb⟩; replace HZ := Lib.hid (HZ.out.below hb); replace HB := Lib.hid (below_on HB.out hb); replace HX2 := Lib.hid (HX2.out.below hb); have HT0 := Lib.hid ho; have bHT0 := HT0.out.le; obtain rfl : n0 = mHT0 := HR0.out.len.symm.trans HT0.out.len; clear ho; clear hb) | (go_at_call 19; (with_reducible refine (SlAuthority.to_any _ _ _ _ _ (HR1.out.below HB.out) (by omega)).mono ?_); rintro e w2 ⟨qHT1, mHT1, eHT1, rfl, ho, hb⟩; replace HZ := Lib.hid (HZ.out.below hb); replace HB := Lib.hid (below_on HB.out hb); replace HX2 := Lib.hid (HX2.out.below hb); replace HT0 := Lib.hid (HT0.out.below hb); have HT1 := Lib.hid ho; have bHT1 := HT1.out.le; obtain rfl : n1 = mHT1 := HR1.out.len.symm.trans HT1.out.len; clear ho; clear hb) | (go_at_call 19; (with_reducible refine (SlAuthority.to_any _ _ _ _ _ (HR1.out.below HB.out) (by omega)).mono ?_); rintro e w2 ⟨qHT1, mHT1, eHT1, rfl, ho, hb⟩; replace HB := Lib.hid (below_on HB.out hb); replace HX2 := Lib.hid (HX2.out.below hb); replace HT0 := Lib.hid (HT0.out.below hb); have HT1 := Lib.hid ho; have bHT1 := HT1.out.le; obtain rfl : n1 = mHT1 := HR1.out.len.symm.trans HT1.out.len; clear ho; clear hb) | (go_at_call 19; have HN : Hid (W.heap.size < w1.heap.size) := Lib.hid HX2.out.lt; have HZ := Lib.hid (Bx.new w1 28 #[.int .i64 0, .int .i64 0, .int .i64 0, .int .i64 0, .int .i64 0]); replace HB := Lib.hid (HB.out.alloc HB.out.size (.cells #[.int .i64 0, .int .i64 0, .int .i64 0, .int .i64 0, .int .i64 0] 28)); replace HX2 := Lib.hid (HX2.out.alloc (.cells #[.int .i64 0, .int .i64 0, .int .i64 0, .int .i64 0, .int .i64 0] 28)); replace HT0 := Lib.hid (HT0.out.alloc (.cells #[.int .i64 0, .int .i64 0, .int .i64 0, .int .i64 0, .int .i64 0] 28)); (with_reducible refine (SlAuthority.to_any _ _ _ _ _ (HR1.out.below HB.out) (by omega)).mono ?_); rintro e w2 ⟨qHT1, mHT1, eHT1, rfl, ho, hb⟩; replace HZ := Lib.hid (HZ.out.below hb); replace HB := Lib.hid (below_on HB.out hb); replace HX2 := Lib.hid (HX2.out.below hb); replace HT0 := Lib.hid (HT0.out.below hb); have HT1 := Lib.hid ho; have bHT1 := HT1.out.le; obtain rfl : n1 = mHT1 := HR1.out.len.symm.trans HT1.out.len; clear ho; clear hb) | (go_at_call 20; (with_reducible refine (SlStamp.val_any _ _ _ _ _ w2).mono ?_); rintro e w3 ⟨rfl, hb⟩; replace HZ := Lib.hid (HZ.out.below hb); replace HB := Lib.hid (below_on HB.out hb); replace HX2 := Lib.hid (HX2.out.below hb); replace HT0 := Lib.hid (HT0.out.below hb); replace HT1 := Lib.hid (HT1.out.below hb); clear hb) | (go_at_call 20; (with_reducible refine (SlStamp.val_any _ _ _ _ _ w2).mono ?_); rintro e w3 ⟨rfl, hb⟩; replace HB := Lib.hid (below_on HB.out hb); replace HX2 := Lib.hid (HX2.out.below hb); replace HT0 := Lib.hid (HT0.out.below hb); replace HT1 := Lib.hid (HT1.out.below hb); clear hb) | (go_at_call 20; have HN : Hid (W.heap.size < w2.heap.size) := Lib.hid HX2.out.lt; have HZ := Lib.hid (Bx.new w2 28 #[.int .i64 0, .int .i64 0, .int .i64 0, .int .i64 0, .int .i64 0]); replace HB := Lib.hid (HB.out.alloc HB.out.size (.cells #[.int .i64 0, .int .i64 0, .int .i64 0, .int .i64 0, .int .i64 0] 28)); replace HX2 := Lib.hid (HX2.out.alloc (.cells #[.int .i64 0, .int .i64 0, .int .i64 0, .int .i64 0, .int .i64 0] 28)); replace HT0 := Lib.hid (HT0.out.alloc (.cells #[.int .i64 0, .int .i64 0, .int .i64 0, .int .i64 0, .int .i64 0] 28)); replace HT1 := Lib.hid (HT1.out.alloc (.cells #[.int .i64 0, .int .i64 0, .int .i64 0, .int .i64 0, .int .i64 0] 28)); (with_reducible refine (SlStamp.val_any _ _ _ _ _ (w2.alloc (.cells #[.int .i64 0, .int .i64 0, .int .i64 0, .int .i64 0, .int .i64 0] 28))).mono ?_); rintro e w3 ⟨rfl, hb⟩; replace HZ := Lib.hid (HZ.out.below hb); replace HB := Lib.hid (below_on HB.out hb); replace HX2 := Lib.hid (HX2.out.below hb); replace HT0 := Lib.hid (HT0.out.below hb); replace HT1 := Lib.hid (HT1.out.below hb); clear hb) | (go_at_call 17; (with_reducible refine (KStampS.spec_make_any _ _ _ _ hg0 _ _ _ zs1 _ _ _ _ _ HG2_0.out HG2_1.out HG2_2.out HG2_3.out HG2_4.out y0 y1 y2 y3 y4 bM HM.out w3 HT0.out.rd HT1.out.rd).mono ?_); rintro e w4 ⟨rfl, hb⟩; replace HZ := Lib.hid (HZ.out.below hb); replace HB := Lib.hid (below_on HB.out hb); replace HX2 := Lib.hid (HX2.out.below hb); replace HT0 := Lib.hid (HT0.out.below hb); replace HT1 := Lib.hid (HT1.out.below hb); obtain ⟨q0, q1, q2, q3, q4⟩ := SlStamp.bxc HZ.out; have fz0 := HZ.out.free 0; have fz1 := HZ.out.free 1; have fz2 := HZ.out.free 2; have fz3 := HZ.out.free 3; have fz4 := HZ.out.free 4; clear hb) | (go_at_call 17; (with_reducible refine (KStampS.spec_make_any _ _ _ _ hg0 _ _ _ zs1 _ _ _ _ _ HG2_0.out HG2_1.out HG2_2.out HG2_3.out HG2_4.out y0 y1 y2 y3 y4 bM HM.out w3 HT0.out.rd HT1.out.rd).mono ?_); rintro e w4 ⟨rfl, hb⟩; replace HB := Lib.hid (below_on HB.out hb); replace HX2 := Lib.hid (HX2.out.below hb); replace HT0 := Lib.hid (HT0.out.below hb); replace HT1 := Lib.hid (HT1.out.below hb); clear hb) | (go_at_call 17; have HN : Hid (W.heap.size < w3.heap.size) := Lib.hid HX2.out.lt; have HZ := Lib.hid (Bx.new w3 28 #[.int .i64 0, .int .i64 0, .int .i64 0, .int .i64 0, .int .i64 0]); replace HB := Lib.hid (HB.out.alloc HB.out.size (.cells #[.int .i64 0, .int .i64 0, .int .i64 0, .int .i64 0, .int .i64 0] 28)); replace HX2 := Lib.hid (HX2.out.alloc (.cells #[.int .i64 0, .int .i64 0, .int .i64 0, .int .i64 0, .int .i64 0] 28)); replace HT0 := Lib.hid (HT0.out.alloc (.cells #[.int .i64 0, .int .i64 0, .int .i64 0, .int .i64 0, .int .i64 0] 28)); replace HT1 := Lib.hid (HT1.out.alloc (.cells #[.int .i64 0, .int .i64 0, .int .i64 0, .int .i64 0, .int .i64 0] 28)); (with_reducible refine (KStampS.spec_make_any _ _ _ _ hg0 _ _ _ zs1 _ _ _ _ _ HG2_0.out HG2_1.out HG2_2.out HG2_3.out HG2_4.out y0 y1 y2 y3 y4 bM HM.out (w3.alloc (.cells #[.int .i64 0, .int .i64 0, .int .i64 0, .int .i64 0, .int .i64 0] 28)) HT0.out.rd HT1.out.rd).mono ?_); rintro e w4 ⟨rfl, hb⟩; replace HZ := Lib.hid (HZ.out.below hb); replace HB := Lib.hid (below_on HB.out hb); replace HX2 := Lib.hid (HX2.out.below hb); replace HT0 := Lib.hid (HT0.out.below hb); replace HT1 := Lib.hid (HT1.out.below hb); obtain ⟨q0, q1, q2, q3, q4⟩ := SlStamp.bxc HZ.out; have fz0 := HZ.out.free 0; have fz1 := HZ.out.free 1; have fz2 := HZ.out.free 2; have fz3 := HZ.out.free 3; have fz4 := HZ.out.free 4; clear hb))
  all_goals
    clear HBu HXu
    clear HT0
    clear HT1
    first | (have HN' : Hid (W.heap.size < V0.heap.size) := HN; replace HZ : Hid (Bx (((((w4.setCell ⟨V0.heap.size, 0, none⟩ (.int .i64 y0)).setCell ⟨V0.heap.size, 1, none⟩ (.int .i64 y1)).setCell ⟨V0.heap.size, 2, none⟩ (.int .i64 y2)).setCell ⟨V0.heap.size, 3, none⟩ (.int .i64 y3)).setCell ⟨V0.heap.size, 4, none⟩ (.int .i64 y4)) V0.heap.size 28 #[.int .i64 y0, .int .i64 y1, .int .i64 y2, .int .i64 y3, .int .i64 y4]) := Lib.hid (setN HZ.out _ _ _ _ _); replace HB : Hid (Below W.heap.size W (((((w4.setCell ⟨V0.heap.size, 0, none⟩ (.int .i64 y0)).setCell ⟨V0.heap.size, 1, none⟩ (.int .i64 y1)).setCell ⟨V0.heap.size, 2, none⟩ (.int .i64 y2)).setCell ⟨V0.heap.size, 3, none⟩ (.int .i64 y3)).setCell ⟨V0.heap.size, 4, none⟩ (.int .i64 y4))) := Lib.hid (belN HB.out HN'.out _ _ _ _ _); replace HX2 : Hid (Bx (((((w4.setCell ⟨V0.heap.size, 0, none⟩ (.int .i64 y0)).setCell ⟨V0.heap.size, 1, none⟩ (.int .i64 y1)).setCell ⟨V0.heap.size, 2, none⟩ (.int .i64 y2)).setCell ⟨V0.heap.size, 3, none⟩ (.int .i64 y3)).setCell ⟨V0.heap.size, 4, none⟩ (.int .i64 y4)) W.heap.size _ _) := Lib.hid (farN HX2.out HN'.out _ _ _ _ _); generalize (((((w4.setCell ⟨V0.heap.size, 0, none⟩ (.int .i64 y0)).setCell ⟨V0.heap.size, 1, none⟩ (.int .i64 y1)).setCell ⟨V0.heap.size, 2, none⟩ (.int .i64 y2)).setCell ⟨V0.heap.size, 3, none⟩ (.int .i64 y3)).setCell ⟨V0.heap.size, 4, none⟩ (.int .i64 y4)) = wz at HZ HB HX2 ⊢; generalize V0.heap.size = gz at HZ ⊢; clear HN HN' q0 fz0 q1 fz1 q2 fz2 q3 fz3 q4 fz4) | (have HN' : Hid (W.heap.size < w1.heap.size) := HN; replace HZ : Hid (Bx (((((w4.setCell ⟨w1.heap.size, 0, none⟩ (.int .i64 y0)).setCell ⟨w1.heap.size, 1, none⟩ (.int .i64 y1)).setCell ⟨w1.heap.size, 2, none⟩ (.int .i64 y2)).setCell ⟨w1.heap.size, 3, none⟩ (.int .i64 y3)).setCell ⟨w1.heap.size, 4, none⟩ (.int .i64 y4)) w1.heap.size 28 #[.int .i64 y0, .int .i64 y1, .int .i64 y2, .int .i64 y3, .int .i64 y4]) := Lib.hid (setN HZ.out _ _ _ _ _); replace HB : Hid (Below W.heap.size W (((((w4.setCell ⟨w1.heap.size, 0, none⟩ (.int .i64 y0)).setCell ⟨w1.heap.size, 1, none⟩ (.int .i64 y1)).setCell ⟨w1.heap.size, 2, none⟩ (.int .i64 y2)).setCell ⟨w1.heap.size, 3, none⟩ (.int .i64 y3)).setCell ⟨w1.heap.size, 4, none⟩ (.int .i64 y4))) := Lib.hid (belN HB.out HN'.out _ _ _ _ _); replace HX2 : Hid (Bx (((((w4.setCell ⟨w1.heap.size, 0, none⟩ (.int .i64 y0)).setCell ⟨w1.heap.size, 1, none⟩ (.int .i64 y1)).setCell ⟨w1.heap.size, 2, none⟩ (.int .i64 y2)).setCell ⟨w1.heap.size, 3, none⟩ (.int .i64 y3)).setCell ⟨w1.heap.size, 4, none⟩ (.int .i64 y4)) W.heap.size _ _) := Lib.hid (farN HX2.out HN'.out _ _ _ _ _); generalize (((((w4.setCell ⟨w1.heap.size, 0, none⟩ (.int .i64 y0)).setCell ⟨w1.heap.size, 1, none⟩ (.int .i64 y1)).setCell ⟨w1.heap.size, 2, none⟩ (.int .i64 y2)).setCell ⟨w1.heap.size, 3, none⟩ (.int .i64 y3)).setCell ⟨w1.heap.size, 4, none⟩ (.int .i64 y4)) = wz at HZ HB HX2 ⊢; generalize w1.heap.size = gz at HZ ⊢; clear HN HN' q0 fz0 q1 fz1 q2 fz2 q3 fz3 q4 fz4) | (have HN' : Hid (W.heap.size < w2.heap.size) := HN; replace HZ : Hid (Bx (((((w4.setCell ⟨w2.heap.size, 0, none⟩ (.int .i64 y0)).setCell ⟨w2.heap.size, 1, none⟩ (.int .i64 y1)).setCell ⟨w2.heap.size, 2, none⟩ (.int .i64 y2)).setCell ⟨w2.heap.size, 3, none⟩ (.int .i64 y3)).setCell ⟨w2.heap.size, 4, none⟩ (.int .i64 y4)) w2.heap.size 28 #[.int .i64 y0, .int .i64 y1, .int .i64 y2, .int .i64 y3, .int .i64 y4]) := Lib.hid (setN HZ.out _ _ _ _ _); replace HB : Hid (Below W.heap.size W (((((w4.setCell ⟨w2.heap.size, 0, none⟩ (.int .i64 y0)).setCell ⟨w2.heap.size, 1, none⟩ (.int .i64 y1)).setCell ⟨w2.heap.size, 2, none⟩ (.int .i64 y2)).setCell ⟨w2.heap.size, 3, none⟩ (.int .i64 y3)).setCell ⟨w2.heap.size, 4, none⟩ (.int .i64 y4))) := Lib.hid (belN HB.out HN'.out _ _ _ _ _); replace HX2 : Hid (Bx (((((w4.setCell ⟨w2.heap.size, 0, none⟩ (.int .i64 y0)).setCell ⟨w2.heap.size, 1, none⟩ (.int .i64 y1)).setCell ⟨w2.heap.size, 2, none⟩ (.int .i64 y2)).setCell ⟨w2.heap.size, 3, none⟩ (.int .i64 y3)).setCell ⟨w2.heap.size, 4, none⟩ (.int .i64 y4)) W.heap.size _ _) := Lib.hid (farN HX2.out HN'.out _ _ _ _ _); generalize (((((w4.setCell ⟨w2.heap.size, 0, none⟩ (.int .i64 y0)).setCell ⟨w2.heap.size, 1, none⟩ (.int .i64 y1)).setCell ⟨w2.heap.size, 2, none⟩ (.int .i64 y2)).setCell ⟨w2.heap.size, 3, none⟩ (.int .i64 y3)).setCell ⟨w2.heap.size, 4, none⟩ (.int .i64 y4)) = wz at HZ HB HX2 ⊢; generalize w2.heap.size = gz at HZ ⊢; clear HN HN' q0 fz0 q1 fz1 q2 fz2 q3 fz3 q4 fz4) | (have HN' : Hid (W.heap.size < w3.heap.size) := HN; replace HZ : Hid (Bx (((((w4.setCell ⟨w3.heap.size, 0, none⟩ (.int .i64 y0)).setCell ⟨w3.heap.size, 1, none⟩ (.int .i64 y1)).setCell ⟨w3.heap.size, 2, none⟩ (.int .i64 y2)).setCell ⟨w3.heap.size, 3, none⟩ (.int .i64 y3)).setCell ⟨w3.heap.size, 4, none⟩ (.int .i64 y4)) w3.heap.size 28 #[.int .i64 y0, .int .i64 y1, .int .i64 y2, .int .i64 y3, .int .i64 y4]) := Lib.hid (setN HZ.out _ _ _ _ _); replace HB : Hid (Below W.heap.size W (((((w4.setCell ⟨w3.heap.size, 0, none⟩ (.int .i64 y0)).setCell ⟨w3.heap.size, 1, none⟩ (.int .i64 y1)).setCell ⟨w3.heap.size, 2, none⟩ (.int .i64 y2)).setCell ⟨w3.heap.size, 3, none⟩ (.int .i64 y3)).setCell ⟨w3.heap.size, 4, none⟩ (.int .i64 y4))) := Lib.hid (belN HB.out HN'.out _ _ _ _ _); replace HX2 : Hid (Bx (((((w4.setCell ⟨w3.heap.size, 0, none⟩ (.int .i64 y0)).setCell ⟨w3.heap.size, 1, none⟩ (.int .i64 y1)).setCell ⟨w3.heap.size, 2, none⟩ (.int .i64 y2)).setCell ⟨w3.heap.size, 3, none⟩ (.int .i64 y3)).setCell ⟨w3.heap.size, 4, none⟩ (.int .i64 y4)) W.heap.size _ _) := Lib.hid (farN HX2.out HN'.out _ _ _ _ _); generalize (((((w4.setCell ⟨w3.heap.size, 0, none⟩ (.int .i64 y0)).setCell ⟨w3.heap.size, 1, none⟩ (.int .i64 y1)).setCell ⟨w3.heap.size, 2, none⟩ (.int .i64 y2)).setCell ⟨w3.heap.size, 3, none⟩ (.int .i64 y3)).setCell ⟨w3.heap.size, 4, none⟩ (.int .i64 y4)) = wz at HZ HB HX2 ⊢; generalize w3.heap.size = gz at HZ ⊢; clear HN HN' q0 fz0 q1 fz1 q2 fz2 q3 fz3 q4 fz4) | (have HZ := Lib.hid (Bx.new w4 28 #[.int .i64 y0, .int .i64 y1, .int .i64 y2, .int .i64 y3, .int .i64 y4]); replace HB := Lib.hid (HB.out.alloc HB.out.size (.cells #[.int .i64 y0, .int .i64 y1, .int .i64 y2, .int .i64 y3, .int .i64 y4] 28)); replace HX2 := Lib.hid (HX2.out.alloc (.cells #[.int .i64 y0, .int .i64 y1, .int .i64 y2, .int .i64 y3, .int .i64 y4] 28)); generalize w4.alloc (.cells #[.int .i64 y0, .int .i64 y1, .int .i64 y2, .int .i64 y3, .int .i64 y4] 28) = wz at HZ HB HX2 ⊢; generalize w4.heap.size = gz at HZ ⊢)
    go_wp2_with fail
    refine (SlKey.to_any _ _ _ _ _ (HR0.out.below HB.out) (by omega)).mono ?_
    rintro e w5 ⟨qHK0, mHK0, eHK0, rfl, ho, hb⟩
    replace HB := Lib.hid (below_on HB.out hb)
    replace HX2 := Lib.hid (HX2.out.below hb)
    replace HZ := Lib.hid (HZ.out.below hb)
    have HK0 := Lib.hid ho
    have bHK0 := HK0.out.le
    obtain rfl : n0 = mHK0 := HR0.out.len.symm.trans HK0.out.len
    clear ho hb
    go_wp2_with fail
    refine (SlAuthority.to_any _ _ _ _ _ (HR1.out.below HB.out) (by omega)).mono ?_
    rintro e w6 ⟨qHK1, mHK1, eHK1, rfl, ho, hb⟩
    replace HB := Lib.hid (below_on HB.out hb)
    replace HX2 := Lib.hid (HX2.out.below hb)
    replace HZ := Lib.hid (HZ.out.below hb)
    replace HK0 := Lib.hid (HK0.out.below hb)
    have HK1 := Lib.hid ho
    have bHK1 := HK1.out.le
    obtain rfl : n1 = mHK1 := HR1.out.len.symm.trans HK1.out.len
    clear ho hb
    obtain ⟨cc0, cc1, cc2, cc3, cc4⟩ := SlStamp.bxc HX2.out
    go_wp2_with fail
    refine (SlStamp.val_any _ _ _ _ _ _).mono ?_
    rintro e w7 ⟨rfl, hb⟩
    replace HB := Lib.hid (below_on HB.out hb)
    replace HX2 := Lib.hid (HX2.out.below hb)
    replace HZ := Lib.hid (HZ.out.below hb)
    replace HK0 := Lib.hid (HK0.out.below hb)
    replace HK1 := Lib.hid (HK1.out.below hb)
    clear hb
    clear cc0 cc1 cc2 cc3 cc4
    go_wp2_with fail
    refine (KStampM.make_any _ _ _ _ hg0 _ _ _ zs1 hg1 _ _ _ _ _ HG2_0.out HG2_1.out HG2_2.out HG2_3.out HG2_4.out y0 y1 y2 y3 y4 bM HM.out _ HK0.out.rd HK1.out.rd).mono ?_
    rintro e w8 ⟨rfl, hb⟩
    replace HB := Lib.hid (below_on HB.out hb)
    replace HX2 := Lib.hid (HX2.out.below hb)
    replace HZ := Lib.hid (HZ.out.below hb)
    replace HK0 := Lib.hid (HK0.out.below hb)
    replace HK1 := Lib.hid (HK1.out.below hb)
    clear hb
    have HQ := Lib.hid (Bx.new w8 28 #[.int .i64 y0, .int .i64 y1, .int .i64 y2, .int .i64 y3, .int .i64 y4])
    replace HB := Lib.hid (HB.out.alloc HB.out.size (.cells #[.int .i64 y0, .int .i64 y1, .int .i64 y2, .int .i64 y3, .int .i64 y4] 28))
    replace HX2 := Lib.hid (HX2.out.alloc (.cells #[.int .i64 y0, .int .i64 y1, .int .i64 y2, .int .i64 y3, .int .i64 y4] 28))
    replace HZ := Lib.hid (HZ.out.alloc (.cells #[.int .i64 y0, .int .i64 y1, .int .i64 y2, .int .i64 y3, .int .i64 y4] 28))
    replace HK0 := Lib.hid (HK0.out.alloc (.cells #[.int .i64 y0, .int .i64 y1, .int .i64 y2, .int .i64 y3, .int .i64 y4] 28))
    replace HK1 := Lib.hid (HK1.out.alloc (.cells #[.int .i64 y0, .int .i64 y1, .int .i64 y2, .int .i64 y3, .int .i64 y4] 28))
    obtain ⟨q0, q1, q2, q3, q4⟩ := SlStamp.bxc HQ.out
    obtain ⟨r0, r1, r2, r3, r4⟩ := SlStamp.bxc HZ.out
    go_wp2_with fail
    refine (SlStamp.same_any y0 y1 y2 y3 y4 _).mono ?_
    rintro e w9 ⟨rfl, hb⟩
    replace HB := Lib.hid (below_on HB.out hb)
    replace HX2 := Lib.hid (HX2.out.below hb)
    replace HZ := Lib.hid (HZ.out.below hb)
    replace HK0 := Lib.hid (HK0.out.below hb)
    replace HK1 := Lib.hid (HK1.out.below hb)
    replace HQ := Lib.hid (HQ.out.below hb)
    clear hb
    clear q0 r0 q1 r1 q2 r2 q3 r3 q4 r4
    clear HQ
    clear HZ
    go_wp2_with fail
    refine (SlKey.to_any _ _ _ _ _ (HR0.out.below HB.out) (by omega)).mono ?_
    rintro e w10 ⟨qHY0, mHY0, eHY0, rfl, ho, hb⟩
    replace HB := Lib.hid (below_on HB.out hb)
    replace HX2 := Lib.hid (HX2.out.below hb)
    replace HK0 := Lib.hid (HK0.out.below hb)
    replace HK1 := Lib.hid (HK1.out.below hb)
    have HY0 := Lib.hid ho
    have bHY0 := HY0.out.le
    obtain rfl : n0 = mHY0 := HR0.out.len.symm.trans HY0.out.len
    clear ho hb
    go_wp2_with fail
    refine (SlKey.eq_any _ _ _ _ _ _ _ HK0.out.rd HY0.out.rd).mono ?_
    rintro e w11 ⟨rfl, hb⟩
    replace HB := Lib.hid (below_on HB.out hb)
    replace HX2 := Lib.hid (HX2.out.below hb)
    replace HK0 := Lib.hid (HK0.out.below hb)
    replace HK1 := Lib.hid (HK1.out.below hb)
    replace HY0 := Lib.hid (HY0.out.below hb)
    clear hb
    clear HY0
    go_wp2_with fail
    refine (SlAuthority.to_any _ _ _ _ _ (HR1.out.below HB.out) (by omega)).mono ?_
    rintro e w12 ⟨qHY1, mHY1, eHY1, rfl, ho, hb⟩
    replace HB := Lib.hid (below_on HB.out hb)
    replace HX2 := Lib.hid (HX2.out.below hb)
    replace HK0 := Lib.hid (HK0.out.below hb)
    replace HK1 := Lib.hid (HK1.out.below hb)
    have HY1 := Lib.hid ho
    have bHY1 := HY1.out.le
    obtain rfl : n1 = mHY1 := HR1.out.len.symm.trans HY1.out.len
    clear ho hb
    go_wp2_with fail
    refine (SlAuthority.eq_any _ _ _ _ _ _ _ HK1.out.rd HY1.out.rd).mono ?_
    rintro e w13 ⟨rfl, hb⟩
    replace HB := Lib.hid (below_on HB.out hb)
    replace HX2 := Lib.hid (HX2.out.below hb)
    replace HK0 := Lib.hid (HK0.out.below hb)
    replace HK1 := Lib.hid (HK1.out.below hb)
    replace HY1 := Lib.hid (HY1.out.below hb)
    clear hb
    clear HY1
    go_wp2_with fail
    go_ret
    exact ⟨rfl, HB.out⟩
end Go.Proofs.Ytkbdmocbeaejhaa.fnExactMakeStamp
