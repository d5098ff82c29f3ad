/- The walk of the law FnExactMakeMandate. -/
import Derived.Test.YtkbdmocbeaejhaaSlKey
import Derived.Test.YtkbdmocbeaejhaaSlMandate
import Derived.Test.YtkbdmocbeaejhaaKMandate
import Derived.Test.YtkbdmocbeaejhaaSlB
import Derived.Test.YtkbdmocbeaejhaaSlI
import Derived.OpenShut
import Derived.Deep.RegionHeld3
namespace Go.Proofs.Ytkbdmocbeaejhaa.fnExactMakeMandate
open Go.ChangeShapes Go.WideShapes Go.ChangeAt Go.RowKit Sl St Fnd Kn SlKey Kr Ki Km Ko SlMandate Mi Mj
theorem setN {w : World} {g : Nat} {T : TypeId} {c0 c1 c2 c3 c4 c5 : Value} (h : Bx w g T #[c0, c1, c2, c3, c4, c5]) (u0 u1 u2 u3 u4 u5 : Value) : Bx ((((((w.setCell ⟨g, 0, none⟩ u0).setCell ⟨g, 1, none⟩ u1).setCell ⟨g, 2, none⟩ u2).setCell ⟨g, 3, none⟩ u3).setCell ⟨g, 4, none⟩ u4).setCell ⟨g, 5, none⟩ u5) g T #[u0, u1, u2, u3, u4, u5] := by
  have k := ((((((h.set_ 0 u0).set_ 1 u1).set_ 2 u2).set_ 3 u3).set_ 4 u4).set_ 5 u5)
  simp only [List.setIfInBounds_toArray, List.set_cons_zero, List.set_cons_succ] at k
  exact k
theorem farN {w : World} {g k : Nat} {T : TypeId} {cs : Array Value} (h : Bx w k T cs) (hn : k < g) (u0 u1 u2 u3 u4 u5 : Value) : Bx ((((((w.setCell ⟨g, 0, none⟩ u0).setCell ⟨g, 1, none⟩ u1).setCell ⟨g, 2, none⟩ u2).setCell ⟨g, 3, none⟩ u3).setCell ⟨g, 4, none⟩ u4).setCell ⟨g, 5, none⟩ u5) k T cs := ((((((h.far (q := ⟨g, 0, none⟩) (Nat.ne_of_lt hn) _).far (q := ⟨g, 1, none⟩) (Nat.ne_of_lt hn) _).far (q := ⟨g, 2, none⟩) (Nat.ne_of_lt hn) _).far (q := ⟨g, 3, none⟩) (Nat.ne_of_lt hn) _).far (q := ⟨g, 4, none⟩) (Nat.ne_of_lt hn) _).far (q := ⟨g, 5, none⟩) (Nat.ne_of_lt hn) _)
theorem belN {W w : World} {g : Nat} (h : Below W.heap.size W w) (hg : W.heap.size < g) (u0 u1 u2 u3 u4 u5 : Value) : Below W.heap.size W ((((((w.setCell ⟨g, 0, none⟩ u0).setCell ⟨g, 1, none⟩ u1).setCell ⟨g, 2, none⟩ u2).setCell ⟨g, 3, none⟩ u3).setCell ⟨g, 4, none⟩ u4).setCell ⟨g, 5, none⟩ u5) := ((((((h.setCell (p := ⟨g, 0, none⟩) (Nat.le_of_lt hg) _).setCell (p := ⟨g, 1, none⟩) (Nat.le_of_lt hg) _).setCell (p := ⟨g, 2, none⟩) (Nat.le_of_lt hg) _).setCell (p := ⟨g, 3, none⟩) (Nat.le_of_lt hg) _).setCell (p := ⟨g, 4, none⟩) (Nat.le_of_lt hg) _).setCell (p := ⟨g, 5, none⟩) (Nat.le_of_lt hg) _)
theorem drewB {W w : World} {B : Nat} (h : Below B W w) : Below B W w.drew := below_drewN h 1
set_option maxRecDepth 100000 in
set_option maxHeartbeats 16000000 in
theorem walk {H : Type} {enc : TypeId × Value → H} (W : World) (base : Nat)
    (v0 : Value) (d0 : DataW H) (p0 : List MemPlace) (h0 : DataW.Trod enc Try.prog W 0 (fun _ => true) true 22 v0 d0 p0) (k0 : Value.okWide Try.prog W .any base 22 v0)
    (v1 : Value) (d1 : DataW H) (p1 : List MemPlace) (h1 : DataW.Trod enc Try.prog W 0 (fun _ => true) true 42 v1 d1 p1) (k1 : Value.okWide Try.prog W .any base 42 v1)
    (_hsz : (DataW.weightsEach Try.prog [22, 42] [d0, d1]).all (· ≤ reachBytes) = true) :
    Calls Try.prog 7 #[v0, v1] W fun e w' => e = .returned (.bool true) ∧ Below W.heap.size W w' := by
  obtain ⟨a0, n0, c0, zs0, rfl, hr0, hg0⟩ := SlKey.open_argR h0 k0
  have HR0 := Lib.hid hr0
  have hn0 := hr0.le
  clear hr0
  clear h0 k0
  obtain ⟨x1_0, x1_1, x1_2, x1_3, x1_4, x1_5, rfl, b1_0, b1_1, b1_2, b1_3, b1_4, b1_5⟩ := SlMandate.open_val h1 k1
  have HG1_0 := Lib.hid b1_0
  have HG1_1 := Lib.hid b1_1
  have HG1_2 := Lib.hid b1_2
  have HG1_3 := Lib.hid b1_3
  have HG1_4 := Lib.hid b1_4
  have HG1_5 := Lib.hid b1_5
  clear b1_0 b1_1 b1_2 b1_3 b1_4 b1_5
  clear h1 k1
  clear _hsz
  rcases hM : KMandate.mkd zs0 (x1_0, x1_1, x1_2, x1_3, x1_4, x1_5) with ⟨⟨y0, y1, y2, y3, y4, y5⟩, bM⟩
  have HM := Lib.hid hM
  clear hM
  have HB := Lib.hid (Below.refl W.heap.size W)
  have HX1 := Lib.hid (Bx.new W 42 #[.int .i64 x1_0, .int .i64 x1_1, .int .i64 x1_2, .int .i64 x1_3, .int .i64 x1_4, .int .i64 x1_5])
  replace HB := Lib.hid (HB.out.alloc HB.out.size (.cells #[.int .i64 x1_0, .int .i64 x1_1, .int .i64 x1_2, .int .i64 x1_3, .int .i64 x1_4, .int .i64 x1_5] 42))
  have lX1 := HX1.out.lt
  by_cases hbig0 : 1048576 < n0
  · go_enter Try.func7, Try.ntmps7
    go_wp2_with fail
    refine (SlKey.sz_big _ _ _ _ _ (by omega) (by omega) (by omega) hn0).mono ?_
    rintro e w0 ⟨rfl, rfl⟩
    go_wp2_with fail
    go_ret
    exact ⟨rfl, HB.out⟩
  go_enter Try.func7, Try.ntmps7
  go_wp2_with fail
  refine (SlKey.sz_fits _ _ _ _ _ (by omega) (by omega)).mono ?_
  rintro e w0 ⟨rfl, rfl⟩
  go_wp2_with fail
  generalize W.alloc (.cells #[.int .i64 x1_0, .int .i64 x1_1, .int .i64 x1_2, .int .i64 x1_3, .int .i64 x1_4, .int .i64 x1_5] 42) = V0 at HB HX1 ⊢
  have HBu := HB
  have HXu := HX1
  replace HB := Lib.hid (drewB HB.out)
  replace HX1 := Lib.hid HX1.out.drew1
  go_region_held3 (fun w' => w'.cell? ⟨W.heap.size, 0, none⟩ = some (.int .i64 x1_0) ∧ w'.cell? ⟨W.heap.size, 1, none⟩ = some (.int .i64 x1_1) ∧ w'.cell? ⟨W.heap.size, 2, none⟩ = some (.int .i64 x1_2) ∧ w'.cell? ⟨W.heap.size, 3, none⟩ = some (.int .i64 x1_3) ∧ w'.cell? ⟨W.heap.size, 4, none⟩ = some (.int .i64 x1_4) ∧ w'.cell? ⟨W.heap.size, 5, none⟩ = some (.int .i64 x1_5)) (first | with_reducible exact SlMandate.bxc HX1.out | with_reducible exact SlMandate.bxc (HX1.out.alloc _) | with_reducible exact SlMandate.bxc (HXu.out.alloc _).drew1 | with_reducible exact SlMandate.bxc (farN HX1.out HN.out _ _ _ _ _ _)) (first | (go_at_call 18; (with_reducible refine (SlKey.to_any _ _ _ _ _ (HR0.out.below HB.out) (by omega)).mono ?_); rintro e w1 ⟨qHT0, mHT0, eHT0, rfl, ho, hb⟩; replace HZ := Lib.hid (HZ.out.below hb); replace HB := Lib.hid (below_on HB.out hb); replace HX1 := Lib.hid (HX1.out.below hb); have HT0 := Lib.hid ho; have bHT0 := HT0.out.le; obtain rfl : n0 = mHT0 := HR0.out.len.symm.trans HT0.out.len; clear ho; clear hb) | (go_at_call 18; (with_reducible refine (SlKey.to_any _ _ _ _ _ (HR0.out.below HB.out) (by omega)).mono ?_); rintro e w1 ⟨qHT0, mHT0, eHT0, rfl, ho, hb⟩; replace HB := Lib.hid (below_on HB.out hb); replace HX1 := Lib.hid (HX1.out.below hb); have HT0 := Lib.hid ho; have bHT0 := HT0.out.le; obtain rfl : n0 = mHT0 := HR0.out.len.symm.trans HT0.out.len; clear ho; clear hb) | (go_at_call 18; have HN : Hid (W.heap.size < V0.heap.size) := Lib.hid HXu.out.lt; have HZ := Lib.hid (Bx.new V0 44 #[.int .i64 0, .int .i64 0, .int .i64 0, .int .i64 0, .int .i64 0, .int .i64 0]).drew1; replace HB := Lib.hid (drewB (HBu.out.alloc HBu.out.size (.cells #[.int .i64 0, .int .i64 0, .int .i64 0, .int .i64 0, .int .i64 0, .int .i64 0] 44))); replace HX1 := Lib.hid (HXu.out.alloc (.cells #[.int .i64 0, .int .i64 0, .int .i64 0, .int .i64 0, .int .i64 0, .int .i64 0] 44)).drew1; (with_reducible refine (SlKey.to_any _ _ _ _ _ (HR0.out.below HB.out) (by omega)).mono ?_); rintro e w1 ⟨qHT0, mHT0, eHT0, rfl, ho, hb⟩; replace HZ := Lib.hid (HZ.out.below hb); replace HB := Lib.hid (below_on HB.out hb); replace HX1 := Lib.hid (HX1.out.below hb); have HT0 := Lib.hid ho; have bHT0 := HT0.out.le; obtain rfl : n0 = mHT0 := HR0.out.len.symm.trans HT0.out.len; clear ho; clear hb) | (go_at_call 28; (with_reducible refine (SlMandate.val_any _ _ _ _ _ _ w1).mono ?_); rintro e w2 ⟨rfl, hb⟩; replace HZ := Lib.hid (HZ.out.below hb); replace HB := Lib.hid (below_on HB.out hb); replace HX1 := Lib.hid (HX1.out.below hb); replace HT0 := Lib.hid (HT0.out.below hb); clear hb) | (go_at_call 28; (with_reducible refine (SlMandate.val_any _ _ _ _ _ _ w1).mono ?_); rintro e w2 ⟨rfl, hb⟩; replace HB := Lib.hid (below_on HB.out hb); replace HX1 := Lib.hid (HX1.out.below hb); replace HT0 := Lib.hid (HT0.out.below hb); clear hb) | (go_at_call 28; have HN : Hid (W.heap.size < w1.heap.size) := Lib.hid HX1.out.lt; have HZ := Lib.hid (Bx.new w1 44 #[.int .i64 0, .int .i64 0, .int .i64 0, .int .i64 0, .int .i64 0, .int .i64 0]); replace HB := Lib.hid (HB.out.alloc HB.out.size (.cells #[.int .i64 0, .int .i64 0, .int .i64 0, .int .i64 0, .int .i64 0, .int .i64 0] 44)); replace HX1 := Lib.hid (HX1.out.alloc (.cells #[.int .i64 0, .int .i64 0, .int .i64 0, .int .i64 0, .int .i64 0, .int .i64 0] 44)); replace HT0 := Lib.hid (HT0.out.alloc (.cells #[.int .i64 0, .int .i64 0, .int .i64 0, .int .i64 0, .int .i64 0, .int .i64 0] 44)); (with_reducible refine (SlMandate.val_any _ _ _ _ _ _ (w1.alloc (.cells #[.int .i64 0, .int .i64 0, .int .i64 0, .int .i64 0, .int .i64 0, .int .i64 0] 44))).mono ?_); rintro e w2 ⟨rfl, hb⟩; replace HZ := Lib.hid (HZ.out.below hb); replace HB := Lib.hid (below_on HB.out hb); replace HX1 := Lib.hid (HX1.out.below hb); replace HT0 := Lib.hid (HT0.out.below hb); clear hb) | (go_at_call 35; (with_reducible refine (KMandate.spec_make_any _ _ _ _ hg0 _ _ _ _ _ _ HG1_0.out HG1_1.out HG1_2.out HG1_3.out HG1_4.out HG1_5.out y0 y1 y2 y3 y4 y5 bM HM.out w2 HT0.out.rd).mono ?_); rintro e w3 ⟨rfl, hb⟩; replace HZ := Lib.hid (HZ.out.below hb); replace HB := Lib.hid (below_on HB.out hb); replace HX1 := Lib.hid (HX1.out.below hb); replace HT0 := Lib.hid (HT0.out.below hb); obtain ⟨q0, q1, q2, q3, q4, q5⟩ := SlMandate.bxc HZ.out; have fz0 := HZ.out.free 0; have fz1 := HZ.out.free 1; have fz2 := HZ.out.free 2; have fz3 := HZ.out.free 3; have fz4 := HZ.out.free 4; have fz5 := HZ.out.free 5; clear hb) | (go_at_call 35; (with_reducible refine (KMandate.spec_make_any _ _ _ _ hg0 _ _ _ _ _ _ HG1_0.out HG1_1.out HG1_2.out HG1_3.out HG1_4.out HG1_5.out y0 y1 y2 y3 y4 y5 bM HM.out w2 HT0.out.rd).mono ?_); rintro e w3 ⟨rfl, hb⟩; replace HB := Lib.hid (below_on HB.out hb); replace HX1 := Lib.hid (HX1.out.below hb); replace HT0 := Lib.hid (HT0.out.below hb); clear hb) | (go_at_call 35; have HN : Hid (W.heap.size < w2.heap.size) := Lib.hid HX1.out.lt; have HZ := Lib.hid (Bx.new w2 44 #[.int .i64 0, .int .i64 0, .int .i64 0, .int .i64 0, .int .i64 0, .int .i64 0]); replace HB := Lib.hid (HB.out.alloc HB.out.size (.cells #[.int .i64 0, .int .i64 0, .int .i64 0, .int .i64 0, .int .i64 0, .int .i64 0] 44)); replace HX1 := Lib.hid (HX1.out.alloc (.cells #[.int .i64 0, .int .i64 0, .int .i64 0, .int .i64 0, .int .i64 0, .int .i64 0] 44)); replace HT0 := Lib.hid (HT0.out.alloc (.cells #[.int .i64 0, .int .i64 0, .int .i64 0, .int .i64 0, .int .i64 0, .int .i64 0] 44)); (with_reducible refine (KMandate.spec_make_any _ _ _ _ hg0 _ _ _ _ _ _ HG1_0.out HG1_1.out HG1_2.out HG1_3.out HG1_4.out HG1_5.out y0 y1 y2 y3 y4 y5 bM HM.out (w2.alloc (.cells #[.int .i64 0, .int .i64 0, .int .i64 0, .int .i64 0, .int .i64 0, .int .i64 0] 44)) HT0.out.rd).mono ?_); rintro e w3 ⟨rfl, hb⟩; replace HZ := Lib.hid (HZ.out.below hb); replace HB := Lib.hid (below_on HB.out hb); replace HX1 := Lib.hid (HX1.out.below hb); replace HT0 := Lib.hid (HT0.out.below hb); obtain ⟨q0, q1, q2, q3, q4, q5⟩ := SlMandate.bxc HZ.out; have fz0 := HZ.out.free 0; have fz1 := HZ.out.free 1; have fz2 := HZ.out.free 2; have fz3 := HZ.out.free 3; have fz4 := HZ.out.free 4; have fz5 := HZ.out.free 5; clear hb))
  all_goals
    clear HBu HXu
    clear HT0
    first | (have HN' : Hid (W.heap.size < V0.heap.size) := HN; replace HZ : Hid (Bx ((((((w3.setCell ⟨V0.heap.size, 0, none⟩ (.int .i64 y0)).setCell ⟨V0.heap.size, 1, none⟩ (.int .i64 y1)).setCell ⟨V0.heap.size, 2, none⟩ (.int .i64 y2)).setCell ⟨V0.heap.size, 3, none⟩ (.int .i64 y3)).setCell ⟨V0.heap.size, 4, none⟩ (.int .i64 y4)).setCell ⟨V0.heap.size, 5, none⟩ (.int .i64 y5)) V0.heap.size 44 #[.int .i64 y0, .int .i64 y1, .int .i64 y2, .int .i64 y3, .int .i64 y4, .int .i64 y5]) := Lib.hid (setN HZ.out _ _ _ _ _ _); replace HB : Hid (Below W.heap.size W ((((((w3.setCell ⟨V0.heap.size, 0, none⟩ (.int .i64 y0)).setCell ⟨V0.heap.size, 1, none⟩ (.int .i64 y1)).setCell ⟨V0.heap.size, 2, none⟩ (.int .i64 y2)).setCell ⟨V0.heap.size, 3, none⟩ (.int .i64 y3)).setCell ⟨V0.heap.size, 4, none⟩ (.int .i64 y4)).setCell ⟨V0.heap.size, 5, none⟩ (.int .i64 y5))) := Lib.hid (belN HB.out HN'.out _ _ _ _ _ _); replace HX1 : Hid (Bx ((((((w3.setCell ⟨V0.heap.size, 0, none⟩ (.int .i64 y0)).setCell ⟨V0.heap.size, 1, none⟩ (.int .i64 y1)).setCell ⟨V0.heap.size, 2, none⟩ (.int .i64 y2)).setCell ⟨V0.heap.size, 3, none⟩ (.int .i64 y3)).setCell ⟨V0.heap.size, 4, none⟩ (.int .i64 y4)).setCell ⟨V0.heap.size, 5, none⟩ (.int .i64 y5)) W.heap.size _ _) := Lib.hid (farN HX1.out HN'.out _ _ _ _ _ _); generalize ((((((w3.setCell ⟨V0.heap.size, 0, none⟩ (.int .i64 y0)).setCell ⟨V0.heap.size, 1, none⟩ (.int .i64 y1)).setCell ⟨V0.heap.size, 2, none⟩ (.int .i64 y2)).setCell ⟨V0.heap.size, 3, none⟩ (.int .i64 y3)).setCell ⟨V0.heap.size, 4, none⟩ (.int .i64 y4)).setCell ⟨V0.heap.size, 5, none⟩ (.int .i64 y5)) = wz at HZ HB HX1 ⊢; generalize V0.heap.size = gz at HZ ⊢; clear HN HN' q0 fz0 q1 fz1 q2 fz2 q3 fz3 q4 fz4 q5 fz5) | (have HN' : Hid (W.heap.size < w1.heap.size) := HN; replace HZ : Hid (Bx ((((((w3.setCell ⟨w1.heap.size, 0, none⟩ (.int .i64 y0)).setCell ⟨w1.heap.size, 1, none⟩ (.int .i64 y1)).setCell ⟨w1.heap.size, 2, none⟩ (.int .i64 y2)).setCell ⟨w1.heap.size, 3, none⟩ (.int .i64 y3)).setCell ⟨w1.heap.size, 4, none⟩ (.int .i64 y4)).setCell ⟨w1.heap.size, 5, none⟩ (.int .i64 y5)) w1.heap.size 44 #[.int .i64 y0, .int .i64 y1, .int .i64 y2, .int .i64 y3, .int .i64 y4, .int .i64 y5]) := Lib.hid (setN HZ.out _ _ _ _ _ _); replace HB : Hid (Below W.heap.size W ((((((w3.setCell ⟨w1.heap.size, 0, none⟩ (.int .i64 y0)).setCell ⟨w1.heap.size, 1, none⟩ (.int .i64 y1)).setCell ⟨w1.heap.size, 2, none⟩ (.int .i64 y2)).setCell ⟨w1.heap.size, 3, none⟩ (.int .i64 y3)).setCell ⟨w1.heap.size, 4, none⟩ (.int .i64 y4)).setCell ⟨w1.heap.size, 5, none⟩ (.int .i64 y5))) := Lib.hid (belN HB.out HN'.out _ _ _ _ _ _); replace HX1 : Hid (Bx ((((((w3.setCell ⟨w1.heap.size, 0, none⟩ (.int .i64 y0)).setCell ⟨w1.heap.size, 1, none⟩ (.int .i64 y1)).setCell ⟨w1.heap.size, 2, none⟩ (.int .i64 y2)).setCell ⟨w1.heap.size, 3, none⟩ (.int .i64 y3)).setCell ⟨w1.heap.size, 4, none⟩ (.int .i64 y4)).setCell ⟨w1.heap.size, 5, none⟩ (.int .i64 y5)) W.heap.size _ _) := Lib.hid (farN HX1.out HN'.out _ _ _ _ _ _); generalize ((((((w3.setCell ⟨w1.heap.size, 0, none⟩ (.int .i64 y0)).setCell ⟨w1.heap.size, 1, none⟩ (.int .i64 y1)).setCell ⟨w1.heap.size, 2, none⟩ (.int .i64 y2)).setCell ⟨w1.heap.size, 3, none⟩ (.int .i64 y3)).setCell ⟨w1.heap.size, 4, none⟩ (.int .i64 y4)).setCell ⟨w1.heap.size, 5, none⟩ (.int .i64 y5)) = wz at HZ HB HX1 ⊢; generalize w1.heap.size = gz at HZ ⊢; clear HN HN' q0 fz0 q1 fz1 q2 fz2 q3 fz3 q4 fz4 q5 fz5) | (have HN' : Hid (W.heap.size < w2.heap.size) := HN; replace HZ : Hid (Bx ((((((w3.setCell ⟨w2.heap.size, 0, none⟩ (.int .i64 y0)).setCell ⟨w2.heap.size, 1, none⟩ (.int .i64 y1)).setCell ⟨w2.heap.size, 2, none⟩ (.int .i64 y2)).setCell ⟨w2.heap.size, 3, none⟩ (.int .i64 y3)).setCell ⟨w2.heap.size, 4, none⟩ (.int .i64 y4)).setCell ⟨w2.heap.size, 5, none⟩ (.int .i64 y5)) w2.heap.size 44 #[.int .i64 y0, .int .i64 y1, .int .i64 y2, .int .i64 y3, .int .i64 y4, .int .i64 y5]) := Lib.hid (setN HZ.out _ _ _ _ _ _); replace HB : Hid (Below W.heap.size W ((((((w3.setCell ⟨w2.heap.size, 0, none⟩ (.int .i64 y0)).setCell ⟨w2.heap.size, 1, none⟩ (.int .i64 y1)).setCell ⟨w2.heap.size, 2, none⟩ (.int .i64 y2)).setCell ⟨w2.heap.size, 3, none⟩ (.int .i64 y3)).setCell ⟨w2.heap.size, 4, none⟩ (.int .i64 y4)).setCell ⟨w2.heap.size, 5, none⟩ (.int .i64 y5))) := Lib.hid (belN HB.out HN'.out _ _ _ _ _ _); replace HX1 : Hid (Bx ((((((w3.setCell ⟨w2.heap.size, 0, none⟩ (.int .i64 y0)).setCell ⟨w2.heap.size, 1, none⟩ (.int .i64 y1)).setCell ⟨w2.heap.size, 2, none⟩ (.int .i64 y2)).setCell ⟨w2.heap.size, 3, none⟩ (.int .i64 y3)).setCell ⟨w2.heap.size, 4, none⟩ (.int .i64 y4)).setCell ⟨w2.heap.size, 5, none⟩ (.int .i64 y5)) W.heap.size _ _) := Lib.hid (farN HX1.out HN'.out _ _ _ _ _ _); generalize ((((((w3.setCell ⟨w2.heap.size, 0, none⟩ (.int .i64 y0)).setCell ⟨w2.heap.size, 1, none⟩ (.int .i64 y1)).setCell ⟨w2.heap.size, 2, none⟩ (.int .i64 y2)).setCell ⟨w2.heap.size, 3, none⟩ (.int .i64 y3)).setCell ⟨w2.heap.size, 4, none⟩ (.int .i64 y4)).setCell ⟨w2.heap.size, 5, none⟩ (.int .i64 y5)) = wz at HZ HB HX1 ⊢; generalize w2.heap.size = gz at HZ ⊢; clear HN HN' q0 fz0 q1 fz1 q2 fz2 q3 fz3 q4 fz4 q5 fz5) | (have HZ := Lib.hid (Bx.new w3 44 #[.int .i64 y0, .int .i64 y1, .int .i64 y2, .int .i64 y3, .int .i64 y4, .int .i64 y5]); replace HB := Lib.hid (HB.out.alloc HB.out.size (.cells #[.int .i64 y0, .int .i64 y1, .int .i64 y2, .int .i64 y3, .int .i64 y4, .int .i64 y5] 44)); replace HX1 := Lib.hid (HX1.out.alloc (.cells #[.int .i64 y0, .int .i64 y1, .int .i64 y2, .int .i64 y3, .int .i64 y4, .int .i64 y5] 44)); generalize w3.alloc (.cells #[.int .i64 y0, .int .i64 y1, .int .i64 y2, .int .i64 y3, .int .i64 y4, .int .i64 y5] 44) = wz at HZ HB HX1 ⊢; generalize w3.heap.size = gz at HZ ⊢)
    go_wp2_with fail
    refine (SlKey.to_any _ _ _ _ _ (HR0.out.below HB.out) (by omega)).mono ?_
    rintro e w4 ⟨qHK0, mHK0, eHK0, rfl, ho, hb⟩
    replace HB := Lib.hid (below_on HB.out hb)
    replace HX1 := Lib.hid (HX1.out.below hb)
    replace HZ := Lib.hid (HZ.out.below hb)
    have HK0 := Lib.hid ho
    have bHK0 := HK0.out.le
    obtain rfl : n0 = mHK0 := HR0.out.len.symm.trans HK0.out.len
    clear ho hb
    obtain ⟨cc0, cc1, cc2, cc3, cc4, cc5⟩ := SlMandate.bxc HX1.out
    go_wp2_with fail
    refine (SlMandate.val_any _ _ _ _ _ _ _).mono ?_
    rintro e w5 ⟨rfl, hb⟩
    replace HB := Lib.hid (below_on HB.out hb)
    replace HX1 := Lib.hid (HX1.out.below hb)
    replace HZ := Lib.hid (HZ.out.below hb)
    replace HK0 := Lib.hid (HK0.out.below hb)
    clear hb
    clear cc0 cc1 cc2 cc3 cc4 cc5
    go_wp2_with fail
    refine (KMandate.make_any _ _ _ _ hg0 _ _ _ _ _ _ HG1_0.out HG1_1.out HG1_2.out HG1_3.out HG1_4.out HG1_5.out y0 y1 y2 y3 y4 y5 bM HM.out _ HK0.out.rd).mono ?_
    rintro e w6 ⟨rfl, hb⟩
    replace HB := Lib.hid (below_on HB.out hb)
    replace HX1 := Lib.hid (HX1.out.below hb)
    replace HZ := Lib.hid (HZ.out.below hb)
    replace HK0 := Lib.hid (HK0.out.below hb)
    clear hb
    have HQ := Lib.hid (Bx.new w6 44 #[.int .i64 y0, .int .i64 y1, .int .i64 y2, .int .i64 y3, .int .i64 y4, .int .i64 y5])
    replace HB := Lib.hid (HB.out.alloc HB.out.size (.cells #[.int .i64 y0, .int .i64 y1, .int .i64 y2, .int .i64 y3, .int .i64 y4, .int .i64 y5] 44))
    replace HX1 := Lib.hid (HX1.out.alloc (.cells #[.int .i64 y0, .int .i64 y1, .int .i64 y2, .int .i64 y3, .int .i64 y4, .int .i64 y5] 44))
    replace HZ := Lib.hid (HZ.out.alloc (.cells #[.int .i64 y0, .int .i64 y1, .int .i64 y2, .int .i64 y3, .int .i64 y4, .int .i64 y5] 44))
    replace HK0 := Lib.hid (HK0.out.alloc (.cells #[.int .i64 y0, .int .i64 y1, .int .i64 y2, .int .i64 y3, .int .i64 y4, .int .i64 y5] 44))
    obtain ⟨q0, q1, q2, q3, q4, q5⟩ := SlMandate.bxc HQ.out
    obtain ⟨r0, r1, r2, r3, r4, r5⟩ := SlMandate.bxc HZ.out
    go_wp2_with fail
    refine (SlMandate.same_any y0 y1 y2 y3 y4 y5 _).mono ?_
    rintro e w7 ⟨rfl, hb⟩
    replace HB := Lib.hid (below_on HB.out hb)
    replace HX1 := Lib.hid (HX1.out.below hb)
    replace HZ := Lib.hid (HZ.out.below hb)
    replace HK0 := Lib.hid (HK0.out.below hb)
    replace HQ := Lib.hid (HQ.out.below hb)
    clear hb
    clear q0 r0 q1 r1 q2 r2 q3 r3 q4 r4 q5 r5
    clear HQ
    clear HZ
    go_wp2_with fail
    refine (SlKey.to_any _ _ _ _ _ (HR0.out.below HB.out) (by omega)).mono ?_
    rintro e w8 ⟨qHY0, mHY0, eHY0, rfl, ho, hb⟩
    replace HB := Lib.hid (below_on HB.out hb)
    replace HX1 := Lib.hid (HX1.out.below hb)
    replace HK0 := Lib.hid (HK0.out.below hb)
    have HY0 := Lib.hid ho
    have bHY0 := HY0.out.le
    obtain rfl : n0 = mHY0 := HR0.out.len.symm.trans HY0.out.len
    clear ho hb
    go_wp2_with fail
    refine (SlKey.eq_any _ _ _ _ _ _ _ HK0.out.rd HY0.out.rd).mono ?_
    rintro e w9 ⟨rfl, hb⟩
    replace HB := Lib.hid (below_on HB.out hb)
    replace HX1 := Lib.hid (HX1.out.below hb)
    replace HK0 := Lib.hid (HK0.out.below hb)
    replace HY0 := Lib.hid (HY0.out.below hb)
    clear hb
    clear HY0
    go_wp2_with fail
    go_ret
    exact ⟨rfl, HB.out⟩
end Go.Proofs.Ytkbdmocbeaejhaa.fnExactMakeMandate
