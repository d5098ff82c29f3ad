/- The walk of the law FnExactIsKept. -/
import Derived.Test.YtkekmaomkcmalacVd
import Derived.Deep.RegionHeld3
import Derived.OpenShut
namespace Go.Proofs.Ytkekmaomkcmalac.fnExactIsKept
open Go.ChangeShapes Go.WideShapes Go.ChangeAt Go.RowKit Sl St Jn Sps Vd
theorem kp {w : World} {g h : Nat} {T : TypeId} {x0 x1 x2 x3 y0 y1 y2 y3 : Value} (a : Bx w g T #[x0, x1, x2, x3]) (b : Bx w h T #[y0, y1, y2, y3]) : w.cell? ⟨g, 0, none⟩ = some x0 ∧ w.cell? ⟨g, 1, none⟩ = some x1 ∧ w.cell? ⟨g, 2, none⟩ = some x2 ∧ w.cell? ⟨g, 3, none⟩ = some x3 ∧ w.cell? ⟨h, 0, none⟩ = some y0 ∧ w.cell? ⟨h, 1, none⟩ = some y1 ∧ w.cell? ⟨h, 2, none⟩ = some y2 ∧ w.cell? ⟨h, 3, none⟩ = some y3 := ⟨a.cell rfl, a.cell rfl, a.cell rfl, a.cell rfl, b.cell rfl, b.cell rfl, b.cell rfl, b.cell rfl⟩
set_option maxRecDepth 100000 in
set_option maxHeartbeats 4000000 in
theorem walk {H : Type} {enc : TypeId × Value → H} (W : World) (base : Nat)
    (v0 : Value) (d0 : DataW H) (p0 : List MemPlace) (h0 : DataW.Trod enc Try.prog W 0 (fun _ => true) true 28 v0 d0 p0) (k0 : Value.okWide Try.prog W .any base 28 v0)
    (v1 : Value) (d1 : DataW H) (p1 : List MemPlace) (h1 : DataW.Trod enc Try.prog W 0 (fun _ => true) true 28 v1 d1 p1) (k1 : Value.okWide Try.prog W .any base 28 v1)
    (_hsz : (DataW.weightsEach Try.prog [28, 28] [d0, d1]).all (· ≤ reachBytes) = true) :
    Calls Try.prog 7 #[v0, v1] W fun e w' => e = .returned (.bool true) ∧ Below W.heap.size W w' := by
  obtain ⟨a0, a1, a2, a3, rfl⟩ := open_val h0 k0
  clear h0 k0
  obtain ⟨b0, b1, b2, b3, rfl⟩ := open_val h1 k1
  clear h1 k1
  clear _hsz
  have HB0 : Hid (Below W.heap.size W ((W.alloc (.cells #[.int .i64 a0, .int .i64 a1, .int .i64 a2, .int .i64 a3] 28)).alloc (.cells #[.int .i64 b0, .int .i64 b1, .int .i64 b2, .int .i64 b3] 28))) := Lib.hid (((Below.refl W.heap.size W).alloc (Nat.le_refl _) _).alloc (by simp) _)
  have HX0 := Lib.hid ((Bx.new W 28 #[.int .i64 a0, .int .i64 a1, .int .i64 a2, .int .i64 a3]).alloc (.cells #[.int .i64 b0, .int .i64 b1, .int .i64 b2, .int .i64 b3] 28))
  have HY0 : Hid (Bx ((W.alloc (.cells #[.int .i64 a0, .int .i64 a1, .int .i64 a2, .int .i64 a3] 28)).alloc (.cells #[.int .i64 b0, .int .i64 b1, .int .i64 b2, .int .i64 b3] 28)) (W.heap.size + 1) 28 #[.int .i64 b0, .int .i64 b1, .int .i64 b2, .int .i64 b3]) := Lib.hid (by
    have h := Bx.new (W.alloc (.cells #[.int .i64 a0, .int .i64 a1, .int .i64 a2, .int .i64 a3] 28)) 28 #[.int .i64 b0, .int .i64 b1, .int .i64 b2, .int .i64 b3]
    rw [World.size_alloc] at h
    exact h)
  go_enter Try.func7, Try.ntmps7
  obtain ⟨c0, c1, c2, c3⟩ := bx4 HX0.out
  obtain ⟨e0, e1, e2, e3⟩ := bx4 HY0.out
  go_wp2_with fail
  go_region_held3 (fun w' => w'.cell? ⟨W.heap.size, 0, none⟩ = some (.int .i64 a0) ∧ w'.cell? ⟨W.heap.size, 1, none⟩ = some (.int .i64 a1) ∧ w'.cell? ⟨W.heap.size, 2, none⟩ = some (.int .i64 a2) ∧ w'.cell? ⟨W.heap.size, 3, none⟩ = some (.int .i64 a3) ∧ w'.cell? ⟨W.heap.size + 1, 0, none⟩ = some (.int .i64 b0) ∧ w'.cell? ⟨W.heap.size + 1, 1, none⟩ = some (.int .i64 b1) ∧ w'.cell? ⟨W.heap.size + 1, 2, none⟩ = some (.int .i64 b2) ∧ w'.cell? ⟨W.heap.size + 1, 3, none⟩ = some (.int .i64 b3)) (first | exact kp (HX3.out) (HY3.out) | exact kp (HX2.out) (HY2.out) | exact kp (HX1.out) (HY1.out) | exact kp (HX3.out.alloc _) (HY3.out.alloc _) | go_keep) (first
    | (go_at_call 18; (with_reducible refine (val_any a0 a1 a2 a3 _).mono ?_); rintro e w1 ⟨rfl, hb⟩; have HX1 := Lib.hid (HX0.out.drew1.below hb); have HY1 := Lib.hid (HY0.out.drew1.below hb); have HB1 := Lib.hid (below_on (below_drewN HB0.out 1) hb); clear hb)
    | (go_at_call 18; (with_reducible refine (val_any b0 b1 b2 b3 _).mono ?_); rintro e w2 ⟨rfl, hb⟩; have HX2 := Lib.hid (HX1.out.below hb); have HY2 := Lib.hid (HY1.out.below hb); have HB2 := Lib.hid (below_on HB1.out hb); clear hb)
    | (go_at_call 20; (with_reducible refine (spec_kept_any a0 a1 a2 a3 b0 b1 b2 b3 _).mono ?_); rintro e w3 ⟨rfl, hb⟩; have HX3 := Lib.hid (HX2.out.below hb); have HY3 := Lib.hid (HY2.out.below hb); have HB3 := Lib.hid (below_on HB2.out hb); clear hb))
  clear c0 c1 c2 c3 e0 e1 e2 e3
  obtain ⟨c0, c1, c2, c3⟩ := bx4 HX3.out
  obtain ⟨e0, e1, e2, e3⟩ := bx4 HY3.out
  go_wp2_with fail
  go_region_held3 (fun w' => w'.cell? ⟨W.heap.size, 0, none⟩ = some (.int .i64 a0) ∧ w'.cell? ⟨W.heap.size, 1, none⟩ = some (.int .i64 a1) ∧ w'.cell? ⟨W.heap.size, 2, none⟩ = some (.int .i64 a2) ∧ w'.cell? ⟨W.heap.size, 3, none⟩ = some (.int .i64 a3) ∧ w'.cell? ⟨W.heap.size + 1, 0, none⟩ = some (.int .i64 b0) ∧ w'.cell? ⟨W.heap.size + 1, 1, none⟩ = some (.int .i64 b1) ∧ w'.cell? ⟨W.heap.size + 1, 2, none⟩ = some (.int .i64 b2) ∧ w'.cell? ⟨W.heap.size + 1, 3, none⟩ = some (.int .i64 b3)) (first | exact kp (HX6.out) (HY6.out) | exact kp (HX5.out) (HY5.out) | exact kp (HX4.out) (HY4.out) | exact kp (HX6.out.alloc _) (HY6.out.alloc _) | go_keep) (first
    | (go_at_call 18; (with_reducible refine (val_any a0 a1 a2 a3 _).mono ?_); rintro e w4 ⟨rfl, hb⟩; have HX4 := Lib.hid (HX3.out.drew1.below hb); have HY4 := Lib.hid (HY3.out.drew1.below hb); have HB4 := Lib.hid (below_on (below_drewN HB3.out 1) hb); clear hb)
    | (go_at_call 18; (with_reducible refine (val_any b0 b1 b2 b3 _).mono ?_); rintro e w5 ⟨rfl, hb⟩; have HX5 := Lib.hid (HX4.out.below hb); have HY5 := Lib.hid (HY4.out.below hb); have HB5 := Lib.hid (below_on HB4.out hb); clear hb)
    | (go_at_call 21; (with_reducible refine (kept_any a0 a1 a2 a3 b0 b1 b2 b3 _).mono ?_); rintro e w6 ⟨rfl, hb⟩; have HX6 := Lib.hid (HX5.out.below hb); have HY6 := Lib.hid (HY5.out.below hb); have HB6 := Lib.hid (below_on HB5.out hb); clear hb))
  clear c0 c1 c2 c3 e0 e1 e2 e3
  go_wp2_with fail
  go_ret
  exact ⟨rfl, HB6.out⟩
end Go.Proofs.Ytkekmaomkcmalac.fnExactIsKept
