/- The walk of the law FnExactIsInside. -/
import Derived.Test.YtamlmpigllidoabSlSpan
import Derived.Test.YtamlmpigllidoabSp
import Derived.Deep.RegionHeld3
import Derived.OpenShut
namespace Go.Proofs.Ytamlmpigllidoab.fnExactIsInside
open Go.ChangeShapes Go.WideShapes Go.ChangeAt Go.RowKit Sl St Jn Sps SlSpan
set_option maxRecDepth 100000 in
set_option maxHeartbeats 4000000 in
theorem walk {H : Type} {enc : TypeId × Value → H} (W : World) (base : Nat)
    (v0 : Value) (d0 : DataW H) (p0 : List MemPlace) (h0 : DataW.Trod enc Try.prog W 0 (fun _ => true) true 25 v0 d0 p0) (k0 : Value.okWide Try.prog W .any base 25 v0)
    (v1 : Value) (d1 : DataW H) (p1 : List MemPlace) (h1 : DataW.Trod enc Try.prog W 0 (fun _ => true) true 25 v1 d1 p1) (k1 : Value.okWide Try.prog W .any base 25 v1)
    (_hsz : (DataW.weightsEach Try.prog [25, 25] [d0, d1]).all (· ≤ reachBytes) = true) :
    Calls Try.prog 7 #[v0, v1] W fun e w' => e = .returned (.bool true) ∧ Below W.heap.size W w' := by
  obtain ⟨x0, y0, rfl, _, _⟩ := SlSpan.open_val h0 k0
  clear h0 k0
  obtain ⟨x1, y1, rfl, _, _⟩ := SlSpan.open_val h1 k1
  clear h1 k1
  clear _hsz
  have HB0 := Lib.hid (((Below.refl W.heap.size W).alloc (Nat.le_refl _) (.cells #[.int .i64 x0, .int .i64 y0] 25)).alloc (by simp) (.cells #[.int .i64 x1, .int .i64 y1] 25))
  have HX0 := Lib.hid ((Bx.new W 25 #[.int .i64 x0, .int .i64 y0]).alloc (.cells #[.int .i64 x1, .int .i64 y1] 25))
  have HY0 : Hid (Bx ((W.alloc (.cells #[.int .i64 x0, .int .i64 y0] 25)).alloc (.cells #[.int .i64 x1, .int .i64 y1] 25)) (W.heap.size + 1) 25 #[.int .i64 x1, .int .i64 y1]) := Lib.hid (by
    have h := Bx.new (W.alloc (.cells #[.int .i64 x0, .int .i64 y0] 25)) 25 #[.int .i64 x1, .int .i64 y1]
    rw [World.size_alloc] at h
    exact h)
  go_enter Try.func7, Try.ntmps7
  obtain ⟨c0, c1, _, _⟩ := HX0.out.two
  obtain ⟨e0, e1, _, _⟩ := HY0.out.two
  go_wp2_with fail
  go_region_held3 (fun w' => w'.cell? ⟨W.heap.size, 0, none⟩ = some (.int .i64 x0) ∧ w'.cell? ⟨W.heap.size, 1, none⟩ = some (.int .i64 y0) ∧ w'.cell? ⟨W.heap.size + 1, 0, none⟩ = some (.int .i64 x1) ∧ w'.cell? ⟨W.heap.size + 1, 1, none⟩ = some (.int .i64 y1)) (first | exact ⟨HX3.out.cell rfl, HX3.out.cell rfl, HY3.out.cell rfl, HY3.out.cell rfl⟩ | exact ⟨HX2.out.cell rfl, HX2.out.cell rfl, HY2.out.cell rfl, HY2.out.cell rfl⟩ | exact ⟨HX1.out.cell rfl, HX1.out.cell rfl, HY1.out.cell rfl, HY1.out.cell rfl⟩ | exact ⟨(HX3.out.alloc _).cell rfl, (HX3.out.alloc _).cell rfl, (HY3.out.alloc _).cell rfl, (HY3.out.alloc _).cell rfl⟩ | go_keep) (first
    | (go_at_call 15; (with_reducible refine (val_any x0 y0 _).mono ?_); rintro e w1 ⟨rfl, hb⟩; have HX1 := Lib.hid (HX0.out.drew1.below hb); have HY1 := Lib.hid (HY0.out.drew1.below hb); have HB1 := Lib.hid (below_on (below_drewN HB0.out 1) hb); clear hb)
    | (go_at_call 15; (with_reducible refine (val_any x1 y1 _).mono ?_); rintro e w2 ⟨rfl, hb⟩; have HX2 := Lib.hid (HX1.out.below hb); have HY2 := Lib.hid (HY1.out.below hb); have HB2 := Lib.hid (below_on HB1.out hb); clear hb)
    | (go_at_call 22; (with_reducible refine (spec_inside_any x0 y0 x1 y1 _).mono ?_); rintro e w3 ⟨rfl, hb⟩; have HX3 := Lib.hid (HX2.out.below hb); have HY3 := Lib.hid (HY2.out.below hb); have HB3 := Lib.hid (below_on HB2.out hb); clear hb))
  clear c0 c1 e0 e1
  obtain ⟨c0, c1, _, _⟩ := HX3.out.two
  obtain ⟨e0, e1, _, _⟩ := HY3.out.two
  go_wp2_with fail
  go_region_held3 (fun w' => w'.cell? ⟨W.heap.size, 0, none⟩ = some (.int .i64 x0) ∧ w'.cell? ⟨W.heap.size, 1, none⟩ = some (.int .i64 y0) ∧ w'.cell? ⟨W.heap.size + 1, 0, none⟩ = some (.int .i64 x1) ∧ w'.cell? ⟨W.heap.size + 1, 1, none⟩ = some (.int .i64 y1)) (first | exact ⟨HX6.out.cell rfl, HX6.out.cell rfl, HY6.out.cell rfl, HY6.out.cell rfl⟩ | exact ⟨HX5.out.cell rfl, HX5.out.cell rfl, HY5.out.cell rfl, HY5.out.cell rfl⟩ | exact ⟨HX4.out.cell rfl, HX4.out.cell rfl, HY4.out.cell rfl, HY4.out.cell rfl⟩ | exact ⟨(HX6.out.alloc _).cell rfl, (HX6.out.alloc _).cell rfl, (HY6.out.alloc _).cell rfl, (HY6.out.alloc _).cell rfl⟩ | go_keep) (first
    | (go_at_call 15; (with_reducible refine (val_any x0 y0 _).mono ?_); rintro e w4 ⟨rfl, hb⟩; have HX4 := Lib.hid (HX3.out.drew1.below hb); have HY4 := Lib.hid (HY3.out.drew1.below hb); have HB4 := Lib.hid (below_on (below_drewN HB3.out 1) hb); clear hb)
    | (go_at_call 15; (with_reducible refine (val_any x1 y1 _).mono ?_); rintro e w5 ⟨rfl, hb⟩; have HX5 := Lib.hid (HX4.out.below hb); have HY5 := Lib.hid (HY4.out.below hb); have HB5 := Lib.hid (below_on HB4.out hb); clear hb)
    | (go_at_call 23; (with_reducible refine (inside_any x0 y0 x1 y1 _).mono ?_); rintro e w6 ⟨rfl, hb⟩; have HX6 := Lib.hid (HX5.out.below hb); have HY6 := Lib.hid (HY5.out.below hb); have HB6 := Lib.hid (below_on HB5.out hb); clear hb))
  clear c0 c1 e0 e1
  go_wp2_with fail
  go_ret
  exact ⟨rfl, HB6.out⟩
end Go.Proofs.Ytamlmpigllidoab.fnExactIsInside
