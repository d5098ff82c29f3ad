/- The walk of the law FnExactCoversSpan. -/
import Derived.Test.YtamlmpigllidoabTd
import Derived.Deep.RegionHeld3
import Derived.OpenShut
namespace Go.Proofs.Ytamlmpigllidoab.fnExactCoversSpan
open Go.ChangeShapes Go.WideShapes Go.ChangeAt Go.RowKit Sl St Jn Sps SlSpan Tc
set_option maxRecDepth 100000 in
set_option maxHeartbeats 4000000 in
theorem walk {H : Type} {enc : TypeId × Value → H} (W : World) (base : Nat)
    (v0 : Value) (d0 : DataW H) (p0 : List MemPlace) (h0 : DataW.Trod enc Try.prog W 0 (fun _ => true) true 36 v0 d0 p0) (k0 : Value.okWide Try.prog W .any base 36 v0)
    (v1 : Value) (d1 : DataW H) (p1 : List MemPlace) (h1 : DataW.Trod enc Try.prog W 0 (fun _ => true) true 25 v1 d1 p1) (k1 : Value.okWide Try.prog W .any base 25 v1)
    (_hsz : (DataW.weightsEach Try.prog [36, 25] [d0, d1]).all (· ≤ reachBytes) = true) :
    Calls Try.prog 10 #[v0, v1] W fun e w' => e = .returned (.bool true) ∧ Below W.heap.size W w' := by
  obtain ⟨a0, n0, c0, zs0, rfl, hr0⟩ := SlSpan.open_arg h0 k0
  have hn0 := hr0.le
  obtain ⟨x1, y1, rfl, _, _⟩ := SlSpan.open_val h1 k1
  clear h0 k0 h1 k1 _hsz
  have HB := Lib.hid ((Below.refl W.heap.size W).alloc (Nat.le_refl _) (.cells #[.int .i64 x1, .int .i64 y1] 25))
  have HR0 := Lib.hid (hr0.alloc (.cells #[.int .i64 x1, .int .i64 y1] 25))
  have HX0 := Lib.hid (Bx.new W 25 #[.int .i64 x1, .int .i64 y1])
  clear hr0
  by_cases hbig : 1048576 < n0
  · go_enter Try.func10, Try.ntmps10
    go_wp2_with fail
    refine (sz_big _ _ _ _ _ (by omega) (by omega) (by omega) hn0).mono ?_
    rintro e w1 ⟨rfl, rfl⟩
    go_wp2_with fail
    go_ret
    exact ⟨rfl, HB.out⟩
  go_enter Try.func10, Try.ntmps10
  go_wp2_with fail
  refine (sz_fits _ _ _ _ _ (by omega) (by omega)).mono ?_
  rintro e w1 ⟨rfl, rfl⟩
  obtain ⟨e0, e1, _, _⟩ := HX0.out.two
  go_wp2_with fail
  go_region_held3 (fun w' => w'.cell? ⟨W.heap.size, 0, none⟩ = some (.int .i64 x1) ∧ w'.cell? ⟨W.heap.size, 1, none⟩ = some (.int .i64 y1)) (first | exact ⟨HX3.out.cell rfl, HX3.out.cell rfl⟩ | exact ⟨HX2.out.cell rfl, HX2.out.cell rfl⟩ | exact ⟨HX1.out.cell rfl, HX1.out.cell rfl⟩ | go_keep) (first
    | (go_at_call 26; (with_reducible refine (to_any _ _ _ zs0 _ HR0.out.drew1 (by omega)).mono ?_); rintro e w1 ⟨q1, m1, b1, rfl, ho, hb⟩; have HX1 := Lib.hid (HX0.out.drew1.below hb); have HR1 := Lib.hid (HR0.out.drew1.below hb); have HB1 := Lib.hid (below_on (below_drewN HB.out 1) hb); have HT1 := Lib.hid ho; obtain rfl : n0 = m1 := HR0.out.len.symm.trans HT1.out.len; clear ho hb)
    | (go_at_call 15; (with_reducible refine (val_any x1 y1 _).mono ?_); rintro e w2 ⟨rfl, hb⟩; have HX2 := Lib.hid (HX1.out.below hb); have HR2 := Lib.hid (HR1.out.below hb); have HT2 := Lib.hid (HT1.out.below hb); have HB2 := Lib.hid (below_on HB1.out hb); clear hb)
    | (go_at_call 33; (with_reducible refine (spec_covers_any _ _ _ zs0 x1 y1 _ HT2.out.rd (by omega)).mono ?_); rintro e w3 ⟨rfl, hb⟩; have HX3 := Lib.hid (HX2.out.below hb); have HR3 := Lib.hid (HR2.out.below hb); have HB3 := Lib.hid (below_on HB2.out hb); clear hb))
  clear e0 e1
  obtain ⟨e0, e1, _, _⟩ := HX3.out.two
  go_wp2_with fail
  refine (to_any _ _ _ zs0 _ HR3.out (by omega)).mono ?_
  rintro e w4 ⟨q4, m4, b4, rfl, ho, hb⟩
  have HX4 := Lib.hid (HX3.out.below hb)
  have HR4 := Lib.hid (HR3.out.below hb)
  have HB4 := Lib.hid (below_on HB3.out hb)
  have HT4 := Lib.hid ho
  obtain rfl : n0 = m4 := HR0.out.len.symm.trans HT4.out.len
  clear ho hb e0 e1
  obtain ⟨e0, e1, _, _⟩ := HX4.out.two
  go_wp2_with fail
  refine (val_any x1 y1 _).mono ?_
  rintro e w5 ⟨rfl, hb⟩
  have HR5 := Lib.hid (HR4.out.below hb)
  have HT5 := Lib.hid (HT4.out.below hb)
  have HB5 := Lib.hid (below_on HB4.out hb)
  clear hb
  go_wp2_with fail
  refine (covers_any _ _ _ zs0 x1 y1 _ HT5.out.rd (by omega)).mono ?_
  rintro e w6 ⟨rfl, hb⟩
  have HR6 := Lib.hid (HR5.out.below hb)
  have HT6 := Lib.hid (HT5.out.below hb)
  have HB6 := Lib.hid (below_on HB5.out hb)
  clear hb
  clear e0 e1
  go_wp2_with fail
  refine (to_any _ _ _ zs0 _ HR6.out (by omega)).mono ?_
  rintro e w7 ⟨q7, m7, b7, rfl, ho, hb⟩
  have HT7 := Lib.hid (HT6.out.below hb)
  have HY7 := Lib.hid ho
  have HB7 := Lib.hid (below_on HB6.out hb)
  obtain rfl : n0 = m7 := HR0.out.len.symm.trans HY7.out.len
  clear ho hb
  go_wp2_with fail
  refine (eq_any _ _ _ _ _ zs0 _ HT7.out.rd HY7.out.rd).mono ?_
  rintro e w8 ⟨rfl, hb⟩
  have HB8 := Lib.hid (below_on HB7.out hb)
  clear hb
  go_wp2_with fail
  go_ret
  exact ⟨rfl, HB8.out⟩
end Go.Proofs.Ytamlmpigllidoab.fnExactCoversSpan
