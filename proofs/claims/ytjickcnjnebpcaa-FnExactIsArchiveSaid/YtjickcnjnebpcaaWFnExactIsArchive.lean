/- The walk of the law FnExactIsArchive. -/
import Derived.Test.YtjickcnjnebpcaaEd
import Derived.Test.YtjickcnjnebpcaaDz
import Derived.Test.YtjickcnjnebpcaaSlI
import Derived.Test.YtjickcnjnebpcaaDpArchive
import Derived.Test.YtjickcnjnebpcaaIa
import Derived.Test.YtjickcnjnebpcaaIb
import Derived.OpenShut
import Derived.Deep.RegionHeld3
import Derived.Laws.Strings
namespace Go.Proofs.Ytjickcnjnebpcaa.fnExactIsArchive
open Go.ChangeShapes Go.WideShapes Go.ChangeAt Go.RowKit Sl St Ed Ia
theorem drewB {W w : World} {B : Nat} (h : Below B W w) : Below B W w.drew := below_drewN h 1
set_option maxRecDepth 100000 in
set_option maxHeartbeats 8000000 in
theorem walk {H : Type} {enc : TypeId × Value → H} (W : World) (base : Nat)
    (v0 : Value) (d0 : DataW H) (p0 : List MemPlace) (h0 : DataW.Trod enc Try.prog W 0 (fun _ => true) true 49 v0 d0 p0) (k0 : Value.okWide Try.prog W .any base 49 v0)
    (_hsz : (DataW.weightsEach Try.prog [49] [d0]).all (· ≤ reachBytes) = true) :
    Calls Try.prog 4 #[v0] W fun e w' => e = .returned (.bool true) ∧ Below W.heap.size W w' := by
  obtain ⟨x0_0, l0_1, p0_1, n0_1, c0_1, rfl, b0_0, h0_1⟩ := DpArchive.open_val h0 k0
  have HG0_0 := Lib.hid b0_0
  have HP0_1 := Lib.hid h0_1
  have hn0_1 := h0_1.le
  clear b0_0 h0_1
  clear h0 k0
  clear _hsz
  have HB := Lib.hid (Below.refl W.heap.size W)
  have HX0 := Lib.hid (Bx.new W 49 #[.int .i64 x0_0, .slice p0_1 n0_1 c0_1])
  replace HB := Lib.hid (HB.out.alloc HB.out.size (.cells #[.int .i64 x0_0, .slice p0_1 n0_1 c0_1] 49))
  have lX0 := HX0.out.lt
  obtain ⟨m0, hm0⟩ : ∃ m : Nat, DpArchive.E.wt (x0_0, l0_1) = m := ⟨_, rfl⟩
  have HM0 := Lib.hid hm0
  clear hm0
  as_aux_lemma =>
    by_cases hbig0 : 1048576 < m0
    · go_enter Try.func4, Try.ntmps4
      obtain ⟨i0, i1⟩ := DpArchive.bxc HX0.out
      go_wp2_with fail
      refine (DpArchive.sz_big _ _ _ _ _ _ _ _ HM0.out (HP0_1.out.below HB.out) (by omega) (by omega) (by omega)).mono ?_
      rintro e w1 ⟨rfl, hb⟩
      replace HB := Lib.hid (below_on HB.out hb)
      replace HX0 := Lib.hid (HX0.out.below hb)
      clear hb
      clear i0 i1
      go_wp2_with fail
      go_ret
      exact ⟨rfl, HB.out⟩
    go_enter Try.func4, Try.ntmps4
    obtain ⟨i0, i1⟩ := DpArchive.bxc HX0.out
    go_wp2_with fail
    refine (DpArchive.sz_fits _ _ _ _ _ _ _ _ HM0.out (HP0_1.out.below HB.out) (by omega) (by omega)).mono ?_
    rintro e w2 ⟨rfl, hb⟩
    replace HB := Lib.hid (below_on HB.out hb)
    replace HX0 := Lib.hid (HX0.out.below hb)
    clear hb
    clear i0 i1
    have sm0 : m0 ≤ 1048576 := by omega
    clear hbig0
    have sn0_1 : n0_1 ≤ 1048576 := by have h := HM0.out; have k := HP0_1.out.len; simp only [DpArchive.wt_eq] at h; omega
    as_aux_lemma =>
      obtain ⟨i0, i1⟩ := DpArchive.bxc HX0.out
      go_wp2_with fail
      refine (DpArchive.to_any _ _ _ _ _ _ (HP0_1.out.below HB.out) (by rw [HM0.out]; omega)).mono ?_
      rintro e w3 ⟨qHT0_0, dHT0_0, rfl, ho0, hb⟩
      replace HB := Lib.hid (below_on HB.out hb)
      replace HX0 := Lib.hid (HX0.out.below hb)
      have HT0_0 := Lib.hid ho0
      clear ho0
      clear hb
      clear i0 i1
      go_wp2_with fail
      refine (Ib.spec_archive_any x0_0 l0_1 _ _ _ _ HT0_0.out).mono ?_
      rintro e w4 ⟨rfl, hb⟩
      replace HB := Lib.hid (below_on HB.out hb)
      replace HX0 := Lib.hid (HX0.out.below hb)
      replace HT0_0 := Lib.hid (HT0_0.out.below hb)
      clear hb
      clear HT0_0
      as_aux_lemma =>
        obtain ⟨i0, i1⟩ := DpArchive.bxc HX0.out
        go_wp2_with fail
        refine (DpArchive.to_any _ _ _ _ _ _ (HP0_1.out.below HB.out) (by rw [HM0.out]; omega)).mono ?_
        rintro e w5 ⟨qHU0_0, dHU0_0, rfl, ho0, hb⟩
        replace HB := Lib.hid (below_on HB.out hb)
        replace HX0 := Lib.hid (HX0.out.below hb)
        have HU0_0 := Lib.hid ho0
        clear ho0
        clear hb
        clear i0 i1
        have HS0 := Lib.hid (Bx.new w5 54 #[.int .i64 x0_0, .slice qHU0_0 n0_1 dHU0_0])
        have lHS0 := HS0.out.lt
        replace HB := Lib.hid (HB.out.alloc HB.out.size (.cells #[.int .i64 x0_0, .slice qHU0_0 n0_1 dHU0_0] 54))
        replace HX0 := Lib.hid (HX0.out.alloc (.cells #[.int .i64 x0_0, .slice qHU0_0 n0_1 dHU0_0] 54))
        replace HU0_0 := Lib.hid (HU0_0.out.alloc (.cells #[.int .i64 x0_0, .slice qHU0_0 n0_1 dHU0_0] 54))
        as_aux_lemma =>
          obtain ⟨k0_0, k0_1⟩ := DpArchive.bxc HS0.out
          go_wp2_with fail
          refine (Ia.archive_any x0_0 l0_1 _ _ _ _ HU0_0.out).mono ?_
          rintro e w6 ⟨rfl, hb⟩
          replace HB := Lib.hid (below_on HB.out hb)
          replace HX0 := Lib.hid (HX0.out.below hb)
          replace HU0_0 := Lib.hid (HU0_0.out.below hb)
          replace HS0 := Lib.hid (HS0.out.below hb)
          clear hb
          clear k0_0 k0_1
          as_aux_lemma =>
            obtain ⟨j0_0, j0_1⟩ := DpArchive.bxc HS0.out
            obtain ⟨j1_0, j1_1⟩ := DpArchive.bxc HX0.out
            go_wp2_with fail
            replace HB := Lib.hid (drewB HB.out)
            replace HX0 := Lib.hid (HX0.out.below (drewB (Below.refl _ _)))
            replace HU0_0 := Lib.hid (HU0_0.out.below (drewB (Below.refl _ _)))
            replace HS0 := Lib.hid (HS0.out.below (drewB (Below.refl _ _)))
            go_region_held3 (fun w' => (w'.cell? ⟨w5.heap.size, 0, none⟩ = some (.int .i64 x0_0) ∧ w'.cell? ⟨w5.heap.size, 1, none⟩ = some (.slice qHU0_0 n0_1 dHU0_0)) ∧ w'.cell? ⟨W.heap.size, 0, none⟩ = some (.int .i64 x0_0) ∧ w'.cell? ⟨W.heap.size, 1, none⟩ = some (.slice p0_1 n0_1 c0_1)) (first | exact ⟨DpArchive.bxc HS0.out, DpArchive.bxc HX0.out⟩ | go_keep) (first | (go_at_call 15; (with_reducible refine (DpArchive.to_any _ _ _ _ _ _ (HP0_1.out.below HB.out) (by rw [HM0.out]; omega)).mono ?_); rintro e w7 ⟨qHY0_0, dHY0_0, rfl, ho0, hb⟩; replace HB := Lib.hid (below_on HB.out hb); replace HX0 := Lib.hid (HX0.out.below hb); replace HU0_0 := Lib.hid (HU0_0.out.below hb); replace HS0 := Lib.hid (HS0.out.below hb); have HY0_0 := Lib.hid ho0; clear ho0; clear hb) | (go_at_call 17; (with_reducible refine (DpArchive.eq_any _ _ _ _ _ _ _ _ HU0_0.out HY0_0.out).mono ?_); rintro e w8 ⟨rfl, hb⟩; replace HB := Lib.hid (below_on HB.out hb); replace HX0 := Lib.hid (HX0.out.below hb); replace HU0_0 := Lib.hid (HU0_0.out.below hb); replace HS0 := Lib.hid (HS0.out.below hb); replace HY0_0 := Lib.hid (HY0_0.out.below hb); clear hb))
            clear j0_0 j0_1
            clear j1_0 j1_1
            clear HY0_0
            as_aux_lemma =>
              go_wp2_with fail
              go_ret
              exact ⟨rfl, HB.out⟩
end Go.Proofs.Ytjickcnjnebpcaa.fnExactIsArchive
