/- Contracts of stamps, made, in the program. -/
import Derived.Test.YtbjocgnogcnedaaKStamp
namespace Go.Proofs.Ytbjocgnogcnedaa.KStampM
open Go.ChangeShapes Go.WideShapes Go.ChangeAt Go.RowKit Go.Shelf Sl St Fnd Kn Kr Ki Km Ko SlStamp Ti KStamp
set_option maxRecDepth 100000 in
set_option maxHeartbeats 8000000 in
theorem make_any (p : Option Addr) (n c : Nat) (xs : List I5) (hR : ∀ x ∈ xs, SlKey.InR x) (q : Option Addr) (m c' : Nat) (us : List I3) (hA : ∀ a ∈ us, SlAuthority.InR a) (x0 x1 x2 x3 x4 : Int) (h0 : -9223372036854775808 ≤ x0 ∧ x0 ≤ 9223372036854775807) (h1 : -9223372036854775808 ≤ x1 ∧ x1 ≤ 9223372036854775807) (h2 : -9223372036854775808 ≤ x2 ∧ x2 ≤ 9223372036854775807) (h3 : -9223372036854775808 ≤ x3 ∧ x3 ≤ 9223372036854775807) (h4 : -9223372036854775808 ≤ x4 ∧ x4 ≤ 9223372036854775807) (y0 y1 y2 y3 y4 : Int) (b : Bool) (hM : mkd xs us (x0, x1, x2, x3, x4) = ((y0, y1, y2, y3, y4), b)) (w : World) (hr : RdS SlKey.E w p n xs) (hs : RdS SlAuthority.E w q m us) : Calls Try.prog 40 #[.slice p n c, .slice q m c', .agg #[.int .i64 x0, .int .i64 x1, .int .i64 x2, .int .i64 x3, .int .i64 x4]] w (Made (.agg #[.int .i64 y0, .int .i64 y1, .int .i64 y2, .int .i64 y3, .int .i64 y4]) b w) := by
  have HK := Lib.hid hr
  have HL := Lib.hid hs
  have HM := Lib.hid hM
  have hY : Bx ((w.alloc (.cells #[.int .i64 x0, .int .i64 x1, .int .i64 x2, .int .i64 x3, .int .i64 x4] 67)).alloc (.cells #[.int .i64 0, .int .i64 0, .int .i64 0, .int .i64 0, .int .i64 0] 67)) (w.heap.size + 1) 67 #[.int .i64 0, .int .i64 0, .int .i64 0, .int .i64 0, .int .i64 0] := by
    have h := Bx.new (w.alloc (.cells #[.int .i64 x0, .int .i64 x1, .int .i64 x2, .int .i64 x3, .int .i64 x4] 67)) 67 #[.int .i64 0, .int .i64 0, .int .i64 0, .int .i64 0, .int .i64 0]
    rw [World.size_alloc] at h
    exact h
  have HX := Lib.hid ((Bx.new w 67 #[.int .i64 x0, .int .i64 x1, .int .i64 x2, .int .i64 x3, .int .i64 x4]).alloc (.cells #[.int .i64 0, .int .i64 0, .int .i64 0, .int .i64 0, .int .i64 0] 67))
  have HY := Lib.hid hY
  have HB : Hid (Below w.heap.size w ((w.alloc (.cells #[.int .i64 x0, .int .i64 x1, .int .i64 x2, .int .i64 x3, .int .i64 x4] 67)).alloc (.cells #[.int .i64 0, .int .i64 0, .int .i64 0, .int .i64 0, .int .i64 0] 67))) := Lib.hid (((Below.refl _ _).alloc (Nat.le_refl _) _).alloc (by simp) _)
  have G0 := Lib.hid h0
  have G1 := Lib.hid h1
  have G2 := Lib.hid h2
  have G3 := Lib.hid h3
  have G4 := Lib.hid h4
  clear h0 h1 h2 h3 h4 hr hY hs hM
  go_enter Try.func40, Try.ntmps40
  go_wp2_with fail
  generalize ((w.alloc (.cells #[.int .i64 x0, .int .i64 x1, .int .i64 x2, .int .i64 x3, .int .i64 x4] 67)).alloc (.cells #[.int .i64 0, .int .i64 0, .int .i64 0, .int .i64 0, .int .i64 0] 67)) = V at HX HY HB ⊢
  obtain ⟨cc0, cc1, cc2, cc3, cc4⟩ := bxc HX.out
  go_region_with (first
    | (go_at_call 50; (with_reducible refine (ringOf_any p n c xs hR _ (HK.out.below (drewB HB.out))).mono ?_); rintro e w1 ⟨rfl, hh, hb⟩; have HH : Hid (Holds xs V.heap.size w1) := Lib.hid hh; have HB1 := Lib.hid (below_on (drewB HB.out) hb); have HX1 := Lib.hid (HX.out.drew1.below hb); have HY1 := Lib.hid (HY.out.drew1.below hb); obtain ⟨e0, e1, e2, e3, e4⟩ := bxc HX1.out; clear hb hh)
    | (go_at_call 62; (with_reducible refine (stamp_any _ q m c' us hA xs hR x0 x1 x2 x3 x4 G0.out G1.out G2.out G3.out G4.out y0 y1 y2 y3 y4 b HM.out _ HH.out (HL.out.below HB1.out)).mono ?_); rintro e w2 ⟨rfl, hb⟩; have HB2 := Lib.hid (below_on HB1.out hb); have HY2 := Lib.hid (HY1.out.below hb); obtain ⟨q0, q1, q2, q3, q4⟩ := bxc HY2.out; have f0 := HY2.out.free 0; have f1 := HY2.out.free 1; have f2 := HY2.out.free 2; have f3 := HY2.out.free 3; have f4 := HY2.out.free 4; clear hb))
  all_goals
    go_wp2_with fail
    exact bodyPost_ret (v := .tuple #[.agg #[.int .i64 y0, .int .i64 y1, .int .i64 y2, .int .i64 y3, .int .i64 y4], .bool b]) (by simp [results, Try.results40, go_sem, q0, q1, q2, q3, q4]) rfl ⟨rfl, (((((HB2.out).setCell (p := ⟨w.heap.size + 1, 0, none⟩) (by simp) _).setCell (p := ⟨w.heap.size + 1, 1, none⟩) (by simp) _).setCell (p := ⟨w.heap.size + 1, 2, none⟩) (by simp) _).setCell (p := ⟨w.heap.size + 1, 3, none⟩) (by simp) _).setCell (p := ⟨w.heap.size + 1, 4, none⟩) (by simp) _⟩
end Go.Proofs.Ytbjocgnogcnedaa.KStampM
