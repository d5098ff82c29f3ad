/- Contracts of the mark of a key over ints; in the program (slices.Concat) and in the reference (append). -/
import Derived.Test.YtlfmpjmodhlciaaGreatKi
import Derived.Test.YtlfmpjmodhlciaaGreatCc
import Derived.Test.YtlfmpjmodhlciaaGreatHs
import Derived.Deep.RegionHeld3
namespace Go.Proofs.YtlfmpjmodhlciaaGreat.Km
open Go.ChangeShapes Go.WideShapes Go.ChangeAt Go.RowKit Sl St Fnd Kn SlKey Ki

theorem ks {w : World} {g : Nat} {T : TypeId} {x0 x1 x2 x3 x4 : Value} (h : Bx w g T #[x0, x1, x2, x3, x4]) : w.cell? ⟨g, 4, none⟩ = some x4 ∧ w.cell? ⟨g, 2, none⟩ = some x2 := ⟨h.cell rfl, h.cell rfl⟩
theorem lit1_in (V : World) (T : TypeId) (x : Int) (hx : inK .i64 x) : Rd .i64 (V.alloc (.cells #[.int .i64 x] T)) (some ⟨V.heap.size, 0, none⟩) 1 [x] :=
  (litN_own T V V.heap.size [x] (allK_cons hx (allK_nil _)) (Nat.le_refl _) (by simp)).rd
set_option maxRecDepth 100000 in
set_option maxHeartbeats 4000000 in
theorem spec_markWith_any (x0 x1 x2 x3 x4 : Int) (p : Option Addr) (n c : Nat) (zs : List Int) (w : World) (hr : Rd .i64 w p n zs) (h2 : inK .i64 x2) (h4 : inK .i64 x4) (hn : n ≤ 10000000) :
    Calls Tryz.prog 167 #[.agg #[.int .i64 x0, .int .i64 x1, .int .i64 x2, .int .i64 x3, .int .i64 x4], .slice p n c] w (Val (.int .i64 (markW (x0, x1, x2, x3, x4) zs)) w) := by
  obtain ⟨i0, hi, hz0, hz1, hz2⟩ := info_parts SlI.info
  have HX := Lib.hid (Bx.new w 110 #[.int .i64 x0, .int .i64 x1, .int .i64 x2, .int .i64 x3, .int .i64 x4])
  have HB := Lib.hid (box1 w (.cells #[.int .i64 x0, .int .i64 x1, .int .i64 x2, .int .i64 x3, .int .i64 x4] 110))
  have HR := Lib.hid (hr.below HB.out)
  have H2 := Lib.hid h2
  have H4 := Lib.hid h4
  clear hr h2 h4
  go_enter Tryz.func167, Tryz.ntmps167
  go_wp2_with fail
  generalize w.alloc (.cells #[.int .i64 x0, .int .i64 x1, .int .i64 x2, .int .i64 x3, .int .i64 x4] 110) = V at HX HB HR ⊢
  have HO : Hid (Ow .i64 3 (V.alloc (.cells #[.int .i64 x2] 3)) V.heap.size (V.alloc (.cells #[.int .i64 x2] 3)).heap.size (some ⟨V.heap.size, 0, none⟩) 1 1 [x2]) := Lib.hid (litN_own 3 V V.heap.size [x2] (allK_cons H2.out (allK_nil _)) (Nat.le_refl _) (by simp))
  have HL := Lib.hid (box1 V (.cells #[.int .i64 x2] 3))
  go_region_held3 (fun w' => w'.cell? ⟨w.heap.size, 4, none⟩ = some (.int .i64 x4) ∧ w'.cell? ⟨w.heap.size, 2, none⟩ = some (.int .i64 x2)) (first | exact ks HX2.out | exact ks HX1.out | exact ks (HX.out.alloc _).drew1 | exact ks HX.out.drew1 | go_keep) (first
    | (refine step_appR (by rfl) (.tmp 9) (.tmp 10) 48 (by rfl) i0 _ 8 Tryz.underlying48 hi hz0 hz1 hz2 (by rfl) (by rfl) (HO.out.drewN 1) _ _ _ _ (by rfl) ((HR.out.below HL.out).drewN 1) (by simp) (by omega) (by omega) ?_; intro p1 c1 w1 how1 hg1; have hv : Below V.heap.size V w1 := (below_drewN HL.out 1).trans ((HO.out.drewN 1).below_row hg1 (by simp)); have HB1 := Lib.hid (below_on HB.out hv); have HX1 := Lib.hid (HX.out.below hv); have HO1 := Lib.hid how1; clear how1 hg1 hv)
    | (go_at_call 178; (with_reducible refine (Hs.spec_khash_any x4 _ _ _ _ _ HO1.out.rd H4.out (by omega)).mono ?_); rintro e w2 ⟨rfl, hb2⟩; have HB2 := Lib.hid (below_on HB1.out hb2); have HX2 := Lib.hid (HX1.out.below hb2); clear hb2))
  all_goals
    go_wp2_with fail
    go_ret
    exact ⟨rfl, HB2.out⟩
set_option maxRecDepth 100000 in
set_option maxHeartbeats 4000000 in
theorem markWith_any (x0 x1 x2 x3 x4 : Int) (p : Option Addr) (n c : Nat) (zs : List Int) (w : World) (hr : Rd .i64 w p n zs) (h2 : inK .i64 x2) (hn : n ≤ 10000000) :
    Calls Tryz.prog 176 #[.agg #[.int .i64 x0, .int .i64 x1, .int .i64 x2, .int .i64 x3, .int .i64 x4], .slice p n c] w (Val (.int .i64 (markW (x0, x1, x2, x3, x4) zs)) w) := by
  have HX := Lib.hid (Bx.new w 110 #[.int .i64 x0, .int .i64 x1, .int .i64 x2, .int .i64 x3, .int .i64 x4])
  have HB := Lib.hid (box1 w (.cells #[.int .i64 x0, .int .i64 x1, .int .i64 x2, .int .i64 x3, .int .i64 x4] 110))
  have HR := Lib.hid (hr.below HB.out)
  have H2 := Lib.hid h2
  clear hr h2
  go_enter Tryz.func176, Tryz.ntmps176
  go_wp2_with fail
  generalize w.alloc (.cells #[.int .i64 x0, .int .i64 x1, .int .i64 x2, .int .i64 x3, .int .i64 x4] 110) = V at HX HB HR ⊢
  have HL := Lib.hid (box1 V (.cells #[.int .i64 x2] 3))
  have HM := Lib.hid (box1 (V.alloc (.cells #[.int .i64 x2] 3)) (.cells #[.slice (some ⟨V.heap.size, 0, none⟩) 1 1, .slice p n c] 48))
  have HC : Hid (Bx ((V.alloc (.cells #[.int .i64 x2] 3)).alloc (.cells #[.slice (some ⟨V.heap.size, 0, none⟩) 1 1, .slice p n c] 48)) (V.heap.size + 1) 48 #[.slice (some ⟨V.heap.size, 0, none⟩) 1 1, .slice p n c]) := Lib.hid (by
    have h := Bx.new (V.alloc (.cells #[.int .i64 x2] 3)) 48 #[.slice (some ⟨V.heap.size, 0, none⟩) 1 1, .slice p n c]
    rw [World.size_alloc] at h
    exact h)
  have HO := Lib.hid ((lit1_in V 3 x2 H2.out).below HM.out)
  have HRM := Lib.hid ((HR.out.below HL.out).below HM.out)
  have HBM := Lib.hid (below_on (below_on HB.out HL.out) HM.out)
  have HXM := Lib.hid ((HX.out.below HL.out).below HM.out)
  go_region_held3 (fun w' => w'.cell? ⟨w.heap.size, 4, none⟩ = some (.int .i64 x4) ∧ w'.cell? ⟨w.heap.size, 2, none⟩ = some (.int .i64 x2)) (first | exact ks HX1.out | exact ks HXM.out.drew1 | exact ks (HX.out.alloc _).drew1 | exact ks HX.out.drew1 | go_keep) (first
    | (go_at_call 191; (with_reducible refine (Cc.concat_any _ _ _ _ _ _ _ _ _ _ _ HC.out.drew1 HO.out.drew1 HRM.out.drew1 (by omega) hn).mono ?_); rintro e w1 ⟨p1, n1, c1, rfl, ho, hb⟩; have HB1 := Lib.hid (below_on HBM.out (below_on (below_drewN (Below.refl _ _) 1) hb)); have HX1 := Lib.hid (HXM.out.drew1.below hb); have HO1 := Lib.hid ho; clear ho hb)
    | (go_at_call 190; (with_reducible refine (Hs.khash_any x4 _ _ _ _ _ HO1.out.rd).mono ?_); rintro e w2 ⟨rfl, rfl⟩))
  all_goals
    go_wp2_with fail
    go_ret
    exact ⟨rfl, HB1.out⟩
end Go.Proofs.YtlfmpjmodhlciaaGreat.Km
