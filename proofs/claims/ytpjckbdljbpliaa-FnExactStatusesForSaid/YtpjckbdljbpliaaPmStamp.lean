/- Contracts of the piece of a statement: Stamp; in the program (methods) and in the reference. -/
import Derived.Test.YtpjckbdljbpliaaPm
import Derived.Test.YtpjckbdljbpliaaSlStamp
import Derived.Test.YtpjckbdljbpliaaTi
import Derived.Deep.RegionHeld3
namespace Go.Proofs.Ytpjckbdljbpliaa.PmStamp
open Go.ChangeShapes Go.WideShapes Go.ChangeAt Go.RowKit Sl St Fnd Pm
set_option maxRecDepth 100000 in
set_option maxHeartbeats 4000000 in
theorem stamp_any (k : Int) (x0 x1 x2 x3 x4 : Int) (w : World) (h0 : -9223372036854775808 ≤ x0 ∧ x0 ≤ 9223372036854775807) (h1 : -9223372036854775808 ≤ x1 ∧ x1 ≤ 9223372036854775807) (h2 : -9223372036854775808 ≤ x2 ∧ x2 ≤ 9223372036854775807) (h3 : -9223372036854775808 ≤ x3 ∧ x3 ≤ 9223372036854775807) (h4 : -9223372036854775808 ≤ x4 ∧ x4 ≤ 9223372036854775807) : Calls Try.prog 134 #[.agg #[.int .i64 x0, .int .i64 x1, .int .i64 x2, .int .i64 x3, .int .i64 x4, .int .i64 k]] w (SlPiece.Makes k [103, x0, x1, x2, x3] x4 w) := by
  have hY : Bx ((w.alloc (.cells #[.int .i64 x0, .int .i64 x1, .int .i64 x2, .int .i64 x3, .int .i64 x4, .int .i64 k] 162)).alloc (.cells #[.int .i64 0, .slice none 0 0, .int .i64 0] 75)) (w.heap.size + 1) 75 #[.int .i64 0, .slice none 0 0, .int .i64 0] := by
    have h := Bx.new (w.alloc (.cells #[.int .i64 x0, .int .i64 x1, .int .i64 x2, .int .i64 x3, .int .i64 x4, .int .i64 k] 162)) 75 #[.int .i64 0, .slice none 0 0, .int .i64 0]
    rw [World.size_alloc] at h
    exact h
  have HX := Lib.hid ((Bx.new w 162 #[.int .i64 x0, .int .i64 x1, .int .i64 x2, .int .i64 x3, .int .i64 x4, .int .i64 k]).alloc (.cells #[.int .i64 0, .slice none 0 0, .int .i64 0] 75))
  have HY := Lib.hid hY
  have HB : Hid (Below w.heap.size w ((w.alloc (.cells #[.int .i64 x0, .int .i64 x1, .int .i64 x2, .int .i64 x3, .int .i64 x4, .int .i64 k] 162)).alloc (.cells #[.int .i64 0, .slice none 0 0, .int .i64 0] 75))) := Lib.hid (((Below.refl _ _).alloc (Nat.le_refl _) _).alloc (by simp) _)
  have hsz : w.heap.size + 1 < ((w.alloc (.cells #[.int .i64 x0, .int .i64 x1, .int .i64 x2, .int .i64 x3, .int .i64 x4, .int .i64 k] 162)).alloc (.cells #[.int .i64 0, .slice none 0 0, .int .i64 0] 75)).heap.size := by simp
  have G0 := Lib.hid h0
  have G1 := Lib.hid h1
  have G2 := Lib.hid h2
  have G3 := Lib.hid h3
  have G4 := Lib.hid h4
  clear hY h0 h1 h2 h3 h4
  go_enter Try.func134, Try.ntmps134
  go_wp2_with fail
  generalize ((w.alloc (.cells #[.int .i64 x0, .int .i64 x1, .int .i64 x2, .int .i64 x3, .int .i64 x4, .int .i64 k] 162)).alloc (.cells #[.int .i64 0, .slice none 0 0, .int .i64 0] 75)) = V at HX HY HB hsz ⊢
  replace HB := Lib.hid (drewB HB.out)
  replace HX := Lib.hid HX.out.drew1
  replace HY := Lib.hid HY.out.drew1
  have hsz' : w.heap.size + 1 < V.drew.heap.size := hsz
  go_region_held3 (fun w' => w'.cell? ⟨w.heap.size, 0, none⟩ = some (.int .i64 x0) ∧ w'.cell? ⟨w.heap.size, 1, none⟩ = some (.int .i64 x1) ∧ w'.cell? ⟨w.heap.size, 2, none⟩ = some (.int .i64 x2) ∧ w'.cell? ⟨w.heap.size, 3, none⟩ = some (.int .i64 x3) ∧ w'.cell? ⟨w.heap.size, 4, none⟩ = some (.int .i64 x4) ∧ w'.cell? ⟨w.heap.size, 5, none⟩ = some (.int .i64 k)) (first | exact ⟨HX.out.cell rfl, HX.out.cell rfl, HX.out.cell rfl, HX.out.cell rfl, HX.out.cell rfl, HX.out.cell rfl⟩ | go_keep) (first
    | (go_at_call 135; (with_reducible refine (Ti.stampInts_any x0 x1 x2 x3 x4 _ G0.out G1.out G2.out G3.out G4.out).mono ?_); rintro e w2 ⟨p2, n2, c2, rfl, ho, hb⟩; have HO2 := Lib.hid ho; replace HB := Lib.hid (below_on HB.out hb); replace HY := Lib.hid (HY.out.below hb); replace HX := Lib.hid (HX.out.below hb); obtain ⟨q0, q1, q2⟩ := SlPiece.bx3 HY.out; have f0 := HY.out.free 0; have f1 := HY.out.free 1; have f2 := HY.out.free 2; clear ho hb))
  all_goals
    go_wp2_with fail
    exact bodyPost_ret (v := .agg #[.int .i64 k, .slice p2 n2 c2, .int .i64 x4]) (by simp [results, Try.results134, go_sem, q0, q1, q2]) rfl (shut HO2.out HB.out hsz' _ _ _)
end Go.Proofs.Ytpjckbdljbpliaa.PmStamp
