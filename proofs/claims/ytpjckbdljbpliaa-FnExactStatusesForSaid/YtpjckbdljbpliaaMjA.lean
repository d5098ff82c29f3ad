/- Contracts of mandates: valid or not, what is marked (the reference), their span; in the program and in the reference. Contracts of what is marked in a mandate, in the program: a slice that is cut off behind its last number. Contracts of the piece of a statement: Mandate; in the program (methods) and in the reference. -/
import Derived.Test.YtpjckbdljbpliaaSlMandate
import Derived.Test.YtpjckbdljbpliaaKi
import Derived.Test.YtpjckbdljbpliaaSp
import Derived.Test.YtpjckbdljbpliaaSr
import Derived.LoopTactic
import Derived.Outline
import Derived.Test.YtpjckbdljbpliaaTnA
import Derived.Test.YtpjckbdljbpliaaPm
import Derived.Deep.RegionHeld3
namespace Go.Proofs.Ytpjckbdljbpliaa.Mi
open Go.ChangeShapes Go.WideShapes Go.ChangeAt Go.RowKit Sl St Fnd SlMandate Ki Jn Sps
theorem says {b b' : Bool} {w w' : World} (h : b' = b) (hb : Below w.heap.size w w') : SlMandate.Val (.bool b) w (.returned (.bool b')) w' := ⟨by rw [h], hb⟩
def okD (x : I6) : Bool := inB x.1 1 99 && (inB x.2.1 0 99 && (inB x.2.2.2.2.1 1 99 && okB (x.2.2.1, x.2.2.2.1)))
end Go.Proofs.Ytpjckbdljbpliaa.Mi

namespace Go.Proofs.Ytpjckbdljbpliaa.Mj
open Go.ChangeShapes Go.WideShapes Go.ChangeAt Go.RowKit Sl St Fnd SlMandate Ki Mi Ge
/-- a slice whose block is the call's own, whatever its capacity says -/
def MakesC (zs : List Int) (w : World) (e : Ending) (w' : World) : Prop := ∃ (p : Option Addr) (n c d : Nat), e = .returned (.slice p n c) ∧ Ow .i64 3 w' w.heap.size w'.heap.size p n d zs ∧ Below w.heap.size w w'
theorem makesC_of {zs : List Int} {w w' : World} {e : Ending} (h : SlI.Makes zs w e w') : MakesC zs w e w' := by
  obtain ⟨p, n, c, h1, h2, h3⟩ := h
  exact ⟨p, n, c, c, h1, h2, h3⟩
set_option maxRecDepth 100000 in
set_option maxHeartbeats 4000000 in
theorem mandateInts_any (x0 x1 x2 x3 x4 x5 : Int) (w : World) (h0 : -9223372036854775808 ≤ x0 ∧ x0 ≤ 9223372036854775807) (h1 : -9223372036854775808 ≤ x1 ∧ x1 ≤ 9223372036854775807) (h2 : -9223372036854775808 ≤ x2 ∧ x2 ≤ 9223372036854775807) (h3 : -9223372036854775808 ≤ x3 ∧ x3 ≤ 9223372036854775807) (h4 : -9223372036854775808 ≤ x4 ∧ x4 ≤ 9223372036854775807) (_h5 : -9223372036854775808 ≤ x5 ∧ x5 ≤ 9223372036854775807) : Calls Try.prog 131 #[.agg #[.int .i64 x0, .int .i64 x1, .int .i64 x2, .int .i64 x3, .int .i64 x4, .int .i64 x5]] w (MakesC [105, x0, x1, x2, x3, x4] w) := by
  have hE : Bx (((w.alloc (.cells #[.int .i64 x0, .int .i64 x1, .int .i64 x2, .int .i64 x3, .int .i64 x4, .int .i64 x5] 72)).alloc (.cells #[.slice none 0 0] 192)).alloc (.cells #[.int .i64 105, .int .i64 x0, .int .i64 x1, .int .i64 x2, .int .i64 x3, .int .i64 x4] 3)) (w.heap.size + 1) 192 #[.slice none 0 0] := by
    have h := Bx.new (w.alloc (.cells #[.int .i64 x0, .int .i64 x1, .int .i64 x2, .int .i64 x3, .int .i64 x4, .int .i64 x5] 72)) 192 #[.slice none 0 0]
    rw [World.size_alloc] at h
    exact h.alloc _
  have HE := Lib.hid hE
  have HV : Hid (Below w.heap.size w (((w.alloc (.cells #[.int .i64 x0, .int .i64 x1, .int .i64 x2, .int .i64 x3, .int .i64 x4, .int .i64 x5] 72)).alloc (.cells #[.slice none 0 0] 192)).alloc (.cells #[.int .i64 105, .int .i64 x0, .int .i64 x1, .int .i64 x2, .int .i64 x3, .int .i64 x4] 3))) := Lib.hid ((((Below.refl w.heap.size w).alloc (Nat.le_refl _) (.cells #[.int .i64 x0, .int .i64 x1, .int .i64 x2, .int .i64 x3, .int .i64 x4, .int .i64 x5] 72)).alloc (by simp) (.cells #[.slice none 0 0] 192)).alloc (by simp; omega) (.cells #[.int .i64 105, .int .i64 x0, .int .i64 x1, .int .i64 x2, .int .i64 x3, .int .i64 x4] 3))
  have hY := (litN_at 3 ((w.alloc (.cells #[.int .i64 x0, .int .i64 x1, .int .i64 x2, .int .i64 x3, .int .i64 x4, .int .i64 x5] 72)).alloc (.cells #[.slice none 0 0] 192)) w.heap.size (w.heap.size + 2) [105, x0, x1, x2, x3, x4] (allK_cons ⟨by omega, by omega⟩ (allK_cons h0 (allK_cons h1 (allK_cons h2 (allK_cons h3 (allK_cons h4 (allK_nil _))))))) (by simp; omega) (by simp) (by simp)).rd
  have HY : Hid (Rd .i64 (((w.alloc (.cells #[.int .i64 x0, .int .i64 x1, .int .i64 x2, .int .i64 x3, .int .i64 x4, .int .i64 x5] 72)).alloc (.cells #[.slice none 0 0] 192)).alloc (.cells #[.int .i64 105, .int .i64 x0, .int .i64 x1, .int .i64 x2, .int .i64 x3, .int .i64 x4] 3)) (some ⟨w.heap.size + 2, 0, none⟩) 6 [105, x0, x1, x2, x3, x4]) := Lib.hid hY
  clear hE hY h0 h1 h2 h3 h4
  go_enter Try.func131, Try.ntmps131
  go_wp2_with fail
  generalize (((w.alloc (.cells #[.int .i64 x0, .int .i64 x1, .int .i64 x2, .int .i64 x3, .int .i64 x4, .int .i64 x5] 72)).alloc (.cells #[.slice none 0 0] 192)).alloc (.cells #[.int .i64 105, .int .i64 x0, .int .i64 x1, .int .i64 x2, .int .i64 x3, .int .i64 x4] 3)) = V at HE HV HY ⊢
  refine (write_any (w.heap.size + 1) 192 (by decide) none 0 0 [] _ _ _ [105, x0, x1, x2, x3, x4] w.heap.size w.heap.size V HE.out (Ow.nil_ _ _ _ _ HV.out.size |>.wide (Nat.le_refl _) (Nat.le_refl _) HV.out.size) HY.out HV.out.size (by omega)).mono ?_
  rintro e w1 ⟨rfl, p1, c1, hb1, ho1, ht1⟩
  have k0 := hb1.cell (j := 0) rfl
  have hc1 : 6 ≤ c1 := by
    rcases ho1.form with ⟨_, h, _⟩ | ⟨g, _, _, _, h, _⟩
    · omega
    · omega
  have hc2 : c1 ≤ 9223372036854775807 := by
    rcases ho1.form with ⟨_, h, _⟩ | ⟨g, _, _, _, _, h⟩
    · omega
    · unfold maxLen at h; omega
  have hs := HV.out.size
  have HO := Lib.hid (ho1 : Ow .i64 3 w1 w.heap.size w1.heap.size p1 6 c1 [105, x0, x1, x2, x3, x4])
  have HB := Lib.hid (HV.out.trans (ht1.below (B := w.heap.size) (fun i h => h.elim (fun e => by subst e; omega) (fun e => by simp [Value.ownBlock] at e)) HV.out.size))
  clear hb1 ho1 ht1
  go_wp2_with fail
  go_ret
  exact ⟨_, _, _, _, rfl, HO.out, HB.out⟩
end Go.Proofs.Ytpjckbdljbpliaa.Mj

namespace Go.Proofs.Ytpjckbdljbpliaa.PmMandate
open Go.ChangeShapes Go.WideShapes Go.ChangeAt Go.RowKit Sl St Fnd Pm
set_option maxRecDepth 100000 in
set_option maxHeartbeats 4000000 in
theorem mandate_any (x0 x1 x2 x3 x4 x5 : Int) (w : World) (h0 : -9223372036854775808 ≤ x0 ∧ x0 ≤ 9223372036854775807) (h1 : -9223372036854775808 ≤ x1 ∧ x1 ≤ 9223372036854775807) (h2 : -9223372036854775808 ≤ x2 ∧ x2 ≤ 9223372036854775807) (h3 : -9223372036854775808 ≤ x3 ∧ x3 ≤ 9223372036854775807) (h4 : -9223372036854775808 ≤ x4 ∧ x4 ≤ 9223372036854775807) (h5 : -9223372036854775808 ≤ x5 ∧ x5 ≤ 9223372036854775807) : Calls Try.prog 130 #[.agg #[.int .i64 x0, .int .i64 x1, .int .i64 x2, .int .i64 x3, .int .i64 x4, .int .i64 x5]] w (SlPiece.Makes x4 [105, x0, x1, x2, x3, x4] x5 w) := by
  have hY : Bx ((w.alloc (.cells #[.int .i64 x0, .int .i64 x1, .int .i64 x2, .int .i64 x3, .int .i64 x4, .int .i64 x5] 72)).alloc (.cells #[.int .i64 0, .slice none 0 0, .int .i64 0] 75)) (w.heap.size + 1) 75 #[.int .i64 0, .slice none 0 0, .int .i64 0] := by
    have h := Bx.new (w.alloc (.cells #[.int .i64 x0, .int .i64 x1, .int .i64 x2, .int .i64 x3, .int .i64 x4, .int .i64 x5] 72)) 75 #[.int .i64 0, .slice none 0 0, .int .i64 0]
    rw [World.size_alloc] at h
    exact h
  have HX := Lib.hid ((Bx.new w 72 #[.int .i64 x0, .int .i64 x1, .int .i64 x2, .int .i64 x3, .int .i64 x4, .int .i64 x5]).alloc (.cells #[.int .i64 0, .slice none 0 0, .int .i64 0] 75))
  have HY := Lib.hid hY
  have HB : Hid (Below w.heap.size w ((w.alloc (.cells #[.int .i64 x0, .int .i64 x1, .int .i64 x2, .int .i64 x3, .int .i64 x4, .int .i64 x5] 72)).alloc (.cells #[.int .i64 0, .slice none 0 0, .int .i64 0] 75))) := Lib.hid (((Below.refl _ _).alloc (Nat.le_refl _) _).alloc (by simp) _)
  have hsz : w.heap.size + 1 < ((w.alloc (.cells #[.int .i64 x0, .int .i64 x1, .int .i64 x2, .int .i64 x3, .int .i64 x4, .int .i64 x5] 72)).alloc (.cells #[.int .i64 0, .slice none 0 0, .int .i64 0] 75)).heap.size := by simp
  have G0 := Lib.hid h0
  have G1 := Lib.hid h1
  have G2 := Lib.hid h2
  have G3 := Lib.hid h3
  have G4 := Lib.hid h4
  have G5 := Lib.hid h5
  clear hY h0 h1 h2 h3 h4 h5
  go_enter Try.func130, Try.ntmps130
  go_wp2_with fail
  generalize ((w.alloc (.cells #[.int .i64 x0, .int .i64 x1, .int .i64 x2, .int .i64 x3, .int .i64 x4, .int .i64 x5] 72)).alloc (.cells #[.int .i64 0, .slice none 0 0, .int .i64 0] 75)) = V at HX HY HB hsz ⊢
  replace HB := Lib.hid (drewB HB.out)
  replace HX := Lib.hid HX.out.drew1
  replace HY := Lib.hid HY.out.drew1
  have hsz' : w.heap.size + 1 < V.drew.heap.size := hsz
  go_region_held3 (fun w' => w'.cell? ⟨w.heap.size, 0, none⟩ = some (.int .i64 x0) ∧ w'.cell? ⟨w.heap.size, 1, none⟩ = some (.int .i64 x1) ∧ w'.cell? ⟨w.heap.size, 2, none⟩ = some (.int .i64 x2) ∧ w'.cell? ⟨w.heap.size, 3, none⟩ = some (.int .i64 x3) ∧ w'.cell? ⟨w.heap.size, 4, none⟩ = some (.int .i64 x4) ∧ w'.cell? ⟨w.heap.size, 5, none⟩ = some (.int .i64 x5)) (first | exact ⟨HX.out.cell rfl, HX.out.cell rfl, HX.out.cell rfl, HX.out.cell rfl, HX.out.cell rfl, HX.out.cell rfl⟩ | go_keep) (first
    | (go_at_call 131; (with_reducible refine (Mj.mandateInts_any x0 x1 x2 x3 x4 x5 _ G0.out G1.out G2.out G3.out G4.out G5.out).mono ?_); rintro e w2 ⟨p2, n2, c2, d2, rfl, ho, hb⟩; have HO2 := Lib.hid ho; replace HB := Lib.hid (below_on HB.out hb); replace HY := Lib.hid (HY.out.below hb); replace HX := Lib.hid (HX.out.below hb); obtain ⟨q0, q1, q2⟩ := SlPiece.bx3 HY.out; have f0 := HY.out.free 0; have f1 := HY.out.free 1; have f2 := HY.out.free 2; clear ho hb))
  all_goals
    go_wp2_with fail
    exact bodyPost_ret (v := .agg #[.int .i64 x4, .slice p2 n2 c2, .int .i64 x5]) (by simp [results, Try.results130, go_sem, q0, q1, q2]) rfl (shut HO2.out HB.out hsz' _ _ _)
end Go.Proofs.Ytpjckbdljbpliaa.PmMandate
