/- Sizes of evidence: how parts are counted and what a renewal weighs; in the program and in the reference. -/
import Derived.Test.YtapijjdjaamldaaDpRenewal
import Derived.Test.YtapijjdjaamldaaInt
import Derived.LoopTactic
import Derived.Deep.QuietTactic
import Derived.BigQuiet
import Derived.RegionTactic
import Derived.IntWalk
import Derived.Outline
namespace Go.Proofs.Ytapijjdjaamldaa.Rz
open Go.ChangeShapes Go.WideShapes Go.ChangeAt Go.RowKit Sl St Ed Dz Ints
def part (a b c d e : Int) : Nat → Int
  | 0 => 0
  | 1 => a * 3
  | 2 => a * 3 + b * 2
  | 3 => a * 3 + b * 2 + c * 6
  | 4 => a * 3 + b * 2 + c * 6 + d * 2
  | _ => a * 3 + b * 2 + c * 6 + d * 2 + e
/-- a count is neither negative nor huge -/
def Few (x : Int) : Prop := 0 ≤ x ∧ x ≤ 1099511627776
set_option maxRecDepth 100000 in
set_option maxHeartbeats 4000000 in
theorem size_any (a b c d e : Int) (w : World) (ha : Few a) (hb : Few b) (hc : Few c) (hd : Few d) (he : Few e) : Calls Try.prog 88 #[.agg #[.int .i64 a, .int .i64 b, .int .i64 c, .int .i64 d, .int .i64 e]] w (Val (.int .i64 (part a b c d e 5)) w) := by
  obtain ⟨a1, a2⟩ := ha
  obtain ⟨b1, b2⟩ := hb
  obtain ⟨c1, c2⟩ := hc
  obtain ⟨d1, d2⟩ := hd
  obtain ⟨e1, e2⟩ := he
  have HX := Lib.hid ((Bx.new w 129 #[.int .i64 a, .int .i64 b, .int .i64 c, .int .i64 d, .int .i64 e]).alloc (.cells #[.int .i64 3, .int .i64 2, .int .i64 6, .int .i64 2, .int .i64 1] 129))
  have hy := Bx.new (w.alloc (.cells #[.int .i64 a, .int .i64 b, .int .i64 c, .int .i64 d, .int .i64 e] 129)) 129 #[.int .i64 3, .int .i64 2, .int .i64 6, .int .i64 2, .int .i64 1]
  rw [World.size_alloc] at hy
  have HY := Lib.hid hy
  have HB := Lib.hid ((box1 w (.cells #[.int .i64 a, .int .i64 b, .int .i64 c, .int .i64 d, .int .i64 e] 129)).alloc (by simp) (.cells #[.int .i64 3, .int .i64 2, .int .i64 6, .int .i64 2, .int .i64 1] 129))
  clear hy
  go_enter Try.func88, Try.ntmps88
  go_wp2_with fail
  generalize ((w.alloc (.cells #[.int .i64 a, .int .i64 b, .int .i64 c, .int .i64 d, .int .i64 e] 129)).alloc (.cells #[.int .i64 3, .int .i64 2, .int .i64 6, .int .i64 2, .int .i64 1] 129)) = V at HX HY HB ⊢
  go_loopw [4, 7] (fun s i wr => ∃ k q : Nat, k ≤ 5 ∧ i = .int .i64 k ∧ s = .int .i64 (part a b c d e k) ∧ wr = V.drewN q) (fun _ i _ => 5 - (intOf i).toNat)
  case atStart => exact ⟨0, 0, by omega, rfl, rfl, rfl⟩
  case round =>
    obtain ⟨k, q, hk, rfl, rfl, rfl⟩ := hrel
    by_cases hlt : k < 5
    · rcases (by omega : k = 0 ∨ k = 1 ∨ k = 2 ∨ k = 3 ∨ k = 4) with rfl | rfl | rfl | rfl | rfl
      · clear hk hlt
        show _
        have x0 := HX.out.cell (j := 0) rfl
        have y0 := HY.out.cell (j := 0) rfl
        have w1 : IntKind.i64.wrap (a * 3) = a * 3 := IntWalk.i64_in _ (by omega)
        skip
        have w2 : IntKind.i64.wrap (0 + a * 3) = 0 + a * 3 := IntWalk.i64_in _ (by omega)
        unfold part
        go_wp2_with fail
        go_quiet (fail)
        go_wp2_with fail
        refine ⟨⟨1, _, by omega, by go_num, ?_, rfl⟩, by simp [intOf]⟩
        show Value.int .i64 _ = Value.int .i64 (a * 3)
        first | rfl | (congr 1; omega)
      · clear hk hlt
        show _
        have x0 := HX.out.cell (j := 1) rfl
        have y0 := HY.out.cell (j := 1) rfl
        have w1 : IntKind.i64.wrap (b * 2) = b * 2 := IntWalk.i64_in _ (by omega)
        skip
        have w2 : IntKind.i64.wrap (a * 3 + b * 2) = a * 3 + b * 2 := IntWalk.i64_in _ (by omega)
        unfold part
        go_wp2_with fail
        go_quiet (fail)
        go_wp2_with fail
        refine ⟨⟨2, _, by omega, by go_num, ?_, rfl⟩, by simp [intOf]⟩
        show Value.int .i64 _ = Value.int .i64 (a * 3 + b * 2)
        first | rfl | (congr 1; omega)
      · clear hk hlt
        show _
        have x0 := HX.out.cell (j := 2) rfl
        have y0 := HY.out.cell (j := 2) rfl
        have w1 : IntKind.i64.wrap (c * 6) = c * 6 := IntWalk.i64_in _ (by omega)
        skip
        have w2 : IntKind.i64.wrap (a * 3 + b * 2 + c * 6) = a * 3 + b * 2 + c * 6 := IntWalk.i64_in _ (by omega)
        unfold part
        go_wp2_with fail
        go_quiet (fail)
        go_wp2_with fail
        refine ⟨⟨3, _, by omega, by go_num, ?_, rfl⟩, by simp [intOf]⟩
        show Value.int .i64 _ = Value.int .i64 (a * 3 + b * 2 + c * 6)
        first | rfl | (congr 1; omega)
      · clear hk hlt
        show _
        have x0 := HX.out.cell (j := 3) rfl
        have y0 := HY.out.cell (j := 3) rfl
        have w1 : IntKind.i64.wrap (d * 2) = d * 2 := IntWalk.i64_in _ (by omega)
        skip
        have w2 : IntKind.i64.wrap (a * 3 + b * 2 + c * 6 + d * 2) = a * 3 + b * 2 + c * 6 + d * 2 := IntWalk.i64_in _ (by omega)
        unfold part
        go_wp2_with fail
        go_quiet (fail)
        go_wp2_with fail
        refine ⟨⟨4, _, by omega, by go_num, ?_, rfl⟩, by simp [intOf]⟩
        show Value.int .i64 _ = Value.int .i64 (a * 3 + b * 2 + c * 6 + d * 2)
        first | rfl | (congr 1; omega)
      · clear hk hlt
        show _
        have x0 := HX.out.cell (j := 4) rfl
        have y0 := HY.out.cell (j := 4) rfl
        have w1 : IntKind.i64.wrap (e * 1) = e * 1 := IntWalk.i64_in _ (by omega)
        have w1b : IntKind.i64.wrap e = e := IntWalk.i64_in _ (by omega)
        have w2 : IntKind.i64.wrap (a * 3 + b * 2 + c * 6 + d * 2 + e) = a * 3 + b * 2 + c * 6 + d * 2 + e := IntWalk.i64_in _ (by omega)
        unfold part
        go_wp2_with fail
        go_quiet (fail)
        go_wp2_with fail
        refine ⟨⟨5, _, by omega, by go_num, ?_, rfl⟩, by simp [intOf]⟩
        show Value.int .i64 _ = Value.int .i64 (a * 3 + b * 2 + c * 6 + d * 2 + e)
        first | rfl | (congr 1; omega)
    · obtain rfl : k = 5 := by omega
      go_wp2_with fail
      go_ret
      exact ⟨rfl, below_drewN HB.out _⟩
/-- The counts in a block of the call's own are these; that block turns, no other. -/
def Counts (g : Nat) (a b c d e : Int) (w : World) (e1 : Ending) (w' : World) : Prop := e1 = .returned (.tuple #[]) ∧ Bx w' g 129 #[.int .i64 a, .int .i64 b, .int .i64 c, .int .i64 d, .int .i64 e] ∧ w.grownBy w' (some g)
theorem grown_set {w w1 : World} {g j : Nat} {v : Value} (h : w.grownBy w1 (some g)) : w.grownBy (w1.setCell ⟨g, j, none⟩ v) (some g) :=
  ⟨h.os, h.tape, h.output, by simpa [World.setCell] using h.size, fun i hi hne => (Below.heap_setCell w1 ⟨g, j, none⟩ v i (by rintro rfl; exact hne rfl)).trans (h.block i hi hne)⟩
theorem grown_drew {w w1 : World} {g : Nat} (h : w.grownBy w1 (some g)) : w.grownBy w1.drew (some g) := ⟨h.os, h.tape, h.output, h.size, h.block⟩
set_option maxRecDepth 100000 in
set_option maxHeartbeats 4000000 in
theorem countRenewal_any (g : Nat) (a b c d e : Int) (x0 x1 x2 : Int) (p3 : Option Addr) (n3 c3 : Nat) (p4 : Option Addr) (n4 c4 : Nat) (w : World) (hg : Bx w g 129 #[.int .i64 a, .int .i64 b, .int .i64 c, .int .i64 d, .int .i64 e]) (ha : Few a) (hb : Few b) (hc : Few c) (h3 : n3 ≤ 1048576) (h4 : n4 ≤ 1048576) :
    Calls Try.prog 134 #[.pointer (some ⟨g, 0, none⟩), .agg #[.int .i64 x0, .int .i64 x1, .int .i64 x2, .slice p3 n3 c3, .slice p4 n4 c4]] w (Counts g (a + 1) (b + n3) (c + n4) d e w) := by
  obtain ⟨a1, a2⟩ := ha
  obtain ⟨b1, b2⟩ := hb
  obtain ⟨c1, c2⟩ := hc
  have hlt := hg.lt
  have HV : Hid (w.grownBy (w.alloc (.cells #[.int .i64 x0, .int .i64 x1, .int .i64 x2, .slice p3 n3 c3, .slice p4 n4 c4] 127)) (some g)) := Lib.hid (grown_alloc ⟨rfl, rfl, rfl, Nat.le_refl _, fun _ _ _ => rfl⟩ _)
  have HG := Lib.hid (hg.alloc (.cells #[.int .i64 x0, .int .i64 x1, .int .i64 x2, .slice p3 n3 c3, .slice p4 n4 c4] 127))
  have HX := Lib.hid (Bx.new w 127 #[.int .i64 x0, .int .i64 x1, .int .i64 x2, .slice p3 n3 c3, .slice p4 n4 c4])
  clear hg
  go_enter Try.func134, Try.ntmps134
  go_wp2_with fail
  generalize (w.alloc (.cells #[.int .i64 x0, .int .i64 x1, .int .i64 x2, .slice p3 n3 c3, .slice p4 n4 c4] 127)) = V at HV HG HX ⊢
  obtain ⟨u0, u1, u2, u3, u4⟩ := DpRenewal.bxc HG.out
  obtain ⟨y0, y1, y2, y3, y4⟩ := DpRenewal.bxc HX.out
  have f0 := HG.out.free 0
  have f1 := HG.out.free 1
  have f2 := HG.out.free 2
  have hne : g ≠ w.heap.size := Nat.ne_of_lt hlt
  go_region
  go_wp2_with fail
  go_region
  go_wp2_with fail
  go_region
  go_end0
  refine ⟨rfl, (((HG.out.set_ 0 _).set_ 1 _).set_ 2 _), ?_⟩
  exact grown_drew (grown_drew (grown_drew (grown_set (grown_set (grown_set HV.out)))))
def rsz (n3 n4 : Nat) : Int := 3 + 2 * (n3 : Int) + 6 * (n4 : Int)
set_option maxRecDepth 100000 in
set_option maxHeartbeats 4000000 in
theorem spec_size_any (x0 x1 x2 : Int) (p3 : Option Addr) (n3 c3 : Nat) (p4 : Option Addr) (n4 c4 : Nat) (w : World) (h3 : n3 ≤ 1048576) (h4 : n4 ≤ 1048576) :
    Calls Try.prog 130 #[.agg #[.int .i64 x0, .int .i64 x1, .int .i64 x2, .slice p3 n3 c3, .slice p4 n4 c4]] w (Val (.int .i64 (rsz n3 n4)) w) := by
  have HB := Lib.hid (box1 w (.cells #[.int .i64 x0, .int .i64 x1, .int .i64 x2, .slice p3 n3 c3, .slice p4 n4 c4] 127))
  go_enter Try.func130, Try.ntmps130
  go_wp2_with fail
  go_ret
  refine val_of ?_ HB.out
  show Value.int .i64 _ = Value.int .i64 (3 + 2 * (n3 : Int) + 6 * (n4 : Int))
  first | rfl | (congr 1; omega)
end Go.Proofs.Ytapijjdjaamldaa.Rz
