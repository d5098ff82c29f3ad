/- Mathematics of keys: valid ones, marks, whose they are. Contracts of single keys: numbers of keys, owners, methods and times in their ranges; valid keys or not, in the program (rules in a list) and in the reference. Contracts of what is marked in stamps; in the program and in the reference. -/
import Derived.Test.YtfojilogcecphaaGreatFnd
import Derived.Test.YtfojilogcecphaaGreatHsA
import Derived.Test.YtfojilogcecphaaGreatSlKey
import Derived.Test.YtfojilogcecphaaGreatInt
import Derived.Test.YtfojilogcecphaaGreatMin
import Derived.LoopTactic
import Derived.Outline
import Derived.Test.YtfojilogcecphaaGreatSlStamp
import Derived.Test.YtfojilogcecphaaGreatSrA
namespace Go.Proofs.YtfojilogcecphaaGreat.Kn
open Fnd
/-- Number, Owner, Method, Born, Secret -/
def z5 : I5 := (0, 0, 0, 0, 0)
def okK (k : I5) : Bool := inB k.1 1 99 && (inB k.2.1 0 99 && (inB k.2.2.1 0 99 && (inB k.2.2.2.1 0 10000 && inB k.2.2.2.2 1 2147483646)))
def areK (l : List I5) : Bool := areL okK (fun k => k.1) z5 12 l
abbrev findK (l : List I5) (n : Int) : Int := find l n
/-- the first key with this number -/
abbrev ring (l : List I5) (n : Int) : Option I5 := Fnd.look z5 l n
theorem ring_cases (l : List I5) (n : Int) : (∃ k : Nat, k < l.length ∧ find l n = k ∧ ring l n = some (l.getD k z5) ∧ (l.getD k z5).1 = n ∧ ∀ j, j < k → (l.getD j z5).1 ≠ n) ∨ (find l n = -1 ∧ ring l n = none ∧ ∀ j, j < l.length → (l.getD j z5).1 ≠ n) := Fnd.look_cases z5 l n
def markW (k : I5) (l : List Int) : Int := Hs.khash k.2.2.2.2 (k.2.2.1 :: l)
def checkM (l : List I5) (n : Int) (what : List Int) (mark : Int) : Bool := match ring l n with | some k => decide (markW k what = mark) | none => false
def ownerOf (l : List I5) (n : Int) : Int := match ring l n with | some k => k.2.1 | none => -1
theorem checkM_some {l : List I5} {n : Int} {k : I5} (h : ring l n = some k) (what : List Int) (mark : Int) : checkM l n what mark = decide (markW k what = mark) := by simp [checkM, h]
theorem checkM_none {l : List I5} {n : Int} (h : ring l n = none) (what : List Int) (mark : Int) : checkM l n what mark = false := by simp [checkM, h]
theorem ownerOf_some {l : List I5} {n : Int} {k : I5} (h : ring l n = some k) : ownerOf l n = k.2.1 := by simp [ownerOf, h]
theorem ownerOf_none {l : List I5} {n : Int} (h : ring l n = none) : ownerOf l n = -1 := by simp [ownerOf, h]
def keysOf (l : List I5) (o : Int) : List Int := (l.filter fun k => decide (k.2.1 = o)).map fun k => k.1
theorem keysOf_append (l l' : List I5) (o : Int) : keysOf (l ++ l') o = keysOf l o ++ keysOf l' o := by simp [keysOf]
theorem keysOf_in {o : Int} {k : I5} (h : k.2.1 = o) : keysOf [k] o = [k.1] := by simp [keysOf, h]
theorem keysOf_out {o : Int} {k : I5} (h : ¬ k.2.1 = o) : keysOf [k] o = [] := by simp [keysOf, h]
theorem keysOf_len (l : List I5) (o : Int) : (keysOf l o).length ≤ l.length := by simpa [keysOf] using List.length_filter_le _ l
/-- the mark of the first key with this number; 0 if there is none -/
def markR (l : List I5) (n : Int) (what : List Int) : Int := match ring l n with | some k => markW k what | none => 0
theorem markR_some {l : List I5} {n : Int} {k : I5} (h : ring l n = some k) (what : List Int) : markR l n what = markW k what := by unfold markR; rw [h]
theorem markR_none {l : List I5} {n : Int} (h : ring l n = none) (what : List Int) : markR l n what = 0 := by unfold markR; rw [h]
theorem checkM_ring (l : List I5) (n : Int) (what : List Int) (mark : Int) : checkM l n what mark = ((ring l n).isSome && decide (markR l n what = mark)) := by
  rcases h : ring l n with _ | k
  · rw [checkM_none h]; rfl
  · rw [checkM_some h, markR_some h]; simp
end Go.Proofs.YtfojilogcecphaaGreat.Kn

namespace Go.Proofs.YtfojilogcecphaaGreat.Ki
open Go.ChangeShapes Go.WideShapes Go.ChangeAt Go.RowKit Sl St Fnd Kn SlKey Ints

theorem box1 (w : World) (o : Obj) : Below w.heap.size w (w.alloc o) := (Below.refl _ _).alloc (Nat.le_refl _) _
theorem says {b b' : Bool} {w w' : World} (h : b' = b) (hb : Below w.heap.size w w') : Val (.bool b) w (.returned (.bool b')) w' := ⟨by rw [h], hb⟩
/-- a range asked -/
def Asks (b : Bool) (w : World) (e : Ending) (w' : World) : Prop := e = .returned (.bool b) ∧ w = w'
theorem in_any (x lo hi : Int) (w : World) : Calls Tryz.prog 96 #[.int .i64 x, .int .i64 lo, .int .i64 hi] w (Asks (inB x lo hi) w) := l1In_any _ _ _ _ (inB_def _ _ _) _
theorem rng_any (x lo hi : Int) (w : World) : Calls Tryz.prog 106 #[.int .i64 x, .int .i64 lo, .int .i64 hi] w (Asks (inB x lo hi) w) := inRange_any _ _ _ _ (inB_def _ _ _) _
theorem time_any (t : Int) (w : World) : Calls Tryz.prog 116 #[.int .i64 t] w (Asks (inB t 0 10000) w) := by
  go_enter Tryz.func116, Tryz.ntmps116
  go_wp2_with fail
  refine (l1In_any _ _ _ _ (inB_def _ _ _) _).mono ?_
  rintro e w1 ⟨rfl, rfl⟩
  go_wp2_with fail
  go_ret
  exact ⟨rfl, rfl⟩
set_option maxHeartbeats 1000000 in
/-- one time -/
theorem time1_any (g : Nat) (x : Int) (w : World) (hx : w.cell? ⟨g, 0, none⟩ = some (.int .i64 x)) : Calls Tryz.prog 156 #[.slice (some ⟨g, 0, none⟩) 1 1] w (Asks (inB x 0 10000) w) := by
  rcases h1 : inB x 0 10000 with _ | _
  all_goals
    have H1 := Lib.hid h1
    clear h1
    go_enter Tryz.func156, Tryz.ntmps156
    go_wp2_with fail
    go_loop [7] (fun i => ∃ k : Nat, k ≤ 1 ∧ i = .int .i64 k ∧ Hid (1 ≤ k → inB x 0 10000 = true)) (fun i => 1 - (intOf i).toNat)
    case atStart => exact ⟨0, Nat.zero_le _, rfl, Lib.hid fun h => by omega⟩
    case round =>
      obtain ⟨k, hk, rfl, HK⟩ := hrel
      obtain rfl | rfl : k = 0 ∨ k = 1 := by omega
      · go_wp2_with fail
        refine (rng_any _ _ _ _).mono ?_
        rintro e w1 ⟨rfl, rfl⟩
        rw [H1.out]
        go_wp2_with fail
        first
          | (go_ret; exact ⟨rfl, rfl⟩)
          | (go_round; (case rel => exact ⟨1, by omega, rfl, Lib.hid fun _ => H1.out⟩); (case measure => simp [intOf]))
      · go_wp2_with fail
        go_ret
        exact ⟨by first | rfl | (have h := HK.out (by omega); rw [H1.out] at h; simp_all), rfl⟩

end Go.Proofs.YtfojilogcecphaaGreat.Ki

namespace Go.Proofs.YtfojilogcecphaaGreat.Ti
open Go.ChangeShapes Go.WideShapes Go.ChangeAt Go.RowKit Sl St Fnd SlStamp Ki
set_option maxRecDepth 100000 in
set_option maxHeartbeats 2000000 in
theorem stampInts_any (x0 x1 x2 x3 x4 : Int) (w : World) (_h0 : -9223372036854775808 ≤ x0 ∧ x0 ≤ 9223372036854775807) (_h1 : -9223372036854775808 ≤ x1 ∧ x1 ≤ 9223372036854775807) (_h2 : -9223372036854775808 ≤ x2 ∧ x2 ≤ 9223372036854775807) (_h3 : -9223372036854775808 ≤ x3 ∧ x3 ≤ 9223372036854775807) (_h4 : -9223372036854775808 ≤ x4 ∧ x4 ≤ 9223372036854775807) : Calls Tryz.prog 164 #[.agg #[.int .i64 x0, .int .i64 x1, .int .i64 x2, .int .i64 x3, .int .i64 x4]] w (SlI.Makes [103, x0, x1, x2, x3] w) := by
  have HO := Lib.hid (litN_at 3 (w.alloc (.cells #[.int .i64 x0, .int .i64 x1, .int .i64 x2, .int .i64 x3, .int .i64 x4] 154)) w.heap.size (w.heap.size + 1) [103, x0, x1, x2, x3] (allK_cons ⟨by omega, by omega⟩ (allK_cons _h0 (allK_cons _h1 (allK_cons _h2 (allK_cons _h3 (allK_nil _)))))) (by simp) (by simp) (by simp))
  have HB := Lib.hid ((box1 w (.cells #[.int .i64 x0, .int .i64 x1, .int .i64 x2, .int .i64 x3, .int .i64 x4] 154)).alloc (by simp) (.cells #[.int .i64 103, .int .i64 x0, .int .i64 x1, .int .i64 x2, .int .i64 x3] 3))
  go_enter Tryz.func164, Tryz.ntmps164
  go_wp2_with fail
  go_ret
  exact ⟨_, _, _, rfl, HO.out, HB.out⟩
set_option maxRecDepth 100000 in
set_option maxHeartbeats 2000000 in
theorem spec_stampInts_any (x0 x1 x2 x3 x4 : Int) (w : World) (_h0 : -9223372036854775808 ≤ x0 ∧ x0 ≤ 9223372036854775807) (_h1 : -9223372036854775808 ≤ x1 ∧ x1 ≤ 9223372036854775807) (_h2 : -9223372036854775808 ≤ x2 ∧ x2 ≤ 9223372036854775807) (_h3 : -9223372036854775808 ≤ x3 ∧ x3 ≤ 9223372036854775807) (_h4 : -9223372036854775808 ≤ x4 ∧ x4 ≤ 9223372036854775807) : Calls Tryz.prog 132 #[.agg #[.int .i64 x0, .int .i64 x1, .int .i64 x2, .int .i64 x3, .int .i64 x4]] w (SlI.Makes [103, x0, x1, x2, x3] w) := by
  have HO := Lib.hid (litN_at 3 (w.alloc (.cells #[.int .i64 x0, .int .i64 x1, .int .i64 x2, .int .i64 x3, .int .i64 x4] 154)) w.heap.size (w.heap.size + 1) [103, x0, x1, x2, x3] (allK_cons ⟨by omega, by omega⟩ (allK_cons _h0 (allK_cons _h1 (allK_cons _h2 (allK_cons _h3 (allK_nil _)))))) (by simp) (by simp) (by simp))
  have HB := Lib.hid ((box1 w (.cells #[.int .i64 x0, .int .i64 x1, .int .i64 x2, .int .i64 x3, .int .i64 x4] 154)).alloc (by simp) (.cells #[.int .i64 103, .int .i64 x0, .int .i64 x1, .int .i64 x2, .int .i64 x3] 3))
  go_enter Tryz.func132, Tryz.ntmps132
  go_wp2_with fail
  go_ret
  exact ⟨_, _, _, rfl, HO.out, HB.out⟩
end Go.Proofs.YtfojilogcecphaaGreat.Ti
