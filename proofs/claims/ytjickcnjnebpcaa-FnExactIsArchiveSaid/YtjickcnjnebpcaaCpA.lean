/- A slice of the call's own whose capacity was cut off: marks are written into it. Contracts of the laws' helpers over pieces: opened, copied, compared, measured, marks written and found. Contracts of what is compared: numbers, lists of numbers, pieces; in the program. -/
import Derived.Test.YtjickcnjnebpcaaSlI
import Derived.LoopTactic
import Derived.Test.YtjickcnjnebpcaaSlStr
import Derived.Test.YtjickcnjnebpcaaBx
import Derived.Test.YtjickcnjnebpcaaInt
import Derived.OpenShut
import Derived.Deep.Fields
import Derived.Outline
import Derived.Test.YtjickcnjnebpcaaFnd
import Derived.Deep.RegionHeld3
namespace Go.Proofs.Ytjickcnjnebpcaa.SlC
open Go.ChangeShapes Go.WideShapes Go.ChangeAt Go.RowKit Sl Sl SlI
set_option maxHeartbeats 1000000 in
theorem mark_any (lo hi : Nat) (p : Option Addr) (n c d : Nat) (zs : List Int) (m : Int) (w : World) (ho : Ow .i64 3 w lo hi p n d zs) (hm : 0 ≤ m) (hm' : m + n ≤ 9223372036854775000) : Calls Try.prog 27 #[.slice p n c, .int .i64 m] w (SlI.Marked lo hi p n d m w) := by
  have HL := Lib.hid ho.len
  have hle := ho.rd.le
  have HM : Hid (SlI.MarkMid lo hi p n d zs m 0 w w) := ⟨ho, ⟨rfl, rfl, rfl, Nat.le_refl _, fun _ _ _ => rfl⟩⟩
  clear ho
  go_enter Try.func27, Try.ntmps27
  go_wp2_with fail
  go_loopw [1, 5] (fun x i wr => ∃ k : Nat, k ≤ n ∧ i = .int .i64 k ∧ x = .int .i64 (m + k) ∧ Hid (SlI.MarkMid lo hi p n d zs m k w wr)) (fun _ i _ => n - (intOf i).toNat)
  case atStart => exact ⟨0, Nat.zero_le _, rfl, by simp, HM⟩
  case round =>
    obtain ⟨k, hk, rfl, rfl, HK⟩ := hrel
    by_cases hlt : k < n
    · rcases HK.out.1.form with ⟨_, hn0, _⟩ | ⟨g, rfl, _, _, hnc, _⟩
      · omega
      have hcd := HK.out.1.cell hlt
      have hfd := HK.out.1.free (i := k)
      go_wp2_with fail
      go_roundw
      case rel => exact ⟨k + 1, by omega, by go_num, by go_num, HK.out.next hlt HL.out (intK_of (by omega)).symm⟩
      case measure => simp [intOf]; omega
    · obtain rfl : k = n := by omega
      go_wp2_with fail
      go_ret
      exact HK.out.done HL.out
end Go.Proofs.Ytjickcnjnebpcaa.SlC

namespace Go.Proofs.Ytjickcnjnebpcaa.SlPiece
open Go.ChangeShapes Go.WideShapes Go.ChangeAt Go.RowKit Sl St
set_option maxRecDepth 100000 in
theorem open_val {H : Type} {enc : TypeId × Value → H} {W : World} {base : Nat} {v : Value} {D : DataW H} {pl : List MemPlace} (h : DataW.Trod enc Try.prog W 0 (fun _ => true) true 140 v D pl) (hk : Value.okWide Try.prog W .any base 140 v) :
    ∃ (k : Int) (p : Option Addr) (n c : Nat) (m : Int) (zs : List Int), v = .agg #[.int .i64 k, .slice p n c, .int .i64 m] ∧ Rd .i64 W p n zs ∧ (-9223372036854775808 ≤ k ∧ k ≤ 9223372036854775807) ∧ (-9223372036854775808 ≤ m ∧ m ≤ 9223372036854775807) := by
  have hi : ∃ f0 f1 f2 : Field, Try.prog.underlying 140 = some (.struct #[f0, f1, f2]) ∧ f0.offset = 0 ∧ f1.offset = 1 ∧ f2.offset = 2 ∧ f0.type = 3 ∧ f1.type = 23 ∧ f2.type = 3 ∧ Try.prog.cellsOf 3 = 1 ∧ Try.prog.cellsOf 23 = 1 ∧ Try.prog.cellsOf 140 = 3 := ⟨_, _, _, Try.underlying140, by kernel_rfl, by kernel_rfl, by kernel_rfl, by kernel_rfl, by kernel_rfl, by kernel_rfl, by kernel_rfl, by kernel_rfl, by kernel_rfl⟩
  obtain ⟨f0, f1, f2, hs, o0, o1, o2, t0, t1, t2, c0, c1, c3⟩ := hi
  obtain ⟨cs, rfl, hsz⟩ := okWide_struct hs hk
  obtain ⟨fuel, hf⟩ := h
  have hl : cs.toList.length = 3 := by simp only [Array.length_toList]; rw [hsz, c3]
  simp only [Value.cells] at hf
  generalize hcl : cs.toList = l at hf hl
  obtain ⟨y0, y1, y2, n', _, _, h0, h1, h2⟩ := Go.Deep.trod_struct3 hs hf
  rw [o0, t0, c0] at h0
  rw [o1, t1, c1] at h1
  rw [o2, t2, c0] at h2
  obtain ⟨e0, e1, e2, rfl⟩ : ∃ e0 e1 e2, l = [e0, e1, e2] := by
    match l, hl with
    | [e0, e1, e2], _ => exact ⟨e0, e1, e2, rfl⟩
  simp only [List.drop_zero, List.take_succ_cons, List.take_zero, List.drop_succ_cons] at h0 h1 h2
  obtain ⟨k, hz0, _, w0⟩ := DataW.trod_int Try.underlying3 h0
  obtain ⟨p, n, c, zs, hz1, hr⟩ := SlStr.open_cellsI h1
  obtain ⟨m, hz2, _, w2⟩ := DataW.trod_int Try.underlying3 h2
  simp only [List.cons.injEq, and_true] at hz0 hz1 hz2
  refine ⟨k, p, n, c, m, zs, ?_, hr, bounds_i64 w0, bounds_i64 w2⟩
  have : cs = #[.int .i64 k, .slice p n c, .int .i64 m] := by
    apply Array.ext'
    rw [hcl, hz0, hz1, hz2]
  rw [this]
theorem bx3 {w : World} {g : Nat} {T : TypeId} {x0 x1 x2 : Value} (h : Bx w g T #[x0, x1, x2]) : w.cell? ⟨g, 0, none⟩ = some x0 ∧ w.cell? ⟨g, 1, none⟩ = some x1 ∧ w.cell? ⟨g, 2, none⟩ = some x2 := ⟨h.cell rfl, h.cell rfl, h.cell rfl⟩
/-- The call answers a piece whose numbers lie in memory of its own, whatever the capacity says; what lay before is as it was. -/
def Makes (k : Int) (zs : List Int) (m : Int) (w : World) (e : Ending) (w' : World) : Prop := ∃ (p : Option Addr) (n c d : Nat), e = .returned (.agg #[.int .i64 k, .slice p n c, .int .i64 m]) ∧ Ow .i64 3 w' w.heap.size w'.heap.size p n d zs ∧ Below w.heap.size w w'
def Yes (w : World) (e : Ending) (w' : World) : Prop := e = .returned (.bool true) ∧ Below w.heap.size w w'
def Val (v : Value) (w : World) (e : Ending) (w' : World) : Prop := e = .returned v ∧ Below w.heap.size w w'
theorem box1 (w : World) (o : Obj) : Below w.heap.size w (w.alloc o) := (Below.refl _ _).alloc (Nat.le_refl _) _
theorem grown_set {w : World} (g j : Nat) (v : Value) : w.grownBy (w.setCell ⟨g, j, none⟩ v) (some g) := ⟨rfl, rfl, rfl, by simp [World.setCell], fun i hi hne => Below.heap_setCell w ⟨g, j, none⟩ v i (by rintro rfl; exact hne rfl)⟩
set_option maxRecDepth 100000 in
set_option maxHeartbeats 4000000 in
theorem to_any (k : Int) (p : Option Addr) (n c : Nat) (m : Int) (zs : List Int) (w : World) (hr : Rd .i64 w p n zs) (hn : n ≤ 1048576) : Calls Try.prog 99 #[.agg #[.int .i64 k, .slice p n c, .int .i64 m]] w fun e w' => ∃ (p1 : Option Addr) (n1 c1 : Nat), e = .returned (.agg #[.int .i64 k, .slice p1 n1 c1, .int .i64 m]) ∧ Ow .i64 3 w' w.heap.size w'.heap.size p1 n1 c1 zs ∧ Below w.heap.size w w' := by
  have b0 := ((Bx.new w 140 #[.int .i64 k, .slice p n c, .int .i64 m]).alloc (.cells #[.int .i64 0, .slice none 0 0, .int .i64 0] 78)).alloc (.cells #[.int .i64 k, .slice none 0 0, .int .i64 0] 78)
  have b1 := (Bx.new (w.alloc (.cells #[.int .i64 k, .slice p n c, .int .i64 m] 140)) 78 #[.int .i64 0, .slice none 0 0, .int .i64 0]).alloc (.cells #[.int .i64 k, .slice none 0 0, .int .i64 0] 78)
  have b2 := Bx.new ((w.alloc (.cells #[.int .i64 k, .slice p n c, .int .i64 m] 140)).alloc (.cells #[.int .i64 0, .slice none 0 0, .int .i64 0] 78)) 78 #[.int .i64 k, .slice none 0 0, .int .i64 0]
  rw [World.size_alloc] at b1
  rw [World.size_alloc, World.size_alloc] at b2
  have HA := Lib.hid b0
  have HR := Lib.hid b1
  have HO := Lib.hid b2
  have HB : Hid (Below w.heap.size w (((w.alloc (.cells #[.int .i64 k, .slice p n c, .int .i64 m] 140)).alloc (.cells #[.int .i64 0, .slice none 0 0, .int .i64 0] 78)).alloc (.cells #[.int .i64 k, .slice none 0 0, .int .i64 0] 78))) := Lib.hid ((((Below.refl w.heap.size w).alloc (Nat.le_refl _) _).alloc (by simp) _).alloc (by simp; omega) _)
  have HSZ : Hid ((((w.alloc (.cells #[.int .i64 k, .slice p n c, .int .i64 m] 140)).alloc (.cells #[.int .i64 0, .slice none 0 0, .int .i64 0] 78)).alloc (.cells #[.int .i64 k, .slice none 0 0, .int .i64 0] 78)).heap.size = w.heap.size + 3) := Lib.hid (by simp)
  have HP := Lib.hid hr
  clear b0 b1 b2 hr
  go_enter Try.func99, Try.ntmps99
  go_wp2_with fail
  generalize (((w.alloc (.cells #[.int .i64 k, .slice p n c, .int .i64 m] 140)).alloc (.cells #[.int .i64 0, .slice none 0 0, .int .i64 0] 78)).alloc (.cells #[.int .i64 k, .slice none 0 0, .int .i64 0] 78)) = V at HA HR HO HB HSZ ⊢
  refine (SlI.to_any _ _ _ _ _ (HP.out.below HB.out) (by omega)).mono ?_
  rintro e w1 ⟨p1, n1, c1, rfl, ho, hb⟩
  have hs1 := hb.size
  have hs0 := HSZ.out
  have HA1 := Lib.hid (HA.out.below hb)
  have HR1 := Lib.hid (HR.out.below hb)
  have HO1 := Lib.hid (HO.out.below hb)
  have HB1 := Lib.hid (below_on HB.out hb)
  have HP1 := Lib.hid ho
  obtain ⟨a0, a1, a2⟩ := bx3 HA1.out
  obtain ⟨o0, o1, o2⟩ := bx3 HO1.out
  obtain ⟨r0, r1, r2⟩ := bx3 HR1.out
  have of1 := HO1.out.free 1
  have of2 := HO1.out.free 2
  have rf0 := HR1.out.free 0
  have rf1 := HR1.out.free 1
  have rf2 := HR1.out.free 2
  clear ho hb
  go_wp2_with fail
  refine bodyPost_ret (v := .agg #[.int .i64 k, .slice p1 n1 c1, .int .i64 m]) (by simp [results, Try.results99, go_sem, r0, r1, r2]) rfl ⟨p1, n1, c1, rfl, ?_, ((((HB1.out.setCell (p := ⟨w.heap.size + 1 + 1, 1, none⟩) (by simp; omega) _).setCell (p := ⟨w.heap.size + 1 + 1, 2, none⟩) (by simp; omega) _).setCell (p := ⟨w.heap.size + 1, 0, none⟩) (by simp) _).setCell (p := ⟨w.heap.size + 1, 1, none⟩) (by simp) _).setCell (p := ⟨w.heap.size + 1, 2, none⟩) (by simp) _⟩
  exact (((((HP1.out.kept (grown_set _ _ _) (fun g e => by cases e; omega)).kept (grown_set _ _ _) (fun g e => by cases e; omega)).kept (grown_set _ _ _) (fun g e => by cases e; omega)).kept (grown_set _ _ _) (fun g e => by cases e; omega)).kept (grown_set _ _ _) (fun g e => by cases e; omega)).wide (by omega) (by simp [World.setCell]) (Nat.le_refl _)
set_option maxRecDepth 100000 in
set_option maxHeartbeats 4000000 in
theorem eq_any (k : Int) (p p' : Option Addr) (n c c' : Nat) (m : Int) (zs : List Int) (w : World) (hr : Rd .i64 w p n zs) (hr' : Rd .i64 w p' n zs) : Calls Try.prog 106 #[.agg #[.int .i64 k, .slice p n c, .int .i64 m], .agg #[.int .i64 k, .slice p' n c', .int .i64 m]] w (Yes w) := by
  have HP := Lib.hid hr
  have HP' := Lib.hid hr'
  have HB := Lib.hid ((box1 w (.cells #[.int .i64 k, .slice p n c, .int .i64 m] 78)).alloc (by simp) (.cells #[.int .i64 k, .slice p' n c', .int .i64 m] 78))
  have HX := Lib.hid ((Bx.new w 78 #[.int .i64 k, .slice p n c, .int .i64 m]).alloc (.cells #[.int .i64 k, .slice p' n c', .int .i64 m] 78))
  have hy := Bx.new (w.alloc (.cells #[.int .i64 k, .slice p n c, .int .i64 m] 78)) 78 #[.int .i64 k, .slice p' n c', .int .i64 m]
  rw [World.size_alloc] at hy
  have HY := Lib.hid hy
  clear hr hr' hy
  go_enter Try.func106, Try.ntmps106
  go_wp2_with fail
  refine (SlI.eq_any _ _ _ _ _ _ _ (HP.out.below HB.out) (HP'.out.below HB.out)).mono ?_
  rintro e w1 ⟨rfl, hb⟩
  have HB1 := Lib.hid (below_on HB.out hb)
  obtain ⟨x0, x1, x2⟩ := bx3 (HX.out.below hb)
  obtain ⟨y0, y1, y2⟩ := bx3 (HY.out.below hb)
  clear hb
  go_wp2_with fail
  go_ret
  exact ⟨rfl, HB1.out⟩
theorem szI_big (q : Option Addr) (m d : Nat) (left : Int) (w : World) (h0 : 0 ≤ left) (h1 : left ≤ 1048576) (h : left < m) (hn : m ≤ 9223372036854775807) : Calls Try.prog 68 #[.slice q m d, .int .i64 left] w fun e w' => e = .returned (.int .i64 (-1)) ∧ w = w' := by
  go_enter Try.func68, Try.ntmps68
  go_wp2_with fail
  go_ret
  exact ⟨rfl, rfl⟩
theorem szI_fits (q : Option Addr) (m d : Nat) (left : Int) (w : World) (h1 : left ≤ 1048576) (h : m ≤ left) : Calls Try.prog 68 #[.slice q m d, .int .i64 left] w fun e w' => e = .returned (.int .i64 (left - m)) ∧ w = w' := by
  go_enter Try.func68, Try.ntmps68
  go_wp2_with fail
  go_ret
  exact ⟨rfl, rfl⟩
set_option maxRecDepth 100000 in
theorem sz_fits (k : Int) (p : Option Addr) (n c : Nat) (m : Int) (left : Int) (w : World) (h1 : left ≤ 1048576) (h : n ≤ left) : Calls Try.prog 97 #[.agg #[.int .i64 k, .slice p n c, .int .i64 m], .int .i64 left] w (Val (.int .i64 (left - n)) w) := by
  have HB := Lib.hid (box1 w (.cells #[.int .i64 k, .slice p n c, .int .i64 m] 140))
  go_enter Try.func97, Try.ntmps97
  go_wp2_with fail
  refine (szI_fits _ _ _ _ _ (by omega) (by omega)).mono ?_
  rintro e w1 ⟨rfl, rfl⟩
  go_wp2_with fail
  go_ret
  exact ⟨rfl, HB.out⟩
set_option maxRecDepth 100000 in
theorem sz_big (k : Int) (p : Option Addr) (n c : Nat) (m : Int) (left : Int) (w : World) (h0 : 0 ≤ left) (h1 : left ≤ 1048576) (h : left < n) (hn : n ≤ 9223372036854775807) : Calls Try.prog 97 #[.agg #[.int .i64 k, .slice p n c, .int .i64 m], .int .i64 left] w (Val (.int .i64 (-1)) w) := by
  have HB := Lib.hid (box1 w (.cells #[.int .i64 k, .slice p n c, .int .i64 m] 140))
  go_enter Try.func97, Try.ntmps97
  go_wp2_with fail
  refine (szI_big _ _ _ _ _ (by omega) (by omega) (by omega) hn).mono ?_
  rintro e w1 ⟨rfl, rfl⟩
  go_wp2_with fail
  go_ret
  exact ⟨rfl, HB.out⟩
theorem grown_from {w w' : World} {o : Obj} {r : Option Nat} (h : (w.alloc o).grownBy w' r) : w.grownBy w' r :=
  ⟨h.os, h.tape, h.output, Nat.le_trans (by simp) h.size, fun i hi hne => (h.block i (by simp; omega) hne).trans (Below.heap_alloc w o i hi)⟩
end Go.Proofs.Ytjickcnjnebpcaa.SlPiece

namespace Go.Proofs.Ytjickcnjnebpcaa.Cp
open Go.ChangeShapes Go.WideShapes Go.ChangeAt Go.RowKit Sl St
def cI (a b : Int) : Int := if a < b then -1 else if b < a then 1 else 0
theorem cI_lt {a b : Int} (h : a < b) : cI a b = -1 := if_pos h
theorem cI_gt {a b : Int} (h : b < a) : cI a b = 1 := by unfold cI; rw [if_neg (by omega), if_pos h]
theorem cI_eq (a : Int) : cI a a = 0 := by unfold cI; rw [if_neg (by omega), if_neg (by omega)]
theorem cI_ne {a b : Int} (h : a ≠ b) : cI a b ≠ 0 := by
  rcases (by omega : a < b ∨ b < a) with h' | h'
  · rw [cI_lt h']; omega
  · rw [cI_gt h']; omega
def cL : List Int → List Int → Int
  | [], [] => 0
  | [], _ :: _ => -1
  | _ :: _, [] => 1
  | x :: xs, y :: ys => if x = y then cL xs ys else cI x y
theorem cL_refl : ∀ xs : List Int, cL xs xs = 0
  | [] => rfl
  | x :: xs => by rw [cL, if_pos rfl]; exact cL_refl xs
theorem cL_zero : ∀ {xs ys : List Int}, cL xs ys = 0 → xs = ys
  | [], [], _ => rfl
  | [], _ :: _, h => by simp [cL] at h
  | _ :: _, [], h => by simp [cL] at h
  | x :: xs, y :: ys, h => by
    rw [cL] at h
    split at h
    · next e => rw [e, cL_zero h]
    · next e => exact absurd h (cI_ne e)
theorem drop_at {xs : List Int} {k : Nat} (h : k < xs.length) : xs.drop k = xs.getD k 0 :: xs.drop (k + 1) := by
  rw [List.drop_eq_getElem_cons h, List.getD_eq_getElem?_getD, List.getElem?_eq_getElem h]
  rfl
def or3 (a b c : Int) : Int := if a ≠ 0 then a else if b ≠ 0 then b else c
def cP (k k' : Int) (xs ys : List Int) (m m' : Int) : Int := or3 (cL xs ys) (cI k k') (cI m m')
theorem says {b b' : Value} {w w' : World} (h : b' = b) (hb : Below w.heap.size w w') : SlPiece.Val b w (.returned b') w' := ⟨by rw [h], hb⟩
theorem nan_any (x : Int) (w : World) : Calls Try.prog 122 #[.int .i64 x] w fun e w' => e = .returned (.bool false) ∧ w = w' := by
  go_enter Try.func122, Try.ntmps122
  go_wp2_with fail
  go_ret
  exact ⟨by simp, rfl⟩
theorem cmp_any (a b : Int) (w : World) : Calls Try.prog 104 #[.int .i64 a, .int .i64 b] w fun e w' => e = .returned (.int .i64 (cI a b)) ∧ w = w' := by
  rcases (by omega : a < b ∨ b < a ∨ a = b) with h | h | h
  · have HE := Lib.hid (cI_lt h)
    go_enter Try.func104, Try.ntmps104
    go_wp2_with fail
    refine (nan_any _ _).mono ?_
    rintro e w1 ⟨rfl, rfl⟩
    go_wp2_with fail
    refine (nan_any _ _).mono ?_
    rintro e w1 ⟨rfl, rfl⟩
    go_wp2_with fail
    go_ret
    exact ⟨by rw [HE.out]; rfl, rfl⟩
  · have HE := Lib.hid (cI_gt h)
    have h' : ¬ a < b := by omega
    go_enter Try.func104, Try.ntmps104
    go_wp2_with fail
    refine (nan_any _ _).mono ?_
    rintro e w1 ⟨rfl, rfl⟩
    go_wp2_with fail
    refine (nan_any _ _).mono ?_
    rintro e w1 ⟨rfl, rfl⟩
    go_wp2_with fail
    go_ret
    exact ⟨by rw [HE.out]; rfl, rfl⟩
  · subst h
    have HE := Lib.hid (cI_eq a)
    go_enter Try.func104, Try.ntmps104
    go_wp2_with fail
    refine (nan_any _ _).mono ?_
    rintro e w1 ⟨rfl, rfl⟩
    go_wp2_with fail
    refine (nan_any _ _).mono ?_
    rintro e w1 ⟨rfl, rfl⟩
    go_wp2_with fail
    go_ret
    exact ⟨by rw [HE.out]; rfl, rfl⟩
set_option maxRecDepth 100000 in
set_option maxHeartbeats 4000000 in
theorem cmpL_any (p q : Option Addr) (n m c d : Nat) (xs ys : List Int) (w : World) (hr : Rd .i64 w p n xs) (hs : Rd .i64 w q m ys) : Calls Try.prog 103 #[.slice p n c, .slice q m d] w fun e w' => e = .returned (.int .i64 (cL xs ys)) ∧ w = w' := by
  have HR := Lib.hid hr
  have HS := Lib.hid hs
  have L1 := Lib.hid hr.len
  have L2 := Lib.hid hs.len
  have hle := hr.le
  have hle' := hs.le
  clear hr hs
  go_enter Try.func103, Try.ntmps103
  go_wp2_with fail
  go_loop [11] (fun i => ∃ k : Nat, k ≤ n ∧ k ≤ m ∧ i = .int .i64 k ∧ Hid (cL xs ys = cL (xs.drop k) (ys.drop k))) (fun i => n - (intOf i).toNat)
  case atStart => exact ⟨0, Nat.zero_le _, Nat.zero_le _, rfl, Lib.hid rfl⟩
  case round =>
    obtain ⟨k, hk, hk', rfl, HE⟩ := hrel
    by_cases hlt : k < n
    · obtain ⟨b, o, rfl, hb, hc⟩ := HR.out.at_ hlt
      have D1 := Lib.hid (drop_at (xs := xs) (k := k) (by rw [L1.out]; exact hlt))
      by_cases hlt' : k < m
      · obtain ⟨b', o', rfl, hb', hc'⟩ := HS.out.at_ hlt'
        have D2 := Lib.hid (drop_at (xs := ys) (k := k) (by rw [L2.out]; exact hlt'))
        generalize xs.getD k 0 = x at hc D1
        generalize ys.getD k 0 = y at hc' D2
        by_cases hxy : x = y
        · have HN : Hid (cL xs ys = cL (xs.drop (k + 1)) (ys.drop (k + 1))) := Lib.hid (by rw [HE.out, D1.out, D2.out, cL, if_pos hxy])
          have HZ : Hid (cI x y = 0) := Lib.hid (by rw [hxy]; exact cI_eq y)
          clear hxy
          go_wp2_with fail
          refine (cmp_any x y _).mono ?_
          rintro e w1 ⟨rfl, rfl⟩
          rw [HZ.out]
          go_wp2_with fail
          go_round
          case rel => exact ⟨k + 1, by omega, by omega, by go_num, HN⟩
          case measure => simp [intOf]; omega
        · have HN : Hid (cL xs ys = cI x y) := Lib.hid (by rw [HE.out, D1.out, D2.out, cL, if_neg hxy])
          have hz := cI_ne hxy
          obtain ⟨z, HZ, hz'⟩ : ∃ z, Hid (cI x y = z) ∧ z ≠ 0 := ⟨_, Lib.hid rfl, hz⟩
          have e1 : (z != 0) = true := bne_iff_ne.2 hz'
          have e2 : (z == 0) = false := beq_eq_false_iff_ne.2 hz'
          clear hz'
          clear hxy hz
          go_wp2_with fail
          refine (cmp_any x y _).mono ?_
          rintro e w1 ⟨rfl, rfl⟩
          rw [HZ.out]
          go_wp2_with fail
          go_ret
          exact ⟨by rw [HN.out, HZ.out]; rfl, rfl⟩
      · obtain rfl : k = m := by omega
        have D2 : ys.drop k = [] := List.drop_eq_nil_of_le (by rw [L2.out]; exact Nat.le_refl _)
        have HN : Hid (cL xs ys = 1) := Lib.hid (by rw [HE.out, D1.out, D2]; rfl)
        clear D2
        go_wp2_with fail
        go_ret
        exact ⟨by rw [HN.out]; rfl, rfl⟩
    · obtain rfl : k = n := by omega
      have D1 : xs.drop k = [] := List.drop_eq_nil_of_le (by rw [L1.out]; exact Nat.le_refl _)
      by_cases hlt' : k < m
      · have HN : Hid (cL xs ys = -1) := Lib.hid (by rw [HE.out, D1, drop_at (xs := ys) (k := k) (by rw [L2.out]; exact hlt')]; rfl)
        clear D1
        go_wp2_with fail
        go_ret
        exact ⟨by rw [HN.out]; rfl, rfl⟩
      · have D2 : ys.drop k = [] := List.drop_eq_nil_of_le (by rw [L2.out]; omega)
        have HN : Hid (cL xs ys = 0) := Lib.hid (by rw [HE.out, D1, D2]; rfl)
        clear D2
        have hlt2 : ¬ k < m := hlt'
        clear D1
        go_wp2_with fail
        go_ret
        exact ⟨by rw [HN.out]; rfl, rfl⟩
set_option maxRecDepth 100000 in
set_option maxHeartbeats 4000000 in
theorem or_any (g : Nat) (a b c : Int) (w : World) (h : Bx w g 3 #[.int .i64 a, .int .i64 b, .int .i64 c]) : Calls Try.prog 102 #[.slice (some ⟨g, 0, none⟩) 3 3] w fun e w' => e = .returned (.int .i64 (or3 a b c)) ∧ w = w' := by
  have HX := Lib.hid h
  clear h
  rcases Classical.em (a = 0) with ha | ha
  rotate_left
  · have HE : Hid (or3 a b c = a) := Lib.hid (by unfold or3; rw [if_pos ha])
    have e1 : (a != 0) = true := bne_iff_ne.2 ha
    have e2 : (a == 0) = false := beq_eq_false_iff_ne.2 ha
    have c0 := HX.out.cell (j := 0) rfl
    clear ha
    go_enter Try.func102, Try.ntmps102
    go_wp2_with fail
    go_loop [8] (fun i => i = .int .i64 0) (fun _ => 0)
    case atStart => rfl
    case round =>
      obtain rfl := hrel
      go_wp2_with fail
      go_ret
      exact ⟨by rw [HE.out]; rfl, rfl⟩
  subst ha
  rcases Classical.em (b = 0) with hb | hb
  rotate_left
  · have HE : Hid (or3 0 b c = b) := Lib.hid (by unfold or3; rw [if_neg (by simp), if_pos hb])
    have e1 : (b != 0) = true := bne_iff_ne.2 hb
    have e2 : (b == 0) = false := beq_eq_false_iff_ne.2 hb
    have c0 := HX.out.cell (j := 0) rfl
    have c1 := HX.out.cell (j := 1) rfl
    clear hb
    go_enter Try.func102, Try.ntmps102
    go_wp2_with fail
    go_loop [8] (fun i => i = .int .i64 0 ∨ i = .int .i64 1) (fun i => 3 - (intOf i).toNat)
    case atStart => exact Or.inl rfl
    case round =>
      rcases hrel with rfl | rfl
      · go_wp2_with fail
        go_round
        case rel => exact Or.inr rfl
        case measure => simp [intOf]
      · go_wp2_with fail
        go_ret
        exact ⟨by rw [HE.out]; rfl, rfl⟩
  subst hb
  have HE : Hid (or3 0 0 c = c) := Lib.hid (by unfold or3; rw [if_neg (by simp), if_neg (by simp)])
  have c0 := HX.out.cell (j := 0) rfl
  have c1 := HX.out.cell (j := 1) rfl
  have c2 := HX.out.cell (j := 2) rfl
  rcases Classical.em (c = 0) with hc | hc
  · subst hc
    go_enter Try.func102, Try.ntmps102
    go_wp2_with fail
    go_loop [8] (fun i => i = .int .i64 0 ∨ i = .int .i64 1 ∨ i = .int .i64 2 ∨ i = .int .i64 3) (fun i => 4 - (intOf i).toNat)
    case atStart => exact Or.inl rfl
    case round =>
      rcases hrel with rfl | rfl | rfl | rfl
      · go_wp2_with fail
        go_round
        case rel => exact Or.inr (Or.inl rfl)
        case measure => simp [intOf]
      · go_wp2_with fail
        go_round
        case rel => exact Or.inr (Or.inr (Or.inl rfl))
        case measure => simp [intOf]
      · go_wp2_with fail
        go_round
        case rel => exact Or.inr (Or.inr (Or.inr rfl))
        case measure => simp [intOf]
      · go_wp2_with fail
        go_ret
        exact ⟨by rw [HE.out]; rfl, rfl⟩
  have e1 : (c != 0) = true := bne_iff_ne.2 hc
  have e2 : (c == 0) = false := beq_eq_false_iff_ne.2 hc
  clear hc
  go_enter Try.func102, Try.ntmps102
  go_wp2_with fail
  go_loop [8] (fun i => i = .int .i64 0 ∨ i = .int .i64 1 ∨ i = .int .i64 2) (fun i => 4 - (intOf i).toNat)
  case atStart => exact Or.inl rfl
  case round =>
    rcases hrel with rfl | rfl | rfl
    · go_wp2_with fail
      go_round
      case rel => exact Or.inr (Or.inl rfl)
      case measure => simp [intOf]
    · go_wp2_with fail
      go_round
      case rel => exact Or.inr (Or.inr rfl)
      case measure => simp [intOf]
    · go_wp2_with fail
      go_ret
      exact ⟨by rw [HE.out]; rfl, rfl⟩
theorem drewB {W w : World} {B : Nat} (h : Below B W w) : Below B W w.drew := below_drewN h 1
theorem six {w : World} {g h : Nat} {T T' : TypeId} {x0 x1 x2 y0 y1 y2 : Value} (a : Bx w g T #[x0, x1, x2]) (b : Bx w h T' #[y0, y1, y2]) : w.cell? ⟨g, 0, none⟩ = some x0 ∧ w.cell? ⟨g, 1, none⟩ = some x1 ∧ w.cell? ⟨g, 2, none⟩ = some x2 ∧ w.cell? ⟨h, 0, none⟩ = some y0 ∧ w.cell? ⟨h, 1, none⟩ = some y1 ∧ w.cell? ⟨h, 2, none⟩ = some y2 := ⟨a.cell rfl, a.cell rfl, a.cell rfl, b.cell rfl, b.cell rfl, b.cell rfl⟩
set_option maxRecDepth 100000 in
set_option maxHeartbeats 8000000 in
theorem cmpP_any (k : Int) (p : Option Addr) (n c : Nat) (m k' : Int) (q : Option Addr) (n' d : Nat) (m' : Int) (xs ys : List Int) (w : World) (hr : Rd .i64 w p n xs) (hs : Rd .i64 w q n' ys) : Calls Try.prog 80 #[.agg #[.int .i64 k, .slice p n c, .int .i64 m], .agg #[.int .i64 k', .slice q n' d, .int .i64 m']] w (SlPiece.Val (.int .i64 (cP k k' xs ys m m')) w) := by
  have hB : Below w.heap.size w ((w.alloc (.cells #[.int .i64 k, .slice p n c, .int .i64 m] 78)).alloc (.cells #[.int .i64 k', .slice q n' d, .int .i64 m'] 78)) := ((Below.refl w.heap.size w).alloc (Nat.le_refl _) _).alloc (by simp) _
  have HX := Lib.hid ((Bx.new w 78 #[.int .i64 k, .slice p n c, .int .i64 m]).alloc (.cells #[.int .i64 k', .slice q n' d, .int .i64 m'] 78))
  have hy := Bx.new (w.alloc (.cells #[.int .i64 k, .slice p n c, .int .i64 m] 78)) 78 #[.int .i64 k', .slice q n' d, .int .i64 m']
  rw [World.size_alloc] at hy
  have HY := Lib.hid hy
  have HR := Lib.hid (hr.below hB)
  have HS := Lib.hid (hs.below hB)
  have HB := Lib.hid hB
  clear hy hB hr hs
  go_enter Try.func80, Try.ntmps80
  go_wp2_with fail
  generalize ((w.alloc (.cells #[.int .i64 k, .slice p n c, .int .i64 m] 78)).alloc (.cells #[.int .i64 k', .slice q n' d, .int .i64 m'] 78)) = V at HX HY HB HR HS ⊢
  have HBu := HB
  have HXu := HX
  have HYu := HY
  replace HB := Lib.hid (drewB HB.out)
  replace HX := Lib.hid HX.out.drew1
  replace HY := Lib.hid HY.out.drew1
  replace HR : Hid (Rd .i64 V.drew p n xs) := Lib.hid (HR.out.drewN 1)
  replace HS : Hid (Rd .i64 V.drew q n' ys) := Lib.hid (HS.out.drewN 1)
  have HZ := Lib.hid (Bx.new V 3 #[.int .i64 (cL xs ys), .int .i64 (cI k k'), .int .i64 (cI m m')]).drew1
  go_region_held3 (fun w' => w'.cell? ⟨w.heap.size, 0, none⟩ = some (.int .i64 k) ∧ w'.cell? ⟨w.heap.size, 1, none⟩ = some (.slice p n c) ∧ w'.cell? ⟨w.heap.size, 2, none⟩ = some (.int .i64 m) ∧ w'.cell? ⟨w.heap.size + 1, 0, none⟩ = some (.int .i64 k') ∧ w'.cell? ⟨w.heap.size + 1, 1, none⟩ = some (.slice q n' d) ∧ w'.cell? ⟨w.heap.size + 1, 2, none⟩ = some (.int .i64 m')) (first | exact six HX.out HY.out | exact six (HXu.out.alloc _).drew1 (HYu.out.alloc _).drew1 | exact six (HX.out.alloc _) (HY.out.alloc _) | go_keep) (first
    | (go_at_call 103; (with_reducible refine (cmpL_any p q n n' c d xs ys _ HR.out HS.out).mono ?_); rintro e w1 ⟨rfl, rfl⟩)
    | (go_at_call 104; (with_reducible refine (cmp_any k k' _).mono ?_); rintro e w1 ⟨rfl, rfl⟩)
    | (go_at_call 104; (with_reducible refine (cmp_any m m' _).mono ?_); rintro e w1 ⟨rfl, rfl⟩)
    | (go_at_call 102; (with_reducible refine (or_any _ _ _ _ _ HZ.out).mono ?_); rintro e w1 ⟨rfl, rfl⟩))
  all_goals
    go_wp2_with fail
    go_ret
    exact says rfl (by first | exact drewB (HBu.out.alloc HBu.out.size _) | exact HB.out.alloc HB.out.size _)
theorem cP_before {k k' : Int} {xs ys : List Int} {m m' z : Int} (h : cP k k' xs ys m m' = z) : decide (z < 0) = decide (cP k k' xs ys m m' < 0) := by rw [h]
set_option maxRecDepth 100000 in
set_option maxHeartbeats 4000000 in
theorem equal_any (k : Int) (p : Option Addr) (n c : Nat) (m k' : Int) (q : Option Addr) (n' d : Nat) (m' : Int) (xs ys : List Int) (w : World) (hr : Rd .i64 w p n xs) (hs : Rd .i64 w q n' ys) : Calls Try.prog 45 #[.agg #[.int .i64 k, .slice p n c, .int .i64 m], .agg #[.int .i64 k', .slice q n' d, .int .i64 m']] w (SlPiece.Val (.bool (decide (cP k k' xs ys m m' = 0))) w) := by
  have hB : Below w.heap.size w ((w.alloc (.cells #[.int .i64 k, .slice p n c, .int .i64 m] 78)).alloc (.cells #[.int .i64 k', .slice q n' d, .int .i64 m'] 78)) := ((Below.refl w.heap.size w).alloc (Nat.le_refl _) _).alloc (by simp) _
  have HR := Lib.hid (hr.below hB)
  have HS := Lib.hid (hs.below hB)
  have HB := Lib.hid hB
  clear hB hr hs
  obtain ⟨z, hz⟩ : ∃ z, cP k k' xs ys m m' = z := ⟨_, rfl⟩
  have HZ := Lib.hid hz
  rw [hz]
  clear hz
  go_enter Try.func45, Try.ntmps45
  go_wp2_with fail
  refine (cmpP_any k p n c m k' q n' d m' xs ys _ HR.out HS.out).mono ?_
  rintro e w1 ⟨rfl, hb⟩
  rw [HZ.out]
  replace HB := Lib.hid (below_on HB.out hb)
  clear hb
  by_cases h : z = 0
  all_goals
    have HD := Lib.hid h
    have e1 : (z == 0) = decide (z = 0) := rfl
    clear h
    go_wp2_with fail
    go_ret
    exact says (by simp [HD.out]) HB.out
end Go.Proofs.Ytjickcnjnebpcaa.Cp
