/- Contracts: the first Authority with a number; in the program (slices.IndexFunc with a closure) and in the reference. -/
import Derived.Test.YtfojilogcecphaaGreatSlAuthority
import Derived.Test.YtfojilogcecphaaGreatFnd
import Derived.Test.YtfojilogcecphaaGreatShelfG
import Derived.Shelf.SlicesQ.IndexFunc
import Derived.LoopTactic
import Derived.Deep.QuietTactic
import Derived.BigQuiet
import Derived.Outline
namespace Go.Proofs.YtfojilogcecphaaGreat.FAuthority
open Go.ChangeShapes Go.WideShapes Go.ChangeAt Go.RowKit Go.Shelf Sl St Fnd SlAuthority

set_option maxHeartbeats 1000000 in
theorem spec_find_any (p : Option Addr) (n c : Nat) (xs : List I3) (id : Int) (w : World) (hr : RdS E w p n xs) : Calls Tryz.prog 115 #[.slice p n c, .int .i64 id] w fun e w' => e = .returned (.int .i64 (find xs id)) ∧ w = w' := by
  have HR := Lib.hid hr
  have HL := Lib.hid hr.len
  have hle := hr.le
  clear hr
  go_enter Tryz.func115, Tryz.ntmps115
  go_wp2_with fail
  go_loop [5] (fun i => ∃ k : Nat, k ≤ n ∧ i = .int .i64 k ∧ Hid (∀ j, j < k → (xs.getD j zero).1 ≠ id)) (fun i => n - (intOf i).toNat)
  case atStart => exact ⟨0, Nat.zero_le _, rfl, Lib.hid fun j h => by omega⟩
  case round =>
    obtain ⟨k, hk, rfl, HK⟩ := hrel
    by_cases hlt : k < n
    · obtain ⟨b, o, rfl, hb, hat⟩ := rd_at HR.out hlt
      generalize hx : xs.getD k zero = x at hat
      have HX := Lib.hid hx
      clear hx
      have h0 := hat.1
      clear hat
      generalize hy : x.1 = y at h0
      have HY := Lib.hid hy
      clear hy
      by_cases he : y = id
      · have HE := Lib.hid (find_at (z := zero) (l := xs) (n := id) (k := k) (by rw [HL.out]; exact hlt) (by rw [HX.out, HY.out]; exact he) HK.out)
        go_wp2_with fail
        go_ret
        exact ⟨by rw [HE.out]; rfl, rfl⟩
      · have HN : Hid (∀ j, j < k + 1 → (xs.getD j zero).1 ≠ id) := Lib.hid fun j hj => by
          rcases Nat.lt_succ_iff_lt_or_eq.1 hj with h | rfl
          · exact HK.out j h
          · rw [HX.out, HY.out]; exact he
        go_wp2_with fail
        go_round
        case rel => exact ⟨k + 1, by omega, by go_num, HN⟩
        case measure => simp [intOf]; omega
    · obtain rfl : k = n := by omega
      have HE := Lib.hid (find_none (z := zero) (l := xs) (n := id) (by rw [HL.out]; exact HK.out))
      go_wp2_with fail
      go_ret
      exact ⟨by rw [HE.out]; rfl, rfl⟩
theorem spec_find_val (p : Option Addr) (n c : Nat) (xs : List I3) (id : Int) (w : World) (hr : RdS E w p n xs) : Calls Tryz.prog 115 #[.slice p n c, .int .i64 id] w (Val (.int .i64 (find xs id)) w) :=
  (spec_find_any p n c xs id w hr).mono fun _ _ ⟨he, hw⟩ => ⟨he, by rw [hw]; exact Below.refl _ _⟩
theorem nth_at {xs : List I3} {j : Nat} (h : j < xs.length) : xs[j]? = some xs[j]! := by
  rw [List.getElem?_eq_getElem h]
  simp [h]
set_option maxHeartbeats 1000000 in
theorem index_none (g : Nat) (lb : Array Value) (q : Option Addr) (c : Nat) (w : World) : Calls Tryz.prog 189 #[.slice q 0 c, .func (.func g) #[] lb] w fun e w' => e = .returned (.int .i64 (-1)) ∧ w = w' := by
  go_enter Tryz.func189, Tryz.ntmps189
  go_wp2_with fail
  go_loop [8] (fun i => i = .int .i64 0) (fun _ => 0)
  case atStart => rfl
  case round =>
    obtain rfl := hrel
    go_wp2_with fail
    go_ret
    exact ⟨rfl, rfl⟩
/-- the first that is such -/
theorem index_any (pr : I3 → Bool) (g : Nat) (lb : Array Value) (eg : ∀ args w, (callFunc g args).run Tryz.prog w = .ok (.enter g args) w) (q : Option Addr) (n c : Nat) (xs : List I3) (w : World) (hr : RdS E w q n xs)
    (hp : PredBelow Tryz.prog g lb (fun x => .agg (E.of x).toArray) pr w) : Calls Tryz.prog 189 #[.slice q n c, .func (.func g) #[] lb] w (Val (.int .i64 (first pr xs)) w) := by
  rcases Nat.eq_zero_or_pos n with hn | hn
  · subst hn
    obtain rfl : xs = [] := List.eq_nil_of_length_eq_zero hr.len
    exact (index_none _ _ _ _ _).mono fun e w' ⟨he, hw⟩ => ⟨he, by rw [hw]; exact Below.refl _ _⟩
  · obtain ⟨b, o, e, hb, hc⟩ := hr.2.2 hn
    subst e
    have h := AnyQ.slices_IndexFunc Tryz.laysIdxAuthority 3 Tryz.isAgg134 Tryz.sizeOf134 E.of E.len pr g lb eg b o n c xs w hp (by rw [hr.len]; exact Nat.le_refl _) hr.le hb (fun j hj i v hi => hc j _ (nth_at hj) i v hi)
    rw [List.take_of_length_le (by rw [hr.len]; exact Nat.le_refl _), idxBy_first] at h
    exact h
theorem num_pred (id : Int) (B : Nat) (w : World) (hB : B < w.heap.size) (hx : Bx w B 3 #[.int .i64 id]) :
    PredBelow Tryz.prog 190 #[.pointer (some ⟨B, 0, none⟩)] (fun x => .agg (E.of x).toArray) (isN id) w := fun W x hb => by
  obtain ⟨x0, x1, x2⟩ := x
  show Calls Tryz.prog 190 #[.agg #[.int .i64 x0, .int .i64 x1, .int .i64 x2], .pointer (some ⟨B, 0, none⟩)] W _
  have HX := Lib.hid (hx.below hb)
  have hBW : B < W.heap.size := Nat.lt_of_lt_of_le hB hb.size
  have hne : B ≠ W.heap.size := by omega
  have HB := Lib.hid (hb.alloc hb.size (.cells #[.int .i64 x0, .int .i64 x1, .int .i64 x2] 134))
  have c1 := HX.out.cell (j := 0) rfl
  have c2 := (HX.out.alloc (.cells #[.int .i64 x0, .int .i64 x1, .int .i64 x2] 134)).cell (j := 0) rfl
  clear hx hb
  by_cases he : x0 = id
  · subst he
    have HE : Hid (isN x0 (x0, x1, x2) = true) := Lib.hid (isN_yes rfl)
    go_enter Tryz.func190, Tryz.ntmps190
    go_wp2_with fail
    go_ret
    exact ⟨by rw [HE.out]; simp, HB.out⟩
  · have HE : Hid (isN id (x0, x1, x2) = false) := Lib.hid (isN_no he)
    go_enter Tryz.func190, Tryz.ntmps190
    go_wp2_with fail
    go_ret
    exact ⟨by rw [HE.out]; simp [he], HB.out⟩
set_option maxRecDepth 100000 in
set_option maxHeartbeats 1000000 in
theorem find_any (q : Option Addr) (n c : Nat) (xs : List I3) (id : Int) (w : World) (hr : RdS E w q n xs) : Calls Tryz.prog 179 #[.slice q n c, .int .i64 id] w (Val (.int .i64 (find xs id)) w) := by
  have HR := Lib.hid hr
  clear hr
  go_enter Tryz.func179, Tryz.ntmps179
  go_wp2_with fail
  refine (index_any (isN id) _ _ (enters_of Tryz.func190 (by kernel_rfl) rfl) _ _ _ _ _ (HR.out.alloc _) (num_pred id _ _ (by simp) (Bx.new _ _ _))).mono ?_
  rintro e w1 ⟨rfl, hb1⟩
  have HB1 := Lib.hid (((Below.refl w.heap.size w).alloc (Nat.le_refl _) _).trans (hb1.mono (by simp)))
  clear hb1
  go_wp2_with fail
  go_ret
  exact ⟨rfl, HB1.out⟩
end Go.Proofs.YtfojilogcecphaaGreat.FAuthority
