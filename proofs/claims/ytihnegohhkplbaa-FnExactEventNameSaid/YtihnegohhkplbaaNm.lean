/- Contracts of names: of codes and reasons; in the program and in the reference. -/
import Derived.Test.YtihnegohhkplbaaBx
import Derived.Test.YtihnegohhkplbaaInt
import Derived.OpenShut
import Derived.Outline
namespace Go.Proofs.Ytihnegohhkplbaa.Nm
open Go.ChangeShapes Go.WideShapes Go.ChangeAt Go.RowKit Sl Ints
def Val (v : Value) (w : World) (e : Ending) (w' : World) : Prop := e = .returned v ∧ Below w.heap.size w w'
theorem says {b b' : Value} {w w' : World} (h : b' = b) (hb : Below w.heap.size w w') : Val b w (.returned b') w' := ⟨by rw [h], hb⟩
theorem nameAt_in (g n k : Nat) (T : TypeId) (cs : Array Value) (i : Int) (s : ByteArray) (w : World) (hB : Bx w g T cs) (hn : n ≤ 100) (hi : i = k) (hk : k < n) (hv : cs[k]? = some (.string s)) : Calls Try.prog 52 #[.slice (some ⟨g, 0, none⟩) n n, .int .i64 i] w fun e w' => e = .returned (.string s) ∧ w = w' := by
  subst hi
  have hc := hB.cell hv
  clear hB hv
  go_enter Try.func52, Try.ntmps52
  go_wp2_with fail
  refine (inRange_any _ _ _ true (decide_eq_true ⟨by omega, by omega⟩) _).mono ?_
  rintro e w1 ⟨rfl, rfl⟩
  go_wp2_with fail
  go_ret
  exact ⟨rfl, rfl⟩
theorem nameAt_out (g n : Nat) (i : Int) (w : World) (hn : n ≤ 100) (hi : i < 0 ∨ (n : Int) ≤ i) : Calls Try.prog 52 #[.slice (some ⟨g, 0, none⟩) n n, .int .i64 i] w fun e w' => e = .returned (.string ⟨#[]⟩) ∧ w = w' := by
  go_enter Try.func52, Try.ntmps52
  go_wp2_with fail
  refine (inRange_any _ _ _ false (decide_eq_false (by omega)) _).mono ?_
  rintro e w1 ⟨rfl, rfl⟩
  go_wp2_with fail
  go_ret
  exact ⟨rfl, rfl⟩
def vname (x : Int) : ByteArray := if x = 1 then ⟨#[118, 97, 108, 105, 100]⟩ else if x = 2 then ⟨#[105, 110, 118, 97, 108, 105, 100]⟩ else if x = 3 then ⟨#[111, 112, 101, 110]⟩ else ⟨#[]⟩
theorem vname_out {x : Int} (h : x < 1 ∨ 3 < x) : vname x = ⟨#[]⟩ := by
  unfold vname
  rw [if_neg (show ¬ x = 1 by omega), if_neg (show ¬ x = 2 by omega), if_neg (show ¬ x = 3 by omega)]
def rname (x : Int) : ByteArray := if x = 0 then ⟨#[110, 111, 110, 101]⟩ else if x = 1 then ⟨#[102, 111, 114, 109]⟩ else if x = 2 then ⟨#[100, 111, 99, 117, 109, 101, 110, 116]⟩ else if x = 3 then ⟨#[107, 101, 121]⟩ else if x = 4 then ⟨#[109, 97, 114, 107]⟩ else if x = 5 then ⟨#[98, 114, 111, 107, 101, 110]⟩ else if x = 6 then ⟨#[99, 101, 114, 116, 105, 102, 105, 99, 97, 116, 101]⟩ else if x = 7 then ⟨#[116, 105, 109, 101]⟩ else if x = 8 then ⟨#[101, 110, 100, 101, 100]⟩ else if x = 9 then ⟨#[109, 97, 110, 100, 97, 116, 101]⟩ else ⟨#[]⟩
theorem rname_out {x : Int} (h : x < 0 ∨ 9 < x) : rname x = ⟨#[]⟩ := by
  unfold rname
  rw [if_neg (show ¬ x = 0 by omega), if_neg (show ¬ x = 1 by omega), if_neg (show ¬ x = 2 by omega), if_neg (show ¬ x = 3 by omega), if_neg (show ¬ x = 4 by omega), if_neg (show ¬ x = 5 by omega), if_neg (show ¬ x = 6 by omega), if_neg (show ¬ x = 7 by omega), if_neg (show ¬ x = 8 by omega), if_neg (show ¬ x = 9 by omega)]
def ename (x : Int) : ByteArray := if x = 1 then ⟨#[116, 105, 99, 107]⟩ else if x = 2 then ⟨#[115, 105, 103, 110]⟩ else if x = 3 then ⟨#[97, 110, 115, 119, 101, 114]⟩ else if x = 4 then ⟨#[114, 101, 118, 111, 107, 101]⟩ else if x = 5 then ⟨#[114, 101, 110, 101, 119]⟩ else if x = 6 then ⟨#[109, 111, 118, 101]⟩ else if x = 7 then ⟨#[102, 111, 114, 103, 101, 116]⟩ else if x = 8 then ⟨#[102, 111, 114, 103, 101]⟩ else if x = 9 then ⟨#[98, 97, 99, 107, 100, 97, 116, 101]⟩ else if x = 10 then ⟨#[102, 97, 107, 101]⟩ else ⟨#[]⟩
theorem ename_out {x : Int} (h : x < 1 ∨ 10 < x) : ename x = ⟨#[]⟩ := by
  unfold ename
  rw [if_neg (show ¬ x = 1 by omega), if_neg (show ¬ x = 2 by omega), if_neg (show ¬ x = 3 by omega), if_neg (show ¬ x = 4 by omega), if_neg (show ¬ x = 5 by omega), if_neg (show ¬ x = 6 by omega), if_neg (show ¬ x = 7 by omega), if_neg (show ¬ x = 8 by omega), if_neg (show ¬ x = 9 by omega), if_neg (show ¬ x = 10 by omega)]
set_option maxRecDepth 100000 in
set_option maxHeartbeats 4000000 in
theorem eventName_any (x : Int) (w : World) : Calls Try.prog 15 #[.int .i64 x] w (Val (.string (ename x)) w) := by
  have HB : Hid (Below w.heap.size w (w.alloc (.cells #[.string ⟨#[]⟩, .string ⟨#[116, 105, 99, 107]⟩, .string ⟨#[115, 105, 103, 110]⟩, .string ⟨#[97, 110, 115, 119, 101, 114]⟩, .string ⟨#[114, 101, 118, 111, 107, 101]⟩, .string ⟨#[114, 101, 110, 101, 119]⟩, .string ⟨#[109, 111, 118, 101]⟩, .string ⟨#[102, 111, 114, 103, 101, 116]⟩, .string ⟨#[102, 111, 114, 103, 101]⟩, .string ⟨#[98, 97, 99, 107, 100, 97, 116, 101]⟩, .string ⟨#[102, 97, 107, 101]⟩] 71))) := Lib.hid ((Below.refl _ _).alloc (Nat.le_refl _) _)
  have HX := Lib.hid (Bx.new w 71 #[.string ⟨#[]⟩, .string ⟨#[116, 105, 99, 107]⟩, .string ⟨#[115, 105, 103, 110]⟩, .string ⟨#[97, 110, 115, 119, 101, 114]⟩, .string ⟨#[114, 101, 118, 111, 107, 101]⟩, .string ⟨#[114, 101, 110, 101, 119]⟩, .string ⟨#[109, 111, 118, 101]⟩, .string ⟨#[102, 111, 114, 103, 101, 116]⟩, .string ⟨#[102, 111, 114, 103, 101]⟩, .string ⟨#[98, 97, 99, 107, 100, 97, 116, 101]⟩, .string ⟨#[102, 97, 107, 101]⟩])
  by_cases hin : 1 ≤ x ∧ x ≤ 10
  · rcases (by omega : x = 1 ∨ x = 2 ∨ x = 3 ∨ x = 4 ∨ x = 5 ∨ x = 6 ∨ x = 7 ∨ x = 8 ∨ x = 9 ∨ x = 10) with rfl | rfl | rfl | rfl | rfl | rfl | rfl | rfl | rfl | rfl
    · clear hin
      go_enter Try.func15, Try.ntmps15
      go_wp2_with fail
      refine (nameAt_in w.heap.size 11 1 71 _ _ _ _ HX.out (by omega) rfl (by omega) rfl).mono ?_
      rintro e w1 ⟨rfl, rfl⟩
      go_wp2_with fail
      go_ret
      exact says rfl HB.out
    · clear hin
      go_enter Try.func15, Try.ntmps15
      go_wp2_with fail
      refine (nameAt_in w.heap.size 11 2 71 _ _ _ _ HX.out (by omega) rfl (by omega) rfl).mono ?_
      rintro e w1 ⟨rfl, rfl⟩
      go_wp2_with fail
      go_ret
      exact says rfl HB.out
    · clear hin
      go_enter Try.func15, Try.ntmps15
      go_wp2_with fail
      refine (nameAt_in w.heap.size 11 3 71 _ _ _ _ HX.out (by omega) rfl (by omega) rfl).mono ?_
      rintro e w1 ⟨rfl, rfl⟩
      go_wp2_with fail
      go_ret
      exact says rfl HB.out
    · clear hin
      go_enter Try.func15, Try.ntmps15
      go_wp2_with fail
      refine (nameAt_in w.heap.size 11 4 71 _ _ _ _ HX.out (by omega) rfl (by omega) rfl).mono ?_
      rintro e w1 ⟨rfl, rfl⟩
      go_wp2_with fail
      go_ret
      exact says rfl HB.out
    · clear hin
      go_enter Try.func15, Try.ntmps15
      go_wp2_with fail
      refine (nameAt_in w.heap.size 11 5 71 _ _ _ _ HX.out (by omega) rfl (by omega) rfl).mono ?_
      rintro e w1 ⟨rfl, rfl⟩
      go_wp2_with fail
      go_ret
      exact says rfl HB.out
    · clear hin
      go_enter Try.func15, Try.ntmps15
      go_wp2_with fail
      refine (nameAt_in w.heap.size 11 6 71 _ _ _ _ HX.out (by omega) rfl (by omega) rfl).mono ?_
      rintro e w1 ⟨rfl, rfl⟩
      go_wp2_with fail
      go_ret
      exact says rfl HB.out
    · clear hin
      go_enter Try.func15, Try.ntmps15
      go_wp2_with fail
      refine (nameAt_in w.heap.size 11 7 71 _ _ _ _ HX.out (by omega) rfl (by omega) rfl).mono ?_
      rintro e w1 ⟨rfl, rfl⟩
      go_wp2_with fail
      go_ret
      exact says rfl HB.out
    · clear hin
      go_enter Try.func15, Try.ntmps15
      go_wp2_with fail
      refine (nameAt_in w.heap.size 11 8 71 _ _ _ _ HX.out (by omega) rfl (by omega) rfl).mono ?_
      rintro e w1 ⟨rfl, rfl⟩
      go_wp2_with fail
      go_ret
      exact says rfl HB.out
    · clear hin
      go_enter Try.func15, Try.ntmps15
      go_wp2_with fail
      refine (nameAt_in w.heap.size 11 9 71 _ _ _ _ HX.out (by omega) rfl (by omega) rfl).mono ?_
      rintro e w1 ⟨rfl, rfl⟩
      go_wp2_with fail
      go_ret
      exact says rfl HB.out
    · clear hin
      go_enter Try.func15, Try.ntmps15
      go_wp2_with fail
      refine (nameAt_in w.heap.size 11 10 71 _ _ _ _ HX.out (by omega) rfl (by omega) rfl).mono ?_
      rintro e w1 ⟨rfl, rfl⟩
      go_wp2_with fail
      go_ret
      exact says rfl HB.out
  by_cases h0 : x = 0
  · subst h0
    clear hin
    go_enter Try.func15, Try.ntmps15
    go_wp2_with fail
    refine (nameAt_in w.heap.size 11 0 71 _ _ _ _ HX.out (by omega) rfl (by omega) rfl).mono ?_
    rintro e w1 ⟨rfl, rfl⟩
    go_wp2_with fail
    go_ret
    exact says rfl HB.out
  have HO := Lib.hid (ename_out (x := x) (by omega))
  have ho : x < 0 ∨ ((11 : Nat) : Int) ≤ x := by omega
  clear hin
  go_enter Try.func15, Try.ntmps15
  go_wp2_with fail
  refine (nameAt_out w.heap.size 11 x _ (by omega) ho).mono ?_
  rintro e w1 ⟨rfl, rfl⟩
  go_wp2_with fail
  go_ret
  exact says (by rw [HO.out]; rfl) HB.out
set_option maxRecDepth 100000 in
set_option maxHeartbeats 4000000 in
theorem spec_eventName_any (x : Int) (w : World) : Calls Try.prog 14 #[.int .i64 x] w (Val (.string (ename x)) w) := by
  have HB : Hid (Below w.heap.size w (w.alloc (.cells #[.string ⟨#[]⟩, .string ⟨#[116, 105, 99, 107]⟩, .string ⟨#[115, 105, 103, 110]⟩, .string ⟨#[97, 110, 115, 119, 101, 114]⟩, .string ⟨#[114, 101, 118, 111, 107, 101]⟩, .string ⟨#[114, 101, 110, 101, 119]⟩, .string ⟨#[109, 111, 118, 101]⟩, .string ⟨#[102, 111, 114, 103, 101, 116]⟩, .string ⟨#[102, 111, 114, 103, 101]⟩, .string ⟨#[98, 97, 99, 107, 100, 97, 116, 101]⟩, .string ⟨#[102, 97, 107, 101]⟩] 9))) := Lib.hid ((Below.refl _ _).alloc (Nat.le_refl _) _)
  by_cases hin : 1 ≤ x ∧ x ≤ 10
  · obtain rfl | rfl | rfl | rfl | rfl | rfl | rfl | rfl | rfl | rfl : x = 1 ∨ x = 2 ∨ x = 3 ∨ x = 4 ∨ x = 5 ∨ x = 6 ∨ x = 7 ∨ x = 8 ∨ x = 9 ∨ x = 10 := by omega
    all_goals
      clear hin
      go_enter Try.func14, Try.ntmps14
      go_wp2_with fail
      refine (l1In_any _ _ _ true (by decide) _).mono ?_
      rintro e w1 ⟨rfl, rfl⟩
      go_wp2_with fail
      go_ret
      exact says rfl HB.out
  have HO := Lib.hid (ename_out (x := x) (by omega))
  have HF : Hid (decide ((1 : Int) ≤ x ∧ x ≤ 10) = false) := Lib.hid (decide_eq_false hin)
  clear hin
  go_enter Try.func14, Try.ntmps14
  go_wp2_with fail
  refine (l1In_any _ _ _ false HF.out _).mono ?_
  rintro e w1 ⟨rfl, rfl⟩
  go_wp2_with fail
  go_ret
  exact says (by rw [HO.out]; rfl) (Below.refl _ _)
end Go.Proofs.Ytihnegohhkplbaa.Nm
