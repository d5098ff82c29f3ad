/- The agreement of AgreedSpan: enter and leave. -/
import Derived.Test.YtlgkgccmilapbaaInt
import Derived.Test.YtlgkgccmilapbaaBx
import Derived.Test.YtlgkgccmilapbaaStM
import Derived.Test.YtlgkgccmilapbaaAgm
import Derived.Deep.RegionHeld3
import Derived.Test.YtlgkgccmilapbaaQt
import Derived.LoopTactic
namespace Go.Proofs.Ytlgkgccmilapbaa.Agi
open Go.ChangeShapes Go.WideShapes Go.ChangeAt Go.RowKit Sl
theorem grown_setc (w : World) (g j : Nat) (v : Value) : w.grownBy (w.setCell ⟨g, j, none⟩ v) (some g) := ⟨rfl, rfl, rfl, by simp [World.setCell], fun i hi hne => Below.heap_setCell w ⟨g, j, none⟩ v i (by rintro rfl; exact hne rfl)⟩
theorem grown_drew (w : World) (r : Option Nat) : w.grownBy w.drew r := ⟨rfl, rfl, rfl, Nat.le_refl _, fun _ _ _ => rfl⟩
theorem grown_then {a b c : World} {r : Option Nat} (h : a.grownBy b r) (k : b.grownBy c r) : a.grownBy c r := ⟨k.os.trans h.os, k.tape.trans h.tape, k.output.trans h.output, Nat.le_trans h.size k.size, fun i hi hne => (k.block i (Nat.lt_of_lt_of_le hi h.size) hne).trans (h.block i hi hne)⟩
/-- a method that changes the agreement alone -/
def Does (need : Int) (g : Nat) (st : Int × Int × Int × Bool) (w : World) (e : Ending) (w' : World) : Prop := e = .returned (.tuple #[]) ∧ Bx w' g 132 #[.int .i64 st.2.1, .int .i64 st.2.2.1, .int .i64 need, .int .i64 st.1, .bool st.2.2.2] ∧ w.grownBy w' (some g)
set_option maxRecDepth 100000 in
set_option maxHeartbeats 4000000 in
theorem enter_any (g : Nat) (f t need c : Int) (b : Bool) (x : Int) (hc : -1000000000 ≤ c ∧ c ≤ 1000000000) (w : World) (h : Bx w g 132 #[.int .i64 f, .int .i64 t, .int .i64 need, .int .i64 c, .bool b]) : Calls Try.prog 107 #[.pointer (some ⟨g, 0, none⟩), .int .i64 x] w (Does need g (Agm.stp need (c, f, t, b) (x, 0)) w) := by
  obtain ⟨st, hst⟩ : ∃ st, Agm.stp need (c, f, t, b) (x, 0) = st := ⟨_, rfl⟩
  rw [hst]
  have HS := Lib.hid hst
  clear hst
  obtain ⟨s1, s2, s3, s4⟩ := st
  have hr : -9223372036854775808 ≤ c + 1 ∧ c + 1 ≤ 9223372036854775807 := by omega
  have HX := Lib.hid h
  have k0 : w.cell? ⟨g, 0, none⟩ = some (.int .i64 f) := h.cell rfl
  have k1 : w.cell? ⟨g, 1, none⟩ = some (.int .i64 t) := h.cell rfl
  have k2 : w.cell? ⟨g, 2, none⟩ = some (.int .i64 need) := h.cell rfl
  have k3 : w.cell? ⟨g, 3, none⟩ = some (.int .i64 c) := h.cell rfl
  have k4 : w.cell? ⟨g, 4, none⟩ = some (.bool b) := h.cell rfl
  have f3 := h.free 3
  have h1 := h.set_ 3 (.int .i64 (c + 1))
  simp only [List.setIfInBounds_toArray, List.set_cons_zero, List.set_cons_succ] at h1
  have hg := grown_setc w g 3 (.int .i64 (c + 1))
  have H1 := Lib.hid h1
  have G1 := Lib.hid hg
  clear h h1 hg hc
  go_enter Try.func107, Try.ntmps107
  go_wp2_with fail
  clear k0 k1 k2 k3 k4 f3
  generalize w.setCell ⟨g, 3, none⟩ (.int .i64 (c + 1)) = w1 at H1 G1 ⊢
  by_cases hn : need ≤ c + 1
  · have en : decide (need ≤ c + 1) = true := decide_eq_true hn
    by_cases eb : b = false
    · skip
      have e := HS.out
      simp [Agm.stp, hn, eb] at e
      obtain ⟨rfl, rfl, rfl, rfl⟩ := e
      have HC : Hid (∀ w', Qt.Keeps (w1) w' → w'.cell? ⟨g, 2, none⟩ = some (.int .i64 need) ∧ w'.cell? ⟨g, 3, none⟩ = some (.int .i64 (c + 1)) ∧ w'.cell? ⟨g, 4, none⟩ = some (.bool b)) := Lib.hid fun w' hw => ⟨(H1.out.below hw).cell rfl, (H1.out.below hw).cell rfl, (H1.out.below hw).cell rfl⟩
      refine Qt.region (Qt.Keeps (w1)) (by kernel_rfl) (by kernel_rfl) (Qt.Keeps.drew _) ?_
      repeat (first
        | go_big_quiet_skip
        | (go_big_quiet_want
           refine Qt.val (v := ?_) (fun w hw => ?_) ?_
           rotate_left
           · obtain ⟨m2, m3, m4⟩ := HC.out w hw
             go_simp
             rfl
           simp only [Act.put, List.setIfInBounds_toArray, List.set_cons_zero, List.set_cons_succ]
           go_big_quiet_on))
      refine wpQuiet_nil ?_
      intro w3 hw3
      have HX3 := Lib.hid (H1.out.below hw3)
      have G3 := Lib.hid (below_grown hw3 (some g))
      clear hw3
      have m0 : w3.cell? ⟨g, 0, none⟩ = some (.int .i64 f) := HX3.out.cell rfl
      have q := HX3.out.set_ 0 (.int .i64 x)
      simp only [List.setIfInBounds_toArray, List.set_cons_zero] at q
      have m4 : (w3.setCell ⟨g, 0, none⟩ (.int .i64 x)).cell? ⟨g, 4, none⟩ = some (.bool b) := q.cell rfl
      have f0 := HX3.out.free 0
      have f4 := q.free 4
      have q2 := q.set_ 4 (.bool true)
      simp only [List.setIfInBounds_toArray, List.set_cons_zero, List.set_cons_succ] at q2
      have Q2 := Lib.hid q2
      clear q q2
      go_wp2_with fail
      refine bodyPost_ret (v := .tuple #[]) ?_ rfl ⟨rfl, by simpa [eb] using Q2.out, grown_then (grown_then G1.out G3.out) (grown_then (grown_setc _ g 0 _) (grown_setc _ g 4 _))⟩
      simp [results, Try.results107, go_sem]
    · have eb2 : b = true := by simpa using eb
      have e := HS.out
      simp [Agm.stp, hn, eb2] at e
      obtain ⟨rfl, rfl, rfl, rfl⟩ := e
      have HC : Hid (∀ w', Qt.Keeps (w1) w' → w'.cell? ⟨g, 2, none⟩ = some (.int .i64 need) ∧ w'.cell? ⟨g, 3, none⟩ = some (.int .i64 (c + 1)) ∧ w'.cell? ⟨g, 4, none⟩ = some (.bool b)) := Lib.hid fun w' hw => ⟨(H1.out.below hw).cell rfl, (H1.out.below hw).cell rfl, (H1.out.below hw).cell rfl⟩
      refine Qt.region (Qt.Keeps (w1)) (by kernel_rfl) (by kernel_rfl) (Qt.Keeps.drew _) ?_
      repeat (first
        | go_big_quiet_skip
        | (go_big_quiet_want
           refine Qt.val (v := ?_) (fun w hw => ?_) ?_
           rotate_left
           · obtain ⟨m2, m3, m4⟩ := HC.out w hw
             go_simp
             rfl
           simp only [Act.put, List.setIfInBounds_toArray, List.set_cons_zero, List.set_cons_succ]
           go_big_quiet_on))
      refine wpQuiet_nil ?_
      intro w3 hw3
      have HX3 := Lib.hid (H1.out.below hw3)
      have G3 := Lib.hid (below_grown hw3 (some g))
      clear hw3
      go_wp2_with fail
      refine bodyPost_ret (v := .tuple #[]) ?_ rfl ⟨rfl, by simpa [eb2] using HX3.out, grown_then G1.out G3.out⟩
      simp [results, Try.results107, go_sem]
  · have en : decide (need ≤ c + 1) = false := decide_eq_false hn
    have e := HS.out
    simp [Agm.stp, hn] at e
    obtain ⟨rfl, rfl, rfl, rfl⟩ := e
    have HC : Hid (∀ w', Qt.Keeps (w1) w' → w'.cell? ⟨g, 2, none⟩ = some (.int .i64 need) ∧ w'.cell? ⟨g, 3, none⟩ = some (.int .i64 (c + 1)) ∧ w'.cell? ⟨g, 4, none⟩ = some (.bool b)) := Lib.hid fun w' hw => ⟨(H1.out.below hw).cell rfl, (H1.out.below hw).cell rfl, (H1.out.below hw).cell rfl⟩
    refine Qt.region (Qt.Keeps (w1)) (by kernel_rfl) (by kernel_rfl) (Qt.Keeps.drew _) ?_
    repeat (first
      | go_big_quiet_skip
      | (go_big_quiet_want
         refine Qt.val (v := ?_) (fun w hw => ?_) ?_
         rotate_left
         · obtain ⟨m2, m3, m4⟩ := HC.out w hw
           go_simp
           rfl
         simp only [Act.put, List.setIfInBounds_toArray, List.set_cons_zero, List.set_cons_succ]
         go_big_quiet_on))
    refine wpQuiet_nil ?_
    intro w3 hw3
    have HX3 := Lib.hid (H1.out.below hw3)
    have G3 := Lib.hid (below_grown hw3 (some g))
    clear hw3
    go_wp2_with fail
    refine bodyPost_ret (v := .tuple #[]) ?_ rfl ⟨rfl, HX3.out, grown_then G1.out G3.out⟩
    simp [results, Try.results107, go_sem]
set_option maxRecDepth 100000 in
set_option maxHeartbeats 4000000 in
theorem leave_any (g : Nat) (f t need c : Int) (b : Bool) (x : Int) (hc : -1000000000 ≤ c ∧ c ≤ 1000000000) (w : World) (h : Bx w g 132 #[.int .i64 f, .int .i64 t, .int .i64 need, .int .i64 c, .bool b]) : Calls Try.prog 108 #[.pointer (some ⟨g, 0, none⟩), .int .i64 x] w (Does need g (Agm.stp need (c, f, t, b) (x, 1)) w) := by
  obtain ⟨st, hst⟩ : ∃ st, Agm.stp need (c, f, t, b) (x, 1) = st := ⟨_, rfl⟩
  rw [hst]
  have HS := Lib.hid hst
  clear hst
  obtain ⟨s1, s2, s3, s4⟩ := st
  have hr : -9223372036854775808 ≤ c - 1 ∧ c - 1 ≤ 9223372036854775807 := by omega
  have HX := Lib.hid h
  clear h hc
  by_cases hn : need ≤ c
  · have en : decide (need ≤ c) = true := decide_eq_true hn
    have e := HS.out
    simp [Agm.stp, hn] at e
    obtain ⟨rfl, rfl, rfl, rfl⟩ := e
    go_enter Try.func108, Try.ntmps108
    go_wp2_with fail
    have HC : Hid (∀ w', Qt.Keeps (w) w' → w'.cell? ⟨g, 2, none⟩ = some (.int .i64 need) ∧ w'.cell? ⟨g, 3, none⟩ = some (.int .i64 c) ∧ w'.cell? ⟨g, 4, none⟩ = some (.bool b)) := Lib.hid fun w' hw => ⟨(HX.out.below hw).cell rfl, (HX.out.below hw).cell rfl, (HX.out.below hw).cell rfl⟩
    refine Qt.region (Qt.Keeps (w)) (by kernel_rfl) (by kernel_rfl) (Qt.Keeps.drew _) ?_
    repeat (first
      | go_big_quiet_skip
      | (go_big_quiet_want
         refine Qt.val (v := ?_) (fun w hw => ?_) ?_
         rotate_left
         · obtain ⟨m2, m3, m4⟩ := HC.out w hw
           go_simp
           rfl
         simp only [Act.put, List.setIfInBounds_toArray, List.set_cons_zero, List.set_cons_succ]
         go_big_quiet_on))
    refine wpQuiet_nil ?_
    intro w3 hw3
    have HX3 := Lib.hid (HX.out.below hw3)
    have G3 := Lib.hid (below_grown hw3 (some g))
    clear hw3
    have k1 : w3.cell? ⟨g, 1, none⟩ = some (.int .i64 t) := HX3.out.cell rfl
    have f1 := HX3.out.free 1
    have q := HX3.out.set_ 1 (.int .i64 x)
    simp only [List.setIfInBounds_toArray, List.set_cons_zero, List.set_cons_succ] at q
    have k3 : (w3.setCell ⟨g, 1, none⟩ (.int .i64 x)).cell? ⟨g, 3, none⟩ = some (.int .i64 c) := q.cell rfl
    have f3 := q.free 3
    have q2 := q.set_ 3 (.int .i64 (c - 1))
    simp only [List.setIfInBounds_toArray, List.set_cons_zero, List.set_cons_succ] at q2
    have Q2 := Lib.hid q2
    clear q q2
    go_wp2_with fail
    refine bodyPost_ret (v := .tuple #[]) ?_ rfl ⟨rfl, Q2.out, grown_then G3.out (grown_then (grown_setc _ g 1 _) (grown_setc _ g 3 _))⟩
    simp [results, Try.results108, go_sem]
  · have en : decide (need ≤ c) = false := decide_eq_false hn
    have e := HS.out
    simp [Agm.stp, hn] at e
    obtain ⟨rfl, rfl, rfl, rfl⟩ := e
    go_enter Try.func108, Try.ntmps108
    go_wp2_with fail
    have HC : Hid (∀ w', Qt.Keeps (w) w' → w'.cell? ⟨g, 2, none⟩ = some (.int .i64 need) ∧ w'.cell? ⟨g, 3, none⟩ = some (.int .i64 c) ∧ w'.cell? ⟨g, 4, none⟩ = some (.bool b)) := Lib.hid fun w' hw => ⟨(HX.out.below hw).cell rfl, (HX.out.below hw).cell rfl, (HX.out.below hw).cell rfl⟩
    refine Qt.region (Qt.Keeps (w)) (by kernel_rfl) (by kernel_rfl) (Qt.Keeps.drew _) ?_
    repeat (first
      | go_big_quiet_skip
      | (go_big_quiet_want
         refine Qt.val (v := ?_) (fun w hw => ?_) ?_
         rotate_left
         · obtain ⟨m2, m3, m4⟩ := HC.out w hw
           go_simp
           rfl
         simp only [Act.put, List.setIfInBounds_toArray, List.set_cons_zero, List.set_cons_succ]
         go_big_quiet_on))
    refine wpQuiet_nil ?_
    intro w3 hw3
    have HX3 := Lib.hid (HX.out.below hw3)
    have G3 := Lib.hid (below_grown hw3 (some g))
    clear hw3
    have k3 : w3.cell? ⟨g, 3, none⟩ = some (.int .i64 c) := HX3.out.cell rfl
    have f3 := HX3.out.free 3
    have q2 := HX3.out.set_ 3 (.int .i64 (c - 1))
    simp only [List.setIfInBounds_toArray, List.set_cons_zero, List.set_cons_succ] at q2
    have Q2 := Lib.hid q2
    clear q2
    go_wp2_with fail
    refine bodyPost_ret (v := .tuple #[]) ?_ rfl ⟨rfl, Q2.out, grown_then G3.out (grown_setc _ g 3 _)⟩
    simp [results, Try.results108, go_sem]
end Go.Proofs.Ytlgkgccmilapbaa.Agi
