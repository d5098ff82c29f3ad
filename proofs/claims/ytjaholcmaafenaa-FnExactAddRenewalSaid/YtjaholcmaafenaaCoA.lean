/- Copies of the call's own, in the program. Copies of the call's own, in the program. Copies of the call's own, in the program. -/
import Derived.Test.YtjaholcmaafenaaLdA
import Derived.Lib.SliceRun
import Derived.OpenShut
import Derived.LoopTactic
import Derived.Outline
import Derived.Deep.RegionHeld3
import Derived.KernelRfl
namespace Go.Proofs.Ytjaholcmaafenaa.CoI
open Go.ChangeShapes Go.WideShapes Go.ChangeAt Go.RowKit Sl St Ed Ek Lf
set_option maxRecDepth 100000 in
set_option maxHeartbeats 4000000 in
theorem clone_any (p : Option Addr) (n c : Nat) (xs : List Int) {S : Nat → Prop} (w : World) (hr : RdD int S w p n xs) (hn : n ≤ 2000000) : Calls Try.prog 138 #[.slice p n c] w fun e w' => ∃ (q : Option Addr) (d : Nat), e = .returned (.slice q n d) ∧ OwnD int lint w.heap.size w'.heap.size w' q n xs ∧ n ≤ d ∧ Below w.heap.size w w' := by
  obtain ⟨i0, hi, hz0, hz1, hz2⟩ := info_parts SlI.info
  have HR := Lib.hid hr.ints
  have hl := hr.len
  have hle := hr.le
  have qT : ∀ (w : World) (a : Option Addr) (n c n' c' : Nat), (binOp .eql 27 (.slice a n c) (.slice none n' c')).run Try.prog w = .ok (.bool a.isNone) w := fun w a n c n' c' => Go.Lib.run_eql_slice_nil w _ _ a n c n' c' Try.underlying27
  rcases p with _ | p
  · have h0 : n = 0 := by
      rcases Nat.eq_zero_or_pos n with h0 | h0
      · exact h0
      · obtain ⟨_, _, e, _⟩ := hr.2.2 h0
        cases e
    subst h0
    have hx : xs = [] := List.eq_nil_of_length_eq_zero hl
    subst hx
    clear hr
    go_enter Try.func138, Try.ntmps138
    go_wp2_with fail
    go_ret
    exact ⟨none, 0, rfl, OwnD.nil_ _ _ _ _ _ _, Nat.le_refl _, Below.refl _ _⟩
  · clear hr
    have HE : Hid (Ow .i64 3 (w.alloc (.cells #[] 3)) w.heap.size (w.alloc (.cells #[] 3)).heap.size (some ⟨w.heap.size, 0, none⟩) 0 0 []) := Lib.hid (Ow.of_row (World.ownsRow_lit w #[] 0 (Nat.le_refl _) (by unfold maxLen; omega) rfl) (fun x hx => by cases hx))
    go_enter Try.func138, Try.ntmps138
    go_wp2_with (at_builtin; refine wpList_appR rfl (.tmp 5) (.tmp 6) 27 rfl i0 _ 8 Try.underlying27 hi hz0 hz1 hz2 rfl rfl HE.out (some p) n c xs rfl (HR.out.alloc _) (by simp) (by omega) (by omega) ?_; intro p3 c3 w3 how3 hg3; rw [Nat.zero_add, List.nil_append] at how3; have HW3 := Lib.hid how3; have HG3 := Lib.hid hg3; clear how3 hg3)
    go_ret
    exact ⟨_, _, rfl, (Lf.ofOw HW3.out), Ed.cap_ow HW3.out, ((Below.refl w.heap.size w).alloc (Nat.le_refl _) _).trans (HE.out.below_row HG3.out (by simp))⟩
end Go.Proofs.Ytjaholcmaafenaa.CoI

namespace Go.Proofs.Ytjaholcmaafenaa.CoStep
open Go.ChangeShapes Go.WideShapes Go.ChangeAt Go.RowKit Sl St Ed Ek Lf
set_option maxRecDepth 100000 in
set_option maxHeartbeats 4000000 in
theorem clone_any (p : Option Addr) (n c : Nat) (xs : List (Int × Bool)) {S : Nat → Prop} (w : World) (hr : RdD (flat SlStep.E SlStep.InR) S w p n xs) (hn : n ≤ 2000000) : Calls Try.prog 139 #[.slice p n c] w fun e w' => ∃ (q : Option Addr) (d : Nat), e = .returned (.slice q n d) ∧ OwnD (flat SlStep.E SlStep.InR) LdStep.L w.heap.size w'.heap.size w' q n xs ∧ n ≤ d ∧ Below w.heap.size w w' := by
  obtain ⟨i0, hi, hz0, hz1, hz2⟩ := info_parts SlStep.info
  have HR := Lib.hid hr.rdS
  have HP := Lib.hid hr.allP
  have hl := hr.len
  have hle := hr.le
  have qT : ∀ (w : World) (a : Option Addr) (n c n' c' : Nat), (binOp .eql 108 (.slice a n c) (.slice none n' c')).run Try.prog w = .ok (.bool a.isNone) w := fun w a n c n' c' => Go.Lib.run_eql_slice_nil w _ _ a n c n' c' Try.underlying108
  rcases p with _ | p
  · have h0 : n = 0 := by
      rcases Nat.eq_zero_or_pos n with h0 | h0
      · exact h0
      · obtain ⟨_, _, e, _⟩ := hr.2.2 h0
        cases e
    subst h0
    have hx : xs = [] := List.eq_nil_of_length_eq_zero hl
    subst hx
    clear hr
    go_enter Try.func139, Try.ntmps139
    go_wp2_with fail
    go_ret
    exact ⟨none, 0, rfl, OwnD.nil_ _ _ _ _ _ _, Nat.le_refl _, Below.refl _ _⟩
  · clear hr
    have HE := Lib.hid (lit_own SlStep.E 181 w w.heap.size [] #[] 0 rfl rfl (Nat.zero_le _) (Nat.le_refl _))
    go_enter Try.func139, Try.ntmps139
    go_wp2_with (at_builtin; refine wpList_appS rfl (.tmp 5) (.tmp 6) 108 rfl i0 _ 16 Try.underlying108 hi hz0 hz1 hz2 rfl rfl HE.out (some p) n c xs rfl (HR.out.alloc _) (by simp) (by omega) (by omega) ?_; intro p3 c3 w3 how3 hg3; rw [Nat.zero_add, List.nil_append] at how3; have HW3 := Lib.hid how3; have HG3 := Lib.hid hg3; clear how3 hg3)
    go_ret
    exact ⟨_, _, rfl, (Lf.ofOwS LdStep.flt rfl LdStep.mkL HW3.out HP.out), Ed.cap_owS HW3.out, ((Below.refl w.heap.size w).alloc (Nat.le_refl _) _).trans (HE.out.below_row HG3.out (by simp))⟩
end Go.Proofs.Ytjaholcmaafenaa.CoStep

namespace Go.Proofs.Ytjaholcmaafenaa.CoStamp
open Go.ChangeShapes Go.WideShapes Go.ChangeAt Go.RowKit Sl St Ed Ek Lf
set_option maxRecDepth 100000 in
set_option maxHeartbeats 4000000 in
theorem clone_any (p : Option Addr) (n c : Nat) (xs : List (Int × Int × Int × Int × Int)) {S : Nat → Prop} (w : World) (hr : RdD (flat SlStamp.E SlStamp.InR) S w p n xs) (hn : n ≤ 2000000) : Calls Try.prog 140 #[.slice p n c] w fun e w' => ∃ (q : Option Addr) (d : Nat), e = .returned (.slice q n d) ∧ OwnD (flat SlStamp.E SlStamp.InR) LdStamp.L w.heap.size w'.heap.size w' q n xs ∧ n ≤ d ∧ Below w.heap.size w w' := by
  obtain ⟨i0, hi, hz0, hz1, hz2⟩ := info_parts SlStamp.info
  have HR := Lib.hid hr.rdS
  have HP := Lib.hid hr.allP
  have hl := hr.len
  have hle := hr.le
  have qT : ∀ (w : World) (a : Option Addr) (n c n' c' : Nat), (binOp .eql 74 (.slice a n c) (.slice none n' c')).run Try.prog w = .ok (.bool a.isNone) w := fun w a n c n' c' => Go.Lib.run_eql_slice_nil w _ _ a n c n' c' Try.underlying74
  rcases p with _ | p
  · have h0 : n = 0 := by
      rcases Nat.eq_zero_or_pos n with h0 | h0
      · exact h0
      · obtain ⟨_, _, e, _⟩ := hr.2.2 h0
        cases e
    subst h0
    have hx : xs = [] := List.eq_nil_of_length_eq_zero hl
    subst hx
    clear hr
    go_enter Try.func140, Try.ntmps140
    go_wp2_with fail
    go_ret
    exact ⟨none, 0, rfl, OwnD.nil_ _ _ _ _ _ _, Nat.le_refl _, Below.refl _ _⟩
  · clear hr
    have HE := Lib.hid (lit_own SlStamp.E 148 w w.heap.size [] #[] 0 rfl rfl (Nat.zero_le _) (Nat.le_refl _))
    go_enter Try.func140, Try.ntmps140
    go_wp2_with (at_builtin; refine wpList_appS rfl (.tmp 5) (.tmp 6) 74 rfl i0 _ 40 Try.underlying74 hi hz0 hz1 hz2 rfl rfl HE.out (some p) n c xs rfl (HR.out.alloc _) (by simp) (by omega) (by omega) ?_; intro p3 c3 w3 how3 hg3; rw [Nat.zero_add, List.nil_append] at how3; have HW3 := Lib.hid how3; have HG3 := Lib.hid hg3; clear how3 hg3)
    go_ret
    exact ⟨_, _, rfl, (Lf.ofOwS LdStamp.flt rfl LdStamp.mkL HW3.out HP.out), Ed.cap_owS HW3.out, ((Below.refl w.heap.size w).alloc (Nat.le_refl _) _).trans (HE.out.below_row HG3.out (by simp))⟩
end Go.Proofs.Ytjaholcmaafenaa.CoStamp
