/- The line of keys in the reference. -/
import Derived.Test.YtlipcnaimpplpaaKl
import Derived.LoopTactic
import Derived.Outline
namespace Go.Proofs.Ytlipcnaimpplpaa.Kl
open Go.ChangeShapes Go.WideShapes Go.ChangeAt Go.RowKit Sl St Fnd Kn Kr Ki Km Ko SlSuccession Nx Hx
/-- the line of a key that is there -/
def lineOf (ks : List I5) (xs : List I4) (key t : Int) : List Int := if find ks key < 0 then [] else line ks xs key t
theorem next_inK {ks : List I5} {xs : List I4} (hX : ∀ x ∈ xs, InR x) (key t : Int) : inK .i64 (next ks xs key t) := by
  rcases next_cases ks xs key t with ⟨k, hk, _, h⟩ | ⟨_, h⟩
  · rw [h, List.getD_eq_getElem?_getD, List.getElem?_eq_getElem hk]
    have := hX _ (List.getElem_mem hk)
    exact this.2.1
  · rw [h]
    exact ⟨by omega, by omega⟩
def len : Value → Nat
  | .slice _ n _ => n
  | _ => 0
set_option maxRecDepth 100000 in
set_option maxHeartbeats 4000000 in
theorem spec_keyLine_any (p : Option Addr) (n c : Nat) (ks : List I5) (hR : ∀ x ∈ ks, SlKey.InR x) (q : Option Addr) (m c' : Nat) (xs : List I4) (hX : ∀ x ∈ xs, InR x) (key t : Int) (hk : inK .i64 key) (w : World) (hr : RdS SlKey.E w p n ks) (hs : RdS E w q m xs) (hm : m ≤ 10000000) : Calls Try.prog 17 #[.slice p n c, .slice q m c', .int .i64 key, .int .i64 t] w (SlI.Makes (lineOf ks xs key t) w) := by
  obtain ⟨i0, hi, hz0, hz1, hz2⟩ := info_parts SlI.info
  have HR := Lib.hid hr
  have HS := Lib.hid hs
  have HL := Lib.hid hs.len
  have HO0 := Lib.hid (lit0_own w)
  have HB0 := Lib.hid (Ki.box1 w (.cells #[] 3))
  have HKK := Lib.hid hk
  clear hr hs hk
  go_enter Try.func17, Try.ntmps17
  go_wp2_with fail
  refine (FKey.spec_find_any _ _ _ _ _ _ (HR.out.below HB0.out)).mono ?_
  rintro e w1 ⟨rfl, rfl⟩
  by_cases hf : find ks key < 0
  · have HE : Hid (lineOf ks xs key t = []) := Lib.hid (by unfold lineOf; rw [if_pos hf])
    go_wp2_with fail
    go_ret
    exact ⟨_, _, _, rfl, by rw [HE.out]; exact HO0.out, HB0.out⟩
  have HE : Hid (lineOf ks xs key t = line ks xs key t) := Lib.hid (by unfold lineOf; rw [if_neg hf])
  have HW0 := Lib.hid (Way.start ks xs key t)
  go_wp2_with fail
  go_loopw [2, 9] (fun kv v wr => ∃ (y : Int) (j d : Nat) (p' : Option Addr) (out : List Int), kv = .int .i64 y ∧ v = .slice p' j d ∧ Hid (inK .i64 y) ∧ Hid (Way ks xs key t y out) ∧ Hid (Ow .i64 3 wr w.heap.size wr.heap.size p' j d out) ∧ Hid (Below w.heap.size w wr)) (fun _ v _ => m + 2 - len v)
  case atStart => exact ⟨key, 0, 0, _, [], rfl, rfl, HKK, HW0, HO0, HB0⟩
  case round =>
    obtain ⟨y, j, d, p', out, rfl, rfl, HY, HW, HO, HB⟩ := hrel
    have hsz := HB.out.size
    have hj : j ≤ m + 1 := by have h1 := HW.out.len; rw [HO.out.len, HL.out] at h1; exact h1
    by_cases h0 : y = 0
    · have HD := Lib.hid (HE.out.trans (HW.out.done (.inl h0)).symm)
      subst h0
      go_wp2_with fail
      go_ret
      exact ⟨_, _, _, rfl, by rw [HD.out]; exact HO.out, HB.out⟩
    have h00 : (y != 0) = true := bne_iff_ne.2 h0
    have h01 : (y == 0) = false := beq_eq_false_iff_ne.2 h0
    rcases hh : hasI out y with _ | _
    · have HN := Lib.hid (HW.out.next h0 hh)
      have HH := Lib.hid hh
      have HNI := Lib.hid (next_inK (ks := ks) hX y t)
      clear hh h0
      go_wp2_with fail
      refine (l7Has_any _ _ _ _ _ _ HO.out.rd).mono ?_
      rintro e w2 ⟨rfl, rfl⟩
      rw [HH.out]
      go_wp2_with (at_builtin; refine wpList_app1 rfl (.tmp 24) (.tmp 26) 28 rfl i0 _ 8 Try.underlying28 hi hz0 hz1 hz2 rfl rfl (HO.out.alloc _) wr.heap.size 1 y rfl (by go_simp) HY.out (by simp; omega) (by omega) (by omega) ?_; intro p2 c2 w2 how2 hg2; have HB2 := Lib.hid ((HB.out.alloc HB.out.size _).trans ((HO.out.alloc _).below_row hg2 (Nat.le_trans HB.out.size (by simp)))); have HO2 := Lib.hid how2; clear how2 hg2)
      refine (spec_next_any _ _ _ ks hR _ _ _ xs hX _ _ _ (HR.out.below HB2.out) (HS.out.below HB2.out)).mono ?_
      rintro e w3 ⟨rfl, hb3⟩
      have HB3 := Lib.hid (below_on HB2.out hb3)
      have HO3 := Lib.hid (HO2.out.below hb3)
      have hs3 := hb3.size
      clear hb3
      generalize next ks xs y t = y2 at HN HNI ⊢
      go_wp2_with fail
      go_roundw
      case rel => exact ⟨y2, j + 1, c2, p2, out ++ [y], rfl, rfl, HNI, HN, Lib.hid (HO3.out.wide (Nat.le_refl _) hs3 (Nat.le_refl _)), HB3⟩
      case measure => simp [len]; omega
    · have HD := Lib.hid (HE.out.trans (HW.out.done (.inr hh)).symm)
      have HH := Lib.hid hh
      clear hh h0
      go_wp2_with fail
      refine (l7Has_any _ _ _ _ _ _ HO.out.rd).mono ?_
      rintro e w2 ⟨rfl, rfl⟩
      rw [HH.out]
      go_wp2_with fail
      go_ret
      exact ⟨_, _, _, rfl, by rw [HD.out]; exact HO.out, HB.out⟩
end Go.Proofs.Ytlipcnaimpplpaa.Kl
