/- Slices of strings among data of any depth. -/
import Derived.Test.YtjaholcmaafenaaEd
import Derived.Test.YtjaholcmaafenaaDz
import Derived.Test.YtjaholcmaafenaaSlStr
import Derived.OpenShut
namespace Go.Proofs.Ytjaholcmaafenaa.Dstr
open Go.ChangeShapes Go.WideShapes Go.ChangeAt Go.RowKit Sl St Ed Dz
theorem o_strs {H : Type} {enc : TypeId × Value → H} {W : World} {fuel : Nat} {cs : List Value} {X : DataW H × List MemPlace} (h : DataW.trod enc Try.prog W 0 (fun _ => true) true fuel 26 cs = some X) : ∃ x, (sl str).rd (fun _ => True) W cs x := by
  obtain ⟨p, n, c, xs, rfl, hr, hs⟩ := SlStr.open_cells h
  have hk : n ≤ c := by
    rcases Go.Deep.open_strs Try.underlying26 Try.underlying9 (by kernel_rfl) h with ⟨hcs, _⟩ | ⟨a, len, cap, m, Sx, hcs, _, hl, _⟩
    · simp only [List.cons.injEq, Value.slice.injEq, and_true] at hcs
      omega
    · simp only [List.cons.injEq, Value.slice.injEq, and_true] at hcs
      omega
  exact ⟨xs, p, n, c, rfl, hk, RdD.ofStrs SlStr.C_eq SlStr.of_eq hr hs (fun _ _ _ _ => trivial)⟩
theorem ofStrs {w : World} {lo hi : Nat} {T : TypeId} {p : Option Addr} {n c : Nat} {xs : List ByteArray} (h : OwS SlStr.E T w lo hi p n c xs) (hb : ∀ s ∈ xs, s.size ≤ 9223372036854775807) : RdD str (fun b => lo ≤ b) w p n xs := by
  refine RdD.ofStrs SlStr.C_eq SlStr.of_eq h.rd hb fun b o e _ => ?_
  rcases h.form with ⟨rfl, _, _⟩ | ⟨g, rfl, h1, _⟩
  · cases e
  · cases e
    exact h1
theorem tot_eq (xs : List ByteArray) : SlStr.tot xs = wts str xs := rfl
theorem szS_fits (p : Option Addr) (n c : Nat) (xs : List ByteArray) {S : Nat → Prop} (left : Int) (w : World) (h : RdD str S w p n xs) (g1 : left ≤ 1048576) (g2 : (n + wts str xs : Nat) ≤ left) : Calls Try.prog 65 #[.slice p n c, .int .i64 left] w (Val (.int .i64 (left - (n + wts str xs : Nat))) w) := by
  obtain ⟨L, rfl⟩ := Int.eq_ofNat_of_zero_le (show 0 ≤ left by omega)
  obtain ⟨hr, hs⟩ := h.strs SlStr.C_eq SlStr.of_eq
  have hl := h.len
  refine (SlStr.sz_any p n c xs L w hr hs (by omega)).mono ?_
  rintro e w1 ⟨rfl, rfl⟩
  refine val_of ?_ (Below.refl _ _)
  rw [SlStr.szI, tot_eq, if_pos (by omega)]
  congr 1
  omega
theorem szS_big (p : Option Addr) (n c : Nat) (xs : List ByteArray) {S : Nat → Prop} (left : Int) (w : World) (h : RdD str S w p n xs) (g0 : 0 ≤ left) (g1 : left ≤ 1048576) (g2 : left < (n + wts str xs : Nat)) : Calls Try.prog 65 #[.slice p n c, .int .i64 left] w (Val (.int .i64 (-1)) w) := by
  obtain ⟨L, rfl⟩ := Int.eq_ofNat_of_zero_le g0
  obtain ⟨hr, hs⟩ := h.strs SlStr.C_eq SlStr.of_eq
  have hl := h.len
  refine (SlStr.sz_any p n c xs L w hr hs (by omega)).mono ?_
  rintro e w1 ⟨rfl, rfl⟩
  refine val_of ?_ (Below.refl _ _)
  rw [SlStr.szI, tot_eq, if_neg (by omega)]
end Go.Proofs.Ytjaholcmaafenaa.Dstr
