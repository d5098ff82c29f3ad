/- A document copied by the reference: two appends to new slices, in any order. -/
import Derived.Test.YtjlckfbacphblaaDr
namespace Go.Proofs.Ytjlckfbacphblaa.Dl
open Go.ChangeShapes Go.WideShapes Go.ChangeAt Go.RowKit Sl St Dm Dk SlDoc Mk Dt Dr

/-! ### ints as elements -/
def EI : En Int := ⟨fun x => [.int .i64 x], 1, fun _ => rfl, fun x v h => by simp only [List.mem_cons, List.not_mem_nil, or_false] at h; subst h; rfl, by decide⟩
theorem fl_EI (zs : List Int) : fl EI zs = zs.map (Value.int .i64) := by
  induction zs with
  | nil => rfl
  | cons z zs ih => rw [List.map_cons, ← ih]; rfl
theorem ow_in {T : TypeId} {w : World} {lo hi n c : Nat} {p : Option Addr} {zs : List Int} (h : Ow .i64 T w lo hi p n c zs) : OwS EI T w lo hi p n c zs :=
  ⟨by rw [fl_EI]; exact h.1, h.len, h.2.2.1, h.2.2.2⟩
theorem ow_out {T : TypeId} {w : World} {lo hi n c : Nat} {p : Option Addr} {zs : List Int} (h : OwS EI T w lo hi p n c zs) (ha : allK .i64 zs) : Ow .i64 T w lo hi p n c zs :=
  ⟨by have h1 := h.1; rw [fl_EI] at h1; exact h1, ha, h.2.2.1, h.2.2.2⟩
theorem rd_in {w : World} {n : Nat} {p : Option Addr} {zs : List Int} (h : Rd .i64 w p n zs) : RdS EI w p n zs := by
  refine ⟨h.len, ?_, fun hpos => ?_⟩
  · have := h.le
    unfold maxLen
    omega
  · obtain ⟨b, o, e, hb, _⟩ := h.at_ hpos
    refine ⟨b, o, e, hb, fun i x hx j v hv => ?_⟩
    have hi : i < n := by rw [← h.len]; exact (List.getElem?_eq_some_iff.1 hx).1
    have hj : j = 0 := by
      have := (List.getElem?_eq_some_iff.1 hv).1
      have h2 : (EI.of x).length = 1 := rfl
      omega
    subst hj
    obtain ⟨b', o', e', _, hc⟩ := h.at_ hi
    rw [e] at e'
    simp only [Option.some.injEq, Addr.mk.injEq, and_true] at e'
    obtain ⟨rfl, rfl⟩ := e'
    rw [List.getD_eq_getElem?_getD, hx] at hc
    have hv' : v = .int .i64 x := by
      have h3 : (EI.of x)[0]? = some (.int .i64 x) := rfl
      rw [h3] at hv
      exact (Option.some.inj hv).symm
    subst hv'
    rw [show EI.C = 1 from rfl, Nat.mul_one, Nat.add_zero]
    exact hc
theorem emptySG (w : World) (g lo : Nat) (hg : g = w.heap.size) (h : lo ≤ w.heap.size) : OwS SlStr.E 9 (w.alloc (.cells #[] 9)) lo (w.alloc (.cells #[] 9)).heap.size (some ⟨g, 0, none⟩) 0 0 [] := by
  subst hg
  exact emptyS w lo h
theorem emptyIG (w : World) (g lo : Nat) (hg : g = w.heap.size) (h : lo ≤ w.heap.size) : OwS EI 3 (w.alloc (.cells #[] 3)) lo (w.alloc (.cells #[] 3)).heap.size (some ⟨g, 0, none⟩) 0 0 [] := by
  subst hg
  exact ow_in (emptyI w lo h)
end Go.Proofs.Ytjlckfbacphblaa.Dl
