/- Contracts of EncodeInts, in the program and in the reference. -/
import Derived.Test.YtdncodfgllfjiaaVar
import Derived.Test.YtdncodfgllfjiaaSlI
namespace Go.Proofs.Ytdncodfgllfjiaa.Var
open Go.ChangeShapes Go.WideShapes Go.ChangeAt Go.RowKit Sl Uv

/-- on the way: the varints of the first k numbers -/
def EncMid (lo : Nat) (zs : List Int) (k : Nat) (p : Option Addr) (n c : Nat) (w wr : World) : Prop :=
  Ow .u8 5 wr lo wr.heap.size p n c (enc (zs.take k)) ∧ lo ≤ wr.heap.size ∧ Below lo w wr
theorem enc_take {zs : List Int} {k : Nat} (h : k < zs.length) : enc (zs.take (k + 1)) = enc (zs.take k) ++ uvI (zs.getD k 0) := by
  rw [List.take_succ_eq_append_getElem h, enc_snoc, List.getD_eq_getElem?_getD, List.getElem?_eq_getElem h]
  rfl
theorem EncMid.small {lo k n c : Nat} {zs : List Int} {p : Option Addr} {w wr : World} (h : EncMid lo zs k p n c w wr) (hz : zs.length ≤ 100000000) : n ≤ 1000000000 := by
  have h1 := h.1.len
  have h2 := enc_len (zs.take k)
  have h3 : (zs.take k).length ≤ zs.length := by rw [List.length_take]; omega
  omega
theorem EncMid.next {lo k n c n' c' : Nat} {zs : List Int} {p p' : Option Addr} {w wr w' : World} (h : EncMid lo zs k p n c w wr) (hk : k < zs.length) (ho : Ow .u8 5 w' lo w'.heap.size p' n' c' (enc (zs.take k) ++ uvI (zs.getD k 0))) (hb : Below lo wr w') : EncMid lo zs (k + 1) p' n' c' w w' :=
  ⟨by rw [enc_take hk]; exact ho, Nat.le_trans h.2.1 hb.size, h.2.2.trans hb⟩
theorem EncMid.done {lo k n c : Nat} {zs : List Int} {p : Option Addr} {w wr : World} (h : EncMid lo zs k p n c w wr) (hk : zs.length ≤ k) : Grew lo (enc zs) w (.returned (.slice p n c)) wr := by
  obtain ⟨h1, _, h2⟩ := h
  rw [List.take_of_length_le hk] at h1
  exact ⟨_, _, _, rfl, h1, h2⟩
theorem EncMid.start (w : World) (zs : List Int) : EncMid w.heap.size zs 0 (some ⟨w.heap.size, 0, none⟩) 0 0 w (w.alloc (.cells #[] 5)) := by
  refine ⟨?_, by simp, (Below.refl _ _).alloc (Nat.le_refl _) _⟩
  have h := empty_own w w.heap.size (Nat.le_refl _)
  simpa [enc_nil] using h
set_option maxHeartbeats 1000000 in
theorem enc_any (p : Option Addr) (n c : Nat) (zs : List Int) (w : World) (hr : Rd .i64 w p n zs) (hn : n ≤ 100000000) : Calls Try.prog 24 #[.slice p n c] w (Grew w.heap.size (enc zs) w) := by
  have HR := Lib.hid hr
  have HL := Lib.hid hr.len
  clear hr
  go_enter Try.func24, Try.ntmps24
  go_wp2_with fail
  have HS := Lib.hid (EncMid.start w zs)
  go_loopw [3, 9] (fun b i wr => ∃ (k : Nat) (p' : Option Addr) (n' c' : Nat), k ≤ n ∧ b = .slice p' n' c' ∧ i = .int .i64 k ∧ Hid (EncMid w.heap.size zs k p' n' c' w wr)) (fun _ i _ => n - (intOf i).toNat)
  case atStart => exact ⟨0, _, _, _, Nat.zero_le _, rfl, rfl, HS⟩
  case round =>
    obtain ⟨k, p', n', c', hk, rfl, rfl, HK⟩ := hrel
    by_cases hlt : k < n
    · have HLT : Hid (k < zs.length) := by have := HL.out; show k < zs.length; omega
      obtain ⟨b, o, rfl, hb, hc⟩ := HR.out.at_below HK.out.2.2 hlt
      have hn' := HK.out.small (by rw [HL.out]; exact hn)
      generalize hx : zs.getD k 0 = x at hc
      have HX := Lib.hid hx
      clear hx
      go_wp2_with fail
      refine (put_any w.heap.size _ _ _ _ _ _ HK.out.1 HK.out.2.1 hn').mono ?_
      rintro e w2 ⟨p2, n2, c2, rfl, ho2, hb2⟩
      have HO := Lib.hid ho2
      have HB2 := Lib.hid hb2
      clear ho2 hb2
      go_wp2_with fail
      refine ⟨⟨k + 1, _, _, _, by omega, rfl, by go_num, HK.out.next HLT.out (by rw [HX.out]; exact HO.out) HB2.out⟩, by simp [intOf]; omega⟩
    · obtain rfl : k = n := by omega
      go_wp2_with fail
      go_ret
      exact HK.out.done (by rw [HL.out]; exact Nat.le_refl _)
set_option maxHeartbeats 1000000 in
theorem spec_enc_any (p : Option Addr) (n c : Nat) (zs : List Int) (w : World) (hr : Rd .i64 w p n zs) (hn : n ≤ 100000000) : Calls Try.prog 34 #[.slice p n c] w (Grew w.heap.size (enc zs) w) := by
  have HR := Lib.hid hr
  have HL := Lib.hid hr.len
  clear hr
  go_enter Try.func34, Try.ntmps34
  go_wp2_with fail
  have HS := Lib.hid (EncMid.start w zs)
  go_loopw [3, 4] (fun b i wr => ∃ (k : Nat) (p' : Option Addr) (n' c' : Nat), k ≤ n ∧ b = .slice p' n' c' ∧ i = .int .i64 k ∧ Hid (EncMid w.heap.size zs k p' n' c' w wr)) (fun _ i _ => n - (intOf i).toNat)
  case atStart => exact ⟨0, _, _, _, Nat.zero_le _, rfl, rfl, HS⟩
  case round =>
    obtain ⟨k, p', n', c', hk, rfl, rfl, HK⟩ := hrel
    by_cases hlt : k < n
    · have HLT : Hid (k < zs.length) := by have := HL.out; show k < zs.length; omega
      obtain ⟨b, o, rfl, hb, hc⟩ := HR.out.at_below HK.out.2.2 hlt
      have hn' := HK.out.small (by rw [HL.out]; exact hn)
      generalize hx : zs.getD k 0 = x at hc
      have HX := Lib.hid hx
      clear hx
      go_wp2_with fail
      refine (spec_append_any _ _ _ _ _ _ HK.out.1.rd hn').mono ?_
      rintro e w2 ⟨p2, n2, c2, rfl, ho2, hb2⟩
      have HO := Lib.hid (ho2.wide HK.out.2.1 (Nat.le_refl _) (Nat.le_refl _))
      have HB2 := Lib.hid (hb2.mono HK.out.2.1)
      clear ho2 hb2
      go_wp2_with fail
      refine ⟨⟨k + 1, _, _, _, by omega, rfl, by go_num, HK.out.next HLT.out (by rw [HX.out]; exact HO.out) HB2.out⟩, by simp [intOf]; omega⟩
    · obtain rfl : k = n := by omega
      go_wp2_with fail
      go_ret
      exact HK.out.done (by rw [HL.out]; exact Nat.le_refl _)
end Go.Proofs.Ytdncodfgllfjiaa.Var
