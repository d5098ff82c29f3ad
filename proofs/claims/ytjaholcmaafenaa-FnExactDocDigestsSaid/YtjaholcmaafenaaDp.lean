/- Contracts of the digest of a part; in the program and in the reference. -/
import Derived.Test.YtjaholcmaafenaaDk
namespace Go.Proofs.Ytjaholcmaafenaa.Dp
open Go.ChangeShapes Go.WideShapes Go.ChangeAt Go.RowKit Sl St Dm Dk Hs Dg Ints

theorem own_set {T : TypeId} {w : World} {lo hi g n c i : Nat} {zs : List Int} {v : Int} (h : Ow .i64 T w lo hi (some ⟨g, 0, none⟩) n c zs) (hv : inK .i64 v) : Ow .i64 T (w.setCell ⟨g, i, none⟩ (.int .i64 v)) lo hi (some ⟨g, 0, none⟩) n c (zs.set i v) ∧ w.grownBy (w.setCell ⟨g, i, none⟩ (.int .i64 v)) (some g) := by
  obtain ⟨h1, h2⟩ := h.own.stored i (.int .i64 v)
  rw [← List.map_set] at h1
  refine ⟨⟨h1, fun x hx => ?_, Nat.le_trans h.2.2.1 h2.size, h.2.2.2⟩, h2⟩
  rcases List.mem_or_eq_of_mem_set hx with hx | rfl
  · exact h.all x hx
  · exact hv
set_option maxRecDepth 100000 in
set_option maxHeartbeats 2000000 in
theorem part_any (m : Int) (s : ByteArray) (salt : Int) (w : World) (hs : s.size ≤ 10000000) (hk : inK .i64 salt) : Calls Try.prog 180 #[.int .i64 m, .string s, .int .i64 salt] w (Num (partD m s salt) w) := by
  obtain ⟨cap, W1, hconv, hr, hb⟩ := conv_str w s (by omega)
  have HR := Lib.hid hr
  have HB := Lib.hid hb
  have HK := Lib.hid hk
  clear hr hb hk
  go_enter Try.func180, Try.ntmps180
  go_wp2_with fail
  refine (b2i_any _ _ _ _ _ HR.out (by omega)).mono ?_
  rintro e w2 ⟨p2, n2, c2, rfl, ho, hb⟩
  have hn2 : n2 = s.size + 1 := by
    have h1 := ho.len
    simp only [b2i, List.length_cons, strI_len] at h1
    omega
  subst hn2
  obtain ⟨g, rfl, hg1, hg2⟩ : ∃ g, p2 = some ⟨g, 0, none⟩ ∧ W1.heap.size ≤ g ∧ g < w2.heap.size := by
    rcases ho.form with ⟨_, h, _⟩ | ⟨g, h1, h2, h3, _⟩
    · omega
    · exact ⟨g, h1, h2, h3⟩
  have hset := own_set (i := 0) (v := salt) ho HK.out
  have HO := Lib.hid hset.1
  have HB2 := Lib.hid ((below_on HB.out hb).grown hset.2 (below_on HB.out hb).size (fun q e => by cases e; have := HB.out.size; omega))
  have i1 : (0 : Int) < ((s.size + 1 : Nat) : Int) := by omega
  have hf : w2.frozen? ⟨g, 0, none⟩ = false := ho.free
  have hc : w2.cell? ⟨g, 0, none⟩ = some (.int .i64 ((b2i (strI s)).getD 0 0)) := ho.cell (by omega)
  generalize (b2i (strI s)).getD 0 0 = y at hc
  clear ho hb hset hconv
  go_wp2_with fail
  refine (dig_any _ _ _ _ _ _ HO.out.rd).mono ?_
  rintro e w3 ⟨rfl, rfl⟩
  go_wp2_with fail
  go_ret
  exact ⟨rfl, HB2.out⟩

/-! ### the reference -/
theorem strI_at {s : ByteArray} {k : Nat} (h : k < s.size) : (strI s).getD k 0 = ((s[k]'h).toNat : Int) := by
  unfold strI
  rw [List.getD_eq_getElem?_getD, List.getElem?_map, List.getElem?_eq_getElem (by simpa using h)]
  rfl
/-- on the way: the salt and k bytes -/
def PWay (salt : Int) (s : ByteArray) (k : Nat) (p : Option Addr) (m c : Nat) (w wr : World) : Prop :=
  Ow .i64 3 wr w.heap.size wr.heap.size p m c (salt :: (strI s).take k) ∧ Below w.heap.size w wr
theorem PWay.len {salt : Int} {s : ByteArray} {k m c : Nat} {p : Option Addr} {w wr : World} (h : PWay salt s k p m c w wr) (hk : k ≤ s.size) : m = k + 1 := by
  have := h.1.len
  simp only [List.length_cons, List.length_take, strI_len] at this
  omega
theorem PWay.next {salt : Int} {s : ByteArray} {k m c c' : Nat} {p p' : Option Addr} {w wr w' : World} {T : TypeId} {y : Int} (h : PWay salt s k p m c w wr) (hk : k < s.size) (hy : (strI s).getD k 0 = y) (ho : Ow .i64 3 w' w.heap.size w'.heap.size p' (m + 1) c' ((salt :: (strI s).take k) ++ [y])) (hg : (wr.alloc (.cells #[.int .i64 y] T)).grownBy w' (Value.slice p m c).ownBlock) : PWay salt s (k + 1) p' (m + 1) c' w w' := by
  subst hy
  have e : (salt :: (strI s).take k) ++ [(strI s).getD k 0] = salt :: (strI s).take (k + 1) := by
    rw [List.take_succ_eq_append_getElem (by rw [strI_len]; exact hk), List.getD_eq_getElem?_getD, List.getElem?_eq_getElem (by rw [strI_len]; exact hk)]
    rfl
  rw [e] at ho
  exact ⟨ho, (h.2.alloc h.2.size _).trans ((h.1.alloc _).below_row hg (Nat.le_trans h.2.size (by simp)))⟩
set_option maxRecDepth 100000 in
set_option maxHeartbeats 2000000 in
theorem spec_part_any (m : Int) (s : ByteArray) (salt : Int) (w : World) (hs : s.size ≤ 10000000) (hm : inK .i64 m) (hk : inK .i64 salt) : Calls Try.prog 119 #[.int .i64 m, .string s, .int .i64 salt] w (Num (partD m s salt) w) := by
  obtain ⟨i0, hi, hz0, hz1, hz2⟩ := info_parts SlI.info
  have HI := Lib.hid hm
  have HM : Hid (PWay salt s 0 (some ⟨w.heap.size, 0, none⟩) 1 1 w (w.alloc (.cells #[.int .i64 salt] 3))) := ⟨lit1_own w w.heap.size salt hk (Nat.le_refl _), (Below.refl w.heap.size w).alloc (Nat.le_refl _) _⟩
  clear hk hm
  go_enter Try.func119, Try.ntmps119
  go_wp2_with fail
  go_loopw [7, 8] (fun v i wr => ∃ (k n c' : Nat) (p' : Option Addr), k ≤ s.size ∧ i = .int .i64 k ∧ v = .slice p' n c' ∧ Hid (PWay salt s k p' n c' w wr)) (fun _ i _ => s.size - (intOf i).toNat)
  case atStart => exact ⟨0, _, _, _, Nat.zero_le _, rfl, rfl, HM⟩
  case round =>
    obtain ⟨k, n, c', p', hk, rfl, rfl, HK⟩ := hrel
    obtain rfl := HK.out.len hk
    have hs2 := HK.out.2.size
    by_cases hlt : k < s.size
    · have hy := strI_at hlt
      have h8 : (s[k]'hlt).toNat < 256 := UInt8.toNat_lt _
      have HY := Lib.hid hy
      clear hy
      go_wp2_with (at_builtin; refine wpList_app1 rfl (.tmp 17) (.tmp 22) 27 rfl i0 _ 8 Try.underlying27 hi hz0 hz1 hz2 rfl rfl (HK.out.1.alloc _) wr.heap.size 1 ((s[k]'hlt).toNat : Int) rfl (by go_simp) ⟨by omega, by omega⟩ (by simp; omega) (by omega) (by omega) ?_; intro p2 c2 w2 how2 hg2; have HK2 := Lib.hid (HK.out.next hlt HY.out how2 hg2); clear how2 hg2)
      go_roundw
      case rel => exact ⟨k + 1, _, _, _, by omega, by go_num, rfl, HK2⟩
      case measure => simp [intOf]; omega
    · obtain rfl : k = s.size := by omega
      have HE : Hid (salt :: (strI s).take s.size = salt :: strI s) := Lib.hid (by rw [List.take_of_length_le (by rw [strI_len]; exact Nat.le_refl _)])
      go_wp2_with fail
      refine (spec_dig_any _ _ _ _ _ _ HK.out.1.rd HI.out (by omega)).mono ?_
      rintro e w3 ⟨rfl, hb⟩
      have HB3 := Lib.hid (below_on HK.out.2 hb)
      rw [HE.out]
      clear hb
      go_wp2_with fail
      go_ret
      exact ⟨rfl, HB3.out⟩
end Go.Proofs.Ytjaholcmaafenaa.Dp
