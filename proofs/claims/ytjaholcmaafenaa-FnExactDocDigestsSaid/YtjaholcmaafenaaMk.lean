/- The laws' marks as text: one string a number; written into slices of strings, and found there. -/
import Derived.Test.YtjaholcmaafenaaSlStr
import Derived.Test.YtjaholcmaafenaaQt
import Derived.Lib.ConvBytes
import Derived.Lib.SlBytesRow
namespace Go.Proofs.Ytjaholcmaafenaa.Mk
open Go.ChangeShapes Go.WideShapes Go.ChangeAt Go.RowKit Sl St

def dig1 (k : Nat) : ByteArray := ⟨#[(48 + k % 10).toUInt8]⟩
/-- The digits of `k` in front of `t`. -/
def mdig (k : Nat) (t : ByteArray) : ByteArray :=
  if _h : 0 < k then mdig (k / 10) (dig1 k ++ t) else t
termination_by k
decreasing_by omega
def mtext (k : Nat) : ByteArray := ⟨#[109]⟩ ++ mdig k ByteArray.empty
theorem mdig_step {k : Nat} (h : 0 < k) (t : ByteArray) : mdig k t = mdig (k / 10) (dig1 k ++ t) := by
  rw [mdig]
  simp [h]
theorem mdig_zero (t : ByteArray) : mdig 0 t = t := by
  rw [mdig]
  simp

set_option maxRecDepth 100000 in
set_option maxHeartbeats 2000000 in
theorem text_any (k : Nat) (hk : 1 ≤ k) (hb : k ≤ 1000000000) (w : World) : Calls Try.prog 121 #[.int .i64 k] w fun e w' => e = .returned (.string (mtext k)) ∧ Below w.heap.size w w' := by
  go_enter Try.func121, Try.ntmps121
  go_wp2_with fail
  have hk0 : decide (k = 0) = false := by
    rw [decide_eq_false_iff_not]
    omega
  rw [hk0]
  go_loopw [0, 3] (fun a s wr => ∃ (j : Nat) (t : ByteArray), t.size + j ≤ k ∧ a = .int .i64 j ∧ s = .string t ∧ mdig j t = mdig k ByteArray.empty ∧ Hid (Below w.heap.size w wr)) (fun a _ _ => (intOf a).toNat)
  case atStart => exact ⟨k, _, by show (0 : Nat) + k ≤ k; omega, rfl, rfl, rfl, Lib.hid (Below.refl _ _)⟩
  case round =>
    obtain ⟨j, t, hj, rfl, rfl, hm, HK⟩ := hrel
    have HM := Lib.hid hm
    clear hm
    by_cases hpos : 0 < j
    · go_wp2_with fail
      have hc : (Sem.run Try.prog (convert 188 9 (Value.slice (some { block := wr.heap.size, off := 0 }) 1 1)) (wr.alloc (Obj.cells #[Value.int IntKind.u8 (48 + (j : Int) % 10)] 5))) = .ok (.string (dig1 j)) (wr.alloc (Obj.cells #[Value.int IntKind.u8 (48 + (j : Int) % 10)] 5)) := by
        refine Go.Lib.run_convert_whole (s := dig1 j) _ _ 5 _ rfl rfl rfl _ 0 ?_ 1
        intro i hi
        have hi0 : i = 0 := by
          have h1 : (dig1 j).size = 1 := rfl
          omega
        subst hi0
        have h2 : (dig1 j)[0].toNat = 48 + j % 10 := by
          show ((48 + j % 10).toUInt8).toNat = _
          rw [show (48 + j % 10).toUInt8 = UInt8.ofNat (48 + j % 10) from rfl, UInt8.toNat_ofNat']
          omega
        rw [h2]
        simp
      rw [hc]
      have hs1 : (dig1 j).size = 1 := rfl
      go_wp2_with fail
      go_roundw
      case rel =>
        refine ⟨j / 10, dig1 j ++ t, ?_, by go_num, rfl, ?_, ?_⟩
        · rw [ByteArray.size_append, hs1]
          omega
        · have hm := HM.out
          rw [mdig_step hpos] at hm
          exact hm
        · exact Lib.hid (HK.out.alloc HK.out.size _)
      case measure => simp [intOf]; omega
    · have h0 : j = 0 := by omega
      subst h0
      have h1 := HM.out
      rw [mdig_zero] at h1
      subst h1
      go_wp2_with fail
      · exact bodyPost_ret (v := .string (mtext k)) (by simp [results, go_sem, mtext]) rfl ⟨rfl, HK.out⟩

/-- The marks of `n` strings from `k` on. -/
def tmarks (m : Nat) (n : Nat) : List ByteArray := (List.range n).map fun i => mtext (m + i)
theorem tmarks_len (m n : Nat) : (tmarks m n).length = n := by simp [tmarks]
theorem tmarks_at (m : Nat) {n j : Nat} (h : j < n) : (tmarks m n).getD j ByteArray.empty = mtext (m + j) := by
  simp [tmarks, List.getD_eq_getElem?_getD, h]
theorem tmarks_set (m : Nat) (zs : List ByteArray) (j : Nat) (h : j < zs.length) : (tmarks m j ++ zs.drop j).set j (mtext (m + j)) = tmarks m (j + 1) ++ zs.drop (j + 1) := by
  have e : zs.drop j = zs[j] :: zs.drop (j + 1) := List.drop_eq_getElem_cons h
  rw [e, List.set_append_right _ _ (by rw [tmarks_len]; exact Nat.le_refl _), tmarks_len, Nat.sub_self, List.set_cons_zero]
  simp [tmarks, List.range_succ]
theorem tmarks_end (m : Nat) (zs : List ByteArray) : tmarks m zs.length ++ zs.drop zs.length = tmarks m zs.length := by simp
/-- the slice after j marks -/
def MarkMid (lo hi : Nat) (p : Option Addr) (n c : Nat) (zs : List ByteArray) (m : Nat) (j : Nat) (w wr : World) : Prop :=
  OwS SlStr.E 9 wr lo hi p n c (tmarks m j ++ zs.drop j) ∧ w.grownBy wr (Value.slice p n c).ownBlock
theorem MarkMid.next {lo hi g n c j : Nat} {zs : List ByteArray} {m : Nat} {w wr w1 : World} (h : MarkMid lo hi (some ⟨g, 0, none⟩) n c zs m j w wr) (hj : j < n) (hl : zs.length = n) (hb : Below wr.heap.size wr w1) : MarkMid lo hi (some ⟨g, 0, none⟩) n c zs m (j + 1) w (w1.setCell ⟨g, j, none⟩ (.string (mtext (m + j)))) := by
  obtain ⟨h1, h2⟩ := (h.1.below hb).elem (i := j) hj (mtext (m + j))
  rw [tmarks_set _ _ _ (by omega)] at h1
  have e : w1.setCells g (j * SlStr.E.C) (SlStr.E.of (mtext (m + j))) = w1.setCell ⟨g, j, none⟩ (.string (mtext (m + j))) := by rw [SlStr.C_eq, Nat.mul_one]; rfl
  rw [e] at h1 h2
  refine ⟨h1, ?_⟩
  have hg := below_grown hb none
  exact ⟨h2.os.trans (hg.os.trans h.2.os), h2.tape.trans (hg.tape.trans h.2.tape), h2.output.trans (hg.output.trans h.2.output), Nat.le_trans h.2.size (Nat.le_trans hg.size h2.size), fun i hi hne => (h2.block i (Nat.lt_of_lt_of_le hi (Nat.le_trans h.2.size hg.size)) hne).trans ((hg.block i (Nat.lt_of_lt_of_le hi h.2.size) (by simp)).trans (h.2.block i hi hne))⟩
/-- The call answers the next mark; the slice bears the marks; no other block has turned. -/
def Marked (lo hi : Nat) (p : Option Addr) (n c : Nat) (m : Nat) (w : World) (e : Ending) (w' : World) : Prop := e = .returned (.int .i64 ((m : Int) + n)) ∧ OwS SlStr.E 9 w' lo hi p n c (tmarks m n) ∧ w.grownBy w' (Value.slice p n c).ownBlock
theorem MarkMid.done {lo hi n c : Nat} {p : Option Addr} {zs : List ByteArray} {m : Nat} {w wr : World} (h : MarkMid lo hi p n c zs m n w wr) (hl : zs.length = n) : Marked lo hi p n c m w (.returned (.int .i64 ((m : Int) + n))) wr := by
  subst hl
  obtain ⟨h1, h2⟩ := h
  rw [tmarks_end] at h1
  exact ⟨rfl, h1, h2⟩
set_option maxRecDepth 100000 in
set_option maxHeartbeats 2000000 in
theorem mark_any (lo hi : Nat) (p : Option Addr) (n c : Nat) (zs : List ByteArray) (m : Nat) (w : World) (ho : OwS SlStr.E 9 w lo hi p n c zs) (hm : 1 ≤ m) (hm' : m + n ≤ 1000000000) : Calls Try.prog 78 #[.slice p n c, .int .i64 m] w (Marked lo hi p n c m w) := by
  have HL := Lib.hid ho.len
  have hle := ho.rd.le
  have HM : Hid (MarkMid lo hi p n c zs m 0 w w) := ⟨ho, ⟨rfl, rfl, rfl, Nat.le_refl _, fun _ _ _ => rfl⟩⟩
  clear ho
  go_enter Try.func78, Try.ntmps78
  go_wp2_with fail
  go_loopw [1, 5] (fun x i wr => ∃ k : Nat, k ≤ n ∧ i = .int .i64 k ∧ x = .int .i64 ((m + k : Nat) : Int) ∧ Hid (MarkMid lo hi p n c zs m k w wr)) (fun _ i _ => n - (intOf i).toNat)
  case atStart => exact ⟨0, Nat.zero_le _, rfl, by simp, HM⟩
  case round =>
    obtain ⟨k, hk, rfl, rfl, HK⟩ := hrel
    by_cases hlt : k < n
    · rcases HK.out.1.form with ⟨_, hn0, _⟩ | ⟨g, rfl, _, _, hnc, _⟩
      · omega
      go_wp2_with fail
      refine (text_any (m + k) (by omega) (by omega) _).mono ?_
      rintro e w1 ⟨rfl, hb1⟩
      have hx : (tmarks m k ++ zs.drop k)[k]? = some (zs[k]'(by rw [HL.out]; exact hlt)) := by
        rw [List.getElem?_append_right (by rw [tmarks_len]; exact Nat.le_refl _), tmarks_len, Nat.sub_self, List.getElem?_drop, Nat.add_zero, List.getElem?_eq_getElem (by rw [HL.out]; exact hlt)]
      have hcd := (HK.out.1.below hb1).cell (j := 0) (v := .string (zs[k]'(by rw [HL.out]; exact hlt))) hx rfl
      rw [SlStr.C_eq, Nat.mul_one, Nat.add_zero] at hcd
      have hfd := (HK.out.1.below hb1).free (i := k)
      have HN := Lib.hid (HK.out.next hlt HL.out hb1)
      generalize zs[k]'(by rw [HL.out]; exact hlt) = z at hcd
      clear hx hb1
      go_wp2_with fail
      go_roundw
      case rel => exact ⟨k + 1, by omega, by go_num, by go_num, HN⟩
      case measure => simp [intOf]; omega
    · obtain rfl : k = n := by omega
      go_wp2_with fail
      go_ret
      have h1 := HK.out.done HL.out
      rw [show ((m + k : Nat) : Int) = (m : Int) + k by omega]
      exact h1
end Go.Proofs.Ytjaholcmaafenaa.Mk
