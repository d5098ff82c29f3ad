/- Contract of the reference FormatInt: the decimal numeral (Lib.itoa), for every int; the world keeps all that it held. -/
import Derived.Test.YtgdpbohmnnncjaaDoorInt
import Derived.Lib.ItoaLen
import Derived.Laws.BytesArg
import Derived.Laws.Concat
import Derived.Below
import Derived.LoopTactic
namespace Go.Proofs.YtgdpbohmnnncjaaDoor.Ints
open Go.ChangeShapes Go.WideShapes Go.ChangeAt Go.RowKit

/-! the numeral, digit by digit -/
def dgs (u : Nat) : List UInt8 := if u = 0 then [] else Lib.decDigits u
theorem dgs_zero : dgs 0 = [] := rfl
theorem dgs_pos {u : Nat} (h : u ≠ 0) : dgs u = Lib.decDigits u := if_neg h
theorem dgs_step {u : Nat} (h : u ≠ 0) : dgs u = dgs (u / 10) ++ [UInt8.ofNat (48 + u % 10)] := by
  rw [dgs_pos h]
  by_cases h1 : u < 10
  · rw [Lib.decDigits_one h1, show u / 10 = 0 by omega, show u % 10 = u by omega]; rfl
  · rw [Lib.decDigits, dif_neg h1, dgs_pos (by omega)]
theorem dgs_len {u : Nat} (h : u < 18446744073709551616) : (dgs u).length ≤ 20 := by
  unfold dgs
  split
  · simp
  · rw [Lib.decDigits_length]; exact Lib.nDigits_le20 u h
def byte1 (v : Int) : ByteArray := ⟨#[UInt8.ofNat v.toNat]⟩
theorem run_byte1 {P : Program} (t9 : P.underlying 9 = some .string) (hs : P.underlying 22 = some (.slice 5)) (he : P.underlying 5 = some (.int .u8)) (W : World) (b : Nat) (v : Int) (hc : W.cell? ⟨b, 0, none⟩ = some (.int .u8 v)) :
    (convert 22 9 (.slice (some ⟨b, 0, none⟩) 1 1)).run P W = .ok (.string (byte1 v)) W :=
  run_convert_bytes_arg W 22 5 hs he b 0 1 1 [v] rfl (fun i hi => by
    have h0 : i = 0 := by omega
    subst h0
    simpa using hc) 9 t9
theorem run_add1 {P : Program} (W : World) (v : Int) (l : List UInt8) (h : l.length ≤ 1000) : (Op.stringOp .add (byte1 v) ⟨l.toArray⟩).run P W = .ok (.string ⟨(UInt8.ofNat v.toNat :: l).toArray⟩) W := by
  rw [run_string_add_sum W _ _ (by
    have h0 : (ByteArray.mk l.toArray).size = l.length := by show l.toArray.size = _; simp
    have h1 : (byte1 v).size = 1 := rfl
    omega)]
  unfold byte1
  rw [ByteArray.mk_append_mk]
  simp
theorem itoa_zero : Lib.itoa 0 = [48] := by
  show Lib.decDigits 0 = _
  rw [Lib.decDigits_one (by omega)]
  rfl
theorem itoa_dgs_neg {n : Int} (h : n < 0) : Lib.itoa n = 45 :: dgs n.natAbs := by
  unfold Lib.itoa
  rw [if_pos h, dgs_pos (by omega)]
theorem itoa_dgs_pos {n : Int} (h : 0 < n) : Lib.itoa n = dgs n.natAbs := by
  unfold Lib.itoa
  rw [if_neg (by omega), dgs_pos (by omega), show n.toNat = n.natAbs from by omega]
theorem ret_str {a b : List UInt8} (h : a = b) : Ending.returned (.string ⟨a.toArray⟩) = .returned (.string ⟨b.toArray⟩) := by rw [h]
theorem tneg (m : Int) (h : m < 0) : m.tmod 10 = -((m.natAbs % 10 : Nat) : Int) ∧ m.tdiv 10 = -((m.natAbs / 10 : Nat) : Int) := by
  obtain ⟨k, rfl⟩ : ∃ k : Nat, m = -(k : Int) := ⟨m.natAbs, by omega⟩
  rw [Int.neg_tmod, Int.neg_tdiv, show ((-(k : Int)).natAbs) = k by omega]
  exact ⟨rfl, rfl⟩
theorem dig_in (v : Nat) : UInt8.ofNat (48 + (v : Int)).toNat = UInt8.ofNat (48 + v) := by
  congr 1
set_option maxHeartbeats 400000 in
theorem spec_format_any (n : Int) (w : World) (h0 : -9223372036854775808 ≤ n) (h1 : n ≤ 9223372036854775807) : Calls Tryd.prog 13 #[.int .i64 n] w fun e w' => e = .returned (.string ⟨(Lib.itoa n).toArray⟩) ∧ Below w.heap.size w w' := by
  by_cases hn : n = 0
  · subst hn
    go_enter Tryd.func13, Tryd.ntmps13
    go_wp2
    go_ret
    exact ⟨congrArg (fun l : List UInt8 => Ending.returned (Value.string ⟨l.toArray⟩)) itoa_zero.symm, Below.refl _ _⟩
  · have hb : (n == 0) = false := by simpa using hn
    have hcv := @run_byte1 Tryd.prog Tryd.underlying9 Tryd.underlying22 Tryd.underlying5
    go_enter Tryd.func13, Tryd.ntmps13
    go_wp2
    go_loopw [3, 4, 5] (fun s x _ wr => ∃ (m : Int) (l : List UInt8), x = .int .i64 m ∧ s = .string ⟨l.toArray⟩ ∧ dgs m.natAbs ++ l = dgs n.natAbs ∧ (n < 0 → m ≤ 0 ∧ n ≤ m) ∧ (0 < n → 0 ≤ m ∧ m ≤ n) ∧ Below w.heap.size w wr) (fun _ x _ _ => (intOf x).natAbs)
    case atStart => exact ⟨n, [], rfl, rfl, by simp, by omega, by omega, Below.refl _ _⟩
    case round =>
      obtain ⟨m, l, rfl, rfl, hl, hneg, hpos, hbel⟩ := hrel
      have hlen := congrArg List.length hl
      rw [List.length_append] at hlen
      have hlen2 := dgs_len (u := n.natAbs) (by omega)
      have hlen3 : l.length ≤ 1000 := by omega
      by_cases hm : m = 0
      · subst hm
        have HL := Lib.hid hl
        clear hl hlen hlen2
        go_wp2
        · go_ret
          refine ⟨?_, hbel⟩
          have hs : n < 0 := by assumption
          rw [itoa_dgs_neg hs, ← HL.out]
          simp [dgs_zero, ByteArray.mk_append_mk]
        · go_ret
          refine ⟨?_, hbel⟩
          have hs : 0 ≤ n := by assumption
          rw [itoa_dgs_pos (by omega), ← HL.out]
          simp [dgs_zero]
      · have hstep := dgs_step (u := m.natAbs) (by omega)
        have hm0 : (m == 0) = false := by simpa using hm
        have HL := Lib.hid hl
        have HS := Lib.hid hstep
        have hadd := fun W v => run_add1 (P := Tryd.prog) W v l hlen3
        clear hl hlen hlen2 hstep
        rcases Int.lt_or_gt_of_ne hm with hs | hs
        · obtain ⟨ht, hd⟩ := tneg m hs
          have hr1 : -10 < m.tmod 10 := by omega
          have hr2 : m.tmod 10 ≤ 0 := by omega
          have hq1 : m < m.tdiv 10 := by omega
          have hq2 : m.tdiv 10 ≤ 0 := by omega
          have HT := Lib.hid ht
          have HD := Lib.hid hd
          clear ht hd
          by_cases hr : m.tmod 10 < 0
          · go_wp2
            refine ⟨⟨m.tdiv 10, _, rfl, rfl, ?_, by omega, by omega, hbel.alloc hbel.size _⟩, show (m.tdiv 10).natAbs < m.natAbs by omega⟩
            rw [← HL.out, HS.out, List.append_assoc, HD.out, HT.out, show (-((m.natAbs / 10 : Nat) : Int)).natAbs = m.natAbs / 10 by omega, show 48 + - -((m.natAbs % 10 : Nat) : Int) = 48 + ((m.natAbs % 10 : Nat) : Int) by omega, dig_in]
            rfl
          · go_wp2
            refine ⟨⟨m.tdiv 10, _, rfl, rfl, ?_, by omega, by omega, hbel.alloc hbel.size _⟩, show (m.tdiv 10).natAbs < m.natAbs by omega⟩
            have hz := HT.out
            rw [← HL.out, HS.out, List.append_assoc, HD.out, show (-((m.natAbs / 10 : Nat) : Int)).natAbs = m.natAbs / 10 by omega, show 48 + m.tmod 10 = 48 + ((m.natAbs % 10 : Nat) : Int) by omega, dig_in]
            rfl
        · go_wp2
          refine ⟨⟨m / 10, _, rfl, rfl, ?_, by omega, by omega, hbel.alloc hbel.size _⟩, by simp [intOf]; omega⟩
          rw [← HL.out, HS.out, List.append_assoc, show (m / 10).natAbs = m.natAbs / 10 by omega, show 48 + m % 10 = 48 + ((m.natAbs % 10 : Nat) : Int) by omega, dig_in]
          rfl
end Go.Proofs.YtgdpbohmnnncjaaDoor.Ints
