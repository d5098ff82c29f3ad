/- Contract of the reference FormatInt: the decimal numeral (Lib.itoa), for every int; the world keeps all that it held. -/
import Derived.Test.YtllkpapkkgfjaacInt
import Derived.Lib.ItoaLen
import Derived.Laws.BytesArg
import Derived.Laws.Concat
import Derived.Below
import Derived.LoopTactic
namespace Go.Proofs.Ytllkpapkkgfjaac.Ints
open Go.ChangeShapes Go.WideShapes Go.ChangeAt Go.RowKit

/-! the numeral, digit by digit -/
def dgs (u : Nat) : List UInt8 := if u = 0 then [] else Lib.decDigits u
theorem dgs_zero : dgs 0 = [] := rfl
theorem dgs_pos {u : Nat} (h : u ≠ 0) : dgs u = Lib.decDigits u := if_neg h
theorem dgs_step {u : Nat} (h : u ≠ 0) : dgs u = dgs (u / 10) ++ [UInt8.ofNat (48 + u % 10)] := by
  rw [dgs_pos h]
  by_cases h1 : u < 10
  · rw [Lib.decDigits_one h1, show u / 10 = 0 by omega, show u % 10 = u by omega]; rfl
  · rw [Lib.decDigits, dif_neg h1, dgs_pos (by omega)]
theorem dgs_len {u : Nat} (h : u < 18446744073709551616) : (dgs u).length ≤ 20 := by
  unfold dgs
  split
  · simp
  · rw [Lib.decDigits_length]; exact Lib.nDigits_le20 u h
def byte1 (v : Int) : ByteArray := ⟨#[UInt8.ofNat v.toNat]⟩
theorem run_byte1 {P : Program} (t9 : P.underlying 9 = some .string) (hs : P.underlying 22 = some (.slice 5)) (he : P.underlying 5 = some (.int .u8)) (W : World) (b : Nat) (v : Int) (hc : W.cell? ⟨b, 0, none⟩ = some (.int .u8 v)) :
    (convert 22 9 (.slice (some ⟨b, 0, none⟩) 1 1)).run P W = .ok (.string (byte1 v)) W :=
  run_convert_bytes_arg W 22 5 hs he b 0 1 1 [v] rfl (fun i hi => by
    have h0 : i = 0 := by omega
    subst h0
    simpa using hc) 9 t9
theorem run_add1 {P : Program} (W : World) (v : Int) (l : List UInt8) (h : l.length ≤ 1000) : (Op.stringOp .add (byte1 v) ⟨l.toArray⟩).run P W = .ok (.string ⟨(UInt8.ofNat v.toNat :: l).toArray⟩) W := by
  rw [run_string_add_sum W _ _ (by
    have h0 : (ByteArray.mk l.toArray).size = l.length := by show l.toArray.size = _; simp
    have h1 : (byte1 v).size = 1 := rfl
    omega)]
  unfold byte1
  rw [ByteArray.mk_append_mk]
  simp
theorem itoa_zero : Lib.itoa 0 = [48] := by
  show Lib.decDigits 0 = _
  rw [Lib.decDigits_one (by omega)]
  rfl
theorem itoa_dgs_neg {n : Int} (h : n < 0) : Lib.itoa n = 45 :: dgs n.natAbs := by
  unfold Lib.itoa
  rw [if_pos h, dgs_pos (by omega)]
theorem itoa_dgs_pos {n : Int} (h : 0 < n) : Lib.itoa n = dgs n.natAbs := by
  unfold Lib.itoa
  rw [if_neg (by omega), dgs_pos (by omega), show n.toNat = n.natAbs from by omega]
theorem ret_str {a b : List UInt8} (h : a = b) : Ending.returned (.string ⟨a.toArray⟩) = .returned (.string ⟨b.toArray⟩) := by rw [h]
theorem tneg (m : Int) (h : m < 0) : m.tmod 10 = -((m.natAbs % 10 : Nat) : Int) ∧ m.tdiv 10 = -((m.natAbs / 10 : Nat) : Int) := by
  obtain ⟨k, rfl⟩ : ∃ k : Nat, m = -(k : Int) := ⟨m.natAbs, by omega⟩
  rw [Int.neg_tmod, Int.neg_tdiv, show ((-(k : Int)).natAbs) = k by omega]
  exact ⟨rfl, rfl⟩
theorem dig_in (v : Nat) : UInt8.ofNat (48 + (v : Int)).toNat = UInt8.ofNat (48 + v) := by
  congr 1
end Go.Proofs.Ytllkpapkkgfjaac.Ints
