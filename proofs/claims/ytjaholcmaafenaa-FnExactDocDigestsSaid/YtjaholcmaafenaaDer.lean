/- Contracts of DeriveFromString, in the program and in the reference. -/
import Derived.Test.YtjaholcmaafenaaHs
import Derived.Lib.ConvBytes
namespace Go.Proofs.Ytjaholcmaafenaa.Hs
open Go.ChangeShapes Go.WideShapes Go.ChangeAt Go.RowKit Sl

/-- a string's bytes -/
def strI (s : ByteArray) : List Int := s.data.toList.map fun b => (b.toNat : Int)
theorem strI_len (s : ByteArray) : (strI s).length = s.size := by simp [strI]
theorem strI_all (s : ByteArray) : allK .u8 (strI s) := fun x hx => by
  unfold strI at hx
  rw [List.mem_map] at hx
  obtain ⟨b, _, rfl⟩ := hx
  have := b.toNat_lt
  exact ⟨by omega, by omega⟩
/-- what a string's conversion to bytes leaves -/
theorem conv_str (w : World) (s : ByteArray) (hs : s.size ≤ 100000000) : ∃ cap W', (convert 9 188 (.string s)).run Try.prog w = .ok (.slice (some ⟨w.heap.size, 0, none⟩) s.size cap) W' ∧ Rd .u8 W' (some ⟨w.heap.size, 0, none⟩) s.size (strI s) ∧ Below w.heap.size w W' := by
  refine ⟨_, _, Lib.run_convert_string_bytes w 9 188 5 s Try.underlying9 Try.underlying188 Try.underlying5, ?_, ?_⟩
  · refine ⟨strI_len s, by unfold maxLen; omega, strI_all s, fun hn => ⟨w.heap.size, 0, rfl, by rw [Lib.bytesWorld_size]; omega, fun i hi => ?_⟩⟩
    rw [Nat.zero_add, Lib.bytesWorld_cell w _ s i hi]
    unfold strI
    rw [List.getD_eq_getElem?_getD, List.getD_eq_getElem?_getD, List.getElem?_map]
    rcases s.data.toList[i]? with _ | b <;> rfl
  · refine ⟨rfl, rfl, rfl, by rw [Lib.bytesWorld_size]; omega, fun i hi => Lib.bytesWorld_at_old w _ s i hi⟩
def derI (key : Int) (s : ByteArray) : Int := Ints.maxI 1 (khash key (b2i (strI s)))
theorem derI_valid (key : Int) (s : ByteArray) : 1 ≤ derI key s ∧ derI key s ≤ 2147483646 := by
  have h := khash_in key (b2i (strI s))
  unfold derI Ints.maxI
  omega
end Go.Proofs.Ytjaholcmaafenaa.Hs
