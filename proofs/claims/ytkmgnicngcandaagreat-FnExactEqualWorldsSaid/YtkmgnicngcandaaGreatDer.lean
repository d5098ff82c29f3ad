/- Contracts of DeriveFromString, in the program and in the reference. -/
import Derived.Test.YtkmgnicngcandaaGreatHs
import Derived.Lib.ConvBytes
namespace Go.Proofs.YtkmgnicngcandaaGreat.Hs
open Go.ChangeShapes Go.WideShapes Go.ChangeAt Go.RowKit Sl

/-- a string's bytes -/
def strI (s : ByteArray) : List Int := s.data.toList.map fun b => (b.toNat : Int)
theorem strI_len (s : ByteArray) : (strI s).length = s.size := by simp [strI]
theorem strI_all (s : ByteArray) : allK .u8 (strI s) := fun x hx => by
  unfold strI at hx
  rw [List.mem_map] at hx
  obtain ⟨b, _, rfl⟩ := hx
  have := b.toNat_lt
  exact ⟨by omega, by omega⟩
def derI (key : Int) (s : ByteArray) : Int := Ints.maxI 1 (khash key (b2i (strI s)))
theorem derI_valid (key : Int) (s : ByteArray) : 1 ≤ derI key s ∧ derI key s ≤ 2147483646 := by
  have h := khash_in key (b2i (strI s))
  unfold derI Ints.maxI
  omega
end Go.Proofs.YtkmgnicngcandaaGreat.Hs
