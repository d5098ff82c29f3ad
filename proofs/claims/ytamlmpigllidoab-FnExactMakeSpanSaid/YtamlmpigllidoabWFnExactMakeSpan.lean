/- The walk of the law FnExactMakeSpan. -/
import Derived.Test.YtamlmpigllidoabSlSpan
import Derived.Test.YtamlmpigllidoabSp
import Derived.OpenShut
namespace Go.Proofs.Ytamlmpigllidoab.fnExactMakeSpan
open Go.ChangeShapes Go.WideShapes Go.ChangeAt Go.RowKit Sl St Jn Sps SlSpan
set_option maxRecDepth 100000 in
set_option maxHeartbeats 4000000 in
theorem walk {H : Type} {enc : TypeId × Value → H} (W : World) (base : Nat)
    (v0 : Value) (d0 : DataW H) (p0 : List MemPlace) (h0 : DataW.Trod enc Try.prog W 0 (fun _ => true) true 3 v0 d0 p0) (k0 : Value.okWide Try.prog W .any base 3 v0)
    (v1 : Value) (d1 : DataW H) (p1 : List MemPlace) (h1 : DataW.Trod enc Try.prog W 0 (fun _ => true) true 3 v1 d1 p1) (k1 : Value.okWide Try.prog W .any base 3 v1)
    (_hsz : (DataW.weightsEach Try.prog [3, 3] [d0, d1]).all (· ≤ reachBytes) = true) :
    Calls Try.prog 5 #[v0, v1] W fun e w' => e = .returned (.bool true) ∧ Below W.heap.size W w' := by
  obtain ⟨x0, rfl, _, _, _⟩ := open_int Try.underlying3 k0 h0
  clear h0 k0
  obtain ⟨x1, rfl, _, _, _⟩ := open_int Try.underlying3 k1 h1
  clear h1 k1
  clear _hsz
  obtain ⟨⟨sa, sb⟩, hs⟩ : ∃ s, makeS x0 x1 = s := ⟨_, rfl⟩
  have HS := Lib.hid hs
  clear hs
  have HB := Lib.hid (Below.refl W.heap.size W)
  go_enter Try.func5, Try.ntmps5
  go_wp2_with fail
  refine (spec_make_any _ _ _).mono ?_
  rintro e w1 ⟨rfl, hb⟩
  rw [HS.out]
  have HB1 := Lib.hid (below_on HB.out hb)
  clear hb
  have HX1 := Lib.hid (Bx.new w1 27 #[.int .i64 sa, .int .i64 sb])
  go_wp2_with fail
  refine (make_any _ _ _).mono ?_
  rintro e w2 ⟨rfl, hb⟩
  rw [HS.out]
  have HB2 := Lib.hid (below_on (HB1.out.alloc HB1.out.size _) hb)
  obtain ⟨c0, c1, _, _⟩ := (HX1.out.below hb).two
  have hl : w1.heap.size < w2.heap.size := by have := hb.size; simp at this; omega
  clear hb
  go_wp2_with fail
  refine (same_any _ _ _).mono ?_
  rintro e w3 ⟨rfl, hb⟩
  have HB3 := Lib.hid (below_on (HB2.out.alloc HB2.out.size _) hb)
  clear hb
  go_wp2_with fail
  go_ret
  exact ⟨rfl, HB3.out⟩
end Go.Proofs.Ytamlmpigllidoab.fnExactMakeSpan
