/- The reference's digest of a document. -/
import Derived.Test.YtjlckfbacphblaaDd
import Derived.LoopTactic
namespace Go.Proofs.Ytjlckfbacphblaa.Ds
open Go.ChangeShapes Go.WideShapes Go.ChangeAt Go.RowKit Sl St Dm Dk Dp Hs Dg Dd

section
variable {P : Program} {w : World} {ops : Array Oper} {o : Oper} {a : Act} {Q : Exit → Act → World → Prop} {E : TypeId} {lo hi : Nat} {p : Option Addr} {n c : Nat} {zs : List Int}
/-- append of one int, out of the block in which it was laid, in a drawn region -/
theorem step_appI {K : Act → World → Prop} {F : Prop} (hgd : o.guard = none) (s x : Operand) (t : TypeId) (ho : o.op = .call { callee := .builtin .append, args := #[s, x], argTypes := #[t, t] })
    (i : TypeInfo) (z : Value) (bytes : Nat) (ht : P.underlying t = some (.slice E)) (hi' : P.info? E = some i) (hz : i.zero = some z) (hsize : i.size = 1) (hby : i.bytes = bytes) (hzs : z.cells.size = 1)
    (hs : a.eval s = .slice p n c) (how : Ow .i64 E w lo hi p n c zs) (g cc : Nat) (y : Int) (hx : a.eval x = .slice (some ⟨g, 0, none⟩) 1 cc) (hc : w.cell? ⟨g, 0, none⟩ = some (.int .i64 y))
    (hy : inK .i64 y) (hlo : lo ≤ w.heap.size) (hb : (n + 1) * bytes ≤ 140737488355328) (hb' : n + 1 ≤ 140737488355328)
    (h : ∀ p' c' w', Ow .i64 E w' lo w'.heap.size p' (n + 1) c' (zs ++ [y]) → w.grownBy w' (Value.slice p n c).ownBlock → K (a.put o.dst (.slice p' (n + 1) c')) w') :
    if Region.wanted o (yielded ops a.tmps) = true then Oper.wp P o a w K Q else F := by
  have hw : Region.wanted o (yielded ops a.tmps) = true := by simp [Region.wanted, hgd]
  rw [if_pos hw]
  refine wp_append_own w s x t ho lo E i z 1 bytes ht hi' hz hsize hby hzs (by omega) _ n _ hs how.own ⟨g, 0, none⟩ 1 cc [.int .i64 y] hx rfl ?_ ?_ (by unfold maxLen; omega) hb hlo ?_
  · intro j u hu
    cases j with
    | zero =>
      simp only [List.getElem?_cons_zero, Option.some.injEq] at hu
      subst hu
      exact hc
    | succ j => simp at hu
  · intro u hu
    rw [List.mem_singleton] at hu
    rw [hu]
    rfl
  · intro v' w' hown hg _
    obtain ⟨p', c', rfl⟩ : ∃ p' c', v' = .slice p' (n + 1) c' := row_form hown
    have e : zs.map (Value.int .i64) ++ [.int .i64 y] = (zs ++ [y]).map (Value.int .i64) := by rw [List.map_append]; rfl
    rw [e] at hown
    refine h p' c' w' (Ow.of_row hown (allK_append how.all (fun q hq => ?_))) hg
    rw [List.mem_singleton] at hq
    rw [hq]
    exact hy
end
/-- the title and the first k digests -/
def pk (mth t : Int) (parts : List ByteArray) (salts : List Int) (k : Nat) : List Int := t :: (List.range k).map fun i => partD mth (parts.getD i ByteArray.empty) (salts.getD i 0)
theorem pk_zero (mth t : Int) (parts : List ByteArray) (salts : List Int) : pk mth t parts salts 0 = [t] := rfl
theorem pk_next (mth t : Int) (parts : List ByteArray) (salts : List Int) (k : Nat) : pk mth t parts salts k ++ [partD mth (parts.getD k ByteArray.empty) (salts.getD k 0)] = pk mth t parts salts (k + 1) := by
  unfold pk
  rw [List.range_succ, List.map_append]
  rfl
theorem pk_all (mth t : Int) (parts : List ByteArray) (salts : List Int) (n : Nat) (h : parts.length = n) : pk mth t parts salts n = t :: partsD mth (t, parts, salts) := by subst h; rfl
theorem pk_len (mth t : Int) (parts : List ByteArray) (salts : List Int) (k : Nat) : (pk mth t parts salts k).length = k + 1 := by simp [pk]
end Go.Proofs.Ytjlckfbacphblaa.Ds
