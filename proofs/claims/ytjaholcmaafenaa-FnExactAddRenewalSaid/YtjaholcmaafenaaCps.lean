/- What is of no program: a row of structs copied into a row that the call owns. -/
import Derived.Test.YtjaholcmaafenaaStM
import Derived.Laws.CopyOwn
namespace Go.Proofs.Ytjaholcmaafenaa.Cps
open Go.RowKit Go.WideShapes Sl St
section
variable {P : Program}
theorem run_copyC (w : World) (dT sT ty elem : TypeId) (C m b o dLen dCap : Nat) (a : Addr) (sLen sCap : Nat) (cs : List Value)
    (hu : P.underlying dT = some (.slice elem)) (hs : (P.info? elem).map (·.size) = some C) (hm : Nat.min sLen dLen = m) (hn : cs.length = m * C)
    (hsrc : ∀ j v, cs[j]? = some v → w.cell? (a.add j) = some v) (hc : ∀ j, j < cs.length → (w.cell? ⟨b, o + j, none⟩).isSome = true) (hf : ∀ j, j < cs.length → w.frozen? ⟨b, o + j, none⟩ = false) (h1 : ∀ v ∈ cs, v.oneCell' = true) :
    (Builtin.copy_ #[dT, sT] ty #[.slice (some ⟨b, o, none⟩) dLen dCap, .slice (some a) sLen sCap]).run P w = .ok (goInt m) (w.setCells b o cs) := by
  have hl := run_loadCells_list (P := P) w a cs hsrc
  have hst := run_storeCells_cells (P := P) b o cs 0 w (by simpa using hc) (by simpa using hf) h1
  cases hq : P.info? elem with
  | none => simp [hq] at hs
  | some i =>
    have hi : i.size = C := by simpa [hq] using hs
    simp [Builtin.copy_, run_underlying hu, Builtin.lenOf, Builtin.firstCells, sizeOf, typeInfo, hq, hi, hm, ← hn, hl, hst]
theorem run_copy0 (w : World) (dT sT ty elem : TypeId) (C : Nat) (d a : Option Addr) (dLen dCap sLen sCap : Nat) (hu : P.underlying dT = some (.slice elem)) (hs : (P.info? elem).map (·.size) = some C) (hn : Nat.min sLen dLen = 0) :
    (Builtin.copy_ #[dT, sT] ty #[.slice d dLen dCap, .slice a sLen sCap]).run P w = .ok (goInt 0) w := by
  cases hq : P.info? elem with
  | none => simp [hq] at hs
  | some i =>
    have hl : ∀ (x : Addr), (loadCells x 0).run P w = .ok #[] w := fun x => by simpa using run_loadCells_list (P := P) w x [] (by simp)
    cases d <;> cases a <;> simp [Builtin.copy_, run_underlying hu, Builtin.lenOf, Builtin.firstCells, sizeOf, typeInfo, hq, hn, storeCells, hl]
theorem add_eq (b off z : Nat) : (⟨b, off, none⟩ : Addr).add z = ⟨b, off + z, none⟩ := by
  cases z with
  | zero => simp [Addr.add]
  | succ z => simp [Addr.add]
theorem setL_whole (vs old : List Value) (h : old.length = vs.length) : setL old 0 vs = vs := by
  have := setL_mid vs [] old [] h
  simpa using this
/-- a copy whose run is known -/
theorem wpList_ran {w w' : World} {ops : Array Oper} {rest : List Oper} {o : Oper} {a : Act} {Q : Exit → Act → World → Prop} (hgd : o.guard = none) (d s : Operand) (t : TypeId) (ho : o.op = .call { callee := .builtin .copy, args := #[d, s], argTypes := #[t, t] }) {v u r : Value} (hd : a.eval d = v) (hs : a.eval s = u)
    (hr : (Builtin.copy_ #[t, t] o.type #[v, u]).run P w = .ok r w') (h : wpList P ops Q rest (a.put o.dst r) w') : wpList P ops Q (o :: rest) a w := by
  refine wpList_plain hgd fun K hK => ?_
  unfold Oper.wp
  simp [execOp, ho, resolve, invoke, builtin, hd, hs, hr, Result.andThen]
  exact hK _ _ h
variable {α : Type} {E : En α} {T : TypeId}
theorem wpList_copyS {w : World} {ops : Array Oper} {rest : List Oper} {o : Oper} {a : Act} {Q : Exit → Act → World → Prop} (hgd : o.guard = none) (d s : Operand) (t : TypeId)
    (ho : o.op = .call { callee := .builtin .copy, args := #[d, s], argTypes := #[t, t] }) (ht : P.underlying t = some (.slice T)) (hsz : (P.info? T).map (·.size) = some E.C)
    (g n c lo hi : Nat) (zs ys : List α) (p : Option Addr) (c2 : Nat) (hd : a.eval d = .slice (some ⟨g, 0, none⟩) n c) (hown : OwS E T w lo hi (some ⟨g, 0, none⟩) n c zs) (hs : a.eval s = .slice p n c2) (hr : RdS E w p n ys)
    (h : ∀ w', OwS E T w' lo hi (some ⟨g, 0, none⟩) n c ys → w.grownBy w' (some g) → wpList P ops Q rest (a.put o.dst (goInt n)) w') : wpList P ops Q (o :: rest) a w := by
  rcases Nat.eq_zero_or_pos n with rfl | hn
  · obtain rfl : ys = [] := List.eq_nil_of_length_eq_zero hr.len
    obtain rfl : zs = [] := List.eq_nil_of_length_eq_zero hown.len
    exact wpList_ran hgd d s t ho hd hs (run_copy0 w t t o.type T E.C _ _ 0 c 0 c2 ht hsz (by simp)) (h w hown ⟨rfl, rfl, rfl, Nat.le_refl _, fun _ _ _ => rfl⟩)
  · obtain ⟨b, off, rfl, hb, hc⟩ := hr.2.2 hn
    have hly := hr.len
    have hlz := hown.len
    have hlen : (fl E ys).length = n * E.C := by rw [fl_len, hly]
    have hlen2 : (fl E zs).length = n * E.C := by rw [fl_len, hlz]
    obtain ⟨h1, h2⟩ := row_setCells (fl E ys) 0 _ _ hown.own
    rw [setL_whole _ _ (by rw [hlen, hlen2])] at h1
    refine wpList_ran hgd d s t ho hd hs (run_copyC w t t o.type T E.C n g 0 n c ⟨b, off, none⟩ n c2 (fl E ys) ht hsz (Nat.min_self n) hlen (fun j v hv => ?_) (fun j hj => ?_) (fun j _ => ?_) (fl_one' E ys)) (h _ ⟨h1, hly, Nat.le_trans hown.2.2.1 h2.size, hown.2.2.2⟩ h2)
    · obtain ⟨i, x, q, rfl, _, hx, hq⟩ := fl_of E hv
      have := hc i x hx q v hq
      rw [Nat.add_assoc] at this
      rw [add_eq]
      exact this
    · rw [Nat.zero_add, hown.own.cellAt j (by rw [← hlen]; exact hj), List.getElem?_eq_getElem (by rw [hlen2, ← hlen]; exact hj)]
      rfl
    · exact hown.own.frozenAt _
end
end Go.Proofs.Ytjaholcmaafenaa.Cps
