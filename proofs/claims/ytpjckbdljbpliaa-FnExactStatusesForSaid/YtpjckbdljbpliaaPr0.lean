/- What a piece was made from: of no program; closed facts on types and methods. -/
import Derived.Test.YtpjckbdljbpliaaEd
import Derived.Test.YtpjckbdljbpliaaDz
import Derived.Test.YtpjckbdljbpliaaKd
import Derived.Outline
namespace Go.Proofs.Ytpjckbdljbpliaa.Pr0
open Go.ChangeShapes Go.WideShapes Go.ChangeAt Go.RowKit Sl St Ed Dz Kd
def kd (zs : List Int) : Int := kind zs.length (zs.getD 0 0)
/-- what is read from a piece -/
def rdV (k : Int) (zs : List Int) (m : Int) : Value := if kd zs = 101 then .iface 37 (.agg #[.int .i64 (zs.getD 1 0), .int .i64 (zs.getD 2 0), .int .i64 (zs.getD 3 0), .int .i64 (zs.getD 4 0), .int .i64 (zs.getD 5 0), .int .i64 (zs.getD 6 0), .int .i64 m]) else if kd zs = 102 then .iface 80 (.agg #[.int .i64 (zs.getD 1 0), .int .i64 (zs.getD 2 0), .int .i64 (zs.getD 3 0), .int .i64 (zs.getD 4 0), .int .i64 m]) else if kd zs = 103 then .iface 162 (.agg #[.int .i64 (zs.getD 1 0), .int .i64 (zs.getD 2 0), .int .i64 (zs.getD 3 0), .int .i64 (zs.getD 4 0), .int .i64 m, .int .i64 k]) else if kd zs = 104 then .iface 56 (.agg #[.int .i64 (zs.getD 1 0), .int .i64 (zs.getD 2 0), .int .i64 (zs.getD 3 0), .int .i64 (zs.getD 4 0), .int .i64 (zs.getD 5 0), .int .i64 (zs.getD 6 0), .int .i64 (zs.getD 7 0), .int .i64 (zs.getD 8 0), .int .i64 m]) else if kd zs = 105 then .iface 72 (.agg #[.int .i64 (zs.getD 1 0), .int .i64 (zs.getD 2 0), .int .i64 (zs.getD 3 0), .int .i64 (zs.getD 4 0), .int .i64 (zs.getD 5 0), .int .i64 m]) else .nilIface
def ownOf (k : Int) (zs : List Int) : Int := if kd zs = 101 then (zs.getD 6 0) else if kd zs = 102 then (zs.getD 4 0) else if kd zs = 103 then k else if kd zs = 104 then (zs.getD 1 0) else if kd zs = 105 then (zs.getD 5 0) else k
/-- the kind of what a piece was made from; 0: of nothing -/
def tag (k : Int) (zs : List Int) : Int := if ownOf k zs = k then kd zs else 0
def soV (k : Int) (zs : List Int) (m : Int) : Value := if tag k zs = 0 then .nilIface else rdV k zs m
theorem kd_of {zs : List Int} {n : Nat} (h : zs.length = n) : kind n (zs.getD 0 0) = kd zs := by rw [← h]; rfl
theorem kd_cases (zs : List Int) {n : Nat} (hl : zs.length = n) : (n = 7 ∧ zs.getD 0 0 = 101 ∧ kd zs = 101) ∨ (n = 5 ∧ zs.getD 0 0 = 102 ∧ kd zs = 102) ∨ (n = 5 ∧ zs.getD 0 0 = 103 ∧ kd zs = 103) ∨ (n = 9 ∧ zs.getD 0 0 = 104 ∧ kd zs = 104) ∨ (n = 6 ∧ zs.getD 0 0 = 105 ∧ kd zs = 105) ∨ kd zs = 0 := by
  subst hl
  rcases kind_cases zs.length (zs.getD 0 0) with h | h | h | h | h | h
  · exact Or.inl h
  · exact Or.inr (Or.inl h)
  · exact Or.inr (Or.inr (Or.inl h))
  · exact Or.inr (Or.inr (Or.inr (Or.inl h)))
  · exact Or.inr (Or.inr (Or.inr (Or.inr (Or.inl h))))
  · exact Or.inr (Or.inr (Or.inr (Or.inr (Or.inr h))))
section
variable {k m : Int} {zs : List Int}
theorem rd_Cert (h : kd zs = 101) : rdV k zs m = .iface 37 (.agg #[.int .i64 (zs.getD 1 0), .int .i64 (zs.getD 2 0), .int .i64 (zs.getD 3 0), .int .i64 (zs.getD 4 0), .int .i64 (zs.getD 5 0), .int .i64 (zs.getD 6 0), .int .i64 m]) := by simp [rdV, h]
theorem own_Cert (h : kd zs = 101) : ownOf k zs = (zs.getD 6 0) := by simp [ownOf, h]
theorem rd_Status (h : kd zs = 102) : rdV k zs m = .iface 80 (.agg #[.int .i64 (zs.getD 1 0), .int .i64 (zs.getD 2 0), .int .i64 (zs.getD 3 0), .int .i64 (zs.getD 4 0), .int .i64 m]) := by simp [rdV, h]
theorem own_Status (h : kd zs = 102) : ownOf k zs = (zs.getD 4 0) := by simp [ownOf, h]
theorem rd_Stamp (h : kd zs = 103) : rdV k zs m = .iface 162 (.agg #[.int .i64 (zs.getD 1 0), .int .i64 (zs.getD 2 0), .int .i64 (zs.getD 3 0), .int .i64 (zs.getD 4 0), .int .i64 m, .int .i64 k]) := by simp [rdV, h]
theorem own_Stamp (h : kd zs = 103) : ownOf k zs = k := by simp [ownOf, h]
theorem rd_Sign (h : kd zs = 104) : rdV k zs m = .iface 56 (.agg #[.int .i64 (zs.getD 1 0), .int .i64 (zs.getD 2 0), .int .i64 (zs.getD 3 0), .int .i64 (zs.getD 4 0), .int .i64 (zs.getD 5 0), .int .i64 (zs.getD 6 0), .int .i64 (zs.getD 7 0), .int .i64 (zs.getD 8 0), .int .i64 m]) := by simp [rdV, h]
theorem own_Sign (h : kd zs = 104) : ownOf k zs = (zs.getD 1 0) := by simp [ownOf, h]
theorem rd_Mandate (h : kd zs = 105) : rdV k zs m = .iface 72 (.agg #[.int .i64 (zs.getD 1 0), .int .i64 (zs.getD 2 0), .int .i64 (zs.getD 3 0), .int .i64 (zs.getD 4 0), .int .i64 (zs.getD 5 0), .int .i64 m]) := by simp [rdV, h]
theorem own_Mandate (h : kd zs = 105) : ownOf k zs = (zs.getD 5 0) := by simp [ownOf, h]
theorem rd_none (h : kd zs = 0) : rdV k zs m = .nilIface := by simp [rdV, h]
theorem tag_none (h : kd zs = 0) : tag k zs = 0 := by simp [tag, h]
theorem tag_other (h : ¬ ownOf k zs = k) : tag k zs = 0 := by simp [tag, h]
theorem tag_own (h : ownOf k zs = k) : tag k zs = kd zs := by simp [tag, h]
theorem so_none (h : tag k zs = 0) : soV k zs m = .nilIface := by simp [soV, h]
theorem so_own (h : ownOf k zs = k) (h0 : ¬ kd zs = 0) : soV k zs m = rdV k zs m := by simp [soV, tag_own h, h0]
theorem tag_cases (k : Int) (zs : List Int) (m : Int) : (tag k zs = 0 ∧ soV k zs m = .nilIface) ∨ (tag k zs = 101 ∧ soV k zs m = .iface 37 (.agg #[.int .i64 (zs.getD 1 0), .int .i64 (zs.getD 2 0), .int .i64 (zs.getD 3 0), .int .i64 (zs.getD 4 0), .int .i64 (zs.getD 5 0), .int .i64 (zs.getD 6 0), .int .i64 m])) ∨ (tag k zs = 102 ∧ soV k zs m = .iface 80 (.agg #[.int .i64 (zs.getD 1 0), .int .i64 (zs.getD 2 0), .int .i64 (zs.getD 3 0), .int .i64 (zs.getD 4 0), .int .i64 m])) ∨ (tag k zs = 103 ∧ soV k zs m = .iface 162 (.agg #[.int .i64 (zs.getD 1 0), .int .i64 (zs.getD 2 0), .int .i64 (zs.getD 3 0), .int .i64 (zs.getD 4 0), .int .i64 m, .int .i64 k])) ∨ (tag k zs = 104 ∧ soV k zs m = .iface 56 (.agg #[.int .i64 (zs.getD 1 0), .int .i64 (zs.getD 2 0), .int .i64 (zs.getD 3 0), .int .i64 (zs.getD 4 0), .int .i64 (zs.getD 5 0), .int .i64 (zs.getD 6 0), .int .i64 (zs.getD 7 0), .int .i64 (zs.getD 8 0), .int .i64 m])) ∨ (tag k zs = 105 ∧ soV k zs m = .iface 72 (.agg #[.int .i64 (zs.getD 1 0), .int .i64 (zs.getD 2 0), .int .i64 (zs.getD 3 0), .int .i64 (zs.getD 4 0), .int .i64 (zs.getD 5 0), .int .i64 m])) := by
  by_cases ho : ownOf k zs = k
  · rcases kd_cases zs rfl with ⟨_, _, h⟩ | ⟨_, _, h⟩ | ⟨_, _, h⟩ | ⟨_, _, h⟩ | ⟨_, _, h⟩ | h
    · exact Or.inr (Or.inl ⟨by rw [tag_own ho, h], by rw [so_own ho (by rw [h]; decide), rd_Cert h]⟩)
    · exact Or.inr (Or.inr (Or.inl ⟨by rw [tag_own ho, h], by rw [so_own ho (by rw [h]; decide), rd_Status h]⟩))
    · exact Or.inr (Or.inr (Or.inr (Or.inl ⟨by rw [tag_own ho, h], by rw [so_own ho (by rw [h]; decide), rd_Stamp h]⟩)))
    · exact Or.inr (Or.inr (Or.inr (Or.inr (Or.inl ⟨by rw [tag_own ho, h], by rw [so_own ho (by rw [h]; decide), rd_Sign h]⟩))))
    · exact Or.inr (Or.inr (Or.inr (Or.inr (Or.inr (⟨by rw [tag_own ho, h], by rw [so_own ho (by rw [h]; decide), rd_Mandate h]⟩)))))
    · exact Or.inl ⟨tag_none h, so_none (tag_none h)⟩
  · exact Or.inl ⟨tag_other ho, so_none (tag_other ho)⟩
end
theorem cells_of {w : World} {p : Option Addr} {n : Nat} {zs : List Int} (h : Rd .i64 w p n zs) (hn : 0 < n) : ∃ b o, p = some ⟨b, o, none⟩ ∧ b < w.heap.size ∧ ∀ i, i < n → w.cell? ⟨b, o + i, none⟩ = some (.int .i64 (zs.getD i 0)) := by
  obtain ⟨b, o, e, hb, hc⟩ := h.2.2.2 hn
  exact ⟨b, o, e, hb, hc⟩
theorem in_of {w : World} {p : Option Addr} {n : Nat} {zs : List Int} (h : Rd .i64 w p n zs) (i : Nat) : InI (zs.getD i 0) := by
  by_cases hi : i < zs.length
  · rw [List.getD_eq_getElem?_getD, List.getElem?_eq_getElem hi]
    exact h.all _ (List.getElem_mem hi)
  · rw [List.getD_eq_getElem?_getD, List.getElem?_eq_none (by omega)]
    exact ⟨by decide, by decide⟩
theorem pieceKey (x y : Int) (p : Option Addr) (n c : Nat) (w : World) : (Instr.field 75 (.agg #[.int .i64 x, .slice p n c, .int .i64 y]) 0).run Try.prog w = .ok (.int .i64 x) w := by kernel_rfl
theorem nilNil (w : World) : (binOp .eql 117 .nilIface .nilIface).run Try.prog w = .ok (.bool true) w := by kernel_rfl
theorem nilNeq (w : World) : (binOp .neq 117 .nilIface .nilIface).run Try.prog w = .ok (.bool false) w := by kernel_rfl
theorem eq_Cert (v : Value) (w : World) : (binOp .eql 117 (.iface 37 v) .nilIface).run Try.prog w = .ok (.bool false) w := by kernel_rfl
theorem ne_Cert (v : Value) (w : World) : (binOp .neq 117 (.iface 37 v) .nilIface).run Try.prog w = .ok (.bool true) w := by kernel_rfl
theorem meth_Cert (y0 y1 y2 y3 y4 y5 y6 : Int) (w : World) : (method 304 37 (.agg #[.int .i64 y0, .int .i64 y1, .int .i64 y2, .int .i64 y3, .int .i64 y4, .int .i64 y5, .int .i64 y6]) "loop.example/g00597/impl.piece").run Try.prog w = .ok (123, .agg #[.int .i64 y0, .int .i64 y1, .int .i64 y2, .int .i64 y3, .int .i64 y4, .int .i64 y5, .int .i64 y6]) w := by kernel_rfl
theorem eq_Status (v : Value) (w : World) : (binOp .eql 117 (.iface 80 v) .nilIface).run Try.prog w = .ok (.bool false) w := by kernel_rfl
theorem ne_Status (v : Value) (w : World) : (binOp .neq 117 (.iface 80 v) .nilIface).run Try.prog w = .ok (.bool true) w := by kernel_rfl
theorem meth_Status (y0 y1 y2 y3 y4 : Int) (w : World) : (method 304 80 (.agg #[.int .i64 y0, .int .i64 y1, .int .i64 y2, .int .i64 y3, .int .i64 y4]) "loop.example/g00597/impl.piece").run Try.prog w = .ok (132, .agg #[.int .i64 y0, .int .i64 y1, .int .i64 y2, .int .i64 y3, .int .i64 y4]) w := by kernel_rfl
theorem eq_Stamp (v : Value) (w : World) : (binOp .eql 117 (.iface 162 v) .nilIface).run Try.prog w = .ok (.bool false) w := by kernel_rfl
theorem ne_Stamp (v : Value) (w : World) : (binOp .neq 117 (.iface 162 v) .nilIface).run Try.prog w = .ok (.bool true) w := by kernel_rfl
theorem meth_Stamp (y0 y1 y2 y3 y4 y5 : Int) (w : World) : (method 304 162 (.agg #[.int .i64 y0, .int .i64 y1, .int .i64 y2, .int .i64 y3, .int .i64 y4, .int .i64 y5]) "loop.example/g00597/impl.piece").run Try.prog w = .ok (134, .agg #[.int .i64 y0, .int .i64 y1, .int .i64 y2, .int .i64 y3, .int .i64 y4, .int .i64 y5]) w := by kernel_rfl
theorem eq_Sign (v : Value) (w : World) : (binOp .eql 117 (.iface 56 v) .nilIface).run Try.prog w = .ok (.bool false) w := by kernel_rfl
theorem ne_Sign (v : Value) (w : World) : (binOp .neq 117 (.iface 56 v) .nilIface).run Try.prog w = .ok (.bool true) w := by kernel_rfl
theorem meth_Sign (y0 y1 y2 y3 y4 y5 y6 y7 y8 : Int) (w : World) : (method 304 56 (.agg #[.int .i64 y0, .int .i64 y1, .int .i64 y2, .int .i64 y3, .int .i64 y4, .int .i64 y5, .int .i64 y6, .int .i64 y7, .int .i64 y8]) "loop.example/g00597/impl.piece").run Try.prog w = .ok (126, .agg #[.int .i64 y0, .int .i64 y1, .int .i64 y2, .int .i64 y3, .int .i64 y4, .int .i64 y5, .int .i64 y6, .int .i64 y7, .int .i64 y8]) w := by kernel_rfl
theorem eq_Mandate (v : Value) (w : World) : (binOp .eql 117 (.iface 72 v) .nilIface).run Try.prog w = .ok (.bool false) w := by kernel_rfl
theorem ne_Mandate (v : Value) (w : World) : (binOp .neq 117 (.iface 72 v) .nilIface).run Try.prog w = .ok (.bool true) w := by kernel_rfl
theorem meth_Mandate (y0 y1 y2 y3 y4 y5 : Int) (w : World) : (method 304 72 (.agg #[.int .i64 y0, .int .i64 y1, .int .i64 y2, .int .i64 y3, .int .i64 y4, .int .i64 y5]) "loop.example/g00597/impl.piece").run Try.prog w = .ok (130, .agg #[.int .i64 y0, .int .i64 y1, .int .i64 y2, .int .i64 y3, .int .i64 y4, .int .i64 y5]) w := by kernel_rfl
theorem as_Cert_Cert (v : Value) (w : World) : (Instr.typeAssert (.iface 37 v) 117 37 true).run Try.prog w = .ok (.tuple #[v, .bool true]) w := by kernel_rfl
theorem as_Cert_Status (v : Value) (w : World) : (Instr.typeAssert (.iface 80 v) 117 37 true).run Try.prog w = .ok (.tuple #[.agg #[.int .i64 0, .int .i64 0, .int .i64 0, .int .i64 0, .int .i64 0, .int .i64 0, .int .i64 0], .bool false]) w := by kernel_rfl
theorem as_Cert_Stamp (v : Value) (w : World) : (Instr.typeAssert (.iface 162 v) 117 37 true).run Try.prog w = .ok (.tuple #[.agg #[.int .i64 0, .int .i64 0, .int .i64 0, .int .i64 0, .int .i64 0, .int .i64 0, .int .i64 0], .bool false]) w := by kernel_rfl
theorem as_Cert_Sign (v : Value) (w : World) : (Instr.typeAssert (.iface 56 v) 117 37 true).run Try.prog w = .ok (.tuple #[.agg #[.int .i64 0, .int .i64 0, .int .i64 0, .int .i64 0, .int .i64 0, .int .i64 0, .int .i64 0], .bool false]) w := by kernel_rfl
theorem as_Cert_Mandate (v : Value) (w : World) : (Instr.typeAssert (.iface 72 v) 117 37 true).run Try.prog w = .ok (.tuple #[.agg #[.int .i64 0, .int .i64 0, .int .i64 0, .int .i64 0, .int .i64 0, .int .i64 0, .int .i64 0], .bool false]) w := by kernel_rfl
theorem as_Cert_nil (w : World) : (Instr.typeAssert .nilIface 117 37 true).run Try.prog w = .ok (.tuple #[.agg #[.int .i64 0, .int .i64 0, .int .i64 0, .int .i64 0, .int .i64 0, .int .i64 0, .int .i64 0], .bool false]) w := by kernel_rfl
theorem as_Status_Cert (v : Value) (w : World) : (Instr.typeAssert (.iface 37 v) 117 80 true).run Try.prog w = .ok (.tuple #[.agg #[.int .i64 0, .int .i64 0, .int .i64 0, .int .i64 0, .int .i64 0], .bool false]) w := by kernel_rfl
theorem as_Status_Status (v : Value) (w : World) : (Instr.typeAssert (.iface 80 v) 117 80 true).run Try.prog w = .ok (.tuple #[v, .bool true]) w := by kernel_rfl
theorem as_Status_Stamp (v : Value) (w : World) : (Instr.typeAssert (.iface 162 v) 117 80 true).run Try.prog w = .ok (.tuple #[.agg #[.int .i64 0, .int .i64 0, .int .i64 0, .int .i64 0, .int .i64 0], .bool false]) w := by kernel_rfl
theorem as_Status_Sign (v : Value) (w : World) : (Instr.typeAssert (.iface 56 v) 117 80 true).run Try.prog w = .ok (.tuple #[.agg #[.int .i64 0, .int .i64 0, .int .i64 0, .int .i64 0, .int .i64 0], .bool false]) w := by kernel_rfl
theorem as_Status_Mandate (v : Value) (w : World) : (Instr.typeAssert (.iface 72 v) 117 80 true).run Try.prog w = .ok (.tuple #[.agg #[.int .i64 0, .int .i64 0, .int .i64 0, .int .i64 0, .int .i64 0], .bool false]) w := by kernel_rfl
theorem as_Status_nil (w : World) : (Instr.typeAssert .nilIface 117 80 true).run Try.prog w = .ok (.tuple #[.agg #[.int .i64 0, .int .i64 0, .int .i64 0, .int .i64 0, .int .i64 0], .bool false]) w := by kernel_rfl
theorem as_Stamp_Cert (v : Value) (w : World) : (Instr.typeAssert (.iface 37 v) 117 162 true).run Try.prog w = .ok (.tuple #[.agg #[.int .i64 0, .int .i64 0, .int .i64 0, .int .i64 0, .int .i64 0, .int .i64 0], .bool false]) w := by kernel_rfl
theorem as_Stamp_Status (v : Value) (w : World) : (Instr.typeAssert (.iface 80 v) 117 162 true).run Try.prog w = .ok (.tuple #[.agg #[.int .i64 0, .int .i64 0, .int .i64 0, .int .i64 0, .int .i64 0, .int .i64 0], .bool false]) w := by kernel_rfl
theorem as_Stamp_Stamp (v : Value) (w : World) : (Instr.typeAssert (.iface 162 v) 117 162 true).run Try.prog w = .ok (.tuple #[v, .bool true]) w := by kernel_rfl
theorem as_Stamp_Sign (v : Value) (w : World) : (Instr.typeAssert (.iface 56 v) 117 162 true).run Try.prog w = .ok (.tuple #[.agg #[.int .i64 0, .int .i64 0, .int .i64 0, .int .i64 0, .int .i64 0, .int .i64 0], .bool false]) w := by kernel_rfl
theorem as_Stamp_Mandate (v : Value) (w : World) : (Instr.typeAssert (.iface 72 v) 117 162 true).run Try.prog w = .ok (.tuple #[.agg #[.int .i64 0, .int .i64 0, .int .i64 0, .int .i64 0, .int .i64 0, .int .i64 0], .bool false]) w := by kernel_rfl
theorem as_Stamp_nil (w : World) : (Instr.typeAssert .nilIface 117 162 true).run Try.prog w = .ok (.tuple #[.agg #[.int .i64 0, .int .i64 0, .int .i64 0, .int .i64 0, .int .i64 0, .int .i64 0], .bool false]) w := by kernel_rfl
theorem as_Sign_Cert (v : Value) (w : World) : (Instr.typeAssert (.iface 37 v) 117 56 true).run Try.prog w = .ok (.tuple #[.agg #[.int .i64 0, .int .i64 0, .int .i64 0, .int .i64 0, .int .i64 0, .int .i64 0, .int .i64 0, .int .i64 0, .int .i64 0], .bool false]) w := by kernel_rfl
theorem as_Sign_Status (v : Value) (w : World) : (Instr.typeAssert (.iface 80 v) 117 56 true).run Try.prog w = .ok (.tuple #[.agg #[.int .i64 0, .int .i64 0, .int .i64 0, .int .i64 0, .int .i64 0, .int .i64 0, .int .i64 0, .int .i64 0, .int .i64 0], .bool false]) w := by kernel_rfl
theorem as_Sign_Stamp (v : Value) (w : World) : (Instr.typeAssert (.iface 162 v) 117 56 true).run Try.prog w = .ok (.tuple #[.agg #[.int .i64 0, .int .i64 0, .int .i64 0, .int .i64 0, .int .i64 0, .int .i64 0, .int .i64 0, .int .i64 0, .int .i64 0], .bool false]) w := by kernel_rfl
theorem as_Sign_Sign (v : Value) (w : World) : (Instr.typeAssert (.iface 56 v) 117 56 true).run Try.prog w = .ok (.tuple #[v, .bool true]) w := by kernel_rfl
theorem as_Sign_Mandate (v : Value) (w : World) : (Instr.typeAssert (.iface 72 v) 117 56 true).run Try.prog w = .ok (.tuple #[.agg #[.int .i64 0, .int .i64 0, .int .i64 0, .int .i64 0, .int .i64 0, .int .i64 0, .int .i64 0, .int .i64 0, .int .i64 0], .bool false]) w := by kernel_rfl
theorem as_Sign_nil (w : World) : (Instr.typeAssert .nilIface 117 56 true).run Try.prog w = .ok (.tuple #[.agg #[.int .i64 0, .int .i64 0, .int .i64 0, .int .i64 0, .int .i64 0, .int .i64 0, .int .i64 0, .int .i64 0, .int .i64 0], .bool false]) w := by kernel_rfl
theorem as_Mandate_Cert (v : Value) (w : World) : (Instr.typeAssert (.iface 37 v) 117 72 true).run Try.prog w = .ok (.tuple #[.agg #[.int .i64 0, .int .i64 0, .int .i64 0, .int .i64 0, .int .i64 0, .int .i64 0], .bool false]) w := by kernel_rfl
theorem as_Mandate_Status (v : Value) (w : World) : (Instr.typeAssert (.iface 80 v) 117 72 true).run Try.prog w = .ok (.tuple #[.agg #[.int .i64 0, .int .i64 0, .int .i64 0, .int .i64 0, .int .i64 0, .int .i64 0], .bool false]) w := by kernel_rfl
theorem as_Mandate_Stamp (v : Value) (w : World) : (Instr.typeAssert (.iface 162 v) 117 72 true).run Try.prog w = .ok (.tuple #[.agg #[.int .i64 0, .int .i64 0, .int .i64 0, .int .i64 0, .int .i64 0, .int .i64 0], .bool false]) w := by kernel_rfl
theorem as_Mandate_Sign (v : Value) (w : World) : (Instr.typeAssert (.iface 56 v) 117 72 true).run Try.prog w = .ok (.tuple #[.agg #[.int .i64 0, .int .i64 0, .int .i64 0, .int .i64 0, .int .i64 0, .int .i64 0], .bool false]) w := by kernel_rfl
theorem as_Mandate_Mandate (v : Value) (w : World) : (Instr.typeAssert (.iface 72 v) 117 72 true).run Try.prog w = .ok (.tuple #[v, .bool true]) w := by kernel_rfl
theorem as_Mandate_nil (w : World) : (Instr.typeAssert .nilIface 117 72 true).run Try.prog w = .ok (.tuple #[.agg #[.int .i64 0, .int .i64 0, .int .i64 0, .int .i64 0, .int .i64 0, .int .i64 0], .bool false]) w := by kernel_rfl
end Go.Proofs.Ytpjckbdljbpliaa.Pr0
