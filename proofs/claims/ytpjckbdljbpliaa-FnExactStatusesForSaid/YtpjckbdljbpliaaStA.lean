/- What is of no program: a row of structs copied into a row that the call owns. The Status statements among pieces: in the program and in the reference. The statuses for a certificate among pieces: in the program and in the reference. -/
import Derived.Test.YtpjckbdljbpliaaStM
import Derived.Laws.CopyOwn
import Derived.Test.YtpjckbdljbpliaaPoA
import Derived.Test.YtpjckbdljbpliaaSlStatus
import Derived.Test.YtpjckbdljbpliaaDpPiece
import Derived.LoopTactic
import Derived.Outline
import Derived.Test.YtpjckbdljbpliaaSlCert
namespace Go.Proofs.Ytpjckbdljbpliaa.Cps
open Go.RowKit Go.WideShapes Sl St
section
variable {P : Program}
theorem run_copyC (w : World) (dT sT ty elem : TypeId) (C m b o dLen dCap : Nat) (a : Addr) (sLen sCap : Nat) (cs : List Value)
    (hu : P.underlying dT = some (.slice elem)) (hs : (P.info? elem).map (·.size) = some C) (hm : Nat.min sLen dLen = m) (hn : cs.length = m * C)
    (hsrc : ∀ j v, cs[j]? = some v → w.cell? (a.add j) = some v) (hc : ∀ j, j < cs.length → (w.cell? ⟨b, o + j, none⟩).isSome = true) (hf : ∀ j, j < cs.length → w.frozen? ⟨b, o + j, none⟩ = false) (h1 : ∀ v ∈ cs, v.oneCell' = true) :
    (Builtin.copy_ #[dT, sT] ty #[.slice (some ⟨b, o, none⟩) dLen dCap, .slice (some a) sLen sCap]).run P w = .ok (goInt m) (w.setCells b o cs) := by
  have hl := run_loadCells_list (P := P) w a cs hsrc
  have hst := run_storeCells_cells (P := P) b o cs 0 w (by simpa using hc) (by simpa using hf) h1
  cases hq : P.info? elem with
  | none => simp [hq] at hs
  | some i =>
    have hi : i.size = C := by simpa [hq] using hs
    simp [Builtin.copy_, run_underlying hu, Builtin.lenOf, Builtin.firstCells, sizeOf, typeInfo, hq, hi, hm, ← hn, hl, hst]
theorem run_copy0 (w : World) (dT sT ty elem : TypeId) (C : Nat) (d a : Option Addr) (dLen dCap sLen sCap : Nat) (hu : P.underlying dT = some (.slice elem)) (hs : (P.info? elem).map (·.size) = some C) (hn : Nat.min sLen dLen = 0) :
    (Builtin.copy_ #[dT, sT] ty #[.slice d dLen dCap, .slice a sLen sCap]).run P w = .ok (goInt 0) w := by
  cases hq : P.info? elem with
  | none => simp [hq] at hs
  | some i =>
    have hl : ∀ (x : Addr), (loadCells x 0).run P w = .ok #[] w := fun x => by simpa using run_loadCells_list (P := P) w x [] (by simp)
    cases d <;> cases a <;> simp [Builtin.copy_, run_underlying hu, Builtin.lenOf, Builtin.firstCells, sizeOf, typeInfo, hq, hn, storeCells, hl]
theorem add_eq (b off z : Nat) : (⟨b, off, none⟩ : Addr).add z = ⟨b, off + z, none⟩ := by
  cases z with
  | zero => simp [Addr.add]
  | succ z => simp [Addr.add]
theorem setL_whole (vs old : List Value) (h : old.length = vs.length) : setL old 0 vs = vs := by
  have := setL_mid vs [] old [] h
  simpa using this
/-- a copy whose run is known -/
theorem wpList_ran {w w' : World} {ops : Array Oper} {rest : List Oper} {o : Oper} {a : Act} {Q : Exit → Act → World → Prop} (hgd : o.guard = none) (d s : Operand) (t : TypeId) (ho : o.op = .call { callee := .builtin .copy, args := #[d, s], argTypes := #[t, t] }) {v u r : Value} (hd : a.eval d = v) (hs : a.eval s = u)
    (hr : (Builtin.copy_ #[t, t] o.type #[v, u]).run P w = .ok r w') (h : wpList P ops Q rest (a.put o.dst r) w') : wpList P ops Q (o :: rest) a w := by
  refine wpList_plain hgd fun K hK => ?_
  unfold Oper.wp
  simp [execOp, ho, resolve, invoke, builtin, hd, hs, hr, Result.andThen]
  exact hK _ _ h
variable {α : Type} {E : En α} {T : TypeId}
theorem wpList_copyS {w : World} {ops : Array Oper} {rest : List Oper} {o : Oper} {a : Act} {Q : Exit → Act → World → Prop} (hgd : o.guard = none) (d s : Operand) (t : TypeId)
    (ho : o.op = .call { callee := .builtin .copy, args := #[d, s], argTypes := #[t, t] }) (ht : P.underlying t = some (.slice T)) (hsz : (P.info? T).map (·.size) = some E.C)
    (g n c lo hi : Nat) (zs ys : List α) (p : Option Addr) (c2 : Nat) (hd : a.eval d = .slice (some ⟨g, 0, none⟩) n c) (hown : OwS E T w lo hi (some ⟨g, 0, none⟩) n c zs) (hs : a.eval s = .slice p n c2) (hr : RdS E w p n ys)
    (h : ∀ w', OwS E T w' lo hi (some ⟨g, 0, none⟩) n c ys → w.grownBy w' (some g) → wpList P ops Q rest (a.put o.dst (goInt n)) w') : wpList P ops Q (o :: rest) a w := by
  rcases Nat.eq_zero_or_pos n with rfl | hn
  · obtain rfl : ys = [] := List.eq_nil_of_length_eq_zero hr.len
    obtain rfl : zs = [] := List.eq_nil_of_length_eq_zero hown.len
    exact wpList_ran hgd d s t ho hd hs (run_copy0 w t t o.type T E.C _ _ 0 c 0 c2 ht hsz (by simp)) (h w hown ⟨rfl, rfl, rfl, Nat.le_refl _, fun _ _ _ => rfl⟩)
  · obtain ⟨b, off, rfl, hb, hc⟩ := hr.2.2 hn
    have hly := hr.len
    have hlz := hown.len
    have hlen : (fl E ys).length = n * E.C := by rw [fl_len, hly]
    have hlen2 : (fl E zs).length = n * E.C := by rw [fl_len, hlz]
    obtain ⟨h1, h2⟩ := row_setCells (fl E ys) 0 _ _ hown.own
    rw [setL_whole _ _ (by rw [hlen, hlen2])] at h1
    refine wpList_ran hgd d s t ho hd hs (run_copyC w t t o.type T E.C n g 0 n c ⟨b, off, none⟩ n c2 (fl E ys) ht hsz (Nat.min_self n) hlen (fun j v hv => ?_) (fun j hj => ?_) (fun j _ => ?_) (fl_one' E ys)) (h _ ⟨h1, hly, Nat.le_trans hown.2.2.1 h2.size, hown.2.2.2⟩ h2)
    · obtain ⟨i, x, q, rfl, _, hx, hq⟩ := fl_of E hv
      have := hc i x hx q v hq
      rw [Nat.add_assoc] at this
      rw [add_eq]
      exact this
    · rw [Nat.zero_add, hown.own.cellAt j (by rw [← hlen]; exact hj), List.getElem?_eq_getElem (by rw [hlen2, ← hlen]; exact hj)]
      rfl
    · exact hown.own.frozenAt _
end
end Go.Proofs.Ytpjckbdljbpliaa.Cps

namespace Go.Proofs.Ytpjckbdljbpliaa.StiStatus
open Go.ChangeShapes Go.WideShapes Go.ChangeAt Go.RowKit Sl St Ed Dz
def o1 (x : DpPiece.A) : (Int × Int × Int × Int × Int) × Bool := PoStatus.out x.1 x.2.1 x.2.2
def ins (xs : List DpPiece.A) : List (Int × Int × Int × Int × Int) := (xs.filter fun x => (o1 x).2).map fun x => (o1 x).1
theorem ins_len (xs : List DpPiece.A) : (ins xs).length ≤ xs.length := by
  unfold ins
  rw [List.length_map]
  exact List.length_filter_le _ _
theorem take_next {xs : List DpPiece.A} {k : Nat} {x : DpPiece.A} (h : xs[k]? = some x) : xs.take (k + 1) = xs.take k ++ [x] := by
  rw [List.take_add_one, h]
  rfl
theorem ins_no {xs : List DpPiece.A} {k : Nat} {x : DpPiece.A} {y : (Int × Int × Int × Int × Int)} (h : xs[k]? = some x) (ho : o1 x = (y, false)) : ins (xs.take (k + 1)) = ins (xs.take k) := by
  rw [take_next h]
  unfold ins
  simp [List.filter_append, ho]
theorem ins_yes {xs : List DpPiece.A} {k : Nat} {x : DpPiece.A} {y : (Int × Int × Int × Int × Int)} (h : xs[k]? = some x) (ho : o1 x = (y, true)) : ins (xs.take (k + 1)) = ins (xs.take k) ++ [y] := by
  rw [take_next h]
  unfold ins
  simp [List.filter_append, ho]
theorem take_all {xs : List DpPiece.A} {n : Nat} (h : xs.length = n) : xs.take n = xs := List.take_of_length_le (by omega)
theorem bel2 {w V : World} {B : Nat} (h : Below B w V) (hB : B ≤ w.heap.size) (x : Obj) : Below B w (V.alloc x) := h.alloc (Nat.le_trans hB h.size) _
/-- what holds between the rounds -/
def RW (us : List (Int × Int × Int × Int × Int)) (m : Nat) (p : Option Addr) (c : Nat) (w wr : World) : Prop := OwS SlStatus.E 80 wr w.heap.size wr.heap.size p m c us ∧ Below w.heap.size w wr
theorem RW.on {us : List (Int × Int × Int × Int × Int)} {m : Nat} {p : Option Addr} {c : Nat} {w wr w' : World} (h : RW us m p c w wr) (hb : Below wr.heap.size wr w') : RW us m p c w w' := ⟨(h.1.below hb).wide (Nat.le_refl _) hb.size (Nat.le_refl _), below_on h.2 hb⟩
theorem one_b (w : World) (y : (Int × Int × Int × Int × Int)) : RdS SlStatus.E (w.alloc (.cells (SlStatus.E.of y).toArray 80)) (some ⟨w.heap.size, 0, none⟩) 1 [y] := (lit_own SlStatus.E 80 w 0 [y] (SlStatus.E.of y).toArray 1 (by rw [fl_one]) rfl (by unfold maxLen; omega) (Nat.zero_le _)).rd
theorem stated_any (k : Int) (p : Option Addr) (n c : Nat) (m : Int) (zs : List Int) (y0 y1 y2 y3 y4 : Int) (b : Bool) (h : PoStatus.out k zs m = ((y0, y1, y2, y3, y4), b)) (hm : InI m) (w : World) (hr : Rd .i64 w p n zs) : Calls Try.prog 58 #[.agg #[.int .i64 k, .slice p n c, .int .i64 m]] w (Val (.tuple #[.agg #[.int .i64 y0, .int .i64 y1, .int .i64 y2, .int .i64 y3, .int .i64 y4], .bool b]) w) := by
  unfold PoStatus.out at h
  split at h
  · rename_i ht
    cases h
    exact PrStatus.stated_yes k p n c m zs hm w hr ht
  · rename_i ht
    cases h
    exact PrStatus.stated_no k p n c m zs hm w hr ht
set_option maxRecDepth 100000 in
set_option maxHeartbeats 8000000 in
theorem in_any (p : Option Addr) (n c : Nat) (xs : List DpPiece.A) {S : Nat → Prop} (w : World) (hr : RdD DpPiece.E S w p n xs) (hn : n ≤ 1048576) : Calls Try.prog 38 #[.slice p n c] w fun e w' => ∃ q m d, e = .returned (.slice q m d) ∧ OwS SlStatus.E 80 w' w.heap.size w'.heap.size q m d (ins xs) ∧ Below w.heap.size w w' := by
  obtain ⟨i0, hi0, hz0, hz1, hz2⟩ := info_parts SlStatus.info
  have HL := Lib.hid hr.len
  have HR := Lib.hid hr
  clear hr
  go_enter Try.func38, Try.ntmps38
  go_wp2_with (refine wpList_make_own _ rfl _ _ 35 rfl w.heap.size 80 i0 _ 5 Try.underlying35 hi0 hz0 hz1 .i64 .i64 _ n rfl rfl rfl (by rw [hz2]; omega) (by unfold maxLen; omega) (Nat.le_refl _) ?_; intro V hown1 hg1)
  have HK0 : Hid (RW (ins (xs.take 0)) 0 (some ⟨w.heap.size, 0, none⟩) n w V) := Lib.hid ⟨OwS.of_row hown1, (Below.refl _ _).grown hg1 (Nat.le_refl _) (fun _ h => by cases h)⟩
  clear hown1 hg1
  go_loopw [3, 14] (fun v i wr => ∃ (k m d : Nat) (q : Option Addr), k ≤ n ∧ i = .int .i64 k ∧ v = .slice q m d ∧ m ≤ k ∧ Hid (RW (ins (xs.take k)) m q d w wr)) (fun _ i _ => n - (intOf i).toNat)
  case atStart => exact ⟨0, 0, _, _, Nat.zero_le _, rfl, rfl, Nat.le_refl _, HK0⟩
  case round =>
    obtain ⟨k, m, d, q, hk, rfl, rfl, hmk, HK⟩ := hrel
    by_cases hlt : k < n
    · obtain ⟨b, o, x, cs, rfl, _, hbw, hx, hc, hrd⟩ := HR.out.at_ hlt
      obtain ⟨x0, l1, x2⟩ := x
      obtain ⟨p1, n1, c1, rfl, b0, h1, b2⟩ := DpPiece.ex hrd
      rcases ho : PoStatus.out x0 l1 x2 with ⟨⟨y0, y1, y2, y3, y4⟩, ok⟩
      have HO := Lib.hid ho
      have HO1 : Hid (o1 (x0, l1, x2) = ((y0, y1, y2, y3, y4), ok)) := Lib.hid ho
      have HX := Lib.hid hx
      have HP := Lib.hid (h1.below HK.out.2)
      have HI2 := Lib.hid b2
      have hcc : ∀ jj v, [.int .i64 x0, .slice p1 n1 c1, .int .i64 x2][jj]? = some v → wr.cell? ⟨b, o + k * 3 + jj, none⟩ = some v := fun jj v hv => (HK.out.2.cell (p := ⟨b, o + k * 3 + jj, none⟩) hbw).trans (hc jj v hv)
      obtain ⟨u0, u1, u2⟩ := DpPiece.at_cells hcc
      clear ho hx hcc hc hrd b0 h1 b2
      have i1 : (0 : Int) ≤ (k : Int) := by omega
      have i2 : (k : Int) < (n : Int) := by omega
      have HPB := Lib.hid (Bx.new wr 75 #[.int .i64 x0, .slice p1 n1 c1, .int .i64 x2])
      have HK1 := Lib.hid (HK.out.on (Dz.box1 wr (.cells #[.int .i64 x0, .slice p1 n1 c1, .int .i64 x2] 75)))
      replace HP := Lib.hid (HP.out.below (Dz.box1 wr (.cells #[.int .i64 x0, .slice p1 n1 c1, .int .i64 x2] 75)))
      obtain ⟨v0, v1, v2⟩ := DpPiece.bxc HPB.out
      go_wp2_with fail
      refine (stated_any x0 _ _ _ x2 l1 y0 y1 y2 y3 y4 ok HO.out HI2.out _ HP.out.ints).mono ?_
      rintro e w1 ⟨rfl, hb⟩
      have HK2 := Lib.hid (HK1.out.on hb)
      have HB2 := Lib.hid (Bx.new w1 80 #[.int .i64 y0, .int .i64 y1, .int .i64 y2, .int .i64 y3, .int .i64 y4])
      have HK3 := Lib.hid (HK2.out.on (Dz.box1 w1 (.cells #[.int .i64 y0, .int .i64 y1, .int .i64 y2, .int .i64 y3, .int .i64 y4] 80)))
      have HXT : Hid (k < xs.length) := Lib.hid (by rw [HL.out]; exact hlt)
      clear hb u0 u1 u2 v0 v1 v2
      obtain ⟨r0, r1, r2, r3, r4⟩ := SlStatus.bxc HB2.out
      cases ok
      · have HN := Lib.hid (ins_no HX.out HO1.out)
        have HK4 : Hid (RW (ins (xs.take (k + 1))) m q d w (w1.alloc (.cells #[.int .i64 y0, .int .i64 y1, .int .i64 y2, .int .i64 y3, .int .i64 y4] 80))) := Lib.hid (by rw [HN.out]; exact HK3.out)
        go_wp2_with fail
        go_roundw
        case rel => exact ⟨k + 1, m, d, q, by omega, by go_num, rfl, by omega, HK4⟩
        case measure => simp [intOf]; omega
      · have HN := Lib.hid (ins_yes HX.out HO1.out)
        have hsz := HK3.out.2.size
        have HLit : Hid (RdS SlStatus.E ((w1.alloc (.cells #[.int .i64 y0, .int .i64 y1, .int .i64 y2, .int .i64 y3, .int .i64 y4] 80)).alloc (.cells #[.int .i64 y0, .int .i64 y1, .int .i64 y2, .int .i64 y3, .int .i64 y4] 80)) (some ⟨w1.heap.size + 1, 0, none⟩) 1 [(y0, y1, y2, y3, y4)]) := Lib.hid (by have h := one_b (w1.alloc (.cells #[.int .i64 y0, .int .i64 y1, .int .i64 y2, .int .i64 y3, .int .i64 y4] 80)) (y0, y1, y2, y3, y4); rw [World.size_alloc] at h; exact h)
        have HZ : Hid (w.heap.size ≤ ((w1.alloc (.cells #[.int .i64 y0, .int .i64 y1, .int .i64 y2, .int .i64 y3, .int .i64 y4] 80)).alloc (.cells #[.int .i64 y0, .int .i64 y1, .int .i64 y2, .int .i64 y3, .int .i64 y4] 80)).heap.size) := Lib.hid (by rw [World.size_alloc]; omega)
        go_wp2_with (at_builtin; refine wpList_appS rfl (.tmp 24) (.tmp 26) 35 rfl i0 _ 40 Try.underlying35 hi0 hz0 hz1 hz2 rfl rfl (HK3.out.1.alloc _) _ 1 1 [(y0, y1, y2, y3, y4)] rfl HLit.out HZ.out (by omega) (by omega) ?_; intro p4 c4 w4 how4 hg4; rw [← HN.out] at how4; have HK4 : Hid (RW (ins (xs.take (k + 1))) (m + 1) p4 c4 w w4) := Lib.hid ⟨how4.wide (Nat.le_refl _) (Nat.le_refl _) (Nat.le_refl _), (bel2 HK3.out.2 (Nat.le_refl _) (.cells #[.int .i64 y0, .int .i64 y1, .int .i64 y2, .int .i64 y3, .int .i64 y4] 80)).grown hg4 (Nat.le_trans hsz (by simp)) (fun g e => by have := (HK3.out.1.alloc (.cells #[.int .i64 y0, .int .i64 y1, .int .i64 y2, .int .i64 y3, .int .i64 y4] 80)).far g e; omega)⟩; clear how4 hg4)
        go_roundw
        case rel => exact ⟨k + 1, m + 1, c4, p4, by omega, by go_num, rfl, by omega, HK4⟩
        case measure => simp [intOf]; omega
    · obtain rfl : k = n := by omega
      have HA := Lib.hid (take_all HL.out)
      have hm2 : m ≤ 1048576 := by omega
      have HKz := Lib.hid (by have h := HK.out; rw [HA.out] at h; exact h : RW (ins xs) m q d w wr)
      have HSz : Hid ((Try.prog.info? 80).map (·.size) = some 5) := Lib.hid (by rw [hi0]; exact congrArg some hz1)
      go_wp2_with (first
        | (refine wpList_make_full _ rfl _ _ 35 rfl w.heap.size 80 i0 _ 5 Try.underlying35 hi0 hz0 hz1 .i64 .i64 _ _ m rfl rfl rfl rfl (by rw [hz2]; omega) (by unfold maxLen; omega) HKz.out.2.size ?_; intro w1 hown1 hg1; have HM1 : Hid (OwS SlStatus.E 80 w1 w.heap.size w1.heap.size (some ⟨wr.heap.size, 0, none⟩) m m (List.replicate m (0, 0, 0, 0, 0))) := Lib.hid (OwS.of_row (by rw [← made_fl (E := SlStatus.E) (.agg #[.int .i64 0, .int .i64 0, .int .i64 0, .int .i64 0, .int .i64 0]) (0, 0, 0, 0, 0) rfl m]; exact hown1)); have HR1 := Lib.hid (HKz.out.1.kept hg1 (fun _ e => by cases e)); have HB1 := Lib.hid (HKz.out.2.grown hg1 HKz.out.2.size (fun _ e => by cases e)); clear hown1 hg1)
        | (refine Cps.wpList_copyS (E := SlStatus.E) rfl (.tmp 32) (.tmp 33) 35 rfl Try.underlying35 HSz.out _ m m _ _ _ (ins xs) _ _ rfl HM1.out rfl HR1.out.rd ?_; intro w2 ho2 hg2; have HO2 := Lib.hid ho2; have HB2 := Lib.hid (HB1.out.grown hg2 HB1.out.size (fun g e => by cases e; exact HKz.out.2.size)); have HS2 := Lib.hid hg2.size; clear ho2 hg2))
      go_ret
      exact ⟨_, _, _, rfl, HO2.out.wide (Nat.le_refl _) HS2.out (Nat.le_refl _), HB2.out⟩
end Go.Proofs.Ytpjckbdljbpliaa.StiStatus

namespace Go.Proofs.Ytpjckbdljbpliaa.Stf
open Go.ChangeShapes Go.WideShapes Go.ChangeAt Go.RowKit Sl St Ed Dz StiStatus
abbrev I5' := Int × Int × Int × Int × Int
def okS (c0 c5 : Int) (s : I5') : Bool := s.1 == c0 && s.2.2.2.1 == c5
def sel (c0 c5 : Int) (xs : List DpPiece.A) : List I5' := (ins xs).filter (okS c0 c5)
theorem sel_len (c0 c5 : Int) (xs : List DpPiece.A) : (sel c0 c5 xs).length ≤ xs.length := Nat.le_trans (List.length_filter_le _ _) (ins_len xs)
section
variable {c0 c5 : Int} {xs : List DpPiece.A} {k : Nat} {x : DpPiece.A} {y : I5'}
theorem sel_no (h : xs[k]? = some x) (ho : o1 x = (y, false)) : sel c0 c5 (xs.take (k + 1)) = sel c0 c5 (xs.take k) := by
  unfold sel
  rw [ins_no h ho]
theorem sel_yes (h : xs[k]? = some x) (ho : o1 x = (y, true)) (hy : okS c0 c5 y = true) : sel c0 c5 (xs.take (k + 1)) = sel c0 c5 (xs.take k) ++ [y] := by
  unfold sel
  rw [ins_yes h ho]
  simp [List.filter_append, hy]
theorem sel_not (h : xs[k]? = some x) (ho : o1 x = (y, true)) (hy : okS c0 c5 y = false) : sel c0 c5 (xs.take (k + 1)) = sel c0 c5 (xs.take k) := by
  unfold sel
  rw [ins_yes h ho]
  simp [List.filter_append, hy]
variable {us : List I5'}
theorem f_next {u : I5'} (h : us[k]? = some u) : us.take (k + 1) = us.take k ++ [u] := by
  rw [List.take_add_one, h]
  rfl
theorem f_yes {u : I5'} (h : us[k]? = some u) (hy : okS c0 c5 u = true) : (us.take (k + 1)).filter (okS c0 c5) = (us.take k).filter (okS c0 c5) ++ [u] := by
  rw [f_next h, List.filter_append]
  simp [hy]
theorem f_no {u : I5'} (h : us[k]? = some u) (hy : okS c0 c5 u = false) : (us.take (k + 1)).filter (okS c0 c5) = (us.take k).filter (okS c0 c5) := by
  rw [f_next h, List.filter_append]
  simp [hy]
end
/-- a row that lies behind a box -/
def RX (us : List I5') (m : Nat) (p : Option Addr) (c : Nat) (w wr : World) : Prop := OwS SlStatus.E 80 wr (w.heap.size + 1) wr.heap.size p m c us ∧ Below w.heap.size w wr
theorem RX.on {us : List I5'} {m : Nat} {p : Option Addr} {c : Nat} {w wr w' : World} (h : RX us m p c w wr) (hb : Below wr.heap.size wr w') : RX us m p c w w' := ⟨(h.1.below hb).wide (Nat.le_refl _) hb.size (Nat.le_refl _), below_on h.2 hb⟩
set_option maxRecDepth 100000 in
set_option maxHeartbeats 4000000 in
theorem clo_any (g : Nat) (c0 c1 c2 c3 c4 c5 c6 : Int) (y0 y1 y2 y3 y4 : Int) (w : World) (hx : Bx w g 37 #[.int .i64 c0, .int .i64 c1, .int .i64 c2, .int .i64 c3, .int .i64 c4, .int .i64 c5, .int .i64 c6]) : Calls Try.prog 39 #[.agg #[.int .i64 y0, .int .i64 y1, .int .i64 y2, .int .i64 y3, .int .i64 y4], .pointer (some ⟨g, 0, none⟩)] w (Val (.bool (okS c0 c5 (y0, y1, y2, y3, y4))) w) := by
  have hg := hx.lt
  have HX := Lib.hid (hx.alloc (.cells #[.int .i64 y0, .int .i64 y1, .int .i64 y2, .int .i64 y3, .int .i64 y4] 80))
  have HY := Lib.hid (Bx.new w 80 #[.int .i64 y0, .int .i64 y1, .int .i64 y2, .int .i64 y3, .int .i64 y4])
  have HB := Lib.hid (Dz.box1 w (.cells #[.int .i64 y0, .int .i64 y1, .int .i64 y2, .int .i64 y3, .int .i64 y4] 80))
  clear hx
  obtain ⟨v0, v1, v2, v3, v4, v5, v6⟩ := SlCert.bxc HX.out
  obtain ⟨q0, q1, q2, q3, q4⟩ := SlStatus.bxc HY.out
  by_cases h0 : y0 = c0
  · by_cases h3 : y3 = c5
    · have HS : Hid (okS c0 c5 (y0, y1, y2, y3, y4) = true) := Lib.hid (by unfold okS; simp [h0, h3])
      have e0 : (y0 == c0) = true := beq_iff_eq.2 h0
      have e3 : (y3 == c5) = true := beq_iff_eq.2 h3
      clear h0 h3
      go_enter Try.func39, Try.ntmps39
      go_wp2_with fail
      go_ret
      exact val_of (by rw [HS.out]; first | done | rfl) HB.out
    · have HS : Hid (okS c0 c5 (y0, y1, y2, y3, y4) = false) := Lib.hid (by unfold okS; simp [h0, h3])
      have e0 : (y0 == c0) = true := beq_iff_eq.2 h0
      have e3 : (y3 == c5) = false := beq_eq_false_iff_ne.2 h3
      clear h0 h3
      go_enter Try.func39, Try.ntmps39
      go_wp2_with fail
      go_ret
      exact val_of (by rw [HS.out]; first | done | rfl) HB.out
  · have HS : Hid (okS c0 c5 (y0, y1, y2, y3, y4) = false) := Lib.hid (by unfold okS; simp [h0])
    have e0 : (y0 == c0) = false := beq_eq_false_iff_ne.2 h0
    clear h0
    go_enter Try.func39, Try.ntmps39
    go_wp2_with fail
    go_ret
    exact val_of (by rw [HS.out]; first | done | rfl) HB.out
set_option maxRecDepth 100000 in
set_option maxHeartbeats 8000000 in
theorem els_any (g : Nat) (c0 c1 c2 c3 c4 c5 c6 : Int) (p : Option Addr) (n c : Nat) (us : List I5') (w : World) (hx : Bx w g 37 #[.int .i64 c0, .int .i64 c1, .int .i64 c2, .int .i64 c3, .int .i64 c4, .int .i64 c5, .int .i64 c6]) (hr : RdS SlStatus.E w p n us) (hn : n ≤ 1048576) : Calls Try.prog 37 #[.slice p n c, .func (.func 39) #[] #[.pointer (some ⟨g, 0, none⟩)]] w fun e w' => ∃ q m d, e = .returned (.slice q m d) ∧ OwS SlStatus.E 80 w' w.heap.size w'.heap.size q m d (us.filter (okS c0 c5)) ∧ Below w.heap.size w w' := by
  obtain ⟨i0, hi0, hz0, hz1, hz2⟩ := info_parts SlStatus.info
  have HL := Lib.hid hr.len
  have HR := Lib.hid hr
  have HX := Lib.hid hx
  clear hr hx
  have HK0 : Hid (RW ((us.take 0).filter (okS c0 c5)) 0 (some ⟨w.heap.size, 0, none⟩) 0 w (w.alloc (.cells #[] 80))) := Lib.hid ⟨lit_own SlStatus.E 80 w w.heap.size [] #[] 0 rfl rfl (by unfold maxLen; omega) (Nat.le_refl _), (Below.refl _ _).alloc (Nat.le_refl _) _⟩
  go_enter Try.func37, Try.ntmps37
  go_wp2_with fail
  generalize (w.alloc (.cells #[] 80)) = V at HK0 ⊢
  go_loopw [5, 11] (fun v i wr => ∃ (k m d : Nat) (q : Option Addr), k ≤ n ∧ i = .int .i64 k ∧ v = .slice q m d ∧ m ≤ k ∧ Hid (RW ((us.take k).filter (okS c0 c5)) m q d w wr)) (fun _ i _ => n - (intOf i).toNat)
  case atStart => exact ⟨0, 0, _, _, Nat.zero_le _, rfl, rfl, Nat.le_refl _, HK0⟩
  case round =>
    obtain ⟨k, m, d, q, hk, rfl, rfl, hmk, HK⟩ := hrel
    by_cases hlt : k < n
    · obtain ⟨b, o, rfl, hbb, hat⟩ := SlStatus.rd_at (HR.out.below HK.out.2) hlt
      have hux : us[k]? = some (us.getD k SlStatus.zero) := by rw [List.getD_eq_getElem?_getD, List.getElem?_eq_getElem (by rw [HL.out]; exact hlt)]; rfl
      generalize us.getD k SlStatus.zero = u at hat hux
      have HU := Lib.hid hux
      obtain ⟨y0, y1, y2, y3, y4⟩ := u
      obtain ⟨u0, u1, u2, u3, u4⟩ := hat
      have HYB := Lib.hid (Bx.new wr 80 #[.int .i64 y0, .int .i64 y1, .int .i64 y2, .int .i64 y3, .int .i64 y4])
      have HK1 := Lib.hid (HK.out.on (Dz.box1 wr (.cells #[.int .i64 y0, .int .i64 y1, .int .i64 y2, .int .i64 y3, .int .i64 y4] 80)))
      have HX1 := Lib.hid ((HX.out.below HK.out.2).alloc (.cells #[.int .i64 y0, .int .i64 y1, .int .i64 y2, .int .i64 y3, .int .i64 y4] 80))
      obtain ⟨r0, r1, r2, r3, r4⟩ := SlStatus.bxc HYB.out
      have i1 : (0 : Int) ≤ (k : Int) := by omega
      have i2 : (k : Int) < (n : Int) := by omega
      clear hux
      rcases hβ : okS c0 c5 (y0, y1, y2, y3, y4) with _ | _
      · have HS := Lib.hid hβ
        have HN := Lib.hid (f_no HU.out hβ)
        clear hβ
        go_wp2_with fail
        refine (clo_any g c0 c1 c2 c3 c4 c5 c6 y0 y1 y2 y3 y4 _ HX1.out).mono ?_
        rintro e w1 ⟨rfl, hb⟩
        rw [HS.out]
        have HK2 : Hid (RW ((us.take (k + 1)).filter (okS c0 c5)) m q d w w1) := Lib.hid (by rw [HN.out]; exact HK1.out.on hb)
        clear hb u0 u1 u2 u3 u4 r0 r1 r2 r3 r4
        go_wp2_with fail
        go_roundw
        case rel => exact ⟨k + 1, m, d, q, by omega, by go_num, rfl, by omega, HK2⟩
        case measure => simp [intOf]; omega
      · have HS := Lib.hid hβ
        have HN := Lib.hid (f_yes HU.out hβ)
        clear hβ
        go_wp2_with fail
        refine (clo_any g c0 c1 c2 c3 c4 c5 c6 y0 y1 y2 y3 y4 _ HX1.out).mono ?_
        rintro e w1 ⟨rfl, hb⟩
        rw [HS.out]
        have HK2 := Lib.hid (HK1.out.on hb)
        have HY2 := Lib.hid (HYB.out.below hb)
        clear hb u0 u1 u2 u3 u4 r0 r1 r2 r3 r4
        obtain ⟨r0, r1, r2, r3, r4⟩ := SlStatus.bxc HY2.out
        have hsz := HK2.out.2.size
        have HLit : Hid (RdS SlStatus.E (w1.alloc (.cells #[.int .i64 y0, .int .i64 y1, .int .i64 y2, .int .i64 y3, .int .i64 y4] 80)) (some ⟨w1.heap.size, 0, none⟩) 1 [(y0, y1, y2, y3, y4)]) := Lib.hid (one_b w1 (y0, y1, y2, y3, y4))
        have HZ : Hid (w.heap.size ≤ (w1.alloc (.cells #[.int .i64 y0, .int .i64 y1, .int .i64 y2, .int .i64 y3, .int .i64 y4] 80)).heap.size) := Lib.hid (by rw [World.size_alloc]; omega)
        go_wp2_with (at_builtin; refine wpList_appS rfl (.tmp 18) (.tmp 20) 35 rfl i0 _ 40 Try.underlying35 hi0 hz0 hz1 hz2 rfl rfl (HK2.out.1.alloc _) _ 1 1 [(y0, y1, y2, y3, y4)] rfl HLit.out HZ.out (by omega) (by omega) ?_; intro p9 c9 w4 how4 hg4; rw [← HN.out] at how4; have HK4 : Hid (RW ((us.take (k + 1)).filter (okS c0 c5)) (m + 1) p9 c9 w w4) := Lib.hid ⟨how4, (bel2 HK2.out.2 (Nat.le_refl _) (.cells #[.int .i64 y0, .int .i64 y1, .int .i64 y2, .int .i64 y3, .int .i64 y4] 80)).grown hg4 (Nat.le_trans hsz (by simp)) (fun g e => by have := (HK2.out.1.alloc (.cells #[.int .i64 y0, .int .i64 y1, .int .i64 y2, .int .i64 y3, .int .i64 y4] 80)).far g e; omega)⟩; clear how4 hg4)
        go_roundw
        case rel => exact ⟨k + 1, m + 1, c9, p9, by omega, by go_num, rfl, by omega, HK4⟩
        case measure => simp [intOf]; omega
    · obtain rfl : k = n := by omega
      have HA : Hid (us.take k = us) := Lib.hid (List.take_of_length_le (by rw [HL.out]; exact Nat.le_refl _))
      go_wp2_with fail
      go_ret
      exact ⟨_, _, _, rfl, by have h := HK.out.1; rw [HA.out] at h; exact h, HK.out.2⟩
set_option maxRecDepth 100000 in
set_option maxHeartbeats 4000000 in
theorem for_any (p : Option Addr) (n c : Nat) (xs : List DpPiece.A) (c0 c1 c2 c3 c4 c5 c6 : Int) {S : Nat → Prop} (w : World) (hr : RdD DpPiece.E S w p n xs) (hn : n ≤ 1048576) : Calls Try.prog 17 #[.slice p n c, .agg #[.int .i64 c0, .int .i64 c1, .int .i64 c2, .int .i64 c3, .int .i64 c4, .int .i64 c5, .int .i64 c6]] w fun e w' => ∃ q m d, e = .returned (.slice q m d) ∧ OwS SlStatus.E 80 w' w.heap.size w'.heap.size q m d (sel c0 c5 xs) ∧ Below w.heap.size w w' := by
  have HL := Lib.hid hr.len
  have HR := Lib.hid (hr.below (Dz.box1 w (.cells #[.int .i64 c0, .int .i64 c1, .int .i64 c2, .int .i64 c3, .int .i64 c4, .int .i64 c5, .int .i64 c6] 37)))
  have HX := Lib.hid (Bx.new w 37 #[.int .i64 c0, .int .i64 c1, .int .i64 c2, .int .i64 c3, .int .i64 c4, .int .i64 c5, .int .i64 c6])
  have HB := Lib.hid (Dz.box1 w (.cells #[.int .i64 c0, .int .i64 c1, .int .i64 c2, .int .i64 c3, .int .i64 c4, .int .i64 c5, .int .i64 c6] 37))
  clear hr
  go_enter Try.func17, Try.ntmps17
  go_wp2_with fail
  refine (in_any p n c xs _ HR.out hn).mono ?_
  rintro e w1 ⟨q, m, d, rfl, ho, hb⟩
  have HO := Lib.hid ho
  replace HB := Lib.hid (below_on HB.out hb)
  replace HX := Lib.hid (HX.out.below hb)
  have hm : m ≤ 1048576 := by have h1 := ho.len; have h2 := ins_len xs; have h3 := HL.out; omega
  clear ho hb
  go_wp2_with fail
  refine (els_any w.heap.size c0 c1 c2 c3 c4 c5 c6 q m d (ins xs) _ HX.out HO.out.rd hm).mono ?_
  rintro e w2 ⟨q2, m2, d2, rfl, ho, hb⟩
  have HO2 := Lib.hid (ho.wide HB.out.size (Nat.le_refl _) (Nat.le_refl _))
  replace HB := Lib.hid (below_on HB.out hb)
  clear ho hb
  go_wp2_with fail
  go_ret
  exact ⟨_, _, _, rfl, HO2.out, HB.out⟩
set_option maxRecDepth 100000 in
set_option maxHeartbeats 8000000 in
theorem spec_for_any (p : Option Addr) (n c : Nat) (xs : List DpPiece.A) (c0 c1 c2 c3 c4 c5 c6 : Int) {S : Nat → Prop} (w : World) (hr : RdD DpPiece.E S w p n xs) (hn : n ≤ 1048576) : Calls Try.prog 15 #[.slice p n c, .agg #[.int .i64 c0, .int .i64 c1, .int .i64 c2, .int .i64 c3, .int .i64 c4, .int .i64 c5, .int .i64 c6]] w fun e w' => ∃ q m d, e = .returned (.slice q m d) ∧ OwS SlStatus.E 80 w' w.heap.size w'.heap.size q m d (sel c0 c5 xs) ∧ Below w.heap.size w w' := by
  obtain ⟨i0, hi0, hz0, hz1, hz2⟩ := info_parts SlStatus.info
  have HL := Lib.hid hr.len
  have HR := Lib.hid hr
  have HX0 := Lib.hid ((Bx.new w 37 #[.int .i64 c0, .int .i64 c1, .int .i64 c2, .int .i64 c3, .int .i64 c4, .int .i64 c5, .int .i64 c6]).alloc (.cells #[] 80))
  have HK0 : Hid (RX (sel c0 c5 (xs.take 0)) 0 (some ⟨w.heap.size + 1, 0, none⟩) 0 w ((w.alloc (.cells #[.int .i64 c0, .int .i64 c1, .int .i64 c2, .int .i64 c3, .int .i64 c4, .int .i64 c5, .int .i64 c6] 37)).alloc (.cells #[] 80))) := Lib.hid (by
    have h1 := lit_own SlStatus.E 80 (w.alloc (.cells #[.int .i64 c0, .int .i64 c1, .int .i64 c2, .int .i64 c3, .int .i64 c4, .int .i64 c5, .int .i64 c6] 37)) (w.heap.size + 1) [] #[] 0 rfl rfl (by unfold maxLen; omega) (by simp)
    simp only [World.size_alloc] at h1
    exact ⟨h1.wide (Nat.le_refl _) (by simp only [World.size_alloc]; omega) (Nat.le_refl _), bel2 (Dz.box1 w _) (Nat.le_refl _) _⟩)
  clear hr
  go_enter Try.func15, Try.ntmps15
  go_wp2_with fail
  generalize ((w.alloc (.cells #[.int .i64 c0, .int .i64 c1, .int .i64 c2, .int .i64 c3, .int .i64 c4, .int .i64 c5, .int .i64 c6] 37)).alloc (.cells #[] 80)) = V at HK0 HX0 ⊢
  go_loopw [5, 6] (fun v i wr => ∃ (k m d : Nat) (q : Option Addr), k ≤ n ∧ i = .int .i64 k ∧ v = .slice q m d ∧ m ≤ k ∧ Hid (RX (sel c0 c5 (xs.take k)) m q d w wr) ∧ Hid (Bx wr w.heap.size 37 #[.int .i64 c0, .int .i64 c1, .int .i64 c2, .int .i64 c3, .int .i64 c4, .int .i64 c5, .int .i64 c6] ∧ w.heap.size < wr.heap.size)) (fun _ i _ => n - (intOf i).toNat)
  case atStart => exact ⟨0, 0, _, _, Nat.zero_le _, rfl, rfl, Nat.le_refl _, HK0, Lib.hid ⟨HX0.out, HX0.out.lt⟩⟩
  case round =>
    obtain ⟨k, m, d, q, hk, rfl, rfl, hmk, HK, HX⟩ := hrel
    by_cases hlt : k < n
    · obtain ⟨b, o, x, cs, rfl, _, hbw, hx, hc, hrd⟩ := HR.out.at_ hlt
      obtain ⟨x0, l1, x2⟩ := x
      obtain ⟨p1, n1, c1_, rfl, b0, h1, b2⟩ := DpPiece.ex hrd
      rcases ho : PoStatus.out x0 l1 x2 with ⟨⟨y0, y1, y2, y3, y4⟩, ok⟩
      have HO := Lib.hid ho
      have HO1 : Hid (o1 (x0, l1, x2) = ((y0, y1, y2, y3, y4), ok)) := Lib.hid ho
      have HXx := Lib.hid hx
      have HP := Lib.hid (h1.below HK.out.2)
      have hcc : ∀ jj v, [.int .i64 x0, .slice p1 n1 c1_, .int .i64 x2][jj]? = some v → wr.cell? ⟨b, o + k * 3 + jj, none⟩ = some v := fun jj v hv => (HK.out.2.cell (p := ⟨b, o + k * 3 + jj, none⟩) hbw).trans (hc jj v hv)
      obtain ⟨u0, u1, u2⟩ := DpPiece.at_cells hcc
      clear ho hx hcc hc hrd b0 h1 b2
      have i1 : (0 : Int) ≤ (k : Int) := by omega
      have i2 : (k : Int) < (n : Int) := by omega
      go_wp2_with fail
      refine (PoStatus.spec_any x0 _ _ _ x2 l1 y0 y1 y2 y3 y4 ok HO.out _ HP.out.ints).mono ?_
      rintro e w1 ⟨rfl, hb⟩
      have HK3 := Lib.hid ((HK.out.on hb).on (Dz.box1 w1 (.cells #[.int .i64 y0, .int .i64 y1, .int .i64 y2, .int .i64 y3, .int .i64 y4] 80)))
      have HB2 := Lib.hid (Bx.new w1 80 #[.int .i64 y0, .int .i64 y1, .int .i64 y2, .int .i64 y3, .int .i64 y4])
      have HX3 : Hid (Bx (w1.alloc (.cells #[.int .i64 y0, .int .i64 y1, .int .i64 y2, .int .i64 y3, .int .i64 y4] 80)) w.heap.size 37 #[.int .i64 c0, .int .i64 c1, .int .i64 c2, .int .i64 c3, .int .i64 c4, .int .i64 c5, .int .i64 c6] ∧ w.heap.size < (w1.alloc (.cells #[.int .i64 y0, .int .i64 y1, .int .i64 y2, .int .i64 y3, .int .i64 y4] 80)).heap.size) := Lib.hid ⟨(HX.out.1.below hb).alloc _, by have h1 := HX.out.2; have h2 := hb.size; rw [World.size_alloc]; omega⟩
      clear hb u0 u1 u2
      obtain ⟨v0, v1, v2, v3, v4, v5, v6⟩ := SlCert.bxc HX3.out.1
      obtain ⟨r0, r1, r2, r3, r4⟩ := SlStatus.bxc HB2.out
      rcases hβ : okS c0 c5 (y0, y1, y2, y3, y4) with _ | _
      · have HN : Hid (sel c0 c5 (xs.take (k + 1)) = sel c0 c5 (xs.take k)) := Lib.hid (by cases ok; exact sel_no HXx.out HO1.out; exact sel_not HXx.out HO1.out hβ)
        have HK4 : Hid (RX (sel c0 c5 (xs.take (k + 1))) m q d w (w1.alloc (.cells #[.int .i64 y0, .int .i64 y1, .int .i64 y2, .int .i64 y3, .int .i64 y4] 80))) := Lib.hid (by rw [HN.out]; exact HK3.out)
        cases ok
        · clear hβ
          go_wp2_with fail
          go_roundw
          case rel => exact ⟨k + 1, m, d, q, by omega, by go_num, rfl, by omega, HK4, HX3⟩
          case measure => simp [intOf]; omega
        · by_cases h0 : y0 = c0
          · have h3 : ¬ y3 = c5 := fun h3 => by unfold okS at hβ; simp [h0, h3] at hβ
            have e0 : (y0 == c0) = true := beq_iff_eq.2 h0
            have e3 : (y3 == c5) = false := beq_eq_false_iff_ne.2 h3
            clear h0 h3 hβ
            go_wp2_with fail
            go_roundw
            case rel => exact ⟨k + 1, m, d, q, by omega, by go_num, rfl, by omega, HK4, HX3⟩
            case measure => simp [intOf]; omega
          · have e0 : (y0 == c0) = false := beq_eq_false_iff_ne.2 h0
            clear h0 hβ
            go_wp2_with fail
            go_roundw
            case rel => exact ⟨k + 1, m, d, q, by omega, by go_num, rfl, by omega, HK4, HX3⟩
            case measure => simp [intOf]; omega
      · have h0 : y0 = c0 ∧ y3 = c5 := by unfold okS at hβ; simpa using hβ
        have e0 : (y0 == c0) = true := beq_iff_eq.2 h0.1
        have e3 : (y3 == c5) = true := beq_iff_eq.2 h0.2
        cases ok
        · have HN : Hid (sel c0 c5 (xs.take (k + 1)) = sel c0 c5 (xs.take k)) := Lib.hid (sel_no HXx.out HO1.out)
          have HK4 : Hid (RX (sel c0 c5 (xs.take (k + 1))) m q d w (w1.alloc (.cells #[.int .i64 y0, .int .i64 y1, .int .i64 y2, .int .i64 y3, .int .i64 y4] 80))) := Lib.hid (by rw [HN.out]; exact HK3.out)
          clear h0 hβ
          go_wp2_with fail
          go_roundw
          case rel => exact ⟨k + 1, m, d, q, by omega, by go_num, rfl, by omega, HK4, HX3⟩
          case measure => simp [intOf]; omega
        · have HN := Lib.hid (sel_yes HXx.out HO1.out hβ)
          have hsz := HK3.out.2.size
          have HLit : Hid (RdS SlStatus.E ((w1.alloc (.cells #[.int .i64 y0, .int .i64 y1, .int .i64 y2, .int .i64 y3, .int .i64 y4] 80)).alloc (.cells #[.int .i64 y0, .int .i64 y1, .int .i64 y2, .int .i64 y3, .int .i64 y4] 80)) (some ⟨w1.heap.size + 1, 0, none⟩) 1 [(y0, y1, y2, y3, y4)]) := Lib.hid (by have h := one_b (w1.alloc (.cells #[.int .i64 y0, .int .i64 y1, .int .i64 y2, .int .i64 y3, .int .i64 y4] 80)) (y0, y1, y2, y3, y4); rw [World.size_alloc] at h; exact h)
          have HZ : Hid (w.heap.size + 1 ≤ ((w1.alloc (.cells #[.int .i64 y0, .int .i64 y1, .int .i64 y2, .int .i64 y3, .int .i64 y4] 80)).alloc (.cells #[.int .i64 y0, .int .i64 y1, .int .i64 y2, .int .i64 y3, .int .i64 y4] 80)).heap.size) := Lib.hid (by have := HX3.out.2; rw [World.size_alloc]; omega)
          have HXL := Lib.hid (HX3.out.1.alloc (.cells #[.int .i64 y0, .int .i64 y1, .int .i64 y2, .int .i64 y3, .int .i64 y4] 80))
          clear h0 hβ
          go_wp2_with (at_builtin; refine wpList_appS rfl (.tmp 39) (.tmp 41) 35 rfl i0 _ 40 Try.underlying35 hi0 hz0 hz1 hz2 rfl rfl (HK3.out.1.alloc _) _ 1 1 [(y0, y1, y2, y3, y4)] rfl HLit.out HZ.out (by omega) (by omega) ?_; intro p9 c9 w4 how4 hg4; rw [← HN.out] at how4; have HK4 : Hid (RX (sel c0 c5 (xs.take (k + 1))) (m + 1) p9 c9 w w4) := Lib.hid ⟨how4, (bel2 HK3.out.2 (Nat.le_refl _) (.cells #[.int .i64 y0, .int .i64 y1, .int .i64 y2, .int .i64 y3, .int .i64 y4] 80)).grown hg4 (Nat.le_trans hsz (by simp)) (fun g e => by have := (HK3.out.1.alloc (.cells #[.int .i64 y0, .int .i64 y1, .int .i64 y2, .int .i64 y3, .int .i64 y4] 80)).far g e; omega)⟩; have HX4 : Hid (Bx w4 w.heap.size 37 #[.int .i64 c0, .int .i64 c1, .int .i64 c2, .int .i64 c3, .int .i64 c4, .int .i64 c5, .int .i64 c6] ∧ w.heap.size < w4.heap.size) := Lib.hid ⟨HXL.out.grown hg4 (fun e => by have := (HK3.out.1.alloc (.cells #[.int .i64 y0, .int .i64 y1, .int .i64 y2, .int .i64 y3, .int .i64 y4] 80)).far _ e.symm; omega), Nat.lt_of_lt_of_le HXL.out.lt hg4.size⟩; clear how4 hg4)
          go_roundw
          case rel => exact ⟨k + 1, m + 1, c9, p9, by omega, by go_num, rfl, by omega, HK4, HX4⟩
          case measure => simp [intOf]; omega
    · obtain rfl : k = n := by omega
      have HA := Lib.hid (take_all HL.out)
      go_wp2_with fail
      go_ret
      exact ⟨_, _, _, rfl, by have h := HK.out.1; rw [HA.out] at h; exact h.wide (by omega) (Nat.le_refl _) (Nat.le_refl _), HK.out.2⟩
end Go.Proofs.Ytpjckbdljbpliaa.Stf
