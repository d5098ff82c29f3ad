/- The reference's digest of a document. -/
import Derived.Test.YtjaholcmaafenaaDd
import Derived.LoopTactic
namespace Go.Proofs.Ytjaholcmaafenaa.Ds
open Go.ChangeShapes Go.WideShapes Go.ChangeAt Go.RowKit Sl St Dm Dk Dp Hs Dg Dd

section
variable {P : Program} {w : World} {ops : Array Oper} {o : Oper} {a : Act} {Q : Exit → Act → World → Prop} {E : TypeId} {lo hi : Nat} {p : Option Addr} {n c : Nat} {zs : List Int}
/-- append of one int, out of the block in which it was laid, in a drawn region -/
theorem step_appI {K : Act → World → Prop} {F : Prop} (hgd : o.guard = none) (s x : Operand) (t : TypeId) (ho : o.op = .call { callee := .builtin .append, args := #[s, x], argTypes := #[t, t] })
    (i : TypeInfo) (z : Value) (bytes : Nat) (ht : P.underlying t = some (.slice E)) (hi' : P.info? E = some i) (hz : i.zero = some z) (hsize : i.size = 1) (hby : i.bytes = bytes) (hzs : z.cells.size = 1)
    (hs : a.eval s = .slice p n c) (how : Ow .i64 E w lo hi p n c zs) (g cc : Nat) (y : Int) (hx : a.eval x = .slice (some ⟨g, 0, none⟩) 1 cc) (hc : w.cell? ⟨g, 0, none⟩ = some (.int .i64 y))
    (hy : inK .i64 y) (hlo : lo ≤ w.heap.size) (hb : (n + 1) * bytes ≤ 140737488355328) (hb' : n + 1 ≤ 140737488355328)
    (h : ∀ p' c' w', Ow .i64 E w' lo w'.heap.size p' (n + 1) c' (zs ++ [y]) → w.grownBy w' (Value.slice p n c).ownBlock → K (a.put o.dst (.slice p' (n + 1) c')) w') :
    if Region.wanted o (yielded ops a.tmps) = true then Oper.wp P o a w K Q else F := by
  have hw : Region.wanted o (yielded ops a.tmps) = true := by simp [Region.wanted, hgd]
  rw [if_pos hw]
  refine wp_append_own w s x t ho lo E i z 1 bytes ht hi' hz hsize hby hzs (by omega) _ n _ hs how.own ⟨g, 0, none⟩ 1 cc [.int .i64 y] hx rfl ?_ ?_ (by unfold maxLen; omega) hb hlo ?_
  · intro j u hu
    cases j with
    | zero =>
      simp only [List.getElem?_cons_zero, Option.some.injEq] at hu
      subst hu
      exact hc
    | succ j => simp at hu
  · intro u hu
    rw [List.mem_singleton] at hu
    rw [hu]
    rfl
  · intro v' w' hown hg _
    obtain ⟨p', c', rfl⟩ : ∃ p' c', v' = .slice p' (n + 1) c' := row_form hown
    have e : zs.map (Value.int .i64) ++ [.int .i64 y] = (zs ++ [y]).map (Value.int .i64) := by rw [List.map_append]; rfl
    rw [e] at hown
    refine h p' c' w' (Ow.of_row hown (allK_append how.all (fun q hq => ?_))) hg
    rw [List.mem_singleton] at hq
    rw [hq]
    exact hy
end
/-- the title and the first k digests -/
def pk (mth t : Int) (parts : List ByteArray) (salts : List Int) (k : Nat) : List Int := t :: (List.range k).map fun i => partD mth (parts.getD i ByteArray.empty) (salts.getD i 0)
theorem pk_zero (mth t : Int) (parts : List ByteArray) (salts : List Int) : pk mth t parts salts 0 = [t] := rfl
theorem pk_next (mth t : Int) (parts : List ByteArray) (salts : List Int) (k : Nat) : pk mth t parts salts k ++ [partD mth (parts.getD k ByteArray.empty) (salts.getD k 0)] = pk mth t parts salts (k + 1) := by
  unfold pk
  rw [List.range_succ, List.map_append]
  rfl
theorem pk_all (mth t : Int) (parts : List ByteArray) (salts : List Int) (n : Nat) (h : parts.length = n) : pk mth t parts salts n = t :: partsD mth (t, parts, salts) := by subst h; rfl
theorem pk_len (mth t : Int) (parts : List ByteArray) (salts : List Int) (k : Nat) : (pk mth t parts salts k).length = k + 1 := by simp [pk]
set_option maxRecDepth 100000 in
set_option maxHeartbeats 8000000 in
theorem spec_docD_any (mth t : Int) (p : Option Addr) (n c : Nat) (q : Option Addr) (m d : Nat) (parts : List ByteArray) (salts : List Int) (w : World) (hr : RdS SlStr.E w p n parts) (hs : Rd .i64 w q m salts) (hmth : inK .i64 mth) :
    Calls Try.prog 67 #[.int .i64 mth, .agg #[.int .i64 t, .slice p n c, .slice q m d]] w (Num (docD mth (t, parts, salts)) w) := by
  obtain ⟨i0, hi, hz0, hz1, hz2⟩ := info_parts SlI.info
  have HP := Lib.hid hr
  have HQ := Lib.hid hs
  have HI := Lib.hid hmth
  have HL := Lib.hid hr.len
  have HL2 := Lib.hid hs.len
  have HB := Lib.hid (box1 w (.cells #[.int .i64 t, .slice p n c, .slice q m d] 38))
  have HX := Lib.hid (Bx.new w 38 #[.int .i64 t, .slice p n c, .slice q m d])
  clear hr hs hmth
  rcases hok : docOk (t, parts, salts) with _ | _
  · have HO := Lib.hid hok
    have HD := Lib.hid (docD_no (m := mth) hok)
    clear hok
    go_enter Try.func67, Try.ntmps67
    go_wp2_with fail
    refine (spec_isDoc_any _ _ _ _ _ _ _ _ _ _ (HP.out.below HB.out) (HQ.out.below HB.out)).mono ?_
    rintro e w1 ⟨rfl, hb⟩
    rw [HO.out]
    have HB1 := Lib.hid (below_on HB.out hb)
    clear hb
    go_wp2_with fail
    go_ret
    exact ⟨by rw [HD.out]; rfl, HB1.out⟩
  · have hsay := docOk_says hok
    have HO := Lib.hid hok
    have HD := Lib.hid (docD_yes (m := mth) hok)
    have hlen : parts.length ≤ 6 := hsay.2.1.2
    have hml : salts.length = parts.length := hsay.2.2.1
    have HS40 : Hid (∀ j, j < n → (parts.getD j ByteArray.empty).size ≤ 10000000) := Lib.hid fun j hj => by
      have := hsay.2.2.2.1 j (by show j < parts.length; rw [HL.out]; exact hj)
      have h2 : (parts.getD j ByteArray.empty).size ≤ 40 := this
      omega
    have ht : inK .i64 t := by have := hsay.1; exact ⟨by have := this.1; show -9223372036854775808 ≤ t; have h3 : 0 ≤ t := this; omega, by have := this.2; have h3 : t ≤ 999 := this; show t ≤ 9223372036854775807; omega⟩
    have hmn : m = n := by rw [← HL.out, ← HL2.out]; exact hml
    have hn6 : n ≤ 6 := by rw [← HL.out]; exact hlen
    clear hok hsay hlen hml
    subst hmn
    go_enter Try.func67, Try.ntmps67
    go_wp2_with fail
    refine (spec_isDoc_any _ _ _ _ _ _ _ _ _ _ (HP.out.below HB.out) (HQ.out.below HB.out)).mono ?_
    rintro e w1 ⟨rfl, hb⟩
    rw [HO.out]
    have HB1 := Lib.hid (below_on HB.out hb)
    have HX1 := Lib.hid (HX.out.below hb)
    have hs1 : w.heap.size < w1.heap.size := by have := hb.size; simp at this; omega
    obtain ⟨x0, x1, x2⟩ := bx3 HX1.out
    have HM : Hid (Ow .i64 3 (w1.alloc (.cells #[.int .i64 t] 3)) w1.heap.size (w1.alloc (.cells #[.int .i64 t] 3)).heap.size (some ⟨w1.heap.size, 0, none⟩) 1 1 (pk mth t parts salts 0) ∧ Below w1.heap.size w1 (w1.alloc (.cells #[.int .i64 t] 3))) := ⟨lit1_own w1 w1.heap.size t ht (Nat.le_refl _), box1 _ _⟩
    clear hb ht
    go_wp2_with fail
    clear x0 x1 x2
    go_loopw [5, 6] (fun v i wr => ∃ (k n' c' : Nat) (p' : Option Addr), k ≤ m ∧ i = .int .i64 k ∧ v = .slice p' n' c' ∧ Hid (Ow .i64 3 wr w1.heap.size wr.heap.size p' n' c' (pk mth t parts salts k) ∧ Below w1.heap.size w1 wr)) (fun _ i _ => m - (intOf i).toNat)
    case atStart => exact ⟨0, _, _, _, Nat.zero_le _, rfl, rfl, HM⟩
    case round =>
      obtain ⟨k, n', c', p', hk, rfl, rfl, HK⟩ := hrel
      obtain rfl : n' = k + 1 := by rw [← pk_len mth t parts salts k]; exact HK.out.1.len.symm
      have hsz := HK.out.2.size
      obtain ⟨x0, x1, x2⟩ := bx3 (HX1.out.below HK.out.2)
      by_cases hlt : k < m
      · obtain ⟨b, o, rfl, hb, hc⟩ := SlStr.rd_at (HP.out.below HB1.out) hlt
        obtain ⟨b', o', rfl, hb', hc'⟩ := (HQ.out.below HB1.out).at_ hlt
        have hin : inK .i64 (salts.getD k 0) := by
          rw [List.getD_eq_getElem?_getD, List.getElem?_eq_getElem (by rw [HL2.out]; exact hlt)]
          exact HQ.out.all _ (List.getElem_mem _)
        have hs40 := HS40.out k hlt
        have HN := Lib.hid (pk_next mth t parts salts k)
        generalize parts.getD k ByteArray.empty = x at hc hs40 HN
        generalize salts.getD k 0 = y at hc' hin HN
        have HH := Lib.hid hin
        have HF : Hid (∀ w', Below w1.heap.size w1 w' → w'.cell? ⟨w.heap.size, 1, none⟩ = some (.slice (some ⟨b, o, none⟩) m c) ∧ w'.cell? ⟨w.heap.size, 2, none⟩ = some (.slice (some ⟨b', o', none⟩) m d) ∧ w'.cell? ⟨b, o + k, none⟩ = some (.string x) ∧ w'.cell? ⟨b', o' + k, none⟩ = some (.int .i64 y)) := Lib.hid fun w' hw => ⟨(HX1.out.below hw).cell rfl, (HX1.out.below hw).cell rfl, (hw.cell (p := ⟨b, o + k, none⟩) hb).trans hc, (hw.cell (p := ⟨b', o' + k, none⟩) hb').trans hc'⟩
        have g1 : wr.cell? ⟨b, o + k, none⟩ = some (.string x) := (HF.out wr HK.out.2).2.2.1
        have g2 : wr.cell? ⟨b', o' + k, none⟩ = some (.int .i64 y) := (HF.out wr HK.out.2).2.2.2
        have HB2 := Lib.hid HK.out.2
        have hpd := partD_in mth x y
        obtain ⟨pd1, pd2⟩ := hpd
        have i1 : (0 : Int) ≤ (k : Int) := by omega
        have i2 : (k : Int) < (m : Int) := by omega
        clear hc hc' hin
        go_wp2_with fail
        go_region_held3 (fun w' => w'.cell? ⟨w.heap.size, 1, none⟩ = some (.slice (some ⟨b, o, none⟩) m c) ∧ w'.cell? ⟨w.heap.size, 2, none⟩ = some (.slice (some ⟨b', o', none⟩) m d) ∧ w'.cell? ⟨b, o + k, none⟩ = some (.string x) ∧ w'.cell? ⟨b', o' + k, none⟩ = some (.int .i64 y)) (first | exact HF.out _ HB4.out | exact HF.out _ (HB3.out.alloc HB3.out.size _) | exact HF.out _ HB3.out | exact HF.out _ (below_drewN HB2.out 1) | go_keep) (first
          | (go_at_call 119; refine (spec_part_any mth x y _ hs40 HI.out HH.out).mono ?_; rintro e w2 ⟨rfl, hb2⟩; have HB3 := Lib.hid (below_on (below_drewN HB2.out 1) hb2); have HO3 := Lib.hid ((HK.out.1.drewN 1).below hb2); clear hb2)
          | (refine step_appI rfl (.tmp 20) (.tmp 33) 27 rfl i0 _ 8 Try.underlying27 hi hz0 hz1 hz2 rfl rfl (HO3.out.alloc _) w2.heap.size 1 (partD mth x y) rfl (by go_simp) ⟨by omega, by omega⟩ (Nat.le_trans HB3.out.size (by simp)) (by omega) (by omega) ?_; intro p3 c3 w3 how3 hg3; have HO4 := Lib.hid how3; have HB4 := Lib.hid ((HB3.out.alloc HB3.out.size _).trans ((HO3.out.alloc _).below_row hg3 (Nat.le_trans HB3.out.size (by simp)))); clear how3 hg3))
        go_wp2_with fail
        go_roundw
        case rel => exact ⟨k + 1, _, _, _, by omega, by go_num, rfl, Lib.hid ⟨by rw [← HN.out]; exact HO4.out, HB4.out⟩⟩
        case measure => simp [intOf]; omega
      · obtain rfl : k = m := by omega
        have HE := Lib.hid (pk_all mth t parts salts k HL.out)
        go_wp2_with fail
        refine (spec_dig_any _ _ _ _ _ _ HK.out.1.rd HI.out (by omega)).mono ?_
        rintro e w3 ⟨rfl, hb⟩
        have HB3 := Lib.hid (below_on (below_on HB1.out HK.out.2) hb)
        rw [HE.out]
        clear hb
        go_wp2_with fail
        go_ret
        exact ⟨by rw [HD.out]; rfl, HB3.out⟩
end Go.Proofs.Ytjaholcmaafenaa.Ds
