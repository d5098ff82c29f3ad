/- The digests of a redacted document's parts, one by one (an iterator that makes memory, and a closure), folded. -/
import Derived.Test.YtjlckfbacphblaaRn
import Derived.Test.YtjlckfbacphblaaRi
import Derived.Test.YtjlckfbacphblaaDd
namespace Go.Proofs.Ytjlckfbacphblaa.Rf
open Go.ChangeShapes Go.WideShapes Go.ChangeAt Go.RowKit Go.Shelf Sl St Tn Dm Dk Dp Hs Dg Dd SlRed Rk Rm Rp Rn
attribute [local go_sem] Oper.semAt_some

/-! ### what keeps blocks of cells -/
/-- Of the blocks of cells that w has, those of S may turn. -/
def TurnC (S : Nat → Prop) (w w' : World) : Prop := w.heap.size ≤ w'.heap.size ∧ ∀ i o, w.heap[i]? = some o → o.isCells = true → ¬ S i → w'.heap[i]? = some o
theorem TurnC.trans {S : Nat → Prop} {a b c : World} (h : TurnC S a b) (h' : TurnC S b c) : TurnC S a c := ⟨Nat.le_trans h.1 h'.1, fun i o e1 e2 e3 => h'.2 i o (h.2 i o e1 e2 e3) e2 e3⟩
theorem TurnC.of_below {S : Nat → Prop} {w w' : World} (hb : Below w.heap.size w w') : TurnC S w w' := ⟨hb.size, fun i _ e1 _ _ => (hb.block i (Array.getElem?_eq_some_iff.1 e1).1).trans e1⟩
theorem TurnC.refl (S : Nat → Prop) (w : World) : TurnC S w w := ⟨Nat.le_refl _, fun _ _ e _ _ => e⟩
theorem TurnC.mono {S T : Nat → Prop} {a b : World} (h : TurnC S a b) (hs : ∀ i, S i → T i) : TurnC T a b := ⟨h.1, fun i o e1 e2 e3 => h.2 i o e1 e2 (fun x => e3 (hs i x))⟩
/-- All blocks of cells but B and B + 1 lie as they lay, and so does all below B. -/
def Keep2 (B : Nat) (w w' : World) : Prop := Below B w w' ∧ TurnC (fun i => i = B ∨ i = B + 1) w w'
theorem keep2_t {B : Nat} {a b c : World} (h : Keep2 B a b) (h' : Keep2 B b c) : Keep2 B a c := ⟨h.1.trans h'.1, h.2.trans h'.2⟩
theorem keep2_b {B : Nat} {w : World} (hn : B ≤ w.heap.size) (W : World) (l : Nat) (o o' : Obj) (hl : w.heap.size ≤ l) (h : W.heap[l]? = some o) (hc : o.isCells = false) (hw : o.isWalk = false) : Keep2 B W (W.putObj l o') := by
  refine ⟨belowK_b hn W l o o' hl h hc hw, (belowK_b hn W l o o' hl h hc hw).size, fun i u e1 e2 _ => ?_⟩
  rw [World.putObj_heap_other (fun e => by subst e; rw [h] at e1; cases e1; rw [hc] at e2; cases e2)]
  exact e1
theorem keep2_set (B : Nat) (W : World) (j j' : Nat) (v v' : Value) : Keep2 B W ((W.setCell ⟨B, j, none⟩ v).setCell ⟨B + 1, j', none⟩ v') := by
  refine ⟨((Below.refl B W).setCell (p := ⟨B, j, none⟩) (Nat.le_refl _) _).setCell (p := ⟨B + 1, j', none⟩) (by simp) _, by simp [World.setCell], fun i o e1 _ e3 => ?_⟩
  rw [Below.heap_setCell _ ⟨B + 1, j', none⟩ v' i (fun e => e3 (Or.inr e)), Below.heap_setCell _ ⟨B, j, none⟩ v i (fun e => e3 (Or.inl e))]
  exact e1
theorem SeqStopsK_mono {α : Type} {F : Fence} {n : Nat} {P : Program} {g : Nat} {lb : Array Value} {encs : α → Array Value} {K K' : World → World → Prop} {S Sp : List α → Prop} {N : Nat} {w : World} (h : SeqStopsK F n P g lb encs K S Sp N w) (hk : ∀ a b, K' a b → K a b) : SeqStopsK F n P g lb encs K' S Sp N w :=
  fun l J Jx W hW hJ hJx hY h0 => h l J Jx W hW hJ hJx (fun pre x W1 h1 h2 => by
    obtain ⟨fn, tmps, assign, body, hy, hR⟩ := hY pre x W1 h1 h2
    exact ⟨fn, tmps, assign, body, hy, hR.mono fun e w' hor => hor.imp (fun ⟨a, b, c⟩ => ⟨a, b, hk _ _ c⟩) id⟩) h0

/-! ### the parts' pointers, though other blocks turn -/
def MakesP2 (D : Rc) (n : Nat) (w : World) (e : Ending) (w' : World) : Prop := ∃ p c, e = .returned (.slice p n c) ∧ (∀ w'', TurnC (fun i => i < w.heap.size) w' w'' → RdP w'' p n D) ∧ Below w.heap.size w w'
theorem rdS_keepC {α : Type} {E : En α} {T : TypeId} {S : Nat → Prop} {w w' : World} {lo hi n c : Nat} {p : Option Addr} {xs : List α} (h : OwS E T w lo hi p n c xs) (ht : TurnC S w w') (hn : ∀ g, (Value.slice p n c).ownBlock = some g → ¬ S g) : RdS E w' p n xs := by
  refine h.rd.keep ht.1 fun b hb ⟨o, e⟩ => ?_
  subst e
  obtain ⟨cur, hc⟩ := own_type h.1 (g := b) rfl
  rw [hc]
  exact ht.2 b _ hc rfl (hn b rfl)
theorem done2 {n : Nat} {D : Rc} {B : Nat} {w wr : World} (h : PMid n D B n w wr) {l : Nat} (hl : l ≤ B) : ∀ w'', TurnC (fun i => i < l) wr w'' → RdP w'' (some ⟨B, 0, none⟩) n D := fun w' ht => by
  obtain ⟨a1, a0, qs, a2, a3, a4⟩ := h
  refine ⟨qs, rdS_keepC a2 ht (fun g e => by have := a2.far g e; omega), fun i q e => ?_⟩
  have hi : i < n := by
    have := (List.getElem?_eq_some_iff.1 e).1
    have := a2.len
    omega
  rcases a4 i q e hi with h | ⟨h1, g, h2, h3, h4⟩
  · exact Or.inl h
  · exact Or.inr ⟨h1, g, h3, ht.2 g _ h4 rfl (by omega)⟩
set_option maxRecDepth 100000 in
set_option maxHeartbeats 4000000 in
theorem parts2_any (a : Ra) (D : Rc) (w : World) (h : RdR w a D) (hn : a.shn ≤ 1048576) (h1 : a.psn = a.shn) (h2 : a.ssn = a.shn) : Calls Try.prog 72 #[a.val] w (MakesP2 D a.shn w) := by
  obtain ⟨i0, hi, hz0, hz1, hz2⟩ := info_parts info
  obtain ⟨t, msp, msn, msc, shp, shn, shc, psp, psn, psc, ssp, ssn, ssc, dsp, dsn, dsc⟩ := a
  obtain ⟨dt, dms, dsh, dps, dss, dds⟩ := D
  obtain ⟨e0, _, r2, r3, r4, _⟩ := h
  dsimp only at e0 r2 r3 r4 hn h1 h2
  subst e0
  subst h1
  subst h2
  have HX := Lib.hid (Bx.new w 43 #[.int .i64 t, .slice msp msn msc, .slice shp ssn shc, .slice psp ssn psc, .slice ssp ssn ssc, .slice dsp dsn dsc])
  have HB := Lib.hid (box1 w (.cells #[.int .i64 t, .slice msp msn msc, .slice shp ssn shc, .slice psp ssn psc, .slice ssp ssn ssc, .slice dsp dsn dsc] 43))
  have H2 := Lib.hid (r2.below HB.out)
  have H3 := Lib.hid (r3.below HB.out)
  have H4 := Lib.hid (r4.below HB.out)
  clear r2 r3 r4
  have hs1 : (w.alloc (.cells #[.int .i64 t, .slice msp msn msc, .slice shp ssn shc, .slice psp ssn psc, .slice ssp ssn ssc, .slice dsp dsn dsc] 43)).heap.size = w.heap.size + 1 := by simp
  simp only [Ra.val, Ra.cells]
  go_enter Try.func72, Try.ntmps72
  go_wp2_with (refine wpList_make_full _ rfl _ _ 97 rfl (w.alloc (.cells #[.int .i64 t, .slice msp msn msc, .slice shp ssn shc, .slice psp ssn psc, .slice ssp ssn ssc, .slice dsp dsn dsc] 43)).heap.size 89 i0 _ 1 Try.underlying97 hi hz0 hz1 .i64 .i64 _ _ ssn rfl rfl rfl rfl (by rw [hz2]; omega) (by unfold maxLen; omega) (Nat.le_refl _) ?_; intro w1 hown1 hg1; have HX1 := Lib.hid (HX.out.grown hg1 (fun e => by cases e)); obtain ⟨x0, x1, x2, x3, x4, x5⟩ := bx6 HX1.out; have HM := Lib.hid (PMid.start (D := ⟨t, dms, dsh, dps, dss, dds⟩) hown1 hg1); have hs1 := hg1.size; rw [World.size_alloc] at hs1; have hlt1 := hown1.lt _ rfl; clear hown1 hg1)
  clear x0 x1 x2 x3 x4 x5
  rw [World.size_alloc] at HM hlt1
  go_loopw [13] (fun i wr => ∃ k : Nat, k ≤ ssn ∧ i = .int .i64 k ∧ w1.heap.size ≤ wr.heap.size ∧ Hid (PMid ssn ⟨t, dms, dsh, dps, dss, dds⟩ (w.heap.size + 1) k (w.alloc (.cells #[.int .i64 t, .slice msp msn msc, .slice shp ssn shc, .slice psp ssn psc, .slice ssp ssn ssc, .slice dsp dsn dsc] 43)) wr)) (fun i _ => ssn - (intOf i).toNat)
  case atStart => exact ⟨0, Nat.zero_le _, rfl, Nat.le_refl _, HM⟩
  case round =>
    obtain ⟨k, hk, rfl, hsw, HK⟩ := hrel
    have HBw : Hid (Below (w.heap.size + 1) (w.alloc (.cells #[.int .i64 t, .slice msp msn msc, .slice shp ssn shc, .slice psp ssn psc, .slice ssp ssn ssc, .slice dsp dsn dsc] 43)) wr) := Lib.hid HK.out.1
    have HBf : Hid (Below (w.alloc (.cells #[.int .i64 t, .slice msp msn msc, .slice shp ssn shc, .slice psp ssn psc, .slice ssp ssn ssc, .slice dsp dsn dsc] 43)).heap.size (w.alloc (.cells #[.int .i64 t, .slice msp msn msc, .slice shp ssn shc, .slice psp ssn psc, .slice ssp ssn ssc, .slice dsp dsn dsc] 43)) wr) := Lib.hid (by rw [World.size_alloc]; exact HK.out.1)
    have HXr := Lib.hid (HX.out.below HBf.out)
    by_cases hlt : k < ssn
    · obtain ⟨b, o, rfl, hb, hc⟩ := SlBool.rd_at (H2.out.below HBf.out) hlt
      rcases hx : dsh.getD k false with _ | _
      · have HN := Lib.hid (HK.out.hid hx)
        rw [hx] at hc
        clear hx
        go_wp2_with fail
        go_roundw
        case rel => exact ⟨k + 1, by omega, by go_num, hsw, HN⟩
        case measure => simp [intOf]; omega
      · have HN := Lib.hid (HK.out.show hx hlt (by omega))
        rw [hx] at hc
        clear hx
        obtain ⟨b3, o3, rfl, hb3, hc3⟩ := SlStr.rd_at (H3.out.below HBf.out) hlt
        obtain ⟨b4, o4, rfl, hb4, hc4⟩ := (H4.out.below HBf.out).at_ hlt
        have HPT : Hid (Rp.part ⟨t, dms, dsh, dps, dss, dds⟩ k = #[.string (dps.getD k ByteArray.empty), .int .i64 (dss.getD k 0)]) := Lib.hid rfl
        generalize dps.getD k ByteArray.empty = x at hc3 HPT
        generalize dss.getD k 0 = y at hc4 HPT
        rw [HPT.out] at HN
        obtain ⟨x0, x1, x2, x3, x4, x5⟩ := bx6 HXr.out
        have i1 : (0 : Int) ≤ (k : Int) := by omega
        have i2 : (k : Int) < (ssn : Int) := by omega
        obtain ⟨qz, hd⟩ := HK.out.cell hlt
        have hf := HK.out.free (j := k)
        have hne : w.heap.size + 1 < wr.heap.size := by omega
        go_wp2_with fail
        go_region
        go_wp2_with fail
        go_roundw
        case rel => exact ⟨k + 1, by omega, by go_num, by simp [World.setCell]; omega, HN⟩
        case measure => simp [intOf]; omega
    · obtain rfl : k = ssn := by omega
      go_wp2_with fail
      go_ret
      exact ⟨_, _, rfl, done2 HK.out (by omega), HB.out.trans (HBw.out.mono (by omega))⟩

/-! ### a part's digest -/
def itemI (m : Int) (D : Rc) (i : Nat) : I64 := ⟨intK (itemD m D i), intK_in _⟩
set_option maxRecDepth 100000 in
set_option maxHeartbeats 4000000 in
theorem dAt_hid (i pl Br Bp Bm : Nat) (a : Ra) (D : Rc) (w : World) (h : RdR w a D) (hi : i < a.dsn) (hBr : Bx w Br 43 a.cells) (hBp : Bx w Bp 3 #[.int .i64 pl]) (hpl : pl < (D.ds.getD i []).length) :
    Calls Try.prog 106 #[.int .i64 i, .pointer none, .pointer (some ⟨Br, 0, none⟩), .pointer (some ⟨Bp, 0, none⟩), .pointer (some ⟨Bm, 0, none⟩)] w (Hs.Num ((D.ds.getD i []).getD pl 0) w) := by
  obtain ⟨t, msp, msn, msc, shp, shn, shc, psp, psn, psc, ssp, ssn, ssc, dsp, dsn, dsc⟩ := a
  obtain ⟨b5, o5, pk, nk, ck, rfl, hb5, hc5, hrk⟩ := h.2.2.2.2.2.at_ hi
  have hle : dsn ≤ 9223372036854775807 := h.2.2.2.2.2.le
  have hi' : i < dsn := hi
  have hnk : (D.ds.getD i []).length = nk := hrk.len
  have hpk : pl < nk := by omega
  have hnk2 : nk ≤ 9223372036854775807 := hrk.le
  obtain ⟨b6, o6, rfl, hb6, hc6⟩ := hrk.at_ hpk
  simp only [Ra.cells] at hBr
  obtain ⟨x0, x1, x2, x3, x4, x5⟩ := bx6 hBr
  have y0 := hBp.cell (j := 0) rfl
  generalize (D.ds.getD i []).getD pl 0 = z at hc6 ⊢
  have i1 : (0 : Int) ≤ (i : Int) := by omega
  have i2 : (i : Int) < (dsn : Int) := by omega
  have i3 : (0 : Int) ≤ (pl : Int) := by omega
  have i4 : (pl : Int) < (nk : Int) := by omega
  clear hnk hrk h hBr hBp hpl
  go_enter Try.func106, Try.ntmps106
  go_wp2_with fail
  go_quiet (fail)
  go_wp2_with fail
  go_ret
  exact ⟨rfl, below_drewN (Below.refl _ _) _⟩
set_option maxRecDepth 100000 in
set_option maxHeartbeats 4000000 in
theorem dAt_show (i g Br Bp Bm : Nat) (m : Int) (x : ByteArray) (y : Int) (w : World) (hx : x.size ≤ 10000000) (hy : inK .i64 y) (hg : Bx w g 91 #[.string x, .int .i64 y]) (hBm : Bx w Bm 3 #[.int .i64 m]) :
    Calls Try.prog 106 #[.int .i64 i, .pointer (some ⟨g, 0, none⟩), .pointer (some ⟨Br, 0, none⟩), .pointer (some ⟨Bp, 0, none⟩), .pointer (some ⟨Bm, 0, none⟩)] w (Hs.Num (partD m x y) w) := by
  have HG := Lib.hid hg
  have HM := Lib.hid hBm
  have HY := Lib.hid hy
  have y0 := hg.cell (j := 0) rfl
  have y1 := hg.cell (j := 1) rfl
  have z0 := hBm.cell (j := 0) rfl
  clear hg hBm hy
  go_enter Try.func106, Try.ntmps106
  go_wp2_with fail
  have HC : Hid (∀ w', Qt.Keeps (w) w' → w'.cell? ⟨g, 0, none⟩ = some (.string x) ∧ w'.cell? ⟨g, 1, none⟩ = some (.int .i64 y) ∧ w'.cell? ⟨Bm, 0, none⟩ = some (.int .i64 m)) := Lib.hid fun w' hw => ⟨(HG.out.below hw).cell rfl, (HG.out.below hw).cell rfl, (HM.out.below hw).cell rfl⟩
  refine Qt.region (Qt.Keeps (w)) (by kernel_rfl) (by kernel_rfl) (Qt.Keeps.drew _) ?_
  repeat (first
    | go_big_quiet_skip
    | (go_big_quiet_want
       refine Qt.val (v := ?_) (fun w hw => ?_) ?_
       rotate_left
       · obtain ⟨s0, s1, s2⟩ := HC.out w hw
         go_simp
         rfl
       simp only [Act.put, List.setIfInBounds_toArray, List.set_cons_zero, List.set_cons_succ]
       go_big_quiet_on)
    | (go_big_quiet_want
       refine Qt.call (v := .int .i64 (partD m x y)) (f := 103) (args := #[.int .i64 m, .string x, .int .i64 y]) (fun w hw => ?_) (fun w hw => ?_) ?_
       · go_simp
       · refine (part_any m x y _ hx HY.out).mono ?_
         rintro e w1 ⟨rfl, hb1⟩
         exact ⟨rfl, hw.then hb1⟩
       simp only [Act.put, List.setIfInBounds_toArray, List.set_cons_zero, List.set_cons_succ]
       go_big_quiet_on))
  refine wpQuiet_nil ?_
  intro w2 hw2
  have HW2 := Lib.hid hw2
  clear hw2
  go_wp2_with fail
  go_ret
  exact ⟨rfl, HW2.out⟩

/-! ### the iterator -/
set_option maxRecDepth 100000 in
set_option maxHeartbeats 8000000 in
theorem rd1_in (k : Nat) (hk : 2 ≤ k) (l Br Bf Bp Bm B : Nat) (m : Int) (P : Int) (a : Ra) (D : Rc) (w0 : World) (hr : RdR w0 a D) (hn : a.shn ≤ 1048576) (hps : a.psn = a.shn) (hss : a.ssn = a.shn) (hds : a.dsn = a.shn)
    (h40 : ∀ j, j < a.shn → D.sh.getD j false = true → (D.ps.getD j ByteArray.empty).size ≤ 10000000) (hP : ∀ j, j < a.shn → D.sh.getD j false = false → P = (D.ms.idxOf m : Nat) ∧ D.ms.idxOf m < (D.ds.getD j []).length)
    (J Jx : List I64 → World → Prop) (W : World) (hJ : AbidesFrom W.heap.size J)
    (hY : ∀ pre x W1, J pre W1 → pre.length < a.shn → YieldAt Fence.wide (k - 1) Try.prog l (encI x) W1 fun e W' =>
      (e = .returned (.bool true) ∧ J (pre ++ [x]) W' ∧ Keep2 B W1 W') ∨ (e = .returned (.bool false) ∧ Jx (pre ++ [x]) W'))
    (hW : Below w0.heap.size w0 W) (hB : w0.heap.size = B) (hWs : B + 2 ≤ W.heap.size) (hBr : Bx w0 Br 43 a.cells) (hBf : Bx w0 Bf 118 #[.func (.func 106) #[] #[.pointer (some ⟨Br, 0, none⟩), .pointer (some ⟨Bp, 0, none⟩), .pointer (some ⟨Bm, 0, none⟩)]]) (hBp : Bx w0 Bp 3 #[.int .i64 P]) (hBm : Bx w0 Bm 3 #[.int .i64 m]) (h0 : J [] W) :
    CallsIn Fence.wide k Try.prog 107 #[.func (.yield l) #[] #[], .pointer (some ⟨Br, 0, none⟩), .pointer (some ⟨Bf, 0, none⟩)] W fun e W' => (∃ v, e = .returned v) ∧
      ((∃ ys, ys = upto (itemI m D) a.shn ∧ J ys W') ∨ (∃ pre, (∃ j, j ≤ a.shn ∧ pre = upto (itemI m D) j) ∧ Jx pre W')) := by
  have H0 := Lib.hid hr
  have HCe := Lib.hid hBr
  obtain ⟨t, msp, msn, msc, shp, shn, shc, psp, psn, psc, ssp, ssn, ssc, dsp, dsn, dsc⟩ := a
  dsimp only at hn hps hss hds h40 hP hY ⊢
  subst hps hss hds
  simp only [Ra.cells] at HCe
  have HBf := Lib.hid hBf
  have HBp := Lib.hid hBp
  have HBm := Lib.hid hBm
  have H40 := Lib.hid h40
  have HP := Lib.hid hP
  have HBB := Lib.hid hB
  obtain ⟨x0, x1, x2, x3, x4, x5⟩ := bx6 (HCe.out.below hW)
  have y0 := (HBf.out.below hW).cell (j := 0) rfl
  clear hr hBr hBf hBp hBm h40 hP hB
  refine callsIn_of_wp Try.func107 rfl trivial ?_ rfl
  simp only [Try.ntmps107, List.size_toArray, List.length_cons, List.length_nil, Nat.reduceAdd, Nat.reduceSub, Array.replicate_succ, Array.replicate_zero, List.push_toArray, List.append_toArray, List.nil_append, List.cons_append]
  gi_wp2_with (refine ⟨trivial, fun _ => by omega, ?_⟩; refine (callsIn_wide.2 (parts2_any ⟨t, msp, msn, msc, shp, dsn, shc, psp, dsn, psc, ssp, dsn, ssc, dsp, dsn, dsc⟩ D _ (H0.out.below hW) hn rfl rfl)).mono ?_; rintro e W1 ⟨pq, cq, rfl, hst, hb1⟩; have HS := Lib.hid hst; have hJ1 := keepW hJ h0 hb1; have hB1 := hW.trans (hb1.mono hW.size); clear hst)
  clear x0 x1 x2 x3 x4 x5 y0
  have hs1 : W.heap.size ≤ W1.heap.size := hb1.size
  gi_loopw [9] (fun i wr => ∃ j : Nat, j ≤ dsn ∧ i = .int .i64 j ∧ J (upto (itemI m D) j) wr ∧ Below w0.heap.size w0 wr ∧ Hid (TurnC (fun i => i = B ∨ i = B + 1) W1 wr))
    (fun i _ => dsn - (intOf i).toNat)
  case atStart => exact ⟨0, Nat.zero_le _, rfl, hJ1, hB1, Lib.hid (TurnC.refl _ _)⟩
  case round =>
    obtain ⟨j, hj, rfl, hJs, hB, HT⟩ := hrel
    by_cases hlt : j < dsn
    · obtain ⟨b, o, qv, rfl, hb, hc, hone⟩ := (HS.out wr (HT.out.mono fun i e => by show i < W.heap.size; omega)).at_ hlt
      have hnext : upto (itemI m D) j ++ [itemI m D j] = upto (itemI m D) (j + 1) := (upto_succ _ _).symm
      obtain ⟨x0, x1, x2, x3, x4, x5⟩ := bx6 (HCe.out.below hB)
      have y0 := (HBf.out.below hB).cell (j := 0) rfl
      have hdl := H0.out.2.2.2.2.2.below hB
      rcases hone with ⟨hsf, rfl⟩ | ⟨hsf, g, rfl, hbx⟩
      · have hp := HP.out j hlt hsf
        have hval : (itemI m D j).1 = (D.ds.getD j []).getD (D.ms.idxOf m) 0 := by
          show intK (itemD m D j) = _
          rw [itemD_hid hsf]
          obtain ⟨b5, o5, pk, nk, ck, _, _, _, hrk⟩ := hdl.at_ hlt
          exact intK_of (allK_getD hrk.all _)
        have HBPw := Lib.hid (HBp.out.below hB)
        rw [hp.1] at HBPw
        have hpl := hp.2
        generalize itemI m D j = z at hnext hval
        obtain ⟨v, hv⟩ : ∃ v, (D.ds.getD j []).getD (D.ms.idxOf m) 0 = v := ⟨_, rfl⟩
        rw [hv] at hval
        have HV := Lib.hid hv
        clear hp hdl hv
        gi_wp2
        refine ⟨trivial, fun _ => by omega, ?_⟩
        refine (callsIn_wide.2 (dAt_hid j (D.ms.idxOf m) Br Bp Bm ⟨t, msp, msn, msc, shp, dsn, shc, psp, dsn, psc, ssp, dsn, ssc, dsp, dsn, dsc⟩ D _ (H0.out.below hB) hlt (HCe.out.below hB) HBPw.out hpl)).mono ?_
        rintro e W2 ⟨rfl, hb2⟩
        rw [HV.out]
        have hJ2 := keepW hJ hJs hb2
        have hB2 := hB.trans (hb2.mono hB.size)
        have HT2 := HT.out.trans (TurnC.of_below hb2)
        obtain ⟨fn, tmps, assign, body, hy, hR⟩ := hY _ z W2 hJ2 (by rw [upto_length]; exact hlt)
        rw [hnext] at hR
        dsimp only [encI] at hy
        rw [hval] at hy
        clear x0 x1 x2 x3 x4 x5 y0 hc hJ2 hJs
        gi_wp2
        (first | (refine hR.mono ?_) | (refine ⟨fun _ => by omega, ?_⟩; refine hR.mono ?_) | (refine ⟨trivial, fun _ => by omega, ?_⟩; refine hR.mono ?_))
        rintro e W3 hor
        obtain ⟨β, rfl, hβ⟩ : ∃ β, e = .returned (.bool β) ∧ ((β = true ∧ J (upto (itemI m D) (j + 1)) W3 ∧ Keep2 B W2 W3) ∨ (β = false ∧ Jx (upto (itemI m D) (j + 1)) W3)) := (by rcases hor with ⟨h1, h2⟩ | ⟨h1, h2⟩ <;> exact ⟨_, h1, by simp [h2]⟩)
        all_goals
          rcases hβ with ⟨rfl, hJ3, hk3⟩ | ⟨rfl, hJx3⟩
          · gi_wp2
            go_roundw
            case rel => exact ⟨j + 1, by omega, by simp, hJ3, hB2.trans (by rw [HBB.out]; exact hk3.1), Lib.hid (HT2.trans hk3.2)⟩
            case measure => simp [intOf]; omega
          · gi_wp2
            refine bodyPost_ret (results_none rfl _ _ _) rfl ?_
            exact ⟨⟨_, rfl⟩, .inr ⟨_, ⟨j + 1, by omega, rfl⟩, hJx3⟩⟩
      · have h4 := H40.out j hlt hsf
        have hall := H0.out.2.2.2.2.1.all
        have hin : inK .i64 (D.ss.getD j 0) := allK_getD hall j
        have hval : (itemI m D j).1 = partD m (D.ps.getD j ByteArray.empty) (D.ss.getD j 0) := by
          show intK (itemD m D j) = _
          rw [itemD_show hsf]
          have := partD_in m (D.ps.getD j ByteArray.empty) (D.ss.getD j 0)
          exact intK_of (by omega)
        have HG : Hid (Bx wr g 91 #[.string (D.ps.getD j ByteArray.empty), .int .i64 (D.ss.getD j 0)]) := Lib.hid hbx
        generalize itemI m D j = z at hnext hval
        generalize D.ps.getD j ByteArray.empty = x at HG h4 hval
        generalize D.ss.getD j 0 = y at HG hin hval
        clear hdl hbx
        gi_wp2
        refine ⟨trivial, fun _ => by omega, ?_⟩
        refine (callsIn_wide.2 (dAt_show j g Br Bp Bm m x y _ h4 hin HG.out (HBm.out.below hB))).mono ?_
        rintro e W2 ⟨rfl, hb2⟩
        have hJ2 := keepW hJ hJs hb2
        have hB2 := hB.trans (hb2.mono hB.size)
        have HT2 := HT.out.trans (TurnC.of_below hb2)
        obtain ⟨fn, tmps, assign, body, hy, hR⟩ := hY _ z W2 hJ2 (by rw [upto_length]; exact hlt)
        rw [hnext] at hR
        dsimp only [encI] at hy
        rw [hval] at hy
        clear x0 x1 x2 x3 x4 x5 y0 hc hJ2 hJs
        gi_wp2
        (first | (refine hR.mono ?_) | (refine ⟨fun _ => by omega, ?_⟩; refine hR.mono ?_) | (refine ⟨trivial, fun _ => by omega, ?_⟩; refine hR.mono ?_))
        rintro e W3 hor
        obtain ⟨β, rfl, hβ⟩ : ∃ β, e = .returned (.bool β) ∧ ((β = true ∧ J (upto (itemI m D) (j + 1)) W3 ∧ Keep2 B W2 W3) ∨ (β = false ∧ Jx (upto (itemI m D) (j + 1)) W3)) := (by rcases hor with ⟨h1, h2⟩ | ⟨h1, h2⟩ <;> exact ⟨_, h1, by simp [h2]⟩)
        all_goals
          rcases hβ with ⟨rfl, hJ3, hk3⟩ | ⟨rfl, hJx3⟩
          · gi_wp2
            go_roundw
            case rel => exact ⟨j + 1, by omega, by simp, hJ3, hB2.trans (by rw [HBB.out]; exact hk3.1), Lib.hid (HT2.trans hk3.2)⟩
            case measure => simp [intOf]; omega
          · gi_wp2
            refine bodyPost_ret (results_none rfl _ _ _) rfl ?_
            exact ⟨⟨_, rfl⟩, .inr ⟨_, ⟨j + 1, by omega, rfl⟩, hJx3⟩⟩
    · obtain rfl : j = dsn := by omega
      gi_wp2
      go_end0
      exact ⟨⟨_, rfl⟩, .inl ⟨_, rfl, hJs⟩⟩
end Go.Proofs.Ytjlckfbacphblaa.Rf
