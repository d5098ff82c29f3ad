/- keepStrand: the times that the renewals of a strand keep, from the last one on; in the program. The first renewal from which on all are kept: in the program and in the reference. The first renewal from which on all are kept, in the reference. -/
import Derived.Test.YtfojilogcecphaaGreatKb
import Derived.Test.YtfojilogcecphaaGreatQrA
import Derived.Test.YtfojilogcecphaaGreatRlA
import Derived.Test.YtfojilogcecphaaGreatLa
import Derived.Test.YtfojilogcecphaaGreatCrA
import Derived.Test.YtfojilogcecphaaGreatFmB
import Derived.Maps.Own
import Derived.Maps.OwnIn
import Derived.Maps.OwnSet
import Derived.Maps.AppendAt
import Derived.Outline
import Derived.Test.YtfojilogcecphaaGreatMin
import Derived.Maps.RangeWalk
import Derived.LoopTactic
namespace Go.Proofs.YtfojilogcecphaaGreat.Ks
open Go.ChangeShapes Go.WideShapes Go.ChangeAt Go.RowKit Go.Shelf Sl St Ed Dz Fnd
attribute [local go_sem] Oper.semAt_some
section
variable (ks : List I5) (us : List I3) (ms : List Mn.Me) (L now : Int) (ps : List DpPiece.A) (ch : List DpRenewal.A) (docs : List Int)
/-- whether renewal k covers what it has to, in time -/
noncomputable def pas (k : Nat) : Bool := match ch[k]? with
  | none => false
  | some r => (Lh.spanR us L r).2 && (Cr1.chk ks us r (La.leafAt ps ch docs k) && Lh.lh ks us ms L now ch k)
/-- the time that it tells -/
def tow (k : Nat) : Int := match ch[k]? with
  | none => 0
  | some r => (Lh.spanR us L r).1.2
/-- the first of those that pass without a gap up to the end -/
noncomputable def fk (P : Nat → Bool) : Nat → Nat
  | 0 => 0
  | k + 1 => if P k then fk P k else k + 1
variable {ks us ms L now ps ch docs}
theorem pas_at {k : Nat} {r : DpRenewal.A} (h : ch[k]? = some r) : pas ks us ms L now ps ch docs k = ((Lh.spanR us L r).2 && (Cr1.chk ks us r (La.leafAt ps ch docs k) && Lh.lh ks us ms L now ch k)) := by unfold pas; rw [h]
theorem tow_at {k : Nat} {r : DpRenewal.A} (h : ch[k]? = some r) : tow us L ch k = (Lh.spanR us L r).1.2 := by unfold tow; rw [h]
theorem fk_le (P : Nat → Bool) : ∀ n, fk P n ≤ n
  | 0 => Nat.le_refl _
  | k + 1 => by
    unfold fk
    split
    · exact Nat.le_succ_of_le (fk_le P k)
    · exact Nat.le_refl _
theorem fk_eq {P : Nat → Bool} {f : Nat} (h0 : f = 0 ∨ P (f - 1) = false) : ∀ {n : Nat}, f ≤ n → (∀ k, f ≤ k → k < n → P k = true) → fk P n = f
  | 0, hf, _ => by unfold fk; omega
  | k + 1, hf, h => by
    unfold fk
    rcases Nat.eq_or_lt_of_le hf with g | g
    · rcases h0 with h0 | h0
      · omega
      · rw [g, Nat.add_sub_cancel] at h0
        rw [h0, g]
        rfl
    · rw [h k (by omega) (by omega), if_pos rfl]
      exact fk_eq h0 (by omega) fun j h1 h2 => h j h1 (by omega)
end
/-! ### the map of times -/
/-- how a time in the map reads -/
def iR : Value → Option (DataW Unit × List MemPlace)
  | .int .i64 b => some (.lit (.int .i64 b), [])
  | _ => none
theorem iR_inv {v : Value} {y : DataW Unit × List MemPlace} (h : iR v = some y) : ∃ b, v = .int .i64 b ∧ y.1 = .lit (.int .i64 b) := by
  unfold iR at h
  split at h
  · cases h
    exact ⟨_, rfl, rfl⟩
  · cases h
/-- what a map tells: t i at each i of S, and nothing else -/
def Tel (S : Int → Prop) (t : Int → Int) (D : DataW Unit) : Prop := ∀ i, (S i ∧ Maps.has D (.int .i64 i) = true ∧ ∀ z, D.atKey (.int .i64 i) z = .lit (.int .i64 (t i))) ∨ (¬ S i ∧ Maps.has D (.int .i64 i) = false)
theorem Tel.none {t : Int → Int} : Tel (fun _ => False) t (.map []) := fun _ => .inr ⟨id, rfl⟩
theorem Tel.congr {S S' : Int → Prop} {t : Int → Int} {D : DataW Unit} (h : Tel S t D) (he : ∀ i, S i ↔ S' i) : Tel S' t D := fun i => by
  have := h i
  rw [he i] at this
  exact this
theorem Tel.put {S : Int → Prop} {t : Int → Int} {D : DataW Unit} (h : Tel S t D) (hm : Maps.IsMap D) (id : Int) : Tel (fun i => S i ∨ id = i) t (D.put (.int .i64 id) (.lit (.int .i64 (t id)))) := fun i => by
  by_cases he : id = i
  · subst he
    exact .inl ⟨.inr rfl, Maps.has_put_same hm (Mb.int_key _) _, fun z => Maps.atKey_put_same hm (Mb.int_key _) _ z⟩
  · have hne : (Lit.int .i64 i) ≠ (Lit.int .i64 id) := fun e => he (by simp only [Lit.int.injEq, true_and] at e; exact e.symm)
    rcases h i with ⟨h1, h2, h3⟩ | ⟨h1, h2⟩
    · exact .inl ⟨.inl h1, by rw [Maps.has_put_other hne]; exact h2, fun z => by rw [Maps.atKey_put_other hne]; exact h3 z⟩
    · exact .inr ⟨fun hh => hh.elim h1 he, by rw [Maps.has_put_other hne]; exact h2⟩
/-- a map that lies in block g, made of n stores -/
def Tm (S : Int → Prop) (t : Int → Int) (g n : Nat) (w : World) : Prop := ∃ D, w.ownsMap Tryz.prog 3 iR g n D ∧ Tel S t D
theorem Tm.grown {S : Int → Prop} {t : Int → Int} {g n : Nat} {w w' : World} {row : Option Nat} (h : Tm S t g n w) (hg : w.grownBy w' row) (hne : some g ≠ row) : Tm S t g n w' := by
  obtain ⟨D, h1, h2⟩ := h
  exact ⟨D, h1.kept hg hne, h2⟩
theorem Tm.congr {S S' : Int → Prop} {t : Int → Int} {g n : Nat} {w : World} (h : Tm S t g n w) (he : ∀ i, S i ↔ S' i) : Tm S' t g n w := by
  obtain ⟨D, h1, h2⟩ := h
  exact ⟨D, h1, h2.congr he⟩
theorem Tm.below {S : Int → Prop} {t : Int → Int} {g n : Nat} {w w' : World} (h : Tm S t g n w) (hb : Below w.heap.size w w') : Tm S t g n w' := h.grown (Sl.below_grown hb none) (by simp)

theorem laid (w : World) (A1 A2 A3 A4 A6 A7 : Array Value) (T1 T2 T3 T4 T6 T7 : TypeId) : ∃ W0, (((((((w.alloc (.cells A1 T1)).alloc (.cells A2 T2)).alloc (.cells A3 T3)).alloc (.cells A4 T4)).alloc (.map #[] 0)).alloc (.cells A6 T6)).alloc (.cells A7 T7)) = W0 ∧
    Bx W0 w.heap.size T1 A1 ∧ Bx W0 (w.heap.size + 1) T2 A2 ∧ Bx W0 (w.heap.size + 2) T3 A3 ∧ Bx W0 (w.heap.size + 3) T4 A4 ∧ Bx W0 (w.heap.size + 5) T6 A6 ∧ Bx W0 (w.heap.size + 6) T7 A7 ∧
    (∀ t, Tm (fun _ => False) t (w.heap.size + 4) 0 W0) ∧ Below w.heap.size w W0 ∧ W0.heap.size = w.heap.size + 7 := by
  have x1 := ((((((Bx.new w T1 A1).alloc (.cells A2 T2)).alloc (.cells A3 T3)).alloc (.cells A4 T4)).alloc (.map #[] 0)).alloc (.cells A6 T6)).alloc (.cells A7 T7)
  have x2 := (((((Bx.new (w.alloc (.cells A1 T1)) T2 A2).alloc (.cells A3 T3)).alloc (.cells A4 T4)).alloc (.map #[] 0)).alloc (.cells A6 T6)).alloc (.cells A7 T7)
  have x3 := ((((Bx.new ((w.alloc (.cells A1 T1)).alloc (.cells A2 T2)) T3 A3).alloc (.cells A4 T4)).alloc (.map #[] 0)).alloc (.cells A6 T6)).alloc (.cells A7 T7)
  have x4 := (((Bx.new (((w.alloc (.cells A1 T1)).alloc (.cells A2 T2)).alloc (.cells A3 T3)) T4 A4).alloc (.map #[] 0)).alloc (.cells A6 T6)).alloc (.cells A7 T7)
  have x5 := ((World.ownsMap_made ((((w.alloc (.cells A1 T1)).alloc (.cells A2 T2)).alloc (.cells A3 T3)).alloc (.cells A4 T4)) Tryz.prog 3 iR).alloc (.cells A6 T6)).alloc (.cells A7 T7)
  have x6 := (Bx.new (((((w.alloc (.cells A1 T1)).alloc (.cells A2 T2)).alloc (.cells A3 T3)).alloc (.cells A4 T4)).alloc (.map #[] 0)) T6 A6).alloc (.cells A7 T7)
  have x7 := Bx.new ((((((w.alloc (.cells A1 T1)).alloc (.cells A2 T2)).alloc (.cells A3 T3)).alloc (.cells A4 T4)).alloc (.map #[] 0)).alloc (.cells A6 T6)) T7 A7
  simp only [World.size_alloc] at x2 x3 x4 x5 x6 x7
  refine ⟨_, rfl, x1, x2, x3, x4, x6, x7, fun t => ⟨_, x5, Tel.none⟩, ((((((((Below.refl _ w).alloc (Nat.le_refl _) _).alloc ?_ _).alloc ?_ _).alloc ?_ _).alloc ?_ _).alloc ?_ _).alloc ?_ _), by simp⟩ <;> simp <;> omega

theorem three {W : World} {g : Nat} {T : TypeId} {a b c : Value} (h : Bx W g T #[a, b, c]) (u v z : Value) : Bx (((W.setCell ⟨g, 0, none⟩ u).setCell ⟨g, 1, none⟩ v).setCell ⟨g, 2, none⟩ z) g T #[u, v, z] ∧ W.grownBy (((W.setCell ⟨g, 0, none⟩ u).setCell ⟨g, 1, none⟩ v).setCell ⟨g, 2, none⟩ z) (some g) := by
  have gs : ∀ (X : World) (i : Nat) (y : Value), X.grownBy (X.setCell ⟨g, i, none⟩ y) (some g) := fun X i y => ⟨rfl, rfl, rfl, by simp [World.setCell], fun k _ hk => Below.heap_setCell _ _ _ _ (fun e => hk (by simp [e]))⟩
  exact ⟨((h.set_ 0 u).set_ 1 v).set_ 2 z, ((gs _ _ _).trans (gs _ _ _)).trans (gs _ _ _)⟩
theorem fin {S : Nat → Prop} {w0 : World} {xs : List DpRenewal.A} {p : Option Addr} {n : Nat} {LL : List (Kb.It S w0 xs)} (hLL : Kb.Items p n LL) {P : Nat → Bool} {j : Nat} (hj : j ≤ n) (hP : ∀ x ∈ LL.take j, P x.1.1 = true) (h0 : n - j = 0 ∨ P (n - j - 1) = false) (i : Int) : (∃ x ∈ LL.take j, (x.1.1 : Int) = i) ↔ ((fk P n : Int) ≤ i ∧ i < n) := by
  have hf : fk P n = n - j := fk_eq h0 (by omega) fun k h1 h2 => by
    obtain ⟨x, hx, he⟩ := (hLL.mem hj (k : Int)).2 ⟨by omega, by omega⟩
    have := hP x hx
    rw [show x.1.1 = k by omega] at this
    exact this
  rw [hLL.mem hj i, hf]
  omega

set_option maxRecDepth 100000 in
set_option maxHeartbeats 8000000 in
theorem keep_any (ks : List I5) (pk : Option Addr) (nk ck : Nat) (us : List I3) (pa : Option Addr) (na ca : Nat) (ms : List Mn.Me) (pm : Option Addr) (nm cm : Nat) (L now : Int) (l0 : List DpPiece.A) (p0 : Option Addr) (n0 c0 : Nat) (l1 : List DpRenewal.A) (p1 : Option Addr) (n1 c1 : Nat) (docs : List Int) (q : Option Addr) (d e : Nat) {SK SA SM S0 S1 T : Nat → Prop} (w : World) (hL : InI L) (hk : RdD (flat SlKey.E SlKey.InR) SK w pk nk ks) (ha : RdD (flat SlAuthority.E SlAuthority.InR) SA w pa na us) (hm : RdD (flat SlMethod.E SlMethod.InR) SM w pm nm ms) (h0 : RdD DpPiece.E S0 w p0 n0 l0) (h1 : RdD DpRenewal.E S1 w p1 n1 l1) (hd : RdD int T w q d docs) (hc0 : n0 ≤ c0) (hwt : DpStrand.E.wt (l0, l1) ≤ 1048576) : Calls Tryz.prog 46 #[.agg #[.slice pk nk ck, .slice pa na ca, .slice pm nm cm, .int .i64 L, .int .i64 now], .agg #[.slice p0 n0 c0, .slice p1 n1 c1], .slice q d e] w fun e W' => e = .returned (.agg #[.slice p0 n0 c0, .slice p1 n1 c1, .map (some (w.heap.size + 4))]) ∧ (∃ m, Tm (fun i => (fk (pas ks us ms L now l0 l1 docs) n1 : Int) ≤ i ∧ i < n1) (fun i => tow us L l1 i.toNat) (w.heap.size + 4) m W') ∧ Below w.heap.size w W' := by
  have hmm := @run_makeMap Tryz.prog
  obtain ⟨LL, hLL⟩ := Kb.items h1
  have hle := h1.le
  have hw1 : wts DpRenewal.E l1 ≤ 1048576 := by rw [DpStrand.wt_eq] at hwt; omega
  refine (callsIn_wide (n := 3)).1 ?_
  refine callsIn_of_wp_marks Tryz.func46 rfl trivial ?_ rfl
  simp only [Tryz.ntmps46, List.size_toArray, List.length_cons, List.length_nil, Nat.reduceAdd, Nat.reduceSub, Array.replicate_succ, Array.replicate_zero, List.push_toArray, List.append_toArray, List.nil_append, List.cons_append]
  gi_wp2_with (refine ⟨trivial, ?_⟩; gi_at_call 75; refine (Kb.back_in Fence.wide _ trivial rfl _ _ _ _).mono ?_; rintro e w' ⟨rfl, rfl⟩)
  obtain ⟨W0, hW0, bF, bS, bD, bR, bT, bN, hT0, hB0, hsz⟩ := laid w #[.slice pk nk ck, .slice pa na ca, .slice pm nm cm, .int .i64 L, .int .i64 now] #[.slice p0 n0 c0, .slice p1 n1 c1] #[.slice q d e] #[.slice none 0 0, .slice none 0 0, .map none] #[.map (some (w.heap.size + 1 + 1 + 1 + 1))] #[.slice p1 n1 c1] 39 44 31 92 90 42
  rw [hW0]
  clear hW0
  simp only [Nat.add_assoc, Nat.reduceAdd] at bT ⊢
  obtain ⟨I1, hI1⟩ : ∃ I1 : List (Kb.It S1 w l1) → World → Prop, I1 = fun pre W => (Bx W w.heap.size 39 #[.slice pk nk ck, .slice pa na ca, .slice pm nm cm, .int .i64 L, .int .i64 now] ∧ Bx W (w.heap.size + 1) 44 #[.slice p0 n0 c0, .slice p1 n1 c1] ∧ Bx W (w.heap.size + 2) 31 #[.slice q d e] ∧ Bx W (w.heap.size + 3) 92 #[.slice none 0 0, .slice none 0 0, .map none] ∧ Bx W (w.heap.size + 5) 90 #[.map (some (w.heap.size + 4))]) ∧ Tm (fun i => ∃ x ∈ pre, (x.1.1 : Int) = i) (fun i => tow us L l1 i.toNat) (w.heap.size + 4) pre.length W ∧ W0.heap.size ≤ W.heap.size ∧ ∀ x ∈ pre, (pas ks us ms L now l0 l1 docs) x.1.1 = true := ⟨_, rfl⟩
  have own1 : OwnFrom W0.heap.size I1 := by
    rw [hI1]
    exact fun s A B row hs hg hr => ⟨⟨Mb.bx_own hs.1.1 hg (fun r e => (hr r e).2), Mb.bx_own hs.1.2.1 hg (fun r e => (hr r e).2), Mb.bx_own hs.1.2.2.1 hg (fun r e => (hr r e).2), Mb.bx_own hs.1.2.2.2.1 hg (fun r e => (hr r e).2), Mb.bx_own hs.1.2.2.2.2 hg (fun r e => (hr r e).2)⟩, hs.2.1.grown hg (fun e => by have := (hr _ e.symm).1; omega), Nat.le_trans hs.2.2.1 hg.size, hs.2.2.2⟩
  refine wpIn_rangeFunc_ownH (F := Fence.wide) rfl (by omega) (gf := 103) (lb := #[.pointer (some ⟨w.heap.size + 6, 0, none⟩)]) rfl trivial (enters_of Tryz.func103 (by kernel_rfl) rfl)
    (Kb.back_stops Fence.wide _ trivial rfl (by omega) (w.heap.size + 6) c1 LL hLL hle W0 hB0 bN) Mb.Kp.trans
    (fun W l o o' hl h hc hw => ⟨belowK_b (w := w) (Nat.le_refl _) W l o o' (by omega) h hc hw, fun hx => hx.grown (grownBy_putObj' W l o') (by intro e; simp only [Option.some.injEq] at e; omega)⟩)
    (Below.refl _ _) (fun _ => rfl)
    (fun pre W => I1 pre W ∧ Below w.heap.size w W)
    (fun c pre W => (c = .exit 0 ∧ ∃ pre' x, pre = pre' ++ [x] ∧ (pas ks us ms L now l0 l1 docs) x.1.1 = false ∧ I1 pre' W) ∧ Below w.heap.size w W)
    (own1.and (ownFrom_below (Nat.le_refl _) (by omega)))
    (fun c => OwnFrom.and (fun s A B row hs hg hr => by obtain ⟨g1, pre', x, g2, g3, g4⟩ := hs; exact ⟨g1, pre', x, g2, g3, own1 pre' A B row g4 hg hr⟩) (ownFrom_below (Nat.le_refl _) (by omega)))
    ⟨by rw [hI1]; exact ⟨⟨bF, bS, bD, bR, bT⟩, (hT0 _).congr (fun i => by simp), Nat.le_refl _, fun x hx => by cases hx⟩, hB0⟩
    (fun x a' W => ∃ Bm v0 v1 v2 v3 v4, x.1.2 = .agg #[v0, v1, v2, v3, v4] ∧ W0.heap.size ≤ Bm ∧ Bx W Bm 103 #[v0, v1, v2, v3, v4] ∧ a' = { tmps := #[.agg #[.slice pk nk ck, .slice pa na ca, .slice pm nm cm, .int .i64 L, .int .i64 now], .agg #[.slice p0 n0 c0, .slice p1 n1 c1], .slice q d e, .pointer (some ⟨w.heap.size, 0, none⟩), .pointer (some ⟨w.heap.size + 1, 0, none⟩), .pointer (some ⟨w.heap.size + 2, 0, none⟩), .pointer (some ⟨w.heap.size + 3, 0, none⟩), .pointer (some ⟨w.heap.size + 5, 0, none⟩), .int .i64 (x.1.1 : Int), .pointer (some ⟨Bm, 0, none⟩), undef, undef, .map (some (w.heap.size + 4)), .pointer (some ⟨w.heap.size + 1, 1, none⟩), .slice p1 n1 c1, .func (.func 103) #[] #[.pointer (some ⟨w.heap.size + 6, 0, none⟩)], .int .i64 (x.1.1 : Int), .agg #[v0, v1, v2, v3, v4], undef, undef, undef, undef, undef, undef, undef, undef, undef, undef, undef, undef, undef, undef, undef, undef, undef, undef, undef, undef, undef, undef, undef, undef, undef, undef, undef, undef, undef, undef, undef, undef, undef, undef, undef, undef, undef, undef], defers := [] })
    (fun x a' _ X Y row hs hg hr => by obtain ⟨Bm, v0, v1, v2, v3, v4, g1, g2, g3, g4⟩ := hs; exact ⟨Bm, v0, v1, v2, v3, v4, g1, g2, Mb.bx_own g3 hg (fun r e => (hr r e).2), g4⟩)
    ?assign ?body ?done ?stop
  case assign =>
    rintro l pre x W K ⟨hI, hB1⟩ hK
    rw [hI1] at hI
    obtain ⟨⟨bF, bS, bD, bR, bT⟩, hT, hs1, hP⟩ := hI
    obtain ⟨⟨k, v⟩, x0, x1, x2, l3, l4, p3, n3, c3, p4, n4, c4, hx, hv, hx'⟩ := x
    dsimp only at hv
    subst hv
    dsimp only [Kb.encs]
    gi_wp2
    exact hK _ _ ((KeepsOthers.alloc _ _).from _) ⟨(Below.refl _ W).alloc hB1.size _, fun hx => hx.alloc _⟩ ⟨by rw [hI1]; exact ⟨⟨bF.alloc _, bS.alloc _, bD.alloc _, bR.alloc _, bT.alloc _⟩, hT.below ((Below.refl _ _).alloc (Nat.le_refl _) _), by simp; omega, hP⟩, hB1.alloc hB1.size _⟩ ⟨W.heap.size, _, _, _, _, _, rfl, hs1, Bx.new W _ _, rfl⟩
  case body =>
    rintro l pre x a' W hl ⟨rr, hrr⟩ ⟨hI, hB1⟩ ⟨Bm, v0, v1, v2, v3, v4, hv, hBm, bX, rfl⟩ hlt
    have hI0 := hI
    rw [hI1] at hI
    obtain ⟨⟨bF, bS, bD, bR, bT⟩, hT, hs1, hP⟩ := hI
    obtain ⟨⟨k, v⟩, x0, x1, x2, l3, l4, p3, n3, c3, p4, n4, c4, hx, hv', b0, b1, b2, h3, h4⟩ := x
    dsimp only at hx hv hv'
    subst hv'
    simp only [Value.agg.injEq, Array.mk.injEq, List.cons.injEq, and_true] at hv
    obtain ⟨rfl, rfl, rfl, rfl, rfl⟩ := hv
    have hk4 : n4 ≤ 1048576 := by have := Lh.len4 hx hw1; rw [h4.len] at this; exact this
    rcases hsp : Rsp.rsp us l4 L with ⟨⟨ya, yb⟩, ok⟩
    obtain ⟨f0, f1, f2, f3, f4⟩ := DpFrame.bxc bF
    obtain ⟨t0, t1, t2, t3, t4⟩ := DpRenewal.bxc bX
    gi_wp2_with (refine ⟨trivial, ?_⟩; gi_at_call 76; refine (CallsIn.inRound l (callsIn_wide.2 (Rsp.span_any _ _ _ us _ _ _ _ _ _ _ _ _ l4 L hL ya yb ok hsp W (ha.below hB1).rdS (h4.below hB1).rdS hk4))).mono ?_; rintro e w1 ⟨rfl, hb⟩)
    have hV : Below W.heap.size W (w1.alloc (.cells #[.int .i64 ya, .int .i64 yb] 105)) := hb.alloc hb.size _
    have HY := Lib.hid (Bx.new w1 105 #[.int .i64 ya, .int .i64 yb])
    generalize (w1.alloc (.cells #[.int .i64 ya, .int .i64 yb] 105)) = V at hV HY ⊢
    generalize w1.heap.size = gy at HY ⊢
    clear hb f0 f1 f2 f3 f4 t0 t1 t2 t3 t4
    have hBV : Below w.heap.size w V := below_on hB1 hV
    have HF := Lib.hid (bF.below hV)
    have HS := Lib.hid (bS.below hV)
    have HD := Lib.hid (bD.below hV)
    have HX := Lib.hid (bX.below hV)
    have hkn : k < n1 := by have := (List.getElem?_eq_some_iff.1 hx).1; rw [h1.len] at this; exact this
    have hpk := pas_at (ks := ks) (us := us) (ms := ms) (L := L) (now := now) (ps := l0) (docs := docs) hx
    have htw := tow_at (us := us) (L := L) hx
    simp only [Lh.spanR, hsp] at hpk htw
    cases ok
    · simp only [Bool.false_and] at hpk
      have HC : Hid (∀ w', Qt.Keeps (V) w' → w'.cell? ⟨w.heap.size, 0, none⟩ = some (.slice pk nk ck) ∧ w'.cell? ⟨w.heap.size, 1, none⟩ = some (.slice pa na ca) ∧ w'.cell? ⟨w.heap.size, 2, none⟩ = some (.slice pm nm cm) ∧ w'.cell? ⟨w.heap.size, 3, none⟩ = some (.int .i64 L) ∧ w'.cell? ⟨w.heap.size, 4, none⟩ = some (.int .i64 now) ∧ w'.cell? ⟨w.heap.size + 1, 0, none⟩ = some (.slice p0 n0 c0) ∧ w'.cell? ⟨w.heap.size + 1, 1, none⟩ = some (.slice p1 n1 c1) ∧ w'.cell? ⟨w.heap.size + 2, 0, none⟩ = some (.slice q d e) ∧ w'.cell? ⟨Bm, 0, none⟩ = some (.int .i64 x0) ∧ w'.cell? ⟨Bm, 1, none⟩ = some (.int .i64 x1) ∧ w'.cell? ⟨Bm, 2, none⟩ = some (.int .i64 x2) ∧ w'.cell? ⟨Bm, 3, none⟩ = some (.slice p3 n3 c3) ∧ w'.cell? ⟨Bm, 4, none⟩ = some (.slice p4 n4 c4)) := Lib.hid fun w' hw => let f := DpFrame.bxc (HF.out.below hw); let s := DpStrand.bxc (HS.out.below hw); let t := DpRenewal.bxc (HX.out.below hw); ⟨f.1, f.2.1, f.2.2.1, f.2.2.2.1, f.2.2.2.2, s.1, s.2, (HD.out.below hw).cell rfl, t.1, t.2.1, t.2.2.1, t.2.2.2.1, t.2.2.2.2⟩
      refine Qr.region (Qt.Keeps (V)) (by kernel_rfl) (by kernel_rfl) (by kernel_rfl) (Qt.Keeps.drew _) ?_
      repeat (first
        | go_big_quiet_skip
        | (go_big_quiet_want
           refine Qt.val (v := ?_) (fun w hw => ?_) ?_
           rotate_left
           · obtain ⟨f0, f1, f2, f3, f4, s0, s1, d0, t0, t1, t2, t3, t4⟩ := HC.out w hw
             go_simp
             rfl
           simp only [Act.put, List.setIfInBounds_toArray, List.set_cons_zero, List.set_cons_succ]
           go_big_quiet_on))
      refine wpQuiet_nil ?_
      intro w5 hw5
      have h5 := below_on hV hw5
      gi_wp2
      exact ⟨KeepsFrom.of_grownBy (Sl.below_grown h5 none) (fun j e => by cases e), ⟨rfl, pre, _, rfl, hpk, own1 pre W _ none hI0 (Sl.below_grown h5 none) (fun r e => by cases e)⟩, below_on hB1 h5⟩
    · obtain ⟨Lf, hLf⟩ : ∃ z, La.leafAt l0 l1 docs (k : Int) = z := ⟨_, rfl⟩
      have hLI : InI Lf := by rw [← hLf]; exact La.leafAt_in _
      obtain ⟨β, hβ⟩ : ∃ z, Cr1.chk ks us (x0, x1, x2, l3, l4) Lf = z := ⟨_, rfl⟩
      obtain ⟨γ, hγ⟩ : ∃ z, Lh.lhI ks us ms L now l1 (k : Int) = z := ⟨_, rfl⟩
      rw [hLf, hβ, ← Lh.lhI_nat, hγ, Bool.true_and] at hpk
      cases β
      · rw [Bool.false_and] at hpk
        have HC : Hid (∀ w', Qt.Keeps (V) w' → w'.cell? ⟨w.heap.size, 0, none⟩ = some (.slice pk nk ck) ∧ w'.cell? ⟨w.heap.size, 1, none⟩ = some (.slice pa na ca) ∧ w'.cell? ⟨w.heap.size, 2, none⟩ = some (.slice pm nm cm) ∧ w'.cell? ⟨w.heap.size, 3, none⟩ = some (.int .i64 L) ∧ w'.cell? ⟨w.heap.size, 4, none⟩ = some (.int .i64 now) ∧ w'.cell? ⟨w.heap.size + 1, 0, none⟩ = some (.slice p0 n0 c0) ∧ w'.cell? ⟨w.heap.size + 1, 1, none⟩ = some (.slice p1 n1 c1) ∧ w'.cell? ⟨w.heap.size + 2, 0, none⟩ = some (.slice q d e) ∧ w'.cell? ⟨Bm, 0, none⟩ = some (.int .i64 x0) ∧ w'.cell? ⟨Bm, 1, none⟩ = some (.int .i64 x1) ∧ w'.cell? ⟨Bm, 2, none⟩ = some (.int .i64 x2) ∧ w'.cell? ⟨Bm, 3, none⟩ = some (.slice p3 n3 c3) ∧ w'.cell? ⟨Bm, 4, none⟩ = some (.slice p4 n4 c4)) := Lib.hid fun w' hw => let f := DpFrame.bxc (HF.out.below hw); let s := DpStrand.bxc (HS.out.below hw); let t := DpRenewal.bxc (HX.out.below hw); ⟨f.1, f.2.1, f.2.2.1, f.2.2.2.1, f.2.2.2.2, s.1, s.2, (HD.out.below hw).cell rfl, t.1, t.2.1, t.2.2.1, t.2.2.2.1, t.2.2.2.2⟩
        refine Qr.region (Qt.Keeps (V)) (by kernel_rfl) (by kernel_rfl) (by kernel_rfl) (Qt.Keeps.drew _) ?_
        repeat (first
          | go_big_quiet_skip
          | (go_big_quiet_want
             refine Qt.val (v := ?_) (fun w hw => ?_) ?_
             rotate_left
             · obtain ⟨f0, f1, f2, f3, f4, s0, s1, d0, t0, t1, t2, t3, t4⟩ := HC.out w hw
               go_simp
               rfl
             simp only [Act.put, List.setIfInBounds_toArray, List.set_cons_zero, List.set_cons_succ]
             go_big_quiet_on)
          | (go_big_quiet_want
             refine Qt.call (v := .int .i64 Lf) (f := 78) (args := #[.agg #[.slice p0 n0 c0, .slice p1 n1 c1], .slice q d e, .int .i64 (k : Int)]) (fun w hw => ?_) (fun w hw => ?_) ?_
             · go_simp
             · refine (La.leafAt_any l0 _ _ _ l1 _ _ _ docs _ _ _ (k : Int) _ (h0.below (below_on hBV hw)) (h1.below (below_on hBV hw)) (hd.below (below_on hBV hw)) hc0 hwt).mono ?_
               rintro e w1 ⟨rfl, hb1⟩
               rw [hLf]
               exact ⟨rfl, hw.then hb1⟩
             simp only [Act.put, List.setIfInBounds_toArray, List.set_cons_zero, List.set_cons_succ]
             go_big_quiet_on)
          | (go_big_quiet_want
             refine Qt.call (v := .bool false) (f := 77) (args := #[.slice pk nk ck, .slice pa na ca, .agg #[.int .i64 x0, .int .i64 x1, .int .i64 x2, .slice p3 n3 c3, .slice p4 n4 c4], .int .i64 Lf]) (fun w hw => ?_) (fun w hw => ?_) ?_
             · go_simp
             · refine (Cr2.check_any ks _ _ _ us _ _ _ x0 x1 x2 l3 _ _ _ l4 _ _ _ Lf b1 hLI _ (hk.below (below_on hBV hw)) (ha.below (below_on hBV hw)) (h3.below (below_on hBV hw)) (h4.below (below_on hBV hw))).mono ?_
               rintro e w1 ⟨rfl, hb1⟩
               rw [hβ]
               exact ⟨rfl, hw.then hb1⟩
             simp only [Act.put, List.setIfInBounds_toArray, List.set_cons_zero, List.set_cons_succ]
             go_big_quiet_on))
        refine wpQuiet_nil ?_
        intro w5 hw5
        have h5 := below_on hV hw5
        gi_wp2
        exact ⟨KeepsFrom.of_grownBy (Sl.below_grown h5 none) (fun j e => by cases e), ⟨rfl, pre, _, rfl, hpk, own1 pre W _ none hI0 (Sl.below_grown h5 none) (fun r e => by cases e)⟩, below_on hB1 h5⟩
      · rw [Bool.true_and] at hpk
        have HC : Hid (∀ w', Qt.Keeps (V) w' → w'.cell? ⟨w.heap.size, 0, none⟩ = some (.slice pk nk ck) ∧ w'.cell? ⟨w.heap.size, 1, none⟩ = some (.slice pa na ca) ∧ w'.cell? ⟨w.heap.size, 2, none⟩ = some (.slice pm nm cm) ∧ w'.cell? ⟨w.heap.size, 3, none⟩ = some (.int .i64 L) ∧ w'.cell? ⟨w.heap.size, 4, none⟩ = some (.int .i64 now) ∧ w'.cell? ⟨w.heap.size + 1, 0, none⟩ = some (.slice p0 n0 c0) ∧ w'.cell? ⟨w.heap.size + 1, 1, none⟩ = some (.slice p1 n1 c1) ∧ w'.cell? ⟨w.heap.size + 2, 0, none⟩ = some (.slice q d e) ∧ w'.cell? ⟨Bm, 0, none⟩ = some (.int .i64 x0) ∧ w'.cell? ⟨Bm, 1, none⟩ = some (.int .i64 x1) ∧ w'.cell? ⟨Bm, 2, none⟩ = some (.int .i64 x2) ∧ w'.cell? ⟨Bm, 3, none⟩ = some (.slice p3 n3 c3) ∧ w'.cell? ⟨Bm, 4, none⟩ = some (.slice p4 n4 c4)) := Lib.hid fun w' hw => let f := DpFrame.bxc (HF.out.below hw); let s := DpStrand.bxc (HS.out.below hw); let t := DpRenewal.bxc (HX.out.below hw); ⟨f.1, f.2.1, f.2.2.1, f.2.2.2.1, f.2.2.2.2, s.1, s.2, (HD.out.below hw).cell rfl, t.1, t.2.1, t.2.2.1, t.2.2.2.1, t.2.2.2.2⟩
        refine Qr.region (Qt.Keeps (V)) (by kernel_rfl) (by kernel_rfl) (by kernel_rfl) (Qt.Keeps.drew _) ?_
        repeat (first
          | go_big_quiet_skip
          | (go_big_quiet_want
             refine Qt.val (v := ?_) (fun w hw => ?_) ?_
             rotate_left
             · obtain ⟨f0, f1, f2, f3, f4, s0, s1, d0, t0, t1, t2, t3, t4⟩ := HC.out w hw
               go_simp
               rfl
             simp only [Act.put, List.setIfInBounds_toArray, List.set_cons_zero, List.set_cons_succ]
             go_big_quiet_on)
          | (go_big_quiet_want
             refine Qt.call (v := .int .i64 Lf) (f := 78) (args := #[.agg #[.slice p0 n0 c0, .slice p1 n1 c1], .slice q d e, .int .i64 (k : Int)]) (fun w hw => ?_) (fun w hw => ?_) ?_
             · go_simp
             · refine (La.leafAt_any l0 _ _ _ l1 _ _ _ docs _ _ _ (k : Int) _ (h0.below (below_on hBV hw)) (h1.below (below_on hBV hw)) (hd.below (below_on hBV hw)) hc0 hwt).mono ?_
               rintro e w1 ⟨rfl, hb1⟩
               rw [hLf]
               exact ⟨rfl, hw.then hb1⟩
             simp only [Act.put, List.setIfInBounds_toArray, List.set_cons_zero, List.set_cons_succ]
             go_big_quiet_on)
          | (go_big_quiet_want
             refine Qt.call (v := .bool true) (f := 77) (args := #[.slice pk nk ck, .slice pa na ca, .agg #[.int .i64 x0, .int .i64 x1, .int .i64 x2, .slice p3 n3 c3, .slice p4 n4 c4], .int .i64 Lf]) (fun w hw => ?_) (fun w hw => ?_) ?_
             · go_simp
             · refine (Cr2.check_any ks _ _ _ us _ _ _ x0 x1 x2 l3 _ _ _ l4 _ _ _ Lf b1 hLI _ (hk.below (below_on hBV hw)) (ha.below (below_on hBV hw)) (h3.below (below_on hBV hw)) (h4.below (below_on hBV hw))).mono ?_
               rintro e w1 ⟨rfl, hb1⟩
               rw [hβ]
               exact ⟨rfl, hw.then hb1⟩
             simp only [Act.put, List.setIfInBounds_toArray, List.set_cons_zero, List.set_cons_succ]
             go_big_quiet_on)
          | (go_big_quiet_want
             refine Qt.call (v := .bool γ) (f := 79) (args := #[.agg #[.slice pk nk ck, .slice pa na ca, .slice pm nm cm, .int .i64 L, .int .i64 now], .agg #[.slice p0 n0 c0, .slice p1 n1 c1], .int .i64 (k : Int)]) (fun w hw => ?_) (fun w hw => ?_) ?_
             · go_simp
             · refine (Lh.link_any ks _ _ _ us _ _ _ ms _ _ _ L now _ _ _ l1 _ _ _ (k : Int) _ hL (hk.below (below_on hBV hw)) (ha.below (below_on hBV hw)) (hm.below (below_on hBV hw)) (h1.below (below_on hBV hw)) hw1).mono ?_
               rintro e w1 ⟨rfl, hb1⟩
               rw [hγ]
               exact ⟨rfl, hw.then hb1⟩
             simp only [Act.put, List.setIfInBounds_toArray, List.set_cons_zero, List.set_cons_succ]
             go_big_quiet_on))
        refine wpQuiet_nil ?_
        intro w5 hw5
        cases γ
        · skip
          have h5 := below_on hV hw5
          gi_wp2
          exact ⟨KeepsFrom.of_grownBy (Sl.below_grown h5 none) (fun j e => by cases e), ⟨rfl, pre, _, rfl, hpk, own1 pre W _ none hI0 (Sl.below_grown h5 none) (fun r e => by cases e)⟩, below_on hB1 h5⟩
        · have h5 := below_on hV hw5
          have cT := (bT.below h5).cell (j := 0) rfl
          have cY := (HY.out.below hw5).cell (j := 1) rfl
          obtain ⟨D, hown, hTel⟩ := (hT.grown (Sl.below_grown h5 none) (by simp))
          have hkey := Maps.keyOf_int_mk (a := (k : Int)) Tryz.underlying3 (WalkArith.wf_i64 (by omega))
          gi_wp2_with (gi_at_mapUpdate; refine wpListIn_mapUpdate_own _ rfl _ _ _ 90 rfl 3 3 (Maps.int_keyed Tryz.underlying3) Tryz.underlying90 _ (w.heap.size + 4) pre.length _ rfl hown (by unfold maxLen; omega) _ _ _ rfl rfl hkey _ [] (show iR (.int .i64 yb) = some (.lit (.int .i64 yb), []) from rfl) ?_; intro w6 hown6 hg6)
          have hg := ((Sl.below_grown h5 none).but (some (w.heap.size + 4))).trans hg6
          refine ⟨KeepsFrom.of_grownBy hg (fun j e => by cases e; omega), ⟨(Below.refl _ W).grown hg hB1.size (fun k e => by cases e; omega), fun hx => hx.grown hg (by intro e; simp only [Option.some.injEq] at e; omega)⟩, ?_, hB1.grown hg hB1.size (fun k e => by cases e; omega)⟩
          rw [hI1]
          refine ⟨⟨bF.grown hg (by intro e; simp only [Option.some.injEq] at e; omega), bS.grown hg (by intro e; simp only [Option.some.injEq] at e; omega), bD.grown hg (by intro e; simp only [Option.some.injEq] at e; omega), bR.grown hg (by intro e; simp only [Option.some.injEq] at e; omega), bT.grown hg (by intro e; simp only [Option.some.injEq] at e; omega)⟩, ⟨_, by rw [List.length_append]; exact hown6, ?_⟩, Nat.le_trans hs1 hg.size, fun y hy => ?_⟩
          · have h := hTel.put hown.isMap (k : Int)
            rw [Int.toNat_natCast, htw] at h
            refine h.congr fun i => ?_
            simp only [List.mem_append, List.mem_singleton]
            constructor
            · rintro (⟨y, hy, rfl⟩ | rfl)
              · exact ⟨y, .inl hy, rfl⟩
              · exact ⟨_, .inr rfl, rfl⟩
            · rintro ⟨y, hy | rfl, rfl⟩
              · exact .inl ⟨y, hy, rfl⟩
              · exact .inr rfl
          · rcases List.mem_append.1 hy with hy | hy
            · exact hP y hy
            · rw [List.mem_singleton.1 hy]
              exact hpk
  case done =>
    rintro D ys W hD rfl ⟨hI, hB1⟩ hK
    rw [hI1] at hI
    obtain ⟨⟨bF, bS, bD, bR, bT⟩, hT, hs1, hP⟩ := hI
    have cT := bT.cell (j := 0) rfl
    obtain ⟨s0, s1⟩ := DpStrand.bxc bS
    have r0 := bR.cell (j := 0) rfl
    have r1 := bR.cell (j := 1) rfl
    have r2 := bR.cell (j := 2) rfl
    have q0 := bR.free 0
    have q1 := bR.free 1
    have q2 := bR.free 2
    gi_wp2
    obtain ⟨bR3, hg3⟩ := three bR (.slice p0 n0 c0) (.slice p1 n1 c1) (.map (some (w.heap.size + 4)))
    generalize (((W.setCell ⟨w.heap.size + 3, 0, none⟩ (.slice p0 n0 c0)).setCell ⟨w.heap.size + 3, 1, none⟩ (.slice p1 n1 c1)).setCell ⟨w.heap.size + 3, 2, none⟩ (.map (some (w.heap.size + 4)))) = W3 at bR3 hg3 ⊢
    have hK3 : W3.heap[D]? = some (.deferred (some [])) := (hg3.block D (Array.getElem?_eq_some_iff.1 hK).1 (by intro e; simp only [Option.some.injEq] at e; omega)).trans hK
    refine ⟨by simp, .inl ⟨_, _, rfl, run_takeDeferred hK3, ?_⟩⟩
    have hgD := grownBy_putObj' W3 D (.deferred none)
    have bR4 := bR3.grown hgD (by intro e; simp only [Option.some.injEq] at e; omega)
    have y0 := bR4.cell (j := 0) rfl
    have y1 := bR4.cell (j := 1) rfl
    have y2 := bR4.cell (j := 2) rfl
    refine ⟨.agg #[.slice p0 n0 c0, .slice p1 n1 c1, .map (some (w.heap.size + 4))], by simp [results, Tryz.results46, go_sem, y0, y1, y2], rfl, ⟨_, ((hT.grown hg3 (by intro e; simp only [Option.some.injEq] at e; omega)).grown hgD (by intro e; simp only [Option.some.injEq] at e; omega)).congr fun i => ?_⟩, (hB1.grown hg3 hB1.size (fun k e => by cases e; omega)).trans (belowK_b (w := w) (Nat.le_refl _) W3 D _ _ (by omega) hK3 rfl rfl)⟩
    have h := fin hLL (Nat.le_refl n1) (P := (pas ks us ms L now l0 l1 docs)) (by rw [hLL.all]; exact hP) (.inl (by omega)) i
    rw [hLL.all] at h
    exact h
  case stop =>
    rintro D c pre W hD ⟨j, hj, rfl⟩ ⟨⟨rfl, pre', x, hpre, hno, hI⟩, hB1⟩ hK
    have hj1 : 1 ≤ j := by
      rcases Nat.eq_zero_or_pos j with rfl | h
      · simp at hpre
      · exact h
    obtain ⟨y, hy1, hy2, _⟩ := hLL.next (j := j - 1) (by omega)
    rw [show j - 1 + 1 = j by omega, hpre] at hy1
    obtain ⟨e1, e2⟩ := List.append_inj' hy1 rfl
    subst e1
    rw [← (List.cons.inj e2).1, hy2] at hno
    rw [hI1] at hI
    obtain ⟨⟨bF, bS, bD, bR, bT⟩, hT, hs1, hP⟩ := hI
    have cT := bT.cell (j := 0) rfl
    obtain ⟨s0, s1⟩ := DpStrand.bxc bS
    have r0 := bR.cell (j := 0) rfl
    have r1 := bR.cell (j := 1) rfl
    have r2 := bR.cell (j := 2) rfl
    have q0 := bR.free 0
    have q1 := bR.free 1
    have q2 := bR.free 2
    gi_wp2
    obtain ⟨bR3, hg3⟩ := three bR (.slice p0 n0 c0) (.slice p1 n1 c1) (.map (some (w.heap.size + 4)))
    generalize (((W.setCell ⟨w.heap.size + 3, 0, none⟩ (.slice p0 n0 c0)).setCell ⟨w.heap.size + 3, 1, none⟩ (.slice p1 n1 c1)).setCell ⟨w.heap.size + 3, 2, none⟩ (.map (some (w.heap.size + 4)))) = W3 at bR3 hg3 ⊢
    have hK3 : W3.heap[D]? = some (.deferred (some [])) := (hg3.block D (Array.getElem?_eq_some_iff.1 hK).1 (by intro e; simp only [Option.some.injEq] at e; omega)).trans hK
    refine ⟨by simp, .inl ⟨_, _, rfl, run_takeDeferred hK3, ?_⟩⟩
    have hgD := grownBy_putObj' W3 D (.deferred none)
    have bR4 := bR3.grown hgD (by intro e; simp only [Option.some.injEq] at e; omega)
    have y0 := bR4.cell (j := 0) rfl
    have y1 := bR4.cell (j := 1) rfl
    have y2 := bR4.cell (j := 2) rfl
    refine ⟨.agg #[.slice p0 n0 c0, .slice p1 n1 c1, .map (some (w.heap.size + 4))], by simp [results, Tryz.results46, go_sem, y0, y1, y2], rfl, ⟨_, ((hT.grown hg3 (by intro e; simp only [Option.some.injEq] at e; omega)).grown hgD (by intro e; simp only [Option.some.injEq] at e; omega)).congr fun i => ?_⟩, (hB1.grown hg3 hB1.size (fun k e => by cases e; omega)).trans (belowK_b (w := w) (Nat.le_refl _) W3 D _ _ (by omega) hK3 rfl rfl)⟩
    exact fin hLL (by omega) (P := (pas ks us ms L now l0 l1 docs)) hP (.inr (by rw [show n1 - (j - 1) - 1 = n1 - 1 - (j - 1) by omega]; exact hno)) i
end Go.Proofs.YtfojilogcecphaaGreat.Ks

namespace Go.Proofs.YtfojilogcecphaaGreat.Fk
open Go.ChangeShapes Go.WideShapes Go.ChangeAt Go.RowKit Sl St Ed Dz Fnd Ks
theorem box1 (w : World) (o : Obj) : Below w.heap.size w (w.alloc o) := (Below.refl _ _).alloc (Nat.le_refl _) _
/-- what a loop over the map of times knows of the least key met -/
structure Lst (f n : Nat) (D : DataW Unit) (a : Int) (left : Lit → Bool) : Prop where
  lo : (f : Int) ≤ a
  hi : a ≤ n
  met : ∀ k : Int, f ≤ k → k < n → left (.int .i64 k) = false → a ≤ k
  has : ∀ z, left z = true → Maps.has D z = true
section
variable {f n : Nat} {D : DataW Unit} {a : Int} {left : Lit → Bool} {t : Int → Int}
theorem Lst.start (hf : f ≤ n) (h : Tel (fun i => (f : Int) ≤ i ∧ i < n) t D) : Lst f n D n (Maps.has D) := ⟨by omega, by omega, fun k h1 h2 h3 => by
  rcases h k with ⟨_, g, _⟩ | ⟨g, _⟩
  · rw [h3] at g; cases g
  · exact absurd ⟨h1, h2⟩ g, fun _ h => h⟩
theorem Lst.done (hf : f ≤ n) (h : Lst f n D a left) (hl : ∀ z, left z = false) : a = f := by
  rcases Nat.eq_or_lt_of_le hf with g | g
  · have := h.lo; have := h.hi; omega
  · have := h.met f (by omega) (by omega) (hl _); have := h.lo; omega
theorem Lst.key (h : Lst f n D a left) (hT : Tel (fun i => (f : Int) ≤ i ∧ i < n) t D) {x : Int} (hx : left (.int .i64 x) = true) : (f : Int) ≤ x ∧ x < n := by
  rcases hT x with ⟨g, _⟩ | ⟨_, g⟩
  · exact g
  · rw [h.has _ hx] at g; cases g
theorem Lst.next (h : Lst f n D a left) {x : Int} (hx : (f : Int) ≤ x ∧ x < n) : Lst f n D (Ints.minI a x) (fun z => left z && !z.sameKey (.int .i64 x)) := by
  have h1 := h.lo
  have h2 := h.hi
  have hl := Fm0.min_l a x
  have hr := Fm0.min_r a x
  refine ⟨?_, by omega, fun k g1 g2 g3 => ?_, fun z hz => ?_⟩
  · unfold Ints.minI; split <;> omega
  · by_cases he : k = x
    · omega
    · rw [Maps.sameKey_ne (fun e => he (by simp only [Lit.int.injEq, true_and] at e; exact e)), Bool.not_false, Bool.and_true] at g3
      have := h.met k g1 g2 g3
      omega
  · rw [Bool.and_eq_true] at hz
    exact h.has z hz.1
end
theorem keptField (p0 : Option Addr) (n0 c0 : Nat) (p1 : Option Addr) (n1 c1 : Nat) (g : Option Nat) (w : World) : (Instr.field 92 (.agg #[.slice p0 n0 c0, .slice p1 n1 c1, .map g]) 1).run Tryz.prog w = .ok (.map g) w := by kernel_rfl
set_option maxRecDepth 100000 in
set_option maxHeartbeats 8000000 in
theorem first_any (ks : List I5) (pk : Option Addr) (nk ck : Nat) (us : List I3) (pa : Option Addr) (na ca : Nat) (ms : List Mn.Me) (pm : Option Addr) (nm cm : Nat) (L now : Int) (l0 : List DpPiece.A) (p0 : Option Addr) (n0 c0 : Nat) (l1 : List DpRenewal.A) (p1 : Option Addr) (n1 c1 : Nat) (docs : List Int) (q : Option Addr) (d e : Nat) {SK SA SM S0 S1 T : Nat → Prop} (w : World) (hL : InI L) (hk : RdD (flat SlKey.E SlKey.InR) SK w pk nk ks) (ha : RdD (flat SlAuthority.E SlAuthority.InR) SA w pa na us) (hm : RdD (flat SlMethod.E SlMethod.InR) SM w pm nm ms) (h0 : RdD DpPiece.E S0 w p0 n0 l0) (h1 : RdD DpRenewal.E S1 w p1 n1 l1) (hd : RdD int T w q d docs) (hc0 : n0 ≤ c0) (hwt : DpStrand.E.wt (l0, l1) ≤ 1048576) : Calls Tryz.prog 14 #[.agg #[.slice pk nk ck, .slice pa na ca, .slice pm nm cm, .int .i64 L, .int .i64 now], .agg #[.slice p0 n0 c0, .slice p1 n1 c1], .slice q d e] w (Dz.Val (.int .i64 (fk (pas ks us ms L now l0 l1 docs) n1 : Int)) w) := by
  have hb : Below w.heap.size w ((w.alloc (.cells #[.slice pk nk ck, .slice pa na ca, .slice pm nm cm, .int .i64 L, .int .i64 now] 39)).alloc (.cells #[.slice p0 n0 c0, .slice p1 n1 c1] 44)) := (box1 w _).alloc (by simp) _
  have bx1 := (Bx.new w 39 #[.slice pk nk ck, .slice pa na ca, .slice pm nm cm, .int .i64 L, .int .i64 now]).alloc (.cells #[.slice p0 n0 c0, .slice p1 n1 c1] 44)
  have bx2 := Bx.new (w.alloc (.cells #[.slice pk nk ck, .slice pa na ca, .slice pm nm cm, .int .i64 L, .int .i64 now] 39)) 44 #[.slice p0 n0 c0, .slice p1 n1 c1]
  rw [World.size_alloc] at bx2
  obtain ⟨f0, f1, f2, f3, f4⟩ := DpFrame.bxc bx1
  obtain ⟨s0, s1⟩ := DpStrand.bxc bx2
  have hfn := fk_le (pas ks us ms L now l0 l1 docs) n1
  go_enter Tryz.func14, Tryz.ntmps14
  go_wp2_with fail
  generalize ((w.alloc (.cells #[.slice pk nk ck, .slice pa na ca, .slice pm nm cm, .int .i64 L, .int .i64 now] 39)).alloc (.cells #[.slice p0 n0 c0, .slice p1 n1 c1] 44)) = V at hb bx1 bx2 f0 f1 f2 f3 f4 s0 s1 ⊢
  refine (Ks.keep_any ks _ _ _ us _ _ _ ms _ _ _ L now l0 _ _ _ l1 _ _ _ docs _ _ _ V hL (hk.below hb) (ha.below hb) (hm.below hb) (h0.below hb) (h1.below hb) (hd.below hb) hc0 hwt).mono ?_
  rintro e w1 ⟨rfl, ⟨m, D, hown, hTel⟩, hb1⟩
  have kf := keptField p0 n0 c0 p1 n1 c1 (some (V.heap.size + 4)) w1
  go_wp2_with (first | (at_range; refine wpList_range_own _ rfl _ 90 rfl 3 3 (Maps.int_keyed Tryz.underlying3) Tryz.underlying90 Ks.iR _ m D rfl hown ?_; intro w2 hrg2 hg2 hs2) | go_in)
  go_frame
  obtain ⟨ff, hff⟩ : ∃ z, fk (pas ks us ms L now l0 l1 docs) n1 = z := ⟨_, rfl⟩
  rw [hff] at hfn hTel
  have hr0 := (below_on hb hb1).size
  generalize w1.heap.size = r at hrg2 hg2 hs2 hr0 ⊢
  have hB2 : Below w.heap.size w w2 := (below_on hb hb1).grown hg2 (by have := hb.size; have := hb1.size; omega) (fun k e => by cases e)
  clear f0 f1 f2 f3 f4 s0 s1 hown
  go_loopw [7] (fun i wr => ∃ (a : Int) (left : Lit → Bool) (cnt : Nat), i = .int .i64 a ∧ Hid (Lst ff n1 D a left) ∧ Hid (wr.ranges Tryz.prog 3 Ks.iR (V.heap.size + 4) r m D left cnt) ∧ Hid (Below w.heap.size w wr)) (fun _ wr => wr.rangeLeft (V.heap.size + 4) r)
  case atStart => exact ⟨n1, Maps.has D, Maps.size D, rfl, Lib.hid (Lst.start hfn hTel), Lib.hid hrg2, Lib.hid hB2⟩
  case round =>
    obtain ⟨a, left, cnt, rfl, HL, HRG, HB⟩ := hrel
    go_wp2_with (first | (at_next; refine wpList_next_ranges _ rfl _ rfl 3 (Maps.int_keyed Tryz.underlying3) Ks.iR (Value.int .i64) (Value.int .i64) (fun key kl h => by obtain ⟨x, rfl, _⟩ := Maps.keyOf_int_inv Tryz.underlying3 h; exact ⟨x, rfl⟩) (fun v y h => by obtain ⟨c, rfl, _⟩ := Ks.iR_inv h; exact ⟨c, rfl⟩) (V.heap.size + 4) r m D left cnt rfl HRG.out ?_ ?_) | go_in)
    · intro hc0 hl0
      obtain rfl := HL.out.done hfn hl0
      go_wp2_with fail
      go_ret
      exact Dz.val_of (by rw [hff]; first | done | rfl) HB.out
    · skip
      intro x c kl y y2 w3 cnt1 hkey hlk hv hat hrg3 hlt hg3 hs3 hen
      obtain ⟨x', ex, rfl, hwx⟩ := Maps.keyOf_int_inv Tryz.underlying3 hkey
      cases ex
      have hx := HL.out.key hTel hlk
      have HL3 := Lib.hid (HL.out.next hx)
      go_wp2_with fail
      refine (Ints.min_any a x w3).mono ?_
      rintro e w4 ⟨rfl, rfl⟩
      have hrg4 := hrg3.alloc (.cells #[.int .i64 x] 3)
      have HB3 : Below w.heap.size w w3 := HB.out.grown hg3 HB.out.size (fun k e => by cases e; exact hr0)
      have HB4 := HB3.alloc HB3.size (.cells #[.int .i64 x] 3)
      generalize (w3.alloc (.cells #[.int .i64 x] 3)) = w4 at hrg4 HB4 ⊢
      go_wp2_with fail
      go_roundw
      case rel => exact ⟨_, _, cnt1, rfl, HL3, Lib.hid hrg4, Lib.hid HB4⟩
      case measure => rw [hrg4.left_eq, HRG.out.left_eq]; exact hlt
/-- the world behind a region, whatever it is -/
theorem gen {Φ : World → Prop} {B : Nat} {U Y : World} (h : Below B U Y) (k : ∀ X, Below B U X → Φ X) : Φ Y := k Y h
set_option maxRecDepth 100000 in
set_option maxHeartbeats 8000000 in
theorem spec_kept_any (ks : List I5) (pk : Option Addr) (nk ck : Nat) (us : List I3) (pa : Option Addr) (na ca : Nat) (ms : List Mn.Me) (pm : Option Addr) (nm cm : Nat) (L now : Int) (l0 : List DpPiece.A) (p0 : Option Addr) (n0 c0 : Nat) (l1 : List DpRenewal.A) (p1 : Option Addr) (n1 c1 : Nat) (docs : List Int) (q : Option Addr) (d e : Nat) (k : Nat) (hkn : k < n1) {SK SA SM S0 S1 T : Nat → Prop} (w : World) (hL : InI L) (hk : RdD (flat SlKey.E SlKey.InR) SK w pk nk ks) (ha : RdD (flat SlAuthority.E SlAuthority.InR) SA w pa na us) (hm : RdD (flat SlMethod.E SlMethod.InR) SM w pm nm ms) (h0 : RdD DpPiece.E S0 w p0 n0 l0) (h1 : RdD DpRenewal.E S1 w p1 n1 l1) (hd : RdD int T w q d docs) (hc0 : n0 ≤ c0) (hwt : DpStrand.E.wt (l0, l1) ≤ 1048576) : Calls Tryz.prog 40 #[.agg #[.slice pk nk ck, .slice pa na ca, .slice pm nm cm, .int .i64 L, .int .i64 now], .agg #[.slice p0 n0 c0, .slice p1 n1 c1], .slice q d e, .int .i64 (k : Int)] w (Dz.Val (.bool ((pas ks us ms L now l0 l1 docs) k)) w) := by
  have hb : Below w.heap.size w ((w.alloc (.cells #[.slice pk nk ck, .slice pa na ca, .slice pm nm cm, .int .i64 L, .int .i64 now] 39)).alloc (.cells #[.slice p0 n0 c0, .slice p1 n1 c1] 44)) := (box1 w _).alloc (by simp) _
  have bx1 := (Bx.new w 39 #[.slice pk nk ck, .slice pa na ca, .slice pm nm cm, .int .i64 L, .int .i64 now]).alloc (.cells #[.slice p0 n0 c0, .slice p1 n1 c1] 44)
  have bx2 := Bx.new (w.alloc (.cells #[.slice pk nk ck, .slice pa na ca, .slice pm nm cm, .int .i64 L, .int .i64 now] 39)) 44 #[.slice p0 n0 c0, .slice p1 n1 c1]
  rw [World.size_alloc] at bx2
  have hw1 : wts DpRenewal.E l1 ≤ 1048576 := by rw [DpStrand.wt_eq] at hwt; omega
  have hx1 := h1.below hb
  obtain ⟨b, o, x_e, cs_e, rfl, _, hbw, hx, hce, hrd⟩ := hx1.at_ hkn
  obtain ⟨x0, x1, x2, l3, l4⟩ := x_e
  obtain ⟨p3, n3, c3, p4, n4, c4, rfl, b0, b1, b2, h3, h4⟩ := DpRenewal.ex hrd
  have hk4 : n4 ≤ 1048576 := by have := Lh.len4 hx hw1; rw [h4.len] at this; exact this
  rcases hsp : Rsp.rsp us l4 L with ⟨⟨ya, yb⟩, ok⟩
  have hpk := pas_at (ks := ks) (us := us) (ms := ms) (L := L) (now := now) (ps := l0) (docs := docs) hx
  simp only [Lh.spanR, hsp] at hpk
  have HW := Lib.hid hb
  have HGV := Lib.hid bx1
  have HXV := Lib.hid bx2
  have HCV := Lib.hid hce
  have HBV0 := Lib.hid hbw
  have HSP := Lib.hid hsp
  have HAV := Lib.hid (ha.below hb)
  have H4V := Lib.hid h4
  have i3 : (0 : Int) ≤ (k : Int) := by omega
  have i4 : (k : Int) < (n1 : Int) := by omega
  have hto : (k : Int).toNat = k := by omega
  have hLr : -9223372036854775808 ≤ L ∧ L ≤ 9223372036854775807 := hL
  clear hb bx1 bx2 hce hbw hsp hx1 hrd
  go_enter Tryz.func40, Tryz.ntmps40
  go_wp2_with fail
  rw [show ((w.alloc (.cells #[.slice pk nk ck, .slice pa na ca, .slice pm nm cm, .int .i64 L, .int .i64 now] 39)).alloc (.cells #[.slice p0 n0 c0, .slice (some ⟨b, o, none⟩) n1 c1] 44)) = ((w.alloc (.cells #[.slice pk nk ck, .slice pa na ca, .slice pm nm cm, .int .i64 L, .int .i64 now] 39)).alloc (.cells #[.slice p0 n0 c0, .slice (some ⟨b, o, none⟩) n1 c1] 44)) from rfl]
  generalize ((w.alloc (.cells #[.slice pk nk ck, .slice pa na ca, .slice pm nm cm, .int .i64 L, .int .i64 now] 39)).alloc (.cells #[.slice p0 n0 c0, .slice (some ⟨b, o, none⟩) n1 c1] 44)) = V at HW HGV HXV HCV HBV0 HAV H4V h3 h4 ⊢
  have hlt := HXV.out.lt
  have HR0 : Hid (Below V.heap.size V V.drew) := Lib.hid (below_drewN (Below.refl _ V) 1 :)
  have HRa : Hid (Below V.heap.size V (V.alloc (.cells #[.int .i64 0, .int .i64 0] 105)).drew) := Lib.hid (below_drewN (box1 V (.cells #[.int .i64 0, .int .i64 0] 105)) 1 :)
  have HG := Lib.hid HGV.out.drew1
  have HX := Lib.hid HXV.out.drew1
  have HA := Lib.hid HAV.out.drew1
  have H4 := Lib.hid H4V.out.drew1
  have HC : Hid (∀ jj v, [.int .i64 x0, .int .i64 x1, .int .i64 x2, .slice p3 n3 c3, .slice p4 n4 c4][jj]? = some v → V.drew.cell? ⟨b, o + k * 5 + jj, none⟩ = some v) := Lib.hid HCV.out
  have HBE : Hid (b < V.drew.heap.size) := Lib.hid HBV0.out
  have HGa := Lib.hid (HGV.out.alloc (.cells #[.int .i64 0, .int .i64 0] 105)).drew1
  have HXa := Lib.hid (HXV.out.alloc (.cells #[.int .i64 0, .int .i64 0] 105)).drew1
  have HYa := Lib.hid (Bx.new V 105 #[.int .i64 0, .int .i64 0]).drew1
  have HAa := Lib.hid (HAV.out.below (box1 V (.cells #[.int .i64 0, .int .i64 0] 105))).drew1
  have H4a := Lib.hid (H4V.out.below (box1 V (.cells #[.int .i64 0, .int .i64 0] 105))).drew1
  have HCa : Hid (∀ jj v, [.int .i64 x0, .int .i64 x1, .int .i64 x2, .slice p3 n3 c3, .slice p4 n4 c4][jj]? = some v → (V.alloc (.cells #[.int .i64 0, .int .i64 0] 105)).drew.cell? ⟨b, o + k * 5 + jj, none⟩ = some v) := Lib.hid (Lh.keep1 HBV0.out HCV.out)
  have HBEa : Hid (b < (V.alloc (.cells #[.int .i64 0, .int .i64 0] 105)).drew.heap.size) := Lib.hid (Nat.lt_of_lt_of_le HBV0.out (box1 V _).size)
  have hne0 : w.heap.size ≠ V.heap.size := by omega
  have hne1 : w.heap.size + 1 ≠ V.heap.size := by omega
  have hneb : b ≠ V.heap.size := Nat.ne_of_lt HBV0.out
  go_region_held3 (fun w' => (w'.cell? ⟨w.heap.size, 1, none⟩ = some (.slice pa na ca) ∧ w'.cell? ⟨w.heap.size, 3, none⟩ = some (.int .i64 L) ∧ w'.cell? ⟨w.heap.size + 1, 1, none⟩ = some (.slice (some ⟨b, o, none⟩) n1 c1)) ∧ w'.cell? ⟨b, o + k * 5, none⟩ = some (.int .i64 x0) ∧ w'.cell? ⟨b, o + k * 5 + 1, none⟩ = some (.int .i64 x1) ∧ w'.cell? ⟨b, o + k * 5 + 2, none⟩ = some (.int .i64 x2) ∧ w'.cell? ⟨b, o + k * 5 + 3, none⟩ = some (.slice p3 n3 c3) ∧ w'.cell? ⟨b, o + k * 5 + 4, none⟩ = some (.slice p4 n4 c4)) (first
      | with_reducible exact ⟨Lh.fr2 HG.out HX.out, DpRenewal.at_cells HC.out⟩
      | with_reducible exact ⟨Lh.fr2 HGa.out HXa.out, DpRenewal.at_cells HCa.out⟩
      | with_reducible exact ⟨Lh.fr2 HG3.out HX3.out, DpRenewal.at_cells HC3.out⟩
      | with_reducible exact ⟨Lh.fr2 (HG3.out.alloc _) (HX3.out.alloc _), DpRenewal.at_cells (Lh.keep1 HBE3.out HC3.out)⟩
      | with_reducible exact Lh.far5 hne0 hne1 hneb ⟨Lh.fr2 HG3.out HX3.out, DpRenewal.at_cells HC3.out⟩
      | fail) (first
    | (go_at_call 53; (with_reducible refine (Rsp.spec_span_any _ _ _ us x0 x1 x2 _ _ _ _ _ _ l4 L hLr ya yb ok HSP.out V.drew HA.out.rdS H4.out.rdS hk4).mono ?_); rintro e w3 ⟨rfl, hb⟩; have HBV3 := Lib.hid (below_on HR0.out hb); have HG3 := Lib.hid (HG.out.below hb); have HX3 := Lib.hid (HX.out.below hb); have HC3 : Hid (∀ jj v, [.int .i64 x0, .int .i64 x1, .int .i64 x2, .slice p3 n3 c3, .slice p4 n4 c4][jj]? = some v → w3.cell? ⟨b, o + k * 5 + jj, none⟩ = some v) := Lib.hid (fun jj v hv => (hb.cell (p := ⟨b, o + k * 5 + jj, none⟩) HBE.out).trans (HC.out jj v hv)); have HBE3 : Hid (b < w3.heap.size) := Lib.hid (Nat.lt_of_lt_of_le HBE.out hb.size); clear hb)
    | (go_at_call 53; (with_reducible refine (Rsp.spec_span_any _ _ _ us x0 x1 x2 _ _ _ _ _ _ l4 L hLr ya yb ok HSP.out (V.alloc (.cells #[.int .i64 0, .int .i64 0] 105)).drew HAa.out.rdS H4a.out.rdS hk4).mono ?_); rintro e w3 ⟨rfl, hb⟩; have HBV3 := Lib.hid (below_on HRa.out hb); have HG3 := Lib.hid (HGa.out.below hb); have HX3 := Lib.hid (HXa.out.below hb); have HY3 := Lib.hid (HYa.out.below hb); have HC3 : Hid (∀ jj v, [.int .i64 x0, .int .i64 x1, .int .i64 x2, .slice p3 n3 c3, .slice p4 n4 c4][jj]? = some v → w3.cell? ⟨b, o + k * 5 + jj, none⟩ = some v) := Lib.hid (fun jj v hv => (hb.cell (p := ⟨b, o + k * 5 + jj, none⟩) HBEa.out).trans (HCa.out jj v hv)); have HBE3 : Hid (b < w3.heap.size) := Lib.hid (Nat.lt_of_lt_of_le HBEa.out hb.size); obtain ⟨q0, q1, q2, q3⟩ := HY3.out.two; clear hb)
    | fail)
  all_goals
    refine gen (B := V.heap.size) (U := V) ?_ ?_
    · first
        | exact Lh.bel2 HBV3.out (Nat.le_refl _) _
        | exact (HBV3.out.setCell (p := ⟨V.heap.size, 0, none⟩) (Nat.le_refl _) _).setCell (p := ⟨V.heap.size, 1, none⟩) (Nat.le_refl _) _
    intro X HZ
    clear hne0 hne1 hneb
    go_wp2_with fail
    cases ok
    · simp only [Bool.false_and] at hpk
      have HC : Hid (∀ w', Qt.Keeps (X) w' → w'.cell? ⟨w.heap.size, 0, none⟩ = some (.slice pk nk ck) ∧ w'.cell? ⟨w.heap.size, 1, none⟩ = some (.slice pa na ca) ∧ w'.cell? ⟨w.heap.size, 2, none⟩ = some (.slice pm nm cm) ∧ w'.cell? ⟨w.heap.size, 3, none⟩ = some (.int .i64 L) ∧ w'.cell? ⟨w.heap.size, 4, none⟩ = some (.int .i64 now) ∧ w'.cell? ⟨w.heap.size + 1, 0, none⟩ = some (.slice p0 n0 c0) ∧ w'.cell? ⟨w.heap.size + 1, 1, none⟩ = some (.slice (some ⟨b, o, none⟩) n1 c1) ∧ w'.cell? ⟨b, o + k * 5, none⟩ = some (.int .i64 x0) ∧ w'.cell? ⟨b, o + k * 5 + 1, none⟩ = some (.int .i64 x1) ∧ w'.cell? ⟨b, o + k * 5 + 2, none⟩ = some (.int .i64 x2) ∧ w'.cell? ⟨b, o + k * 5 + 3, none⟩ = some (.slice p3 n3 c3) ∧ w'.cell? ⟨b, o + k * 5 + 4, none⟩ = some (.slice p4 n4 c4)) := Lib.hid fun w' hw => let f := DpFrame.bxc (HGV.out.below (below_on HZ hw)); let s := DpStrand.bxc (HXV.out.below (below_on HZ hw)); let t := DpRenewal.at_cells (w := w') (b := b) (q := o + k * 5) fun jj v hv => ((below_on HZ hw).cell (p := ⟨b, o + k * 5 + jj, none⟩) HBV0.out).trans (HCV.out jj v hv); ⟨f.1, f.2.1, f.2.2.1, f.2.2.2.1, f.2.2.2.2, s.1, s.2, t.1, t.2.1, t.2.2.1, t.2.2.2.1, t.2.2.2.2⟩
      refine Qt.region (Qt.Keeps (X)) (by kernel_rfl) (by kernel_rfl) (Qt.Keeps.drew _) ?_
      repeat (first
        | go_big_quiet_skip
        | (go_big_quiet_want
           refine Qt.val (v := ?_) (fun w hw => ?_) ?_
           rotate_left
           · obtain ⟨f0, f1, f2, f3, f4, s0, s1, t0, t1, t2, t3, t4⟩ := HC.out w hw
             go_simp
             rfl
           simp only [Act.put, List.setIfInBounds_toArray, List.set_cons_zero, List.set_cons_succ]
           go_big_quiet_on))
      refine wpQuiet_nil ?_
      intro w5 hw5
      have HE : Below w.heap.size w w5 := below_on HW.out (below_on HZ hw5)
      go_wp2_with fail
      go_ret
      exact Dz.val_of (by rw [hpk]; first | done | rfl) HE
    · obtain ⟨Lf, hLf⟩ : ∃ z, La.leafAt l0 l1 docs (k : Int) = z := ⟨_, rfl⟩
      have hLI : InI Lf := by rw [← hLf]; exact La.leafAt_in _
      obtain ⟨β, hβ⟩ : ∃ z, Cr1.chk ks us (x0, x1, x2, l3, l4) Lf = z := ⟨_, rfl⟩
      obtain ⟨γ, hγ⟩ : ∃ z, Lh.lhI ks us ms L now l1 (k : Int) = z := ⟨_, rfl⟩
      rw [hLf, hβ, ← Lh.lhI_nat, hγ, Bool.true_and] at hpk
      cases γ
      · rw [Bool.and_false] at hpk
        have HC : Hid (∀ w', Qt.Keeps (X) w' → w'.cell? ⟨w.heap.size, 0, none⟩ = some (.slice pk nk ck) ∧ w'.cell? ⟨w.heap.size, 1, none⟩ = some (.slice pa na ca) ∧ w'.cell? ⟨w.heap.size, 2, none⟩ = some (.slice pm nm cm) ∧ w'.cell? ⟨w.heap.size, 3, none⟩ = some (.int .i64 L) ∧ w'.cell? ⟨w.heap.size, 4, none⟩ = some (.int .i64 now) ∧ w'.cell? ⟨w.heap.size + 1, 0, none⟩ = some (.slice p0 n0 c0) ∧ w'.cell? ⟨w.heap.size + 1, 1, none⟩ = some (.slice (some ⟨b, o, none⟩) n1 c1) ∧ w'.cell? ⟨b, o + k * 5, none⟩ = some (.int .i64 x0) ∧ w'.cell? ⟨b, o + k * 5 + 1, none⟩ = some (.int .i64 x1) ∧ w'.cell? ⟨b, o + k * 5 + 2, none⟩ = some (.int .i64 x2) ∧ w'.cell? ⟨b, o + k * 5 + 3, none⟩ = some (.slice p3 n3 c3) ∧ w'.cell? ⟨b, o + k * 5 + 4, none⟩ = some (.slice p4 n4 c4)) := Lib.hid fun w' hw => let f := DpFrame.bxc (HGV.out.below (below_on HZ hw)); let s := DpStrand.bxc (HXV.out.below (below_on HZ hw)); let t := DpRenewal.at_cells (w := w') (b := b) (q := o + k * 5) fun jj v hv => ((below_on HZ hw).cell (p := ⟨b, o + k * 5 + jj, none⟩) HBV0.out).trans (HCV.out jj v hv); ⟨f.1, f.2.1, f.2.2.1, f.2.2.2.1, f.2.2.2.2, s.1, s.2, t.1, t.2.1, t.2.2.1, t.2.2.2.1, t.2.2.2.2⟩
        refine Qt.region (Qt.Keeps (X)) (by kernel_rfl) (by kernel_rfl) (Qt.Keeps.drew _) ?_
        repeat (first
          | go_big_quiet_skip
          | (go_big_quiet_want
             refine Qt.val (v := ?_) (fun w hw => ?_) ?_
             rotate_left
             · obtain ⟨f0, f1, f2, f3, f4, s0, s1, t0, t1, t2, t3, t4⟩ := HC.out w hw
               go_simp
               rfl
             simp only [Act.put, List.setIfInBounds_toArray, List.set_cons_zero, List.set_cons_succ]
             go_big_quiet_on)
          | (go_big_quiet_want
             refine Qt.call (v := .bool false) (f := 68) (args := #[.agg #[.slice pk nk ck, .slice pa na ca, .slice pm nm cm, .int .i64 L, .int .i64 now], .agg #[.slice p0 n0 c0, .slice (some ⟨b, o, none⟩) n1 c1], .int .i64 (k : Int)]) (fun w hw => ?_) (fun w hw => ?_) ?_
             · go_simp
             · refine (Lh.spec_link_any ks _ _ _ us _ _ _ ms _ _ _ L now _ _ _ l1 _ _ _ (k : Int) _ hL (hk.below (below_on HW.out (below_on HZ hw))) (ha.below (below_on HW.out (below_on HZ hw))) (hm.below (below_on HW.out (below_on HZ hw))) (h1.below (below_on HW.out (below_on HZ hw))) hw1).mono ?_
               rintro e w1 ⟨rfl, hb1⟩
               rw [hγ]
               exact ⟨rfl, hw.then hb1⟩
             simp only [Act.put, List.setIfInBounds_toArray, List.set_cons_zero, List.set_cons_succ]
             go_big_quiet_on))
        refine wpQuiet_nil ?_
        intro w5 hw5
        have HE : Below w.heap.size w w5 := below_on HW.out (below_on HZ hw5)
        go_wp2_with fail
        go_ret
        exact Dz.val_of (by rw [hpk]; first | done | rfl) HE
      · rw [Bool.and_true] at hpk
        have HC : Hid (∀ w', Qt.Keeps (X) w' → w'.cell? ⟨w.heap.size, 0, none⟩ = some (.slice pk nk ck) ∧ w'.cell? ⟨w.heap.size, 1, none⟩ = some (.slice pa na ca) ∧ w'.cell? ⟨w.heap.size, 2, none⟩ = some (.slice pm nm cm) ∧ w'.cell? ⟨w.heap.size, 3, none⟩ = some (.int .i64 L) ∧ w'.cell? ⟨w.heap.size, 4, none⟩ = some (.int .i64 now) ∧ w'.cell? ⟨w.heap.size + 1, 0, none⟩ = some (.slice p0 n0 c0) ∧ w'.cell? ⟨w.heap.size + 1, 1, none⟩ = some (.slice (some ⟨b, o, none⟩) n1 c1) ∧ w'.cell? ⟨b, o + k * 5, none⟩ = some (.int .i64 x0) ∧ w'.cell? ⟨b, o + k * 5 + 1, none⟩ = some (.int .i64 x1) ∧ w'.cell? ⟨b, o + k * 5 + 2, none⟩ = some (.int .i64 x2) ∧ w'.cell? ⟨b, o + k * 5 + 3, none⟩ = some (.slice p3 n3 c3) ∧ w'.cell? ⟨b, o + k * 5 + 4, none⟩ = some (.slice p4 n4 c4)) := Lib.hid fun w' hw => let f := DpFrame.bxc (HGV.out.below (below_on HZ hw)); let s := DpStrand.bxc (HXV.out.below (below_on HZ hw)); let t := DpRenewal.at_cells (w := w') (b := b) (q := o + k * 5) fun jj v hv => ((below_on HZ hw).cell (p := ⟨b, o + k * 5 + jj, none⟩) HBV0.out).trans (HCV.out jj v hv); ⟨f.1, f.2.1, f.2.2.1, f.2.2.2.1, f.2.2.2.2, s.1, s.2, t.1, t.2.1, t.2.2.1, t.2.2.2.1, t.2.2.2.2⟩
        refine Qt.region (Qt.Keeps (X)) (by kernel_rfl) (by kernel_rfl) (Qt.Keeps.drew _) ?_
        repeat (first
          | go_big_quiet_skip
          | (go_big_quiet_want
             refine Qt.val (v := ?_) (fun w hw => ?_) ?_
             rotate_left
             · obtain ⟨f0, f1, f2, f3, f4, s0, s1, t0, t1, t2, t3, t4⟩ := HC.out w hw
               go_simp
               rfl
             simp only [Act.put, List.setIfInBounds_toArray, List.set_cons_zero, List.set_cons_succ]
             go_big_quiet_on)
          | (go_big_quiet_want
             refine Qt.call (v := .bool true) (f := 68) (args := #[.agg #[.slice pk nk ck, .slice pa na ca, .slice pm nm cm, .int .i64 L, .int .i64 now], .agg #[.slice p0 n0 c0, .slice (some ⟨b, o, none⟩) n1 c1], .int .i64 (k : Int)]) (fun w hw => ?_) (fun w hw => ?_) ?_
             · go_simp
             · refine (Lh.spec_link_any ks _ _ _ us _ _ _ ms _ _ _ L now _ _ _ l1 _ _ _ (k : Int) _ hL (hk.below (below_on HW.out (below_on HZ hw))) (ha.below (below_on HW.out (below_on HZ hw))) (hm.below (below_on HW.out (below_on HZ hw))) (h1.below (below_on HW.out (below_on HZ hw))) hw1).mono ?_
               rintro e w1 ⟨rfl, hb1⟩
               rw [hγ]
               exact ⟨rfl, hw.then hb1⟩
             simp only [Act.put, List.setIfInBounds_toArray, List.set_cons_zero, List.set_cons_succ]
             go_big_quiet_on)
          | (go_big_quiet_want
             refine Qt.call (v := .int .i64 Lf) (f := 70) (args := #[.agg #[.slice p0 n0 c0, .slice (some ⟨b, o, none⟩) n1 c1], .slice q d e, .int .i64 (k : Int)]) (fun w hw => ?_) (fun w hw => ?_) ?_
             · go_simp
             · refine (La.spec_leafAt_any l0 _ _ _ l1 _ _ _ docs _ _ _ (k : Int) _ (h0.below (below_on HW.out (below_on HZ hw))) (h1.below (below_on HW.out (below_on HZ hw))) (hd.below (below_on HW.out (below_on HZ hw))) hc0 hwt).mono ?_
               rintro e w1 ⟨rfl, hb1⟩
               rw [hLf]
               exact ⟨rfl, hw.then hb1⟩
             simp only [Act.put, List.setIfInBounds_toArray, List.set_cons_zero, List.set_cons_succ]
             go_big_quiet_on)
          | (go_big_quiet_want
             refine Qt.call (v := .bool β) (f := 69) (args := #[.slice pk nk ck, .slice pa na ca, .agg #[.int .i64 x0, .int .i64 x1, .int .i64 x2, .slice p3 n3 c3, .slice p4 n4 c4], .int .i64 Lf]) (fun w hw => ?_) (fun w hw => ?_) ?_
             · go_simp
             · refine (Cr3.spec_check_any ks _ _ _ us _ _ _ x0 x1 x2 l3 _ _ _ l4 _ _ _ Lf b1 hLI _ (hk.below (below_on HW.out (below_on HZ hw))) (ha.below (below_on HW.out (below_on HZ hw))) (h3.below (below_on HZ hw)) (h4.below (below_on HZ hw))).mono ?_
               rintro e w1 ⟨rfl, hb1⟩
               rw [hβ]
               exact ⟨rfl, hw.then hb1⟩
             simp only [Act.put, List.setIfInBounds_toArray, List.set_cons_zero, List.set_cons_succ]
             go_big_quiet_on))
        refine wpQuiet_nil ?_
        intro w5 hw5
        have HE : Below w.heap.size w w5 := below_on HW.out (below_on HZ hw5)
        go_wp2_with fail
        go_ret
        exact Dz.val_of (by rw [hpk]; first | done | rfl) HE
end Go.Proofs.YtfojilogcecphaaGreat.Fk

namespace Go.Proofs.YtfojilogcecphaaGreat.Fk2
open Go.ChangeShapes Go.WideShapes Go.ChangeAt Go.RowKit Sl St Ed Dz Fnd Ks Fk
set_option maxRecDepth 100000 in
set_option maxHeartbeats 8000000 in
theorem spec_first_any (ks : List I5) (pk : Option Addr) (nk ck : Nat) (us : List I3) (pa : Option Addr) (na ca : Nat) (ms : List Mn.Me) (pm : Option Addr) (nm cm : Nat) (L now : Int) (l0 : List DpPiece.A) (p0 : Option Addr) (n0 c0 : Nat) (l1 : List DpRenewal.A) (p1 : Option Addr) (n1 c1 : Nat) (docs : List Int) (q : Option Addr) (d e : Nat) {SK SA SM S0 S1 T : Nat → Prop} (w : World) (hL : InI L) (hk : RdD (flat SlKey.E SlKey.InR) SK w pk nk ks) (ha : RdD (flat SlAuthority.E SlAuthority.InR) SA w pa na us) (hm : RdD (flat SlMethod.E SlMethod.InR) SM w pm nm ms) (h0 : RdD DpPiece.E S0 w p0 n0 l0) (h1 : RdD DpRenewal.E S1 w p1 n1 l1) (hd : RdD int T w q d docs) (hc0 : n0 ≤ c0) (hwt : DpStrand.E.wt (l0, l1) ≤ 1048576) : Calls Tryz.prog 10 #[.agg #[.slice pk nk ck, .slice pa na ca, .slice pm nm cm, .int .i64 L, .int .i64 now], .agg #[.slice p0 n0 c0, .slice p1 n1 c1], .slice q d e] w (Dz.Val (.int .i64 (fk (pas ks us ms L now l0 l1 docs) n1 : Int)) w) := by
  have hb : Below w.heap.size w ((w.alloc (.cells #[.slice pk nk ck, .slice pa na ca, .slice pm nm cm, .int .i64 L, .int .i64 now] 39)).alloc (.cells #[.slice p0 n0 c0, .slice p1 n1 c1] 44)) := (Dz.box1 w _).alloc (by simp) _
  have bx1 := (Bx.new w 39 #[.slice pk nk ck, .slice pa na ca, .slice pm nm cm, .int .i64 L, .int .i64 now]).alloc (.cells #[.slice p0 n0 c0, .slice p1 n1 c1] 44)
  have bx2 := Bx.new (w.alloc (.cells #[.slice pk nk ck, .slice pa na ca, .slice pm nm cm, .int .i64 L, .int .i64 now] 39)) 44 #[.slice p0 n0 c0, .slice p1 n1 c1]
  rw [World.size_alloc] at bx2
  have hle := h1.le
  obtain ⟨f0, f1, f2, f3, f4⟩ := DpFrame.bxc bx1
  obtain ⟨s0, s1⟩ := DpStrand.bxc bx2
  go_enter Tryz.func10, Tryz.ntmps10
  go_wp2_with fail
  generalize ((w.alloc (.cells #[.slice pk nk ck, .slice pa na ca, .slice pm nm cm, .int .i64 L, .int .i64 now] 39)).alloc (.cells #[.slice p0 n0 c0, .slice p1 n1 c1] 44)) = V at hb bx1 bx2 f0 f1 f2 f3 f4 s0 s1 ⊢
  clear f0 f1 f2 f3 f4 s0 s1
  go_loopw [7] (fun i wr => ∃ a : Int, i = .int .i64 a ∧ 0 ≤ a ∧ a ≤ n1 ∧ Hid (∀ k : Nat, a ≤ k → k < n1 → (pas ks us ms L now l0 l1 docs) k = true) ∧ Hid (Below V.heap.size V wr)) (fun i _ => (intOf i).toNat)
  case atStart => exact ⟨n1, rfl, by omega, by omega, Lib.hid fun k g1 g2 => by omega, Lib.hid (Below.refl _ _)⟩
  case round =>
    obtain ⟨a, rfl, ha0, ha1, HP, HB⟩ := hrel
    obtain ⟨f0, f1, f2, f3, f4⟩ := DpFrame.bxc (bx1.below HB.out)
    obtain ⟨s0, s1⟩ := DpStrand.bxc (bx2.below HB.out)
    have HE : Below w.heap.size w wr := below_on hb HB.out
    by_cases hz : 0 < a
    · obtain ⟨k, rfl⟩ : ∃ k : Nat, a = (k : Int) + 1 := ⟨(a - 1).toNat, by omega⟩
      have hsub : IntKind.i64.wrap ((k : Int) + 1 - 1) = (k : Int) := by rw [Int.add_sub_cancel]; exact IntWalk.i64_in _ (by omega)
      go_wp2_with fail
      refine (spec_kept_any ks _ _ _ us _ _ _ ms _ _ _ L now l0 _ _ _ l1 _ _ _ docs _ _ _ k (by omega) wr hL (hk.below HE) (ha.below HE) (hm.below HE) (h0.below HE) (h1.below HE) (hd.below HE) hc0 hwt).mono ?_
      rintro e w5 ⟨rfl, hb5⟩
      have HB5 := below_on HB.out hb5
      clear f0 f1 f2 f3 f4 s0 s1 hb5
      cases hβ : (pas ks us ms L now l0 l1 docs) k
      · have he := fk_eq (P := (pas ks us ms L now l0 l1 docs)) (f := k + 1) (.inr (by rw [Nat.add_sub_cancel]; exact hβ)) (show k + 1 ≤ n1 by omega) (fun j g1 g2 => HP.out j (by omega) g2)
        go_wp2_with fail
        go_ret
        exact Dz.val_of (by rw [he]; first | done | rfl) (below_on hb HB5)
      · have HP2 : Hid (∀ j : Nat, (k : Int) ≤ j → j < n1 → (pas ks us ms L now l0 l1 docs) j = true) := Lib.hid fun j g1 g2 => by
          rcases Nat.eq_or_lt_of_le (show k ≤ j by omega) with g | g
          · rw [← g]; exact hβ
          · exact HP.out j (by omega) g2
        go_wp2_with fail
        go_roundw
        case rel => exact ⟨(k : Int), rfl, by omega, by omega, HP2, Lib.hid HB5⟩
        case measure => simp [intOf] <;> omega
    · obtain rfl : a = 0 := by omega
      have he := fk_eq (P := (pas ks us ms L now l0 l1 docs)) (f := 0) (.inl rfl) (Nat.zero_le n1) (fun j g1 g2 => HP.out j (by omega) g2)
      go_wp2_with fail
      go_ret
      exact Dz.val_of (by first | rfl | (rw [he]; done) | (rw [he]; rfl)) HE
end Go.Proofs.YtfojilogcecphaaGreat.Fk2
