/- Mathematics of the times at which a certificate is good, bad or open: spans between the times at which something can change. -/
import Derived.Test.YtlgkgccmilapbaaJn
namespace Go.Proofs.Ytlgkgccmilapbaa.Egm
open Jn
theorem has_pts {l : List Nat} {t : Int} : Has (l.map fun n : Nat => ((n : Int), (n : Int))) t ↔ ∃ n ∈ l, n ≤ 10000 ∧ t = (n : Int) := by
  unfold Has
  constructor
  · rintro ⟨s, hs, ho, h1, h2⟩
    obtain ⟨n, hn, rfl⟩ := List.mem_map.1 hs
    have v := okB_yes ho
    simp only at h1 h2 v
    exact ⟨n, hn, by omega, by omega⟩
  · rintro ⟨n, hn, hle, rfl⟩
    exact ⟨_, List.mem_map.2 ⟨n, hn, rfl⟩, okB_mk (by simp only; omega), Int.le_refl _, Int.le_refl _⟩
/-- the times at which P holds, as spans in order -/
def cov (P : Int → Bool) : List Sp := join (((List.range 10001).filter fun n : Nat => P (n : Int)).map fun n : Nat => ((n : Int), (n : Int)))
theorem cov_can (P : Int → Bool) : Jn.Can (cov P) := join_can _
theorem cov_has (P : Int → Bool) (t : Int) : Has (cov P) t ↔ (0 ≤ t ∧ t ≤ 10000) ∧ P t = true := by
  unfold cov
  rw [join_has, has_pts]
  constructor
  · rintro ⟨n, hn, hle, rfl⟩
    rw [List.mem_filter] at hn
    exact ⟨by omega, hn.2⟩
  · rintro ⟨⟨h0, h1⟩, hP⟩
    obtain ⟨n, rfl⟩ := Int.eq_ofNat_of_zero_le h0
    exact ⟨n, List.mem_filter.2 ⟨List.mem_range.2 (by omega), hP⟩, by omega, rfl⟩
theorem cov_of {P : Int → Bool} {L : List Sp} (hc : Jn.Can L) (h : ∀ t, Has L t ↔ (0 ≤ t ∧ t ≤ 10000) ∧ P t = true) : L = cov P := Can_unique hc (cov_can P) fun t => (h t).trans (cov_has P t).symm
theorem join_cov {P : Int → Bool} {L : List Sp} (h : ∀ t, Has L t ↔ (0 ≤ t ∧ t ≤ 10000) ∧ P t = true) : join L = cov P := cov_of (join_can L) fun t => (join_has L t).trans (h t)
theorem cov_none {P : Int → Bool} (h : ∀ t, 0 ≤ t → t ≤ 10000 → P t = false) : cov P = [] := (cov_of Can_nil fun t => ⟨fun k => absurd k (Has_nil t), fun k => by rw [h t k.1.1 k.1.2] at k; exact absurd k.2 (by simp)⟩).symm
theorem can_len : ∀ {L : List Sp} {m : Nat}, Jn.Can L → (∀ s ∈ L, (m : Int) ≤ s.1) → L.length + m ≤ 10001 + m
  | [], m, _, _ => by simp
  | s :: L, m, hc, h => by
    obtain ⟨o, a, c⟩ := Can_cons.1 hc
    have v := okB_yes o
    have ha : ∀ k : Nat, ∀ L : List Sp, Jn.Can L → (∀ x ∈ L, (k : Int) ≤ x.1) → L.length + k ≤ 10001 ∨ L = [] := by
      intro k L
      induction L generalizing k with
      | nil => intro _ _; exact .inr rfl
      | cons x L ih =>
        intro hc h
        obtain ⟨o, a, c⟩ := Can_cons.1 hc
        have v := okB_yes o
        have hx := h x (List.mem_cons_self ..)
        rcases ih (k + 1) c (fun y hy => by have := a y hy; omega) with h1 | h1
        · left; simp only [List.length_cons]; omega
        · left; subst h1; simp only [List.length_cons, List.length_nil]; omega
    rcases ha 0 (s :: L) hc (fun x hx => by have := okB_yes (hc.ok hx); omega) with h1 | h1
    · omega
    · cases h1
theorem cov_len (P : Int → Bool) : (cov P).length ≤ 10001 := by
  have h := can_len (m := 0) (cov_can P) (fun s hs => by have := okB_yes ((cov_can P).ok hs); omega)
  omega

/-! ### what a certificate and the answers tell -/
def goodB (f to u t : Int) : Bool := okB (f, to) && (decide (f ≤ t ∧ t ≤ to) && (decide (t ≤ u) && decide (u ≤ 10000)))
def badB (f to b t : Int) : Bool := decide (t < f) || (decide (to < t) || decide (b ≤ t))
def openB (f to u b t : Int) : Bool := !goodB f to u t && !badB f to b t
theorem good_iff {f to u t : Int} : goodB f to u t = true ↔ okB (f, to) = true ∧ (f ≤ t ∧ t ≤ to) ∧ t ≤ u ∧ u ≤ 10000 := by simp [goodB]
theorem bad_iff {f to b t : Int} : badB f to b t = true ↔ t < f ∨ to < t ∨ b ≤ t := by simp [badB]
theorem open_iff {f to u b t : Int} : openB f to u b t = true ↔ ¬ goodB f to u t = true ∧ ¬ badB f to b t = true := by simp [openB]

/-! ### stretches -/
def strs : List Int → List Sp
  | a :: b :: r => (a, b - 1) :: strs (b :: r)
  | _ => []
theorem strs_gap : ∀ {ds : List Int}, ds.Pairwise (· ≤ ·) → ∀ s ∈ strs ds, s.1 ∈ ds ∧ ∀ m ∈ ds, m ≤ s.1 ∨ s.2 < m
  | [], _, s, hs => by cases hs
  | [a], _, s, hs => by cases hs
  | a :: b :: r, h, s, hs => by
    obtain ⟨h1, h2⟩ := List.pairwise_cons.1 h
    rcases List.mem_cons.1 hs with rfl | hs
    · refine ⟨List.mem_cons_self .., fun m hm => ?_⟩
      rcases List.mem_cons.1 hm with rfl | hm
      · exact .inl (Int.le_refl _)
      · right
        rcases List.mem_cons.1 hm with rfl | hm
        · show m - 1 < m; omega
        · have := (List.pairwise_cons.1 h2).1 m hm
          show b - 1 < m; omega
    · obtain ⟨k1, k2⟩ := strs_gap h2 s hs
      refine ⟨List.mem_cons_of_mem _ k1, fun m hm => ?_⟩
      rcases List.mem_cons.1 hm with rfl | hm
      · exact .inl (h1 s.1 k1)
      · exact k2 m hm
theorem strs_hit {t e : Int} : ∀ {ds : List Int} {a : Int}, (a :: ds).Pairwise (· ≤ ·) → a ≤ t → (a :: ds).getLast? = some e → t < e → ∃ s ∈ strs (a :: ds), s.1 ≤ t ∧ t ≤ s.2
  | [], a, _, h1, h2, h3 => by simp at h2; omega
  | b :: r, a, h, h1, h2, h3 => by
    by_cases hb : t < b
    · exact ⟨(a, b - 1), List.mem_cons_self .., h1, by show t ≤ b - 1; omega⟩
    · obtain ⟨s, hs, k⟩ := strs_hit (List.pairwise_cons.1 h).2 (by omega) (by simpa using h2) h3
      exact ⟨s, List.mem_cons_of_mem _ hs, k⟩
/-- P changes at no time but those of ms -/
def Const (P : Int → Bool) (ms : List Int) : Prop := ∀ s t : Int, 0 ≤ s → s ≤ t → t ≤ 10000 → (∀ m ∈ ms, 0 ≤ m → m ≤ 10000 → m ≤ s ∨ t < m) → P t = P s
/-- the stretches at whose beginning P holds have the times at which P holds -/
theorem strs_cov {P : Int → Bool} {ms cs : List Int} (hP : Const P ms) (hm : ∀ x, x ∈ cs ↔ x ∈ ms ∧ 0 ≤ x ∧ x ≤ 10000) (h0 : (0 : Int) ∈ ms) (hs : cs.Pairwise (· ≤ ·)) : join ((strs (cs ++ [10001])).filter fun s => P s.1) = cov P := by
  have hds : (cs ++ [10001]).Pairwise (· ≤ ·) := List.pairwise_append.2 ⟨hs, List.pairwise_singleton _ _, fun x hx y hy => by
    rw [List.mem_singleton] at hy
    have := (hm x).1 hx
    omega⟩
  have gap := strs_gap hds
  have hcs : (0 : Int) ∈ cs := (hm 0).2 ⟨h0, by omega, by omega⟩
  refine join_cov fun t => ?_
  constructor
  · rintro ⟨s, hsm, ho, h1, h2⟩
    obtain ⟨hsm, hps⟩ := List.mem_filter.1 hsm
    have v := okB_yes ho
    obtain ⟨g1, g2⟩ := gap s hsm
    refine ⟨by omega, ?_⟩
    rw [hP s.1 t (by omega) h1 (by omega) fun m hmm hl hh => ?_]
    · exact hps
    · rcases g2 m (List.mem_append_left _ ((hm m).2 ⟨hmm, hl, hh⟩)) with k | k
      · exact .inl k
      · exact .inr (by omega)
  · rintro ⟨⟨h1, h2⟩, hp⟩
    obtain ⟨a, r, e⟩ : ∃ a r, cs ++ [10001] = a :: r := by
      cases cs with
      | nil => exact ⟨_, _, rfl⟩
      | cons a r => exact ⟨_, _, rfl⟩
    have ha : a ≤ 0 := by
      have h3 : (0 : Int) ∈ a :: r := by rw [← e]; exact List.mem_append_left _ hcs
      rcases List.mem_cons.1 h3 with rfl | h3
      · exact Int.le_refl _
      · rw [e] at hds
        exact (List.pairwise_cons.1 hds).1 0 h3
    have hl : (a :: r).getLast? = some 10001 := by rw [← e]; simp
    have hds2 := hds
    rw [e] at hds2
    obtain ⟨s, hsm, k1, k2⟩ := strs_hit (t := t) hds2 (by omega) hl (by omega)
    rw [← e] at hsm
    obtain ⟨g1, g2⟩ := gap s hsm
    have hlast : s.2 ≤ 10000 := by
      rcases g2 10001 (by simp) with k | k
      · exfalso; omega
      · omega
    have hs1 : 0 ≤ s.1 := by
      rcases List.mem_append.1 g1 with k | k
      · exact ((hm _).1 k).2.1
      · rw [List.mem_singleton] at k; omega
    have hps : P s.1 = true := by
      rw [← hP s.1 t hs1 k1 h2 fun m hmm hl hh => ?_]
      · exact hp
      · rcases g2 m (List.mem_append_left _ ((hm m).2 ⟨hmm, hl, hh⟩)) with k | k
        · exact .inl k
        · exact .inr (by omega)
    exact ⟨s, List.mem_filter.2 ⟨hsm, hps⟩, okB_mk (by omega), k1, k2⟩
/-- what follows t, as an integer of the machine -/
def Nx (t m : Int) : Prop := m = t + 1 ∨ (10000 < t ∧ (m < 0 ∨ 10000 < m))
theorem const_good {f to u b m1 m2 : Int} (h1 : Nx to m1) (h2 : Nx u m2) : Const (goodB f to u) [0, f, m1, m2, b] := fun s t hs hst ht hm => by
  have k1 := hm f (by simp)
  have k2 := hm m1 (by simp)
  have k3 := hm m2 (by simp)
  unfold Nx at h1 h2
  rw [Bool.eq_iff_iff, good_iff, good_iff]
  refine and_congr Iff.rfl ?_
  omega
theorem const_bad {f to b m1 m2 : Int} (h1 : Nx to m1) : Const (badB f to b) [0, f, m1, m2, b] := fun s t hs hst ht hm => by
  have k1 := hm f (by simp)
  have k2 := hm m1 (by simp)
  have k3 := hm b (by simp)
  unfold Nx at h1
  rw [Bool.eq_iff_iff, bad_iff, bad_iff]
  omega
theorem const_open {f to u b m1 m2 : Int} (h1 : Nx to m1) (h2 : Nx u m2) : Const (openB f to u b) [0, f, m1, m2, b] := fun s t hs hst ht hm => by
  unfold openB
  rw [const_good (b := b) h1 h2 s t hs hst ht hm, const_bad (m2 := m2) h1 s t hs hst ht hm]

/-! ### the reference's ways -/
def put (L : List Sp) (a b : Int) : List Sp := if max 0 a ≤ min 10000 b then L ++ [(max 0 a, min 10000 b)] else L
theorem put_yes {L : List Sp} {a b : Int} (h : max 0 a ≤ min 10000 b) : put L a b = L ++ [(max 0 a, min 10000 b)] := if_pos h
theorem put_no {L : List Sp} {a b : Int} (h : ¬ max 0 a ≤ min 10000 b) : put L a b = L := if_neg h
theorem put_has {L : List Sp} {a b t : Int} : Has (put L a b) t ↔ Has L t ∨ ((0 ≤ t ∧ t ≤ 10000) ∧ a ≤ t ∧ t ≤ b) := by
  by_cases h : max 0 a ≤ min 10000 b
  · rw [put_yes h, Has_append, Has_one]
    refine or_congr Iff.rfl ⟨fun ⟨_, h1, h2⟩ => ?_, fun h1 => ⟨okB_mk (by simp only; omega), ?_, ?_⟩⟩
    · simp only at h1 h2; omega
    · show max 0 a ≤ t; omega
    · show t ≤ min 10000 b; omega
  · rw [put_no h]
    exact ⟨.inl, fun k => k.elim id fun k => by omega⟩
theorem put_len (L : List Sp) (a b : Int) : (put L a b).length ≤ L.length + 1 := by
  unfold put
  split
  · simp
  · omega
theorem good_ref {f to u : Int} (h0 : 0 ≤ u) (h1 : u ≤ 10000) : join (mall [(f, to)] [(0, u)]) = cov (goodB f to u) := join_cov fun t => by
  rw [mall_has, Has_one, Has_one, good_iff]
  have ho : okB ((0 : Int), u) = true := okB_mk (by simp only; omega)
  constructor
  · rintro ⟨⟨h2, h3, h4⟩, _, h5, h6⟩
    have v := okB_yes h2
    simp only at h3 h4 h5 h6 v
    exact ⟨by omega, h2, ⟨h3, h4⟩, h6, h1⟩
  · rintro ⟨h2, h3, h4, h5, h6⟩
    exact ⟨⟨h3, h4.1, h4.2⟩, ho, h2.1, h5⟩
theorem good_none {f to u : Int} (h : u < 0 ∨ 10000 < u) : cov (goodB f to u) = [] := cov_none fun t h0 h1 => by
  rw [Bool.eq_false_iff]
  intro k
  have := (good_iff.1 k).2
  omega
def badL (f to b : Int) : List Sp := put (if to < 10000 then put (if 0 < f then put [] 0 (f - 1) else []) (to + 1) 10000 else (if 0 < f then put [] 0 (f - 1) else [])) b 10000
theorem bad_ref (f to b : Int) : join (badL f to b) = cov (badB f to b) := join_cov fun t => by
  have h1 : Has (if 0 < f then put [] 0 (f - 1) else []) t ↔ (0 ≤ t ∧ t ≤ 10000) ∧ t < f := by
    by_cases h : 0 < f
    · rw [if_pos h, put_has]
      exact ⟨fun k => k.elim (fun k => absurd k (Has_nil t)) fun k => by omega, fun k => .inr (by omega)⟩
    · rw [if_neg h]
      exact ⟨fun k => absurd k (Has_nil t), fun k => by omega⟩
  unfold badL
  rw [put_has, bad_iff]
  by_cases h : to < 10000
  · rw [if_pos h, put_has, h1]; omega
  · rw [if_neg h, h1]; omega
theorem badL_len (f to b : Int) : (badL f to b).length ≤ 3 := by
  unfold badL
  have h1 := fun L => put_len L b 10000
  have h2 := fun L => put_len L (to + 1) 10000
  have h3 := put_len [] 0 (f - 1)
  simp only [List.length_nil] at h3
  split <;> split
  all_goals
    first
      | (have a := h1 (put (put [] 0 (f - 1)) (to + 1) 10000); have b := h2 (put [] 0 (f - 1)); omega)
      | (have a := h1 (put [] (to + 1) 10000); have b := h2 []; simp only [List.length_nil] at b; omega)
      | (have a := h1 (put [] 0 (f - 1)); omega)
      | (have a := h1 []; simp only [List.length_nil] at a; omega)
/-- the gaps of a list in order: what has been put, and where the next gap begins -/
structure Gap (all : List Sp) (i : Nat) (out : List Sp) (nx : Int) : Prop where
  can : Jn.Can out
  lo : 0 ≤ nx ∧ nx ≤ 10001
  ap : ∀ x ∈ out, x.2 + 1 < nx
  past : ∀ x ∈ all.take i, x.2 < nx
  fol : ∀ y ∈ all.drop i, nx ≤ y.1
  has : ∀ t, Has out t ↔ (0 ≤ t ∧ t < nx) ∧ ¬ Has (all.take i) t
  len : out.length ≤ i
theorem Gap.start {all : List Sp} (h : Jn.Can all) : Gap all 0 [] 0 := ⟨Can_nil, by omega, fun _ h => (by cases h), fun _ h => (by cases h), fun y hy => (okB_yes (h.ok (List.mem_of_mem_drop hy))).1, fun t => ⟨fun k => absurd k (Has_nil t), fun k => by omega⟩, Nat.le_refl _⟩
theorem put_gap {out : List Sp} {nx e : Int} (hc : Jn.Can out) (h0 : 0 ≤ nx ∧ nx ≤ 10001) (ha : ∀ x ∈ out, x.2 + 1 < nx) (he : e ≤ 10000) : Jn.Can (put out nx e) ∧ ∀ x ∈ put out nx e, x.2 ≤ e ∨ x.2 + 1 < nx := by
  by_cases h : max 0 nx ≤ min 10000 e
  · rw [put_yes h]
    have e1 : max 0 nx = nx := by omega
    have e2 : min 10000 e = e := by omega
    rw [e1, e2]
    refine ⟨Can_append.2 ⟨hc, Can_one (okB_mk (by simp only; omega)), fun x hx y hy => ?_⟩, fun x hx => ?_⟩
    · rw [List.mem_singleton] at hy
      rw [hy]
      exact ha x hx
    · rcases List.mem_append.1 hx with hx | hx
      · exact .inr (ha x hx)
      · rw [List.mem_singleton] at hx
        rw [hx]
        exact .inl (Int.le_refl _)
  · rw [put_no h]
    exact ⟨hc, fun x hx => .inr (ha x hx)⟩
theorem Gap.next {all out : List Sp} {i : Nat} {nx : Int} (h : Gap all i out nx) (hA : Jn.Can all) (hi : i < all.length) : Gap all (i + 1) (put out nx (all[i].1 - 1)) (all[i].2 + 1) := by
  have hd := Can_drop hA i
  rw [drop_at hi] at hd
  obtain ⟨ox, ax, _⟩ := Can_cons.1 hd
  have vx := okB_yes ox
  have hf := h.fol all[i] (by rw [drop_at hi]; exact List.mem_cons_self ..)
  obtain ⟨p1, p2⟩ := put_gap h.can h.lo h.ap (e := all[i].1 - 1) (by omega)
  refine ⟨p1, by omega, fun x hx => ?_, fun x hx => ?_, fun y hy => ?_, fun t => ?_, ?_⟩
  · rcases p2 x hx with k | k <;> omega
  · rw [take_at hi] at hx
    rcases List.mem_append.1 hx with hx | hx
    · have := h.past x hx
      omega
    · rw [List.mem_singleton] at hx
      rw [hx]
      omega
  · have := ax y hy
    omega
  · rw [put_has, h.has, take_at hi, Has_append, Has_one, not_or]
    constructor
    · rintro (⟨k1, k2⟩ | ⟨k1, k2, k3⟩)
      · exact ⟨by omega, k2, fun k => by omega⟩
      · refine ⟨by omega, ?_, fun k => by omega⟩
        rintro ⟨s, hs, os, g1, g2⟩
        have := h.past s hs
        omega
    · rintro ⟨k1, k2, k3⟩
      by_cases k4 : t < nx
      · exact .inl ⟨by omega, k2⟩
      · exact .inr ⟨by omega, by omega, by
          rcases Int.lt_or_le (all[i].1 - 1) t with k5 | k5
          · exact absurd ⟨ox, by omega, by omega⟩ k3
          · exact k5⟩
  · have := put_len out nx (all[i].1 - 1)
    have := h.len
    omega
/-- the last gap: all the times of none of them -/
theorem Gap.done {all out : List Sp} {nx : Int} {f to u b : Int} (h : Gap all all.length out nx) (ha : ∀ t, Has all t ↔ (0 ≤ t ∧ t ≤ 10000) ∧ (goodB f to u t = true ∨ badB f to b t = true)) : put out nx 10000 = cov (openB f to u b) := by
  obtain ⟨p1, _⟩ := put_gap h.can h.lo h.ap (e := 10000) (by omega)
  refine cov_of p1 fun t => ?_
  rw [put_has, h.has, List.take_length, open_iff]
  have hp := h.past
  rw [List.take_length] at hp
  constructor
  · rintro (⟨k1, k2⟩ | ⟨k1, k2⟩)
    · have hl := h.lo
      refine ⟨by omega, fun k => k2 ((ha t).2 ⟨by omega, .inl k⟩), fun k => k2 ((ha t).2 ⟨by omega, .inr k⟩)⟩
    · have hn : ¬ Has all t := by
        rintro ⟨s, hs, os, g1, g2⟩
        have := hp s hs
        omega
      exact ⟨k1, fun k => hn ((ha t).2 ⟨k1, .inl k⟩), fun k => hn ((ha t).2 ⟨k1, .inr k⟩)⟩
  · rintro ⟨k1, k2, k3⟩
    by_cases k4 : t < nx
    · exact .inl ⟨by omega, fun k => ((ha t).1 k).2.elim k2 k3⟩
    · exact .inr ⟨k1, by omega, k1.2⟩
theorem all_has {f to u b : Int} (t : Int) : Has (join (cov (goodB f to u) ++ cov (badB f to b))) t ↔ (0 ≤ t ∧ t ≤ 10000) ∧ (goodB f to u t = true ∨ badB f to b t = true) := by
  rw [join_has, Has_append, cov_has, cov_has, ← and_or_left]
end Go.Proofs.Ytlgkgccmilapbaa.Egm
