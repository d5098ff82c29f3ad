/- The mathematics of AgreedSpan: a sweep over sorted edges tells what the reference tells. The agreement of AgreedSpan: enter and leave. -/
import Derived.Test.YtfojilogcecphaaGreatKit
import Derived.Test.YtfojilogcecphaaGreatInt
import Derived.Test.YtfojilogcecphaaGreatBx
import Derived.Test.YtfojilogcecphaaGreatStM
import Derived.Deep.RegionHeld3
import Derived.Test.YtfojilogcecphaaGreatQrA
import Derived.LoopTactic
namespace Go.Proofs.YtfojilogcecphaaGreat.Agm
abbrev E2 := Int × Int
/-- the order of the edges: by time, and at one time spans are entered first -/
def le2 (a b : E2) : Prop := a.1 < b.1 ∨ (a.1 = b.1 ∧ a.2 ≤ b.2)
def ent (p : List E2) : Nat := p.countP fun e => decide (e.2 = 0)
def lea (p : List E2) : Nat := p.countP fun e => decide (e.2 = 1)
def up (E : List E2) (t : Int) : Nat := E.countP fun e => decide (e.2 = 0) && decide (e.1 ≤ t)
def dn (E : List E2) (t : Int) : Nat := E.countP fun e => decide (e.2 = 1) && decide (e.1 < t)
def at0 (E : List E2) (t : Int) : Nat := E.countP fun e => decide (e.2 = 0) && decide (e.1 = t)
def at1 (E : List E2) (t : Int) : Nat := E.countP fun e => decide (e.2 = 1) && decide (e.1 = t)
/-- how many spans have the time t -/
def N (E : List E2) (t : Int) : Int := (up E t : Int) - (dn E t : Int)
theorem lea_split (t : Int) : ∀ p : List E2, (∀ x ∈ p, x.1 ≤ t) → lea p = dn p t + at1 p t
  | [], _ => rfl
  | x :: p, h => by
    have ih := lea_split t p (fun y hy => h y (List.mem_cons_of_mem _ hy))
    have hx := h x List.mem_cons_self
    unfold lea dn at1 at *
    rw [List.countP_cons, List.countP_cons, List.countP_cons]
    by_cases h1 : x.2 = 1
    · by_cases h2 : x.1 < t
      · have h3 : ¬ x.1 = t := by omega
        simp [h1, h2, h3]; omega
      · have h3 : x.1 = t := by omega
        simp [h1, h3]; omega
    · simp [h1]; omega
theorem up_all {p : List E2} {t : Int} (h : ∀ x ∈ p, x.1 ≤ t) : up p t = ent p := List.countP_congr fun x hx => by simp [h x hx]
theorem dn_all {p : List E2} {t : Int} (h : ∀ x ∈ p, x.2 = 1 → x.1 < t) : dn p t = lea p := List.countP_congr fun x hx => by
  by_cases h1 : x.2 = 1
  · simp [h1, h x hx h1]
  · simp [h1]
theorem up_at {p : List E2} {t : Int} (h : ∀ x ∈ p, t ≤ x.1) : up p t = at0 p t := List.countP_congr fun x hx => by
  have := h x hx
  simp only [Bool.and_eq_true, decide_eq_true_eq]
  omega
theorem up_zero {p : List E2} {t : Int} (h : ∀ x ∈ p, x.2 = 0 → t < x.1) : up p t = 0 := List.countP_eq_zero.2 fun x hx => by
  simp only [Bool.and_eq_true, decide_eq_true_eq]
  intro ⟨a, b⟩
  have := h x hx a
  omega
theorem dn_zero {p : List E2} {t : Int} (h : ∀ x ∈ p, t ≤ x.1) : dn p t = 0 := List.countP_eq_zero.2 fun x hx => by
  simp only [Bool.and_eq_true, decide_eq_true_eq]
  have := h x hx
  omega
theorem at0_pos {p : List E2} {t : Int} (h : 0 < at0 p t) : ∃ x ∈ p, x.2 = 0 ∧ x.1 = t := by
  obtain ⟨x, hx, h2⟩ := List.countP_pos_iff.1 h
  simp only [Bool.and_eq_true, decide_eq_true_eq] at h2
  exact ⟨x, hx, h2.1, h2.2⟩
theorem at1_pos {p : List E2} {t : Int} (h : 0 < at1 p t) : ∃ x ∈ p, x.2 = 1 ∧ x.1 = t := by
  obtain ⟨x, hx, h2⟩ := List.countP_pos_iff.1 h
  simp only [Bool.and_eq_true, decide_eq_true_eq] at h2
  exact ⟨x, hx, h2.1, h2.2⟩
theorem le2_time {a b : E2} (h : le2 a b) : a.1 ≤ b.1 := by unfold le2 at h; omega
theorem enterN {p s : List E2} {e : E2} (h : (p ++ e :: s).Pairwise le2) (h0 : e.2 = 0) : N (p ++ e :: s) e.1 = (ent p : Int) - lea p + 1 + at0 s e.1 := by
  obtain ⟨_, hs, hp⟩ := List.pairwise_append.1 h
  have hs := (List.pairwise_cons.1 hs).1
  have hp : ∀ x ∈ p, le2 x e := fun x hx => hp x hx e List.mem_cons_self
  have a1 : up p e.1 = ent p := up_all fun x hx => le2_time (hp x hx)
  have a2 : dn p e.1 = lea p := dn_all fun x hx h1 => by have := hp x hx; unfold le2 at this; omega
  have a3 : up s e.1 = at0 s e.1 := up_at fun x hx => le2_time (hs x hx)
  have a4 : dn s e.1 = 0 := dn_zero fun x hx => le2_time (hs x hx)
  unfold N
  unfold up dn at *
  rw [List.countP_append, List.countP_append, List.countP_cons, List.countP_cons, a1, a2, a3, a4]
  simp [h0]
  omega
theorem leaveN {p s : List E2} {e : E2} (h : (p ++ e :: s).Pairwise le2) (h1 : e.2 = 1) : N (p ++ e :: s) e.1 = (ent p : Int) - lea p + at1 p e.1 := by
  obtain ⟨_, hs, hp⟩ := List.pairwise_append.1 h
  have hs := (List.pairwise_cons.1 hs).1
  have hp : ∀ x ∈ p, le2 x e := fun x hx => hp x hx e List.mem_cons_self
  have a1 : up p e.1 = ent p := up_all fun x hx => le2_time (hp x hx)
  have a2 := lea_split e.1 p fun x hx => le2_time (hp x hx)
  have a3 : up s e.1 = 0 := up_zero fun x hx h0 => by have := hs x hx; unfold le2 at this; omega
  have a4 : dn s e.1 = 0 := dn_zero fun x hx => le2_time (hs x hx)
  unfold N
  unfold up dn at *
  rw [List.countP_append, List.countP_append, List.countP_cons, List.countP_cons, a1, a3, a4]
  simp [h1]
  omega
/-- a step of the sweep: (count, from, to, found) -/
def stp (need : Int) (st : Int × Int × Int × Bool) (e : E2) : Int × Int × Int × Bool :=
  if e.2 = 0 then (st.1 + 1, if need ≤ st.1 + 1 ∧ st.2.2.2 = false then e.1 else st.2.1, st.2.2.1, st.2.2.2 || decide (need ≤ st.1 + 1))
  else (st.1 - 1, st.2.1, if need ≤ st.1 then e.1 else st.2.2.1, st.2.2.2)
structure Inv (need : Int) (E p s : List E2) (c f t : Int) (b : Bool) : Prop where
  c_ : c = (ent p : Int) - lea p
  yes : b = true → (∃ e ∈ E, e.2 = 0 ∧ e.1 = f) ∧ need ≤ N E f ∧ ∀ e ∈ E, e.2 = 0 → need ≤ N E e.1 → f ≤ e.1
  no : b = false → ∀ e ∈ p, e.2 = 0 → need ≤ N E e.1 → ∃ e' ∈ s, e'.2 = 0 ∧ e'.1 = e.1
  low : b = false → c < need
  zero : b = false → t = 0
  top : ∀ e ∈ p, e.2 = 1 → need ≤ N E e.1 → e.1 ≤ t
  zf : b = false → f = 0
  got : b = true → (∃ e ∈ p, e.2 = 1 ∧ need ≤ N E e.1 ∧ e.1 = t) ∨ need ≤ c
theorem ent_snoc (p : List E2) (e : E2) : ent (p ++ [e]) = ent p + if e.2 = 0 then 1 else 0 := by unfold ent; rw [List.countP_append, List.countP_cons]; simp
theorem lea_snoc (p : List E2) (e : E2) : lea (p ++ [e]) = lea p + if e.2 = 1 then 1 else 0 := by unfold lea; rw [List.countP_append, List.countP_cons]; simp
theorem Inv.enter {need : Int} {p s : List E2} {e : E2} {c f t : Int} {b : Bool} (h : Inv need (p ++ e :: s) p (e :: s) c f t b) (hs : (p ++ e :: s).Pairwise le2) (h0 : e.2 = 0) :
    Inv need (p ++ e :: s) (p ++ [e]) s (c + 1) (if need ≤ c + 1 ∧ b = false then e.1 else f) t (b || decide (need ≤ c + 1)) := by
  have hN := enterN hs h0
  have hc := h.c_
  obtain ⟨_, hss, hpp⟩ := List.pairwise_append.1 hs
  have hle : ∀ x ∈ e :: s, e.1 ≤ x.1 := fun x hx => by
    rcases List.mem_cons.1 hx with rfl | hx
    · exact Int.le_refl _
    · exact le2_time ((List.pairwise_cons.1 hss).1 x hx)
  have hne : ¬ e.2 = 1 := by omega
  cases b
  · have hno := h.no rfl
    have hz := h.zero rfl
    by_cases hn : need ≤ c + 1
    · have hb : (false || decide (need ≤ c + 1)) = true := by simp [hn]
      rw [hb, if_pos ⟨hn, rfl⟩]
      refine ⟨by rw [ent_snoc, lea_snoc]; simp [h0]; omega, fun _ => ⟨⟨e, by simp, h0, rfl⟩, by omega, fun x hx hx0 hxN => ?_⟩, (by simp), (by simp), (by simp), fun x hx h1 hxN => ?_, (by simp), fun _ => Or.inr hn⟩
      · rcases List.mem_append.1 hx with hx | hx
        · obtain ⟨y, hy, hy0, hy1⟩ := hno x hx hx0 hxN
          have := hle y hy
          omega
        · exact hle x hx
      · rcases List.mem_append.1 hx with hx | hx
        · exact h.top x hx h1 hxN
        · simp at hx; subst hx; exact absurd h1 hne
    · have hb : (false || decide (need ≤ c + 1)) = false := by simp [hn]
      rw [hb, if_neg (fun q => hn q.1)]
      refine ⟨by rw [ent_snoc, lea_snoc]; simp [h0]; omega, (by simp), fun _ x hx hx0 hxN => ?_, fun _ => by omega, fun _ => hz, fun x hx h1 hxN => ?_, fun _ => h.zf rfl, (by simp)⟩
      · have key : x.1 = e.1 → ∃ e' ∈ s, e'.2 = 0 ∧ e'.1 = x.1 := fun he => by
          rw [he] at hxN ⊢
          exact at0_pos (by omega)
        rcases List.mem_append.1 hx with hx | hx
        · obtain ⟨y, hy, hy0, hy1⟩ := hno x hx hx0 hxN
          rcases List.mem_cons.1 hy with rfl | hy
          · exact key hy1.symm
          · exact ⟨y, hy, hy0, hy1⟩
        · simp at hx; subst hx; exact key rfl
      · rcases List.mem_append.1 hx with hx | hx
        · exact h.top x hx h1 hxN
        · simp at hx; subst hx; exact absurd h1 hne
  · rw [if_neg (fun q => by simp at q), Bool.true_or]
    refine ⟨by rw [ent_snoc, lea_snoc]; simp [h0]; omega, fun _ => h.yes rfl, (by simp), (by simp), (by simp), fun x hx h1 hxN => ?_, (by simp), fun _ => ?_⟩
    · rcases List.mem_append.1 hx with hx | hx
      · exact h.top x hx h1 hxN
      · simp at hx; subst hx; exact absurd h1 hne
    · rcases h.got rfl with ⟨x, hx, g⟩ | g
      · exact Or.inl ⟨x, List.mem_append_left _ hx, g⟩
      · exact Or.inr (by omega)
theorem Inv.leave {need : Int} {p s : List E2} {e : E2} {c f t : Int} {b : Bool} (h : Inv need (p ++ e :: s) p (e :: s) c f t b) (hs : (p ++ e :: s).Pairwise le2) (h1 : e.2 = 1) :
    Inv need (p ++ e :: s) (p ++ [e]) s (c - 1) f (if need ≤ c then e.1 else t) b := by
  have hN := leaveN hs h1
  have hc := h.c_
  obtain ⟨_, _, hpp⟩ := List.pairwise_append.1 hs
  have hle : ∀ x ∈ p, x.1 ≤ e.1 := fun x hx => le2_time (hpp x hx e List.mem_cons_self)
  have hcc : c - 1 = (ent (p ++ [e]) : Int) - lea (p ++ [e]) := by rw [ent_snoc, lea_snoc]; simp [h1]; omega
  have hno : b = false → ∀ x ∈ p ++ [e], x.2 = 0 → need ≤ N (p ++ e :: s) x.1 → ∃ e' ∈ s, e'.2 = 0 ∧ e'.1 = x.1 := fun hb x hx hx0 hxN => by
    rcases List.mem_append.1 hx with hx | hx
    · obtain ⟨y, hy, hy0, hy1⟩ := h.no hb x hx hx0 hxN
      rcases List.mem_cons.1 hy with rfl | hy
      · omega
      · exact ⟨y, hy, hy0, hy1⟩
    · simp at hx; subst hx; omega
  by_cases hn : need ≤ c
  · rw [if_pos hn]
    have hbt : b = true := by
      cases b
      · have := h.low rfl; omega
      · rfl
    subst hbt
    refine ⟨hcc, h.yes, hno, (by simp), (by simp), fun x hx hx1 hxN => ?_, (by simp), fun _ => Or.inl ⟨e, by simp, h1, by omega, rfl⟩⟩
    rcases List.mem_append.1 hx with hx | hx
    · exact hle x hx
    · simp at hx; subst hx; exact Int.le_refl _
  · rw [if_neg hn]
    refine ⟨hcc, h.yes, hno, fun hb => by have := h.low hb; omega, h.zero, fun x hx hx1 hxN => ?_, h.zf, fun hb => ?_⟩
    · rcases List.mem_append.1 hx with hx | hx
      · exact h.top x hx hx1 hxN
      · simp at hx
        subst hx
        obtain ⟨y, hy, hy1, hyt⟩ := at1_pos (p := p) (t := x.1) (by omega)
        have := h.top y hy hy1 (by rw [hyt]; exact hxN)
        omega
    · rcases h.got hb with ⟨x, hx, g⟩ | g
      · exact Or.inl ⟨x, List.mem_append_left _ hx, g⟩
      · exact absurd g hn
theorem sweep (need : Int) : ∀ (s p : List E2) (c f t : Int) (b : Bool), (p ++ s).Pairwise le2 → (∀ e ∈ p ++ s, e.2 = 0 ∨ e.2 = 1) → Inv need (p ++ s) p s c f t b →
    Inv need (p ++ s) (p ++ s) [] (s.foldl (stp need) (c, f, t, b)).1 (s.foldl (stp need) (c, f, t, b)).2.1 (s.foldl (stp need) (c, f, t, b)).2.2.1 (s.foldl (stp need) (c, f, t, b)).2.2.2
  | [], p, c, f, t, b, _, _, h => by
    rw [List.append_nil] at h ⊢
    exact h
  | e :: s, p, c, f, t, b, hs, hk, h => by
    have e1 : p ++ e :: s = (p ++ [e]) ++ s := by simp
    rw [List.foldl_cons]
    rcases hk e (by simp) with h0 | h1
    · have g := h.enter hs h0
      have es : stp need (c, f, t, b) e = (c + 1, if need ≤ c + 1 ∧ b = false then e.1 else f, t, b || decide (need ≤ c + 1)) := if_pos h0
      rw [es]
      rw [e1] at g hs hk ⊢
      exact sweep need s (p ++ [e]) _ _ _ _ hs hk g
    · have g := h.leave hs h1
      have es : stp need (c, f, t, b) e = (c - 1, f, if need ≤ c then e.1 else t, b) := if_neg (by omega)
      rw [es]
      rw [e1] at g hs hk ⊢
      exact sweep need s (p ++ [e]) _ _ _ _ hs hk g
theorem Inv.start {need : Int} (E : List E2) (h : 1 ≤ need) : Inv need E [] E 0 0 0 false := ⟨by simp [ent, lea], (by simp), (by simp), fun _ => by omega, fun _ => rfl, (by simp), fun _ => rfl, (by simp)⟩
/-! ### spans -/
/-- the edges of the valid spans -/
def es (ok : Int × Int → Bool) (l : List (Int × Int)) : List E2 := l.flatMap fun s => if ok s = true then [(s.1, 0), (s.2, 1)] else []
def cnt (ok : Int × Int → Bool) (l : List (Int × Int)) (t : Int) : Nat := l.countP fun s => ok s && (decide (s.1 ≤ t) && decide (t ≤ s.2))
theorem es_cons (ok : Int × Int → Bool) (s : Int × Int) (l : List (Int × Int)) : es ok (s :: l) = (if ok s = true then [(s.1, 0), (s.2, 1)] else []) ++ es ok l := rfl
theorem N_append (p q : List E2) (t : Int) : N (p ++ q) t = N p t + N q t := by
  unfold N up dn
  rw [List.countP_append, List.countP_append]
  omega
theorem N_es {ok : Int × Int → Bool} (hok : ∀ s, ok s = true → 0 ≤ s.1 ∧ s.1 ≤ s.2) (t : Int) : ∀ l : List (Int × Int), N (es ok l) t = cnt ok l t
  | [] => rfl
  | s :: l => by
    have ih := N_es hok t l
    rw [es_cons, N_append, ih]
    unfold cnt
    rw [List.countP_cons]
    by_cases h : ok s = true
    · have := hok s h
      rw [if_pos h]
      unfold N up dn
      simp only [List.countP_cons, List.countP_nil, h]
      by_cases h1 : s.1 ≤ t
      · by_cases h2 : t ≤ s.2
        · have h3 : ¬ s.2 < t := by omega
          simp [h1, h2, h3]; omega
        · have h3 : s.2 < t := by omega
          simp [h1, h2, h3]
      · have h3 : ¬ s.2 < t := by omega
        simp [h1, h3]
    · rw [if_neg h]
      simp [h, N, up, dn]
theorem ent_es (ok : Int × Int → Bool) : ∀ l : List (Int × Int), ent (es ok l) = lea (es ok l)
  | [] => rfl
  | s :: l => by
    have ih := ent_es ok l
    rw [es_cons]
    unfold ent lea at *
    rw [List.countP_append, List.countP_append, ih]
    by_cases h : ok s = true
    · rw [if_pos h]; simp
    · rw [if_neg h]; simp
theorem N_perm {E E' : List E2} (h : E.Perm E') (t : Int) : N E t = N E' t := by
  unfold N up dn
  rw [h.countP_eq, h.countP_eq]
theorem mem_es {ok : Int × Int → Bool} {l : List (Int × Int)} {e : E2} : e ∈ es ok l ↔ ∃ s ∈ l, ok s = true ∧ (e = (s.1, 0) ∨ e = (s.2, 1)) := by
  unfold es
  rw [List.mem_flatMap]
  constructor
  · rintro ⟨s, hs, h⟩
    by_cases hk : ok s = true
    · rw [if_pos hk] at h
      exact ⟨s, hs, hk, by simpa using h⟩
    · rw [if_neg hk] at h; simp at h
  · rintro ⟨s, hs, hk, h⟩
    exact ⟨s, hs, by rw [if_pos hk]; simpa using h⟩
/-- a step of the reference: (first, last) -/
def sst (ok : Int × Int → Bool) (G : Int → Bool) (st : Int × Int) (s : Int × Int) : Int × Int :=
  (if (ok s && G s.1 && (decide (st.1 < 0) || decide (s.1 < st.1))) = true then s.1 else st.1, if (ok s && G s.2) = true then (if st.2 < s.2 then s.2 else st.2) else st.2)
structure SpC (ok : Int × Int → Bool) (G : Int → Bool) (p : List (Int × Int)) (f t : Int) : Prop where
  first : (f = -1 ∧ ∀ s ∈ p, ok s = true → ¬ G s.1 = true) ∨ (0 ≤ f ∧ (∃ s ∈ p, ok s = true ∧ G s.1 = true ∧ s.1 = f) ∧ ∀ s ∈ p, ok s = true → G s.1 = true → f ≤ s.1)
  last : (t = -1 ∨ ∃ s ∈ p, ok s = true ∧ G s.2 = true ∧ s.2 = t) ∧ ∀ s ∈ p, ok s = true → G s.2 = true → s.2 ≤ t
theorem SpC.step {ok : Int × Int → Bool} (hok : ∀ s, ok s = true → 0 ≤ s.1 ∧ s.1 ≤ s.2) {G : Int → Bool} {p : List (Int × Int)} {f t : Int} (h : SpC ok G p f t) (s : Int × Int) : SpC ok G (p ++ [s]) (sst ok G (f, t) s).1 (sst ok G (f, t) s).2 := by
  obtain ⟨h1, h2, h3⟩ := h
  have mem : ∀ {x : Int × Int}, x ∈ p ++ [s] → x ∈ p ∨ x = s := fun hx => by simpa using hx
  constructor
  · show (_ ∨ _)
    unfold sst
    simp only
    by_cases hk : ok s = true
    · by_cases hg : G s.1 = true
      · have hs := hok s hk
        by_cases hc : f < 0 ∨ s.1 < f
        · rw [if_pos (by simp [hk, hg]; exact hc)]
          refine Or.inr ⟨hs.1, ⟨s, by simp, hk, hg, rfl⟩, fun x hx hxk hxg => ?_⟩
          rcases mem hx with hx | rfl
          · rcases h1 with ⟨_, g⟩ | ⟨g0, _, g⟩
            · exact absurd hxg (g x hx hxk)
            · have := g x hx hxk hxg; omega
          · exact Int.le_refl _
        · rw [if_neg (by simp [hk, hg]; omega)]
          rcases h1 with ⟨g, _⟩ | ⟨g0, ⟨y, hy, gy⟩, g⟩
          · omega
          · refine Or.inr ⟨g0, ⟨y, List.mem_append_left _ hy, gy⟩, fun x hx hxk hxg => ?_⟩
            rcases mem hx with hx | rfl
            · exact g x hx hxk hxg
            · omega
      · rw [if_neg (by simp [hg])]
        rcases h1 with ⟨g0, g⟩ | ⟨g0, ⟨y, hy, gy⟩, g⟩
        · refine Or.inl ⟨g0, fun x hx hxk => ?_⟩
          rcases mem hx with hx | rfl
          · exact g x hx hxk
          · exact hg
        · refine Or.inr ⟨g0, ⟨y, List.mem_append_left _ hy, gy⟩, fun x hx hxk hxg => ?_⟩
          rcases mem hx with hx | rfl
          · exact g x hx hxk hxg
          · exact absurd hxg hg
    · rw [if_neg (by simp [hk])]
      rcases h1 with ⟨g0, g⟩ | ⟨g0, ⟨y, hy, gy⟩, g⟩
      · refine Or.inl ⟨g0, fun x hx hxk => ?_⟩
        rcases mem hx with hx | rfl
        · exact g x hx hxk
        · exact absurd hxk hk
      · refine Or.inr ⟨g0, ⟨y, List.mem_append_left _ hy, gy⟩, fun x hx hxk hxg => ?_⟩
        rcases mem hx with hx | rfl
        · exact g x hx hxk hxg
        · exact absurd hxk hk
  · unfold sst
    simp only
    by_cases hk : ok s = true
    · by_cases hg : G s.2 = true
      · rw [if_pos (by simp [hk, hg])]
        by_cases hc : t < s.2
        · rw [if_pos hc]
          refine ⟨Or.inr ⟨s, by simp, hk, hg, rfl⟩, fun x hx hxk hxg => ?_⟩
          rcases mem hx with hx | rfl
          · have := h3 x hx hxk hxg; omega
          · exact Int.le_refl _
        · rw [if_neg hc]
          refine ⟨?_, fun x hx hxk hxg => ?_⟩
          · rcases h2 with g | ⟨y, hy, gy⟩
            · exact Or.inl g
            · exact Or.inr ⟨y, List.mem_append_left _ hy, gy⟩
          · rcases mem hx with hx | rfl
            · exact h3 x hx hxk hxg
            · omega
      · rw [if_neg (by simp [hg])]
        refine ⟨?_, fun x hx hxk hxg => ?_⟩
        · rcases h2 with g | ⟨y, hy, gy⟩
          · exact Or.inl g
          · exact Or.inr ⟨y, List.mem_append_left _ hy, gy⟩
        · rcases mem hx with hx | rfl
          · exact h3 x hx hxk hxg
          · exact absurd hxg hg
    · rw [if_neg (by simp [hk])]
      refine ⟨?_, fun x hx hxk hxg => ?_⟩
      · rcases h2 with g | ⟨y, hy, gy⟩
        · exact Or.inl g
        · exact Or.inr ⟨y, List.mem_append_left _ hy, gy⟩
      · rcases mem hx with hx | rfl
        · exact h3 x hx hxk hxg
        · exact absurd hxk hk
theorem SpC.all {ok : Int × Int → Bool} (hok : ∀ s, ok s = true → 0 ≤ s.1 ∧ s.1 ≤ s.2) {G : Int → Bool} : ∀ (l p : List (Int × Int)) (f t : Int), SpC ok G p f t → SpC ok G (p ++ l) (l.foldl (sst ok G) (f, t)).1 (l.foldl (sst ok G) (f, t)).2
  | [], p, f, t, h => by rw [List.append_nil]; exact h
  | s :: l, p, f, t, h => by
    have g := h.step hok s
    rw [List.foldl_cons, show p ++ s :: l = (p ++ [s]) ++ l by simp]
    exact SpC.all hok l (p ++ [s]) _ _ g
/-- what the reference tells -/
def tell (q : Int × Int) : (Int × Int) × Bool := if q.1 < 0 then ((0, 0), false) else (q, true)
/-- the sweep over the sorted edges tells what the reference tells -/
theorem agree {ok : Int × Int → Bool} (hok : ∀ s, ok s = true → 0 ≤ s.1 ∧ s.1 ≤ s.2) (l : List (Int × Int)) (need : Int) (hn : 1 ≤ need) (E : List E2) (hp : E.Perm (es ok l)) (hs : E.Pairwise le2) :
    (((E.foldl (stp need) (0, 0, 0, false)).2.1, (E.foldl (stp need) (0, 0, 0, false)).2.2.1), (E.foldl (stp need) (0, 0, 0, false)).2.2.2) = tell (l.foldl (sst ok fun t => decide (need ≤ (cnt ok l t : Int))) (-1, -1)) := by
  have hk : ∀ e ∈ E, e.2 = 0 ∨ e.2 = 1 := fun e he => by
    obtain ⟨s, _, _, h | h⟩ := mem_es.1 (hp.mem_iff.1 he)
    · exact Or.inl (by rw [h])
    · exact Or.inr (by rw [h])
  have h := sweep need E [] 0 0 0 false hs hk (Inv.start E hn)
  have g := SpC.all hok (G := fun t => decide (need ≤ (cnt ok l t : Int))) l [] (-1) (-1) ⟨Or.inl ⟨rfl, by simp⟩, Or.inl rfl, by simp⟩
  rw [List.nil_append] at h g
  have hN : ∀ t, N E t = cnt ok l t := fun t => (N_perm hp t).trans (N_es hok t l)
  generalize E.foldl (stp need) (0, 0, 0, false) = r at h ⊢
  generalize l.foldl (sst ok fun t => decide (need ≤ (cnt ok l t : Int))) (-1, -1) = q at g ⊢
  obtain ⟨c, f, t, b⟩ := r
  obtain ⟨q1, q2⟩ := q
  obtain ⟨g1, g2, g3⟩ := g
  simp only at h g1 g2 g3 ⊢
  simp only [decide_eq_true_eq] at g1 g2 g3
  have e0 : ∀ s ∈ l, ok s = true → ((s.1, 0) : E2) ∈ E := fun s hs' hk' => hp.mem_iff.2 (mem_es.2 ⟨s, hs', hk', Or.inl rfl⟩)
  have e1 : ∀ s ∈ l, ok s = true → ((s.2, 1) : E2) ∈ E := fun s hs' hk' => hp.mem_iff.2 (mem_es.2 ⟨s, hs', hk', Or.inr rfl⟩)
  have d0 : ∀ e ∈ E, e.2 = 0 → ∃ s ∈ l, ok s = true ∧ s.1 = e.1 := fun e he h0 => by
    obtain ⟨s, hs', hk', h | h⟩ := mem_es.1 (hp.mem_iff.1 he)
    · exact ⟨s, hs', hk', by rw [h]⟩
    · rw [h] at h0; simp at h0
  have d1 : ∀ e ∈ E, e.2 = 1 → ∃ s ∈ l, ok s = true ∧ s.2 = e.1 := fun e he h0 => by
    obtain ⟨s, hs', hk', h | h⟩ := mem_es.1 (hp.mem_iff.1 he)
    · rw [h] at h0; simp at h0
    · exact ⟨s, hs', hk', by rw [h]⟩
  unfold tell
  cases b
  · have hq : q1 = -1 := by
      rcases g1 with ⟨a, _⟩ | ⟨_, ⟨s, hs', hk', hG, _⟩, _⟩
      · exact a
      · obtain ⟨x, hx, _⟩ := h.no rfl _ (e0 s hs' hk') rfl (by rw [hN]; exact hG)
        simp at hx
    rw [if_pos (by simp only [hq]; omega), h.zero rfl, h.zf rfl]
  · obtain ⟨⟨e, he, he0, hef⟩, hfN, hmin⟩ := h.yes rfl
    obtain ⟨s, hs', hk', hsf⟩ := d0 e he he0
    rw [hN] at hfN
    have hc : c = 0 := by
      have h1 := h.c_
      have h2 : ent E = lea E := by
        unfold ent lea
        rw [hp.countP_eq, hp.countP_eq]
        exact ent_es ok l
      omega
    have hq1 : q1 = f ∧ 0 ≤ f := by
      rcases g1 with ⟨_, g⟩ | ⟨g0, ⟨y, hy, hyk, hyG, hyq⟩, g⟩
      · exact absurd (by rw [hsf, hef]; exact hfN) (g s hs' hk')
      · have a1 := g s hs' hk' (by rw [hsf, hef]; exact hfN)
        have a2 := hmin _ (e0 y hy hyk) rfl (by rw [hN]; exact hyG)
        simp only at a2
        omega
    have hq2 : q2 = t := by
      rcases h.got rfl with ⟨x, hx, hx1, hxN, hxt⟩ | a
      · rw [hN] at hxN
        obtain ⟨y, hy, hyk, hyx⟩ := d1 x hx hx1
        have a1 := g3 y hy hyk (by rw [hyx]; exact hxN)
        have a0 := hok y hyk
        rcases g2 with a | ⟨z, hz, hzk, hzG, hzq⟩
        · omega
        · have a2 := h.top _ (e1 z hz hzk) rfl (by rw [hN]; exact hzG)
          simp only at a2
          omega
      · omega
    rw [if_neg (by simp only; omega), hq1.1, hq2]
end Go.Proofs.YtfojilogcecphaaGreat.Agm

namespace Go.Proofs.YtfojilogcecphaaGreat.Agi
open Go.ChangeShapes Go.WideShapes Go.ChangeAt Go.RowKit Sl
theorem grown_setc (w : World) (g j : Nat) (v : Value) : w.grownBy (w.setCell ⟨g, j, none⟩ v) (some g) := ⟨rfl, rfl, rfl, by simp [World.setCell], fun i hi hne => Below.heap_setCell w ⟨g, j, none⟩ v i (by rintro rfl; exact hne rfl)⟩
theorem grown_drew (w : World) (r : Option Nat) : w.grownBy w.drew r := ⟨rfl, rfl, rfl, Nat.le_refl _, fun _ _ _ => rfl⟩
theorem grown_then {a b c : World} {r : Option Nat} (h : a.grownBy b r) (k : b.grownBy c r) : a.grownBy c r := ⟨k.os.trans h.os, k.tape.trans h.tape, k.output.trans h.output, Nat.le_trans h.size k.size, fun i hi hne => (k.block i (Nat.lt_of_lt_of_le hi h.size) hne).trans (h.block i hi hne)⟩
/-- a method that changes the agreement alone -/
def Does (need : Int) (g : Nat) (st : Int × Int × Int × Bool) (w : World) (e : Ending) (w' : World) : Prop := e = .returned (.tuple #[]) ∧ Bx w' g 219 #[.int .i64 st.2.1, .int .i64 st.2.2.1, .int .i64 need, .int .i64 st.1, .bool st.2.2.2] ∧ w.grownBy w' (some g)
set_option maxRecDepth 100000 in
set_option maxHeartbeats 4000000 in
theorem enter_any (g : Nat) (f t need c : Int) (b : Bool) (x : Int) (hc : -1000000000 ≤ c ∧ c ≤ 1000000000) (w : World) (h : Bx w g 219 #[.int .i64 f, .int .i64 t, .int .i64 need, .int .i64 c, .bool b]) : Calls Tryz.prog 160 #[.pointer (some ⟨g, 0, none⟩), .int .i64 x] w (Does need g (Agm.stp need (c, f, t, b) (x, 0)) w) := by
  obtain ⟨st, hst⟩ : ∃ st, Agm.stp need (c, f, t, b) (x, 0) = st := ⟨_, rfl⟩
  rw [hst]
  have HS := Lib.hid hst
  clear hst
  obtain ⟨s1, s2, s3, s4⟩ := st
  have hr : -9223372036854775808 ≤ c + 1 ∧ c + 1 ≤ 9223372036854775807 := by omega
  have HX := Lib.hid h
  have k0 : w.cell? ⟨g, 0, none⟩ = some (.int .i64 f) := h.cell rfl
  have k1 : w.cell? ⟨g, 1, none⟩ = some (.int .i64 t) := h.cell rfl
  have k2 : w.cell? ⟨g, 2, none⟩ = some (.int .i64 need) := h.cell rfl
  have k3 : w.cell? ⟨g, 3, none⟩ = some (.int .i64 c) := h.cell rfl
  have k4 : w.cell? ⟨g, 4, none⟩ = some (.bool b) := h.cell rfl
  have f3 := h.free 3
  have h1 := h.set_ 3 (.int .i64 (c + 1))
  simp only [List.setIfInBounds_toArray, List.set_cons_zero, List.set_cons_succ] at h1
  have hg := grown_setc w g 3 (.int .i64 (c + 1))
  have H1 := Lib.hid h1
  have G1 := Lib.hid hg
  clear h h1 hg hc
  go_enter Tryz.func160, Tryz.ntmps160
  go_wp2_with fail
  clear k0 k1 k2 k3 k4 f3
  generalize w.setCell ⟨g, 3, none⟩ (.int .i64 (c + 1)) = w1 at H1 G1 ⊢
  by_cases hn : need ≤ c + 1
  · have en : decide (need ≤ c + 1) = true := decide_eq_true hn
    by_cases eb : b = false
    · skip
      have e := HS.out
      simp [Agm.stp, hn, eb] at e
      obtain ⟨rfl, rfl, rfl, rfl⟩ := e
      have HC : Hid (∀ w', Qt.Keeps (w1) w' → w'.cell? ⟨g, 2, none⟩ = some (.int .i64 need) ∧ w'.cell? ⟨g, 3, none⟩ = some (.int .i64 (c + 1)) ∧ w'.cell? ⟨g, 4, none⟩ = some (.bool b)) := Lib.hid fun w' hw => ⟨(H1.out.below hw).cell rfl, (H1.out.below hw).cell rfl, (H1.out.below hw).cell rfl⟩
      refine Qt.region (Qt.Keeps (w1)) (by kernel_rfl) (by kernel_rfl) (Qt.Keeps.drew _) ?_
      repeat (first
        | go_big_quiet_skip
        | (go_big_quiet_want
           refine Qt.val (v := ?_) (fun w hw => ?_) ?_
           rotate_left
           · obtain ⟨m2, m3, m4⟩ := HC.out w hw
             go_simp
             rfl
           simp only [Act.put, List.setIfInBounds_toArray, List.set_cons_zero, List.set_cons_succ]
           go_big_quiet_on))
      refine wpQuiet_nil ?_
      intro w3 hw3
      have HX3 := Lib.hid (H1.out.below hw3)
      have G3 := Lib.hid (below_grown hw3 (some g))
      clear hw3
      have m0 : w3.cell? ⟨g, 0, none⟩ = some (.int .i64 f) := HX3.out.cell rfl
      have q := HX3.out.set_ 0 (.int .i64 x)
      simp only [List.setIfInBounds_toArray, List.set_cons_zero] at q
      have m4 : (w3.setCell ⟨g, 0, none⟩ (.int .i64 x)).cell? ⟨g, 4, none⟩ = some (.bool b) := q.cell rfl
      have f0 := HX3.out.free 0
      have f4 := q.free 4
      have q2 := q.set_ 4 (.bool true)
      simp only [List.setIfInBounds_toArray, List.set_cons_zero, List.set_cons_succ] at q2
      have Q2 := Lib.hid q2
      clear q q2
      go_wp2_with fail
      refine bodyPost_ret (v := .tuple #[]) ?_ rfl ⟨rfl, by simpa [eb] using Q2.out, grown_then (grown_then G1.out G3.out) (grown_then (grown_setc _ g 0 _) (grown_setc _ g 4 _))⟩
      simp [results, Tryz.results160, go_sem]
    · have eb2 : b = true := by simpa using eb
      have e := HS.out
      simp [Agm.stp, hn, eb2] at e
      obtain ⟨rfl, rfl, rfl, rfl⟩ := e
      have HC : Hid (∀ w', Qt.Keeps (w1) w' → w'.cell? ⟨g, 2, none⟩ = some (.int .i64 need) ∧ w'.cell? ⟨g, 3, none⟩ = some (.int .i64 (c + 1)) ∧ w'.cell? ⟨g, 4, none⟩ = some (.bool b)) := Lib.hid fun w' hw => ⟨(H1.out.below hw).cell rfl, (H1.out.below hw).cell rfl, (H1.out.below hw).cell rfl⟩
      refine Qt.region (Qt.Keeps (w1)) (by kernel_rfl) (by kernel_rfl) (Qt.Keeps.drew _) ?_
      repeat (first
        | go_big_quiet_skip
        | (go_big_quiet_want
           refine Qt.val (v := ?_) (fun w hw => ?_) ?_
           rotate_left
           · obtain ⟨m2, m3, m4⟩ := HC.out w hw
             go_simp
             rfl
           simp only [Act.put, List.setIfInBounds_toArray, List.set_cons_zero, List.set_cons_succ]
           go_big_quiet_on))
      refine wpQuiet_nil ?_
      intro w3 hw3
      have HX3 := Lib.hid (H1.out.below hw3)
      have G3 := Lib.hid (below_grown hw3 (some g))
      clear hw3
      go_wp2_with fail
      refine bodyPost_ret (v := .tuple #[]) ?_ rfl ⟨rfl, by simpa [eb2] using HX3.out, grown_then G1.out G3.out⟩
      simp [results, Tryz.results160, go_sem]
  · have en : decide (need ≤ c + 1) = false := decide_eq_false hn
    have e := HS.out
    simp [Agm.stp, hn] at e
    obtain ⟨rfl, rfl, rfl, rfl⟩ := e
    have HC : Hid (∀ w', Qt.Keeps (w1) w' → w'.cell? ⟨g, 2, none⟩ = some (.int .i64 need) ∧ w'.cell? ⟨g, 3, none⟩ = some (.int .i64 (c + 1)) ∧ w'.cell? ⟨g, 4, none⟩ = some (.bool b)) := Lib.hid fun w' hw => ⟨(H1.out.below hw).cell rfl, (H1.out.below hw).cell rfl, (H1.out.below hw).cell rfl⟩
    refine Qt.region (Qt.Keeps (w1)) (by kernel_rfl) (by kernel_rfl) (Qt.Keeps.drew _) ?_
    repeat (first
      | go_big_quiet_skip
      | (go_big_quiet_want
         refine Qt.val (v := ?_) (fun w hw => ?_) ?_
         rotate_left
         · obtain ⟨m2, m3, m4⟩ := HC.out w hw
           go_simp
           rfl
         simp only [Act.put, List.setIfInBounds_toArray, List.set_cons_zero, List.set_cons_succ]
         go_big_quiet_on))
    refine wpQuiet_nil ?_
    intro w3 hw3
    have HX3 := Lib.hid (H1.out.below hw3)
    have G3 := Lib.hid (below_grown hw3 (some g))
    clear hw3
    go_wp2_with fail
    refine bodyPost_ret (v := .tuple #[]) ?_ rfl ⟨rfl, HX3.out, grown_then G1.out G3.out⟩
    simp [results, Tryz.results160, go_sem]
set_option maxRecDepth 100000 in
set_option maxHeartbeats 4000000 in
theorem leave_any (g : Nat) (f t need c : Int) (b : Bool) (x : Int) (hc : -1000000000 ≤ c ∧ c ≤ 1000000000) (w : World) (h : Bx w g 219 #[.int .i64 f, .int .i64 t, .int .i64 need, .int .i64 c, .bool b]) : Calls Tryz.prog 161 #[.pointer (some ⟨g, 0, none⟩), .int .i64 x] w (Does need g (Agm.stp need (c, f, t, b) (x, 1)) w) := by
  obtain ⟨st, hst⟩ : ∃ st, Agm.stp need (c, f, t, b) (x, 1) = st := ⟨_, rfl⟩
  rw [hst]
  have HS := Lib.hid hst
  clear hst
  obtain ⟨s1, s2, s3, s4⟩ := st
  have hr : -9223372036854775808 ≤ c - 1 ∧ c - 1 ≤ 9223372036854775807 := by omega
  have HX := Lib.hid h
  clear h hc
  by_cases hn : need ≤ c
  · have en : decide (need ≤ c) = true := decide_eq_true hn
    have e := HS.out
    simp [Agm.stp, hn] at e
    obtain ⟨rfl, rfl, rfl, rfl⟩ := e
    go_enter Tryz.func161, Tryz.ntmps161
    go_wp2_with fail
    have HC : Hid (∀ w', Qt.Keeps (w) w' → w'.cell? ⟨g, 2, none⟩ = some (.int .i64 need) ∧ w'.cell? ⟨g, 3, none⟩ = some (.int .i64 c) ∧ w'.cell? ⟨g, 4, none⟩ = some (.bool b)) := Lib.hid fun w' hw => ⟨(HX.out.below hw).cell rfl, (HX.out.below hw).cell rfl, (HX.out.below hw).cell rfl⟩
    refine Qt.region (Qt.Keeps (w)) (by kernel_rfl) (by kernel_rfl) (Qt.Keeps.drew _) ?_
    repeat (first
      | go_big_quiet_skip
      | (go_big_quiet_want
         refine Qt.val (v := ?_) (fun w hw => ?_) ?_
         rotate_left
         · obtain ⟨m2, m3, m4⟩ := HC.out w hw
           go_simp
           rfl
         simp only [Act.put, List.setIfInBounds_toArray, List.set_cons_zero, List.set_cons_succ]
         go_big_quiet_on))
    refine wpQuiet_nil ?_
    intro w3 hw3
    have HX3 := Lib.hid (HX.out.below hw3)
    have G3 := Lib.hid (below_grown hw3 (some g))
    clear hw3
    have k1 : w3.cell? ⟨g, 1, none⟩ = some (.int .i64 t) := HX3.out.cell rfl
    have f1 := HX3.out.free 1
    have q := HX3.out.set_ 1 (.int .i64 x)
    simp only [List.setIfInBounds_toArray, List.set_cons_zero, List.set_cons_succ] at q
    have k3 : (w3.setCell ⟨g, 1, none⟩ (.int .i64 x)).cell? ⟨g, 3, none⟩ = some (.int .i64 c) := q.cell rfl
    have f3 := q.free 3
    have q2 := q.set_ 3 (.int .i64 (c - 1))
    simp only [List.setIfInBounds_toArray, List.set_cons_zero, List.set_cons_succ] at q2
    have Q2 := Lib.hid q2
    clear q q2
    go_wp2_with fail
    refine bodyPost_ret (v := .tuple #[]) ?_ rfl ⟨rfl, Q2.out, grown_then G3.out (grown_then (grown_setc _ g 1 _) (grown_setc _ g 3 _))⟩
    simp [results, Tryz.results161, go_sem]
  · have en : decide (need ≤ c) = false := decide_eq_false hn
    have e := HS.out
    simp [Agm.stp, hn] at e
    obtain ⟨rfl, rfl, rfl, rfl⟩ := e
    go_enter Tryz.func161, Tryz.ntmps161
    go_wp2_with fail
    have HC : Hid (∀ w', Qt.Keeps (w) w' → w'.cell? ⟨g, 2, none⟩ = some (.int .i64 need) ∧ w'.cell? ⟨g, 3, none⟩ = some (.int .i64 c) ∧ w'.cell? ⟨g, 4, none⟩ = some (.bool b)) := Lib.hid fun w' hw => ⟨(HX.out.below hw).cell rfl, (HX.out.below hw).cell rfl, (HX.out.below hw).cell rfl⟩
    refine Qt.region (Qt.Keeps (w)) (by kernel_rfl) (by kernel_rfl) (Qt.Keeps.drew _) ?_
    repeat (first
      | go_big_quiet_skip
      | (go_big_quiet_want
         refine Qt.val (v := ?_) (fun w hw => ?_) ?_
         rotate_left
         · obtain ⟨m2, m3, m4⟩ := HC.out w hw
           go_simp
           rfl
         simp only [Act.put, List.setIfInBounds_toArray, List.set_cons_zero, List.set_cons_succ]
         go_big_quiet_on))
    refine wpQuiet_nil ?_
    intro w3 hw3
    have HX3 := Lib.hid (HX.out.below hw3)
    have G3 := Lib.hid (below_grown hw3 (some g))
    clear hw3
    have k3 : w3.cell? ⟨g, 3, none⟩ = some (.int .i64 c) := HX3.out.cell rfl
    have f3 := HX3.out.free 3
    have q2 := HX3.out.set_ 3 (.int .i64 (c - 1))
    simp only [List.setIfInBounds_toArray, List.set_cons_zero, List.set_cons_succ] at q2
    have Q2 := Lib.hid q2
    clear q2
    go_wp2_with fail
    refine bodyPost_ret (v := .tuple #[]) ?_ rfl ⟨rfl, Q2.out, grown_then G3.out (grown_setc _ g 3 _)⟩
    simp [results, Tryz.results161, go_sem]
end Go.Proofs.YtfojilogcecphaaGreat.Agi
