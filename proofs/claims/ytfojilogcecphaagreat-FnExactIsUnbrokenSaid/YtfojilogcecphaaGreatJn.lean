/- Mathematics of spans of time: lists in order, the join of a list, the meet of two. -/
import Derived.Lib.Hide
namespace Go.Proofs.YtfojilogcecphaaGreat.Jn

/-- A span: its first and its last time. -/
abbrev Sp := Int × Int
/-- whether a span is valid -/
def okB (s : Sp) : Bool := decide (0 ≤ s.1 ∧ s.1 ≤ 10000 ∧ 0 ≤ s.2 ∧ s.2 ≤ 10000 ∧ s.1 ≤ s.2)
theorem okB_yes {s : Sp} (h : okB s = true) : 0 ≤ s.1 ∧ s.1 ≤ 10000 ∧ 0 ≤ s.2 ∧ s.2 ≤ 10000 ∧ s.1 ≤ s.2 := of_decide_eq_true h
theorem okB_no {s : Sp} (h : okB s = false) : ¬ (0 ≤ s.1 ∧ s.1 ≤ 10000 ∧ 0 ≤ s.2 ∧ s.2 ≤ 10000 ∧ s.1 ≤ s.2) := of_decide_eq_false h
theorem okB_mk {s : Sp} (h : 0 ≤ s.1 ∧ s.1 ≤ 10000 ∧ 0 ≤ s.2 ∧ s.2 ≤ 10000 ∧ s.1 ≤ s.2) : okB s = true := decide_eq_true h
/-- t is a time of a valid span of the list -/
def Has (L : List Sp) (t : Int) : Prop := ∃ s ∈ L, okB s = true ∧ s.1 ≤ t ∧ t ≤ s.2
/-- the list is in order -/
def Can (L : List Sp) : Prop := L.Pairwise (fun a b => a.2 + 1 < b.1) ∧ ∀ s ∈ L, okB s = true

theorem Has_nil (t : Int) : ¬ Has [] t := fun ⟨_, h, _⟩ => by cases h
theorem Has_cons (s : Sp) (L : List Sp) (t : Int) : Has (s :: L) t ↔ (okB s = true ∧ s.1 ≤ t ∧ t ≤ s.2) ∨ Has L t := by
  unfold Has
  constructor
  · rintro ⟨x, hx, h⟩
    rcases List.mem_cons.1 hx with rfl | hx
    · exact .inl h
    · exact .inr ⟨x, hx, h⟩
  · rintro (h | ⟨x, hx, h⟩)
    · exact ⟨s, List.mem_cons_self .., h⟩
    · exact ⟨x, List.mem_cons_of_mem _ hx, h⟩
theorem Has_append (L M : List Sp) (t : Int) : Has (L ++ M) t ↔ Has L t ∨ Has M t := by
  induction L with
  | nil => simp [Has_nil]
  | cons s L ih => rw [List.cons_append, Has_cons, Has_cons, ih, or_assoc]
theorem Has_one (s : Sp) (t : Int) : Has [s] t ↔ (okB s = true ∧ s.1 ≤ t ∧ t ≤ s.2) := by
  rw [Has_cons]
  exact ⟨fun h => h.elim id fun h => absurd h (Has_nil t), .inl⟩
theorem Has_mem {s : Sp} {L : List Sp} {t : Int} (hs : s ∈ L) (ho : okB s = true) (h1 : s.1 ≤ t) (h2 : t ≤ s.2) : Has L t := ⟨s, hs, ho, h1, h2⟩
theorem Has_perm {L M : List Sp} (h : ∀ x, x ∈ L ↔ x ∈ M) (t : Int) : Has L t ↔ Has M t := by
  unfold Has
  exact ⟨fun ⟨x, hx, hh⟩ => ⟨x, (h x).1 hx, hh⟩, fun ⟨x, hx, hh⟩ => ⟨x, (h x).2 hx, hh⟩⟩
theorem Has_filter (L : List Sp) (t : Int) : Has (L.filter okB) t ↔ Has L t := by
  unfold Has
  exact ⟨fun ⟨x, hx, hh⟩ => ⟨x, (List.mem_filter.1 hx).1, hh⟩, fun ⟨x, hx, hh⟩ => ⟨x, List.mem_filter.2 ⟨hx, hh.1⟩, hh⟩⟩

theorem Can_nil : Can [] := ⟨List.Pairwise.nil, fun _ h => by cases h⟩
theorem Can_cons {s : Sp} {L : List Sp} : Can (s :: L) ↔ (okB s = true ∧ (∀ x ∈ L, s.2 + 1 < x.1) ∧ Can L) := by
  unfold Can
  rw [List.pairwise_cons]
  constructor
  · rintro ⟨⟨h1, h2⟩, h3⟩
    exact ⟨h3 s (List.mem_cons_self ..), h1, h2, fun x hx => h3 x (List.mem_cons_of_mem _ hx)⟩
  · rintro ⟨h1, h2, h3, h4⟩
    refine ⟨⟨h2, h3⟩, fun x hx => ?_⟩
    rcases List.mem_cons.1 hx with rfl | hx
    · exact h1
    · exact h4 x hx
theorem Can_append {L M : List Sp} : Can (L ++ M) ↔ (Can L ∧ Can M ∧ ∀ x ∈ L, ∀ y ∈ M, x.2 + 1 < y.1) := by
  unfold Can
  rw [List.pairwise_append]
  constructor
  · rintro ⟨⟨h1, h2, h3⟩, h4⟩
    exact ⟨⟨h1, fun x hx => h4 x (List.mem_append_left _ hx)⟩, ⟨h2, fun x hx => h4 x (List.mem_append_right _ hx)⟩, h3⟩
  · rintro ⟨⟨h1, h2⟩, ⟨h3, h4⟩, h5⟩
    refine ⟨⟨h1, h3, h5⟩, fun x hx => ?_⟩
    rcases List.mem_append.1 hx with hx | hx
    · exact h2 x hx
    · exact h4 x hx
theorem Can_one {s : Sp} (h : okB s = true) : Can [s] := Can_cons.2 ⟨h, fun _ h => (by cases h), Can_nil⟩
theorem Can.ok {L : List Sp} (h : Can L) {s : Sp} (hs : s ∈ L) : okB s = true := h.2 s hs
theorem Can_drop {L : List Sp} (h : Can L) (n : Nat) : Can (L.drop n) := by
  have := List.take_append_drop n L
  rw [← this] at h
  exact (Can_append.1 h).2.1
theorem Can_take {L : List Sp} (h : Can L) (n : Nat) : Can (L.take n) := by
  have := List.take_append_drop n L
  rw [← this] at h
  exact (Can_append.1 h).1

/-- ONE LIST IN ORDER FOR THE SAME TIMES. -/
theorem Can_unique : ∀ {L M : List Sp}, Can L → Can M → (∀ t, Has L t ↔ Has M t) → L = M
  | [], [], _, _, _ => rfl
  | [], m :: M, _, hM, h => by
    have hm := okB_yes (Can_cons.1 hM).1
    exact absurd ((h m.1).2 (Has_mem (List.mem_cons_self ..) (Can_cons.1 hM).1 (Int.le_refl _) (by omega))) (Has_nil _)
  | s :: L, [], hL, _, h => by
    have hm := okB_yes (Can_cons.1 hL).1
    exact absurd ((h s.1).1 (Has_mem (List.mem_cons_self ..) (Can_cons.1 hL).1 (Int.le_refl _) (by omega))) (Has_nil _)
  | s :: L, m :: M, hL, hM, h => by
    obtain ⟨os, as, cL⟩ := Can_cons.1 hL
    obtain ⟨om, am, cM⟩ := Can_cons.1 hM
    have vs := okB_yes os
    have vm := okB_yes om
    have lo : ∀ {s : Sp} {L : List Sp} {t : Int}, okB s = true → (∀ x ∈ L, s.2 + 1 < x.1) → Has (s :: L) t → s.1 ≤ t ∧ (t ≤ s.2 ∨ (s.2 + 1 < t ∧ Has L t)) := by
      intro s L t os as hh
      have vs := okB_yes os
      rcases (Has_cons s L t).1 hh with ⟨_, h1, h2⟩ | ⟨x, hx, ox, h1, h2⟩
      · exact ⟨h1, .inl h2⟩
      · have := as x hx
        exact ⟨by omega, .inr ⟨by omega, x, hx, ox, h1, h2⟩⟩
    have hs1 := lo om am ((h s.1).1 (Has_mem (List.mem_cons_self ..) os (Int.le_refl _) (by omega)))
    have hm1 := lo os as ((h m.1).2 (Has_mem (List.mem_cons_self ..) om (Int.le_refl _) (by omega)))
    have e1 : s.1 = m.1 := by omega
    have e2 : s.2 = m.2 := by
      rcases Int.lt_trichotomy s.2 m.2 with hlt | he | hlt
      · have := lo os as ((h (s.2 + 1)).2 (Has_mem (List.mem_cons_self ..) om (by omega) (by omega)))
        omega
      · exact he
      · have := lo om am ((h (m.2 + 1)).1 (Has_mem (List.mem_cons_self ..) os (by omega) (by omega)))
        omega
    have e : s = m := Prod.ext e1 e2
    subst e
    rw [Can_unique cL cM fun t => ?_]
    constructor
    · intro hl
      have h1 := (lo os as ((Has_cons s L t).2 (.inr hl)))
      rcases (lo om am ((h t).1 ((Has_cons s L t).2 (.inr hl)))).2 with h2 | ⟨_, h2⟩
      · obtain ⟨x, hx, _, hx1, _⟩ := hl
        have := as x hx
        omega
      · exact h2
    · intro hl
      rcases (lo os as ((h t).2 ((Has_cons s M t).2 (.inr hl)))).2 with h2 | ⟨_, h2⟩
      · obtain ⟨x, hx, _, hx1, _⟩ := hl
        have := am x hx
        omega
      · exact h2

/-! ### the join -/
def ins (s : Sp) : List Sp → List Sp
  | [] => [s]
  | x :: L => if x.2 + 1 < s.1 then x :: ins s L else if s.2 + 1 < x.1 then s :: x :: L else ins (min s.1 x.1, max s.2 x.2) L
theorem ins_spec : ∀ (L : List Sp) (s : Sp), Can L → okB s = true → Can (ins s L) ∧ (∀ t, Has (ins s L) t ↔ (s.1 ≤ t ∧ t ≤ s.2) ∨ Has L t) ∧ (∀ m, m + 1 < s.1 → (∀ x ∈ L, m + 1 < x.1) → ∀ x ∈ ins s L, m + 1 < x.1)
  | [], s, _, os => ⟨Can_one os, fun t => by rw [ins, Has_one]; simp [os, Has_nil], fun m h _ x hx => by rw [ins, List.mem_singleton] at hx; rw [hx]; exact h⟩
  | x :: L, s, hL, os => by
    obtain ⟨ox, ax, cL⟩ := Can_cons.1 hL
    have vs := okB_yes os
    have vx := okB_yes ox
    unfold ins
    by_cases h1 : x.2 + 1 < s.1
    · rw [if_pos h1]
      obtain ⟨i1, i2, i3⟩ := ins_spec L s cL os
      refine ⟨Can_cons.2 ⟨ox, i3 x.2 h1 ax, i1⟩, fun t => ?_, fun m hm hl y hy => ?_⟩
      · rw [Has_cons, i2, Has_cons]
        exact ⟨fun h => h.elim (fun h => .inr (.inl h)) fun h => h.elim .inl fun h => .inr (.inr h), fun h => h.elim (fun h => .inr (.inl h)) fun h => h.elim .inl fun h => .inr (.inr h)⟩
      · rcases List.mem_cons.1 hy with rfl | hy
        · exact hl y (List.mem_cons_self ..)
        · exact i3 m hm (fun z hz => hl z (List.mem_cons_of_mem _ hz)) y hy
    · rw [if_neg h1]
      by_cases h2 : s.2 + 1 < x.1
      · rw [if_pos h2]
        refine ⟨Can_cons.2 ⟨os, fun y hy => ?_, hL⟩, fun t => ?_, fun m hm hl y hy => ?_⟩
        · rcases List.mem_cons.1 hy with rfl | hy
          · exact h2
          · have := ax y hy
            omega
        · rw [Has_cons]
          simp [os]
        · rcases List.mem_cons.1 hy with rfl | hy
          · exact hm
          · exact hl y hy
      · rw [if_neg h2]
        obtain ⟨i1, i2, i3⟩ := ins_spec L (min s.1 x.1, max s.2 x.2) cL (okB_mk (by simp only; omega))
        refine ⟨i1, fun t => ?_, fun m hm hl y hy => ?_⟩
        · rw [i2, Has_cons]
          constructor
          · rintro (⟨h3, h4⟩ | h)
            · simp only at h3 h4
              by_cases h5 : s.1 ≤ t ∧ t ≤ s.2
              · exact .inl h5
              · exact .inr (.inl ⟨ox, by omega, by omega⟩)
            · exact .inr (.inr h)
          · rintro (h | ⟨_, h3, h4⟩ | h)
            · exact .inl ⟨by simp only; omega, by simp only; omega⟩
            · exact .inl ⟨by simp only; omega, by simp only; omega⟩
            · exact .inr h
        · refine i3 m ?_ (fun z hz => hl z (List.mem_cons_of_mem _ hz)) y hy
          have := hl x (List.mem_cons_self ..)
          simp only
          omega
def join : List Sp → List Sp
  | [] => []
  | s :: L => if okB s = true then ins s (join L) else join L
theorem join_spec : ∀ L : List Sp, Can (join L) ∧ ∀ t, Has (join L) t ↔ Has L t
  | [] => ⟨Can_nil, fun _ => Iff.rfl⟩
  | s :: L => by
    obtain ⟨h1, h2⟩ := join_spec L
    unfold join
    by_cases h : okB s = true
    · rw [if_pos h]
      obtain ⟨i1, i2, _⟩ := ins_spec (join L) s h1 h
      refine ⟨i1, fun t => ?_⟩
      rw [i2, h2, Has_cons]
      simp [h]
    · rw [if_neg h]
      refine ⟨h1, fun t => ?_⟩
      rw [h2, Has_cons]
      simp [h]
theorem join_can (L : List Sp) : Can (join L) := (join_spec L).1
theorem join_has (L : List Sp) (t : Int) : Has (join L) t ↔ Has L t := (join_spec L).2 t
theorem join_of {M L : List Sp} (hc : Can M) (h : ∀ t, Has M t ↔ Has L t) : M = join L := Can_unique hc (join_can L) fun t => (h t).trans (join_has L t).symm
theorem ins_len : ∀ (L : List Sp) (s : Sp), (ins s L).length ≤ L.length + 1
  | [], s => by simp [ins]
  | x :: L, s => by
    unfold ins
    by_cases h1 : x.2 + 1 < s.1
    · rw [if_pos h1]
      have := ins_len L s
      simp only [List.length_cons]
      omega
    · rw [if_neg h1]
      by_cases h2 : s.2 + 1 < x.1
      · rw [if_pos h2]; simp
      · rw [if_neg h2]
        have := ins_len L (min s.1 x.1, max s.2 x.2)
        simp only [List.length_cons]
        omega
theorem join_len : ∀ L : List Sp, (join L).length ≤ L.length
  | [] => Nat.le_refl _
  | s :: L => by
    have h1 := join_len L
    unfold join
    by_cases h : okB s = true
    · rw [if_pos h]
      have := ins_len (join L) s
      simp only [List.length_cons]
      omega
    · rw [if_neg h]
      simp only [List.length_cons]
      omega

/-! ### one span put into a list in order, step by step (the reference's way) -/
def apB (x s : Sp) : Bool := decide (x.2 + 1 < s.1 ∨ s.2 + 1 < x.1)
structure Put (L : List Sp) (s0 : Sp) (k : Nat) (out : List Sp) (s : Sp) : Prop where
  can : Can out
  ok : okB s = true
  ap : ∀ x ∈ out, x.2 + 1 < s.1 ∨ s.2 + 1 < x.1
  has : ∀ t, (Has out t ∨ (s.1 ≤ t ∧ t ≤ s.2)) ↔ (Has (L.take k) t ∨ (s0.1 ≤ t ∧ t ≤ s0.2))
  lo : ∀ x ∈ out, ∀ y ∈ L.drop k, x.2 + 1 < y.1
  len : out.length ≤ k
theorem Put.start (L : List Sp) (s : Sp) (h : okB s = true) : Put L s 0 [] s :=
  ⟨Can_nil, h, fun _ h => (by cases h), fun t => by simp, fun _ h => (by cases h), Nat.le_refl _⟩
theorem drop_at {L : List Sp} {k : Nat} (h : k < L.length) : L.drop k = L[k] :: L.drop (k + 1) := List.drop_eq_getElem_cons h
theorem take_at {L : List Sp} {k : Nat} (h : k < L.length) : L.take (k + 1) = L.take k ++ [L[k]] := by
  rw [List.take_succ_eq_append_getElem h]
theorem Put.skip {L out : List Sp} {s0 s : Sp} {k : Nat} (h : Put L s0 k out s) (hL : Can L) (hk : k < L.length) (ha : L[k].2 + 1 < s.1 ∨ s.2 + 1 < L[k].1) : Put L s0 (k + 1) (out ++ [L[k]]) s := by
  have hd := Can_drop hL k
  rw [drop_at hk] at hd
  obtain ⟨ox, ax, _⟩ := Can_cons.1 hd
  have hlo := h.lo
  rw [drop_at hk] at hlo
  refine ⟨Can_append.2 ⟨h.can, Can_one ox, fun x hx y hy => ?_⟩, h.ok, fun x hx => ?_, fun t => ?_, fun x hx y hy => ?_, ?_⟩
  · rw [List.mem_singleton] at hy
    rw [hy]
    exact hlo x hx _ (List.mem_cons_self ..)
  · rcases List.mem_append.1 hx with hx | hx
    · exact h.ap x hx
    · rw [List.mem_singleton] at hx
      rw [hx]
      exact ha
  · have := h.has t
    rw [take_at hk, Has_append, Has_append, or_assoc, or_assoc, or_comm (a := Has [L[k]] t), or_comm (a := Has [L[k]] t), ← or_assoc, ← or_assoc, this]
  · rcases List.mem_append.1 hx with hx | hx
    · exact hlo x hx y (List.mem_cons_of_mem _ hy)
    · rw [List.mem_singleton] at hx
      rw [hx]
      exact ax y hy
  · rw [List.length_append, List.length_singleton]
    have := h.len
    omega
theorem Put.merge {L out : List Sp} {s0 s : Sp} {k : Nat} (h : Put L s0 k out s) (hL : Can L) (hk : k < L.length) (ha : ¬ (L[k].2 + 1 < s.1 ∨ s.2 + 1 < L[k].1)) : Put L s0 (k + 1) out (min s.1 L[k].1, max s.2 L[k].2) := by
  have hd := Can_drop hL k
  rw [drop_at hk] at hd
  obtain ⟨ox, ax, _⟩ := Can_cons.1 hd
  have hlo := h.lo
  rw [drop_at hk] at hlo
  have vs := okB_yes h.ok
  have vx := okB_yes ox
  refine ⟨h.can, okB_mk (by simp only; omega), fun x hx => ?_, fun t => ?_, fun x hx y hy => hlo x hx y (List.mem_cons_of_mem _ hy), Nat.le_succ_of_le h.len⟩
  · have h1 := h.ap x hx
    have h2 := hlo x hx _ (List.mem_cons_self ..)
    have vy := okB_yes (h.can.ok hx)
    simp only
    omega
  · have h1 := h.has t
    rw [take_at hk, Has_append, Has_one, or_assoc, or_comm (a := okB L[k] = true ∧ L[k].1 ≤ t ∧ t ≤ L[k].2), ← or_assoc, ← h1, or_assoc]
    refine or_congr Iff.rfl ⟨fun h3 => ?_, fun h3 => ?_⟩
    · simp only at h3
      by_cases h5 : s.1 ≤ t ∧ t ≤ s.2
      · exact .inl h5
      · exact .inr ⟨ox, by omega, by omega⟩
    · simp only
      rcases h3 with h3 | ⟨_, h3⟩ <;> omega
/-- the end: the span goes between those that begin before it and the others -/
theorem Put.done {L out : List Sp} {s0 s : Sp} (h : Put L s0 L.length out s) (h0 : okB s0 = true) (hL : Can L) {j : Nat} (h1 : ∀ x ∈ out.take j, x.1 < s.1) (h2 : ∀ (hj : j < out.length), s.1 ≤ out[j].1) : out.take j ++ [s] ++ out.drop j = ins s0 L := by
  obtain ⟨i1, i2, _⟩ := ins_spec L s0 hL h0
  have vs := okB_yes h.ok
  have hr : ∀ x ∈ out.drop j, s.1 ≤ x.1 := by
    intro x hx
    by_cases hj : j < out.length
    · have hd := Can_drop h.can j
      rw [drop_at hj] at hx hd
      have hj2 := h2 hj
      rcases List.mem_cons.1 hx with rfl | hx
      · exact hj2
      · have h3 := (Can_cons.1 hd).2.1 x hx
        have h4 := okB_yes (Can_cons.1 hd).1
        omega
    · rw [List.drop_eq_nil_of_le (by omega)] at hx
      cases hx
  have ht : out.take j ++ out.drop j = out := List.take_append_drop j out
  have hc := h.can
  rw [← ht] at hc
  obtain ⟨c1, c2, c3⟩ := Can_append.1 hc
  have m1 : ∀ x ∈ out.take j, x ∈ out := fun x hx => List.mem_of_mem_take hx
  have m2 : ∀ x ∈ out.drop j, x ∈ out := fun x hx => List.mem_of_mem_drop hx
  refine Can_unique (Can_append.2 ⟨Can_append.2 ⟨c1, Can_one h.ok, fun x hx y hy => ?_⟩, c2, fun x hx y hy => ?_⟩) i1 fun t => ?_
  · rw [List.mem_singleton] at hy
    rw [hy]
    have a1 := h.ap x (m1 x hx)
    have a2 := h1 x hx
    omega
  · rcases List.mem_append.1 hx with hx | hx
    · exact c3 x hx y hy
    · rw [List.mem_singleton] at hx
      rw [hx]
      have a1 := h.ap y (m2 y hy)
      have a2 := hr y hy
      have a3 := okB_yes (h.can.ok (m2 y hy))
      omega
  · have h3 := h.has t
    rw [List.take_length] at h3
    have h4 : Has out t ↔ Has (out.take j) t ∨ Has (out.drop j) t := by rw [← Has_append, ht]
    rw [i2, Has_append, Has_append, Has_one]
    rw [or_comm (a := s0.1 ≤ t ∧ t ≤ s0.2), ← h3, h4]
    simp only [h.ok, true_and]
    rw [or_assoc, or_assoc, or_comm (a := Has (out.drop j) t)]
theorem join_step {L : List Sp} {k : Nat} (hk : k < L.length) (ho : okB L[k] = true) : ins L[k] (join (L.take k)) = join (L.take (k + 1)) := by
  obtain ⟨i1, i2, _⟩ := ins_spec (join (L.take k)) L[k] (join_can _) ho
  refine join_of i1 fun t => ?_
  rw [i2, join_has, take_at hk, Has_append, Has_one, or_comm]
  simp [ho]
theorem join_skip {L : List Sp} {k : Nat} (hk : k < L.length) (ho : okB L[k] = false) : join (L.take k) = join (L.take (k + 1)) := by
  refine join_of (join_can _) fun t => ?_
  rw [join_has, take_at hk, Has_append, Has_one]
  simp [ho]

/-! ### the join of sorted spans (the program's way) -/
structure Srt (es : List Sp) (i : Nat) (M : List Sp) : Prop where
  can : Can M
  has : ∀ t, Has M t ↔ Has (es.take i) t
  lo : ∀ m ∈ M, ∀ y ∈ es.drop i, m.1 ≤ y.1
  len : M.length ≤ i
theorem Srt.start (es : List Sp) : Srt es 0 [] := ⟨Can_nil, fun t => by simp, fun _ h => (by cases h), Nat.le_refl _⟩
/-- sorted by their beginnings -/
def Asc (es : List Sp) : Prop := es.Pairwise (fun a b => a.1 ≤ b.1)
theorem Asc.at {es : List Sp} (h : Asc es) {i : Nat} (hi : i < es.length) : ∀ y ∈ es.drop (i + 1), es[i].1 ≤ y.1 := by
  have h1 : (es.take i ++ es.drop i).Pairwise (fun a b => a.1 ≤ b.1) := by rw [List.take_append_drop]; exact h
  have h2 := (List.pairwise_append.1 h1).2.1
  rw [drop_at hi] at h2
  exact (List.pairwise_cons.1 h2).1
theorem Srt.new {es M : List Sp} {i : Nat} (h : Srt es i M) (hs : Asc es) (hi : i < es.length) (ho : okB es[i] = true) (ha : ∀ m ∈ M, m.2 + 1 < es[i].1) : Srt es (i + 1) (M ++ [es[i]]) := by
  have hlo := h.lo
  rw [drop_at hi] at hlo
  refine ⟨Can_append.2 ⟨h.can, Can_one ho, fun x hx y hy => ?_⟩, fun t => ?_, fun m hm y hy => ?_, ?_⟩
  · rw [List.mem_singleton] at hy
    rw [hy]
    exact ha x hx
  · rw [take_at hi, Has_append, Has_append, h.has t]
  · rcases List.mem_append.1 hm with hm | hm
    · exact hlo m hm y (List.mem_cons_of_mem _ hy)
    · rw [List.mem_singleton] at hm
      rw [hm]
      exact hs.at hi y hy
  · rw [List.length_append, List.length_singleton]
    have := h.len
    omega
theorem Srt.wide {es M : List Sp} {m : Sp} {i : Nat} (h : Srt es i (M ++ [m])) (hi : i < es.length) (ho : okB es[i] = true) (ha : ¬ (m.2 + 1 < es[i].1)) : Srt es (i + 1) (M ++ [(m.1, max m.2 es[i].2)]) := by
  have hlo := h.lo
  rw [drop_at hi] at hlo
  obtain ⟨c1, c2, c3⟩ := Can_append.1 h.can
  have om := (Can_cons.1 c2).1
  have vm := okB_yes om
  have vx := okB_yes ho
  have hmx := hlo m (List.mem_append_right _ (List.mem_singleton_self _)) _ (List.mem_cons_self ..)
  have om' : okB (m.1, max m.2 es[i].2) = true := okB_mk (by simp only; omega)
  refine ⟨Can_append.2 ⟨c1, Can_one om', fun x hx y hy => ?_⟩, fun t => ?_, fun x hx y hy => ?_, ?_⟩
  · rw [List.mem_singleton] at hy
    rw [hy]
    exact c3 x hx m (List.mem_singleton_self _)
  · have h1 := h.has t
    rw [Has_append, Has_one] at h1 ⊢
    rw [take_at hi, Has_append, Has_one, ← h1, or_assoc]
    refine or_congr Iff.rfl ⟨fun ⟨_, h3, h4⟩ => ?_, fun h3 => ?_⟩
    · simp only at h3 h4
      by_cases h5 : t ≤ m.2
      · exact .inl ⟨om, h3, h5⟩
      · exact .inr ⟨ho, by omega, by omega⟩
    · refine ⟨om', ?_⟩
      simp only
      rcases h3 with ⟨_, h3⟩ | ⟨_, h3⟩ <;> omega
  · rcases List.mem_append.1 hx with hx | hx
    · exact hlo x (List.mem_append_left _ hx) y (List.mem_cons_of_mem _ hy)
    · rw [List.mem_singleton] at hx
      rw [hx]
      exact hlo m (List.mem_append_right _ (List.mem_singleton_self _)) y (List.mem_cons_of_mem _ hy)
  · have := h.len
    rw [List.length_append, List.length_singleton] at this ⊢
    omega
theorem Srt.done {es M L : List Sp} (h : Srt es es.length M) (hp : ∀ t, Has es t ↔ Has L t) : M = join L := by
  refine join_of h.can fun t => ?_
  rw [h.has t, List.take_length]
  exact hp t
theorem last_apart {M : List Sp} (hc : Can M) {x : Int} (hl : ∀ (hM : 0 < M.length), (M[M.length - 1]'(by omega)).2 + 1 < x) : ∀ m ∈ M, m.2 + 1 < x := by
  intro m hm
  obtain ⟨j, hj, rfl⟩ := List.mem_iff_getElem.1 hm
  have h1 := hl (by omega)
  by_cases he : j = M.length - 1
  · subst he
    exact h1
  · have h2 := (List.pairwise_iff_getElem.1 hc.1) j (M.length - 1) hj (by omega) (by omega)
    have h3 := okB_yes (hc.ok (List.getElem_mem (l := M) (n := M.length - 1) (by omega)))
    omega

/-! ### the meet -/
/-- the span of the times that are in both -/
def meet (a b : Sp) : Sp := (max a.1 b.1, min a.2 b.2)
/-- whether there are such -/
def meets (a b : Sp) : Bool := okB a && okB b && decide (max a.1 b.1 ≤ min a.2 b.2)
theorem meets_yes {a b : Sp} (h : meets a b = true) : okB a = true ∧ okB b = true ∧ max a.1 b.1 ≤ min a.2 b.2 := by
  simpa [meets, and_assoc] using h
theorem meets_mk {a b : Sp} (h1 : okB a = true) (h2 : okB b = true) (h3 : max a.1 b.1 ≤ min a.2 b.2) : meets a b = true := by
  simp [meets, h1, h2, h3]
theorem meets_off {a b : Sp} (h : okB a = false ∨ okB b = false ∨ min a.2 b.2 < max a.1 b.1) : meets a b = false := by
  unfold meets
  rcases h with h | h | h
  · rw [h]; rfl
  · rw [h, Bool.and_false]; rfl
  · rw [decide_eq_false (by omega), Bool.and_false]
theorem meet_ok {a b : Sp} (h : meets a b = true) : okB (meet a b) = true := by
  obtain ⟨h1, h2, h3⟩ := meets_yes h
  have v1 := okB_yes h1
  have v2 := okB_yes h2
  exact okB_mk (by unfold meet; simp only; omega)
/-- the meets of a span with the spans of a list -/
def mrow (x : Sp) (ys : List Sp) : List Sp := (ys.filter (meets x)).map (meet x)
def mall (xs ys : List Sp) : List Sp := xs.flatMap fun x => mrow x ys
theorem mrow_len (x : Sp) (ys : List Sp) : (mrow x ys).length ≤ ys.length := by
  unfold mrow
  rw [List.length_map]
  exact List.length_filter_le _ _
theorem mrow_snoc_yes {x : Sp} {ys : List Sp} {k : Nat} (hk : k < ys.length) (h : meets x ys[k] = true) : mrow x (ys.take (k + 1)) = mrow x (ys.take k) ++ [meet x ys[k]] := by
  unfold mrow
  rw [take_at hk, List.filter_append, List.map_append, List.filter_cons, if_pos h]
  rfl
theorem mrow_snoc_no {x : Sp} {ys : List Sp} {k : Nat} (hk : k < ys.length) (h : meets x ys[k] = false) : mrow x (ys.take (k + 1)) = mrow x (ys.take k) := by
  unfold mrow
  rw [take_at hk, List.filter_append, List.map_append, List.filter_cons, if_neg (by rw [h]; simp)]
  simp
theorem mall_snoc {xs : List Sp} (ys : List Sp) {i : Nat} (hi : i < xs.length) : mall (xs.take (i + 1)) ys = mall (xs.take i) ys ++ mrow xs[i] ys := by
  unfold mall
  rw [take_at hi, List.flatMap_append]
  simp
theorem mall_len (ys : List Sp) : ∀ xs : List Sp, (mall xs ys).length ≤ xs.length * ys.length
  | [] => by simp [mall]
  | x :: xs => by
    have h1 := mall_len ys xs
    have h2 := mrow_len x ys
    unfold mall at h1 ⊢
    rw [List.flatMap_cons, List.length_append, List.length_cons, Nat.succ_mul]
    omega
theorem mall_has (xs ys : List Sp) (t : Int) : Has (mall xs ys) t ↔ Has xs t ∧ Has ys t := by
  unfold Has mall mrow
  constructor
  · rintro ⟨s, hs, _, h1, h2⟩
    rw [List.mem_flatMap] at hs
    obtain ⟨x, hx, hs⟩ := hs
    rw [List.mem_map] at hs
    obtain ⟨y, hy, rfl⟩ := hs
    rw [List.mem_filter] at hy
    obtain ⟨o1, o2, _⟩ := meets_yes hy.2
    unfold meet at h1 h2
    simp only at h1 h2
    exact ⟨⟨x, hx, o1, by omega, by omega⟩, ⟨y, hy.1, o2, by omega, by omega⟩⟩
  · rintro ⟨⟨x, hx, o1, h1, h2⟩, ⟨y, hy, o2, h3, h4⟩⟩
    have hm : meets x y = true := meets_mk o1 o2 (by omega)
    refine ⟨meet x y, List.mem_flatMap.2 ⟨x, hx, List.mem_map.2 ⟨y, List.mem_filter.2 ⟨hy, hm⟩, rfl⟩⟩, meet_ok hm, ?_, ?_⟩ <;> unfold meet <;> simp only <;> omega

/-! ### the meet of two lists in order (the program's way) -/
structure Two (A B : List Sp) (i j : Nat) (M : List Sp) : Prop where
  can : Can M
  has : ∀ t, (Has M t ∨ (Has (A.drop i) t ∧ Has (B.drop j) t)) ↔ (Has A t ∧ Has B t)
  lo : ∀ m ∈ M, (∀ x ∈ A.drop i, m.2 + 1 < x.1) ∨ (∀ y ∈ B.drop j, m.2 + 1 < y.1)
  len : M.length ≤ i + j
theorem Two.start (A B : List Sp) : Two A B 0 0 [] := ⟨Can_nil, fun t => by simp [Has_nil], fun _ h => (by cases h), Nat.le_refl _⟩
theorem hd {L : List Sp} (hL : Can L) {i : Nat} (hi : i < L.length) : okB L[i] = true ∧ (∀ x ∈ L.drop (i + 1), L[i].2 + 1 < x.1) := by
  have h := Can_drop hL i
  rw [drop_at hi] at h
  exact ⟨(Can_cons.1 h).1, (Can_cons.1 h).2.1⟩
/-- the meet of the two first spans goes behind what is there -/
def more (a b : Sp) : List Sp := if meets a b = true then [meet a b] else []
theorem more_has (a b : Sp) (t : Int) (ha : okB a = true) (hb : okB b = true) : Has (more a b) t ↔ (a.1 ≤ t ∧ t ≤ a.2) ∧ (b.1 ≤ t ∧ t ≤ b.2) := by
  unfold more
  by_cases h : meets a b = true
  · rw [if_pos h, Has_one]
    have := meet_ok h
    simp only [this, true_and]
    unfold meet
    simp only
    omega
  · rw [if_neg h]
    refine ⟨fun h => absurd h (Has_nil t), fun hh => absurd (meets_mk ha hb (by omega)) h⟩
theorem more_can {A B M : List Sp} {i j : Nat} (h : Two A B i j M) (hi : i < A.length) (hj : j < B.length) : Can (M ++ more A[i] B[j]) := by
  unfold more
  by_cases hm : meets A[i] B[j] = true
  · rw [if_pos hm]
    refine Can_append.2 ⟨h.can, Can_one (meet_ok hm), fun x hx y hy => ?_⟩
    rw [List.mem_singleton] at hy
    rw [hy]
    have h1 := h.lo x hx
    rw [drop_at hi, drop_at hj] at h1
    unfold meet
    simp only
    rcases h1 with h1 | h1
    · have := h1 _ (List.mem_cons_self ..)
      omega
    · have := h1 _ (List.mem_cons_self ..)
      omega
  · rw [if_neg hm, List.append_nil]
    exact h.can
theorem more_len (a b : Sp) : (more a b).length ≤ 1 := by
  unfold more
  by_cases h : meets a b = true
  · rw [if_pos h]; exact Nat.le_refl _
  · rw [if_neg h]; exact Nat.zero_le _
theorem more_mem {a b x : Sp} (h : x ∈ more a b) : x.2 = min a.2 b.2 := by
  unfold more at h
  by_cases hm : meets a b = true
  · rw [if_pos hm, List.mem_singleton] at h
    rw [h]
    rfl
  · rw [if_neg hm] at h
    cases h
theorem Two.left {A B M : List Sp} {i j : Nat} (h : Two A B i j M) (hA : Can A) (hB : Can B) (hi : i < A.length) (hj : j < B.length) (hlt : A[i].2 < B[j].2) : Two A B (i + 1) j (M ++ more A[i] B[j]) := by
  obtain ⟨oa, aa⟩ := hd hA hi
  obtain ⟨ob, ab⟩ := hd hB hj
  have va := okB_yes oa
  have vb := okB_yes ob
  refine ⟨more_can h hi hj, fun t => ?_, fun m hm => ?_, ?_⟩
  · have h1 := h.has t
    rw [drop_at hi, drop_at hj, Has_cons, Has_cons] at h1
    rw [← h1, Has_append, more_has _ _ _ oa ob, drop_at hj, Has_cons]
    simp only [oa, ob, true_and]
    have h2 : Has (B.drop (j + 1)) t → B[j].2 + 1 < t := fun ⟨y, hy, _, hy1, _⟩ => by have := ab y hy; omega
    constructor
    · rintro ((h3 | ⟨h3, h4⟩) | ⟨h3, h4⟩)
      · exact .inl h3
      · exact .inr ⟨.inl h3, .inl h4⟩
      · exact .inr ⟨.inr h3, h4⟩
    · rintro (h3 | ⟨h3 | h3, h4 | h4⟩)
      · exact .inl (.inl h3)
      · exact .inl (.inr ⟨h3, h4⟩)
      · have := h2 h4
        omega
      · exact .inr ⟨h3, .inl h4⟩
      · exact .inr ⟨h3, .inr h4⟩
  · rcases List.mem_append.1 hm with hm | hm
    · have h1 := h.lo m hm
      rw [drop_at hi] at h1
      rcases h1 with h1 | h1
      · exact .inl fun x hx => h1 x (List.mem_cons_of_mem _ hx)
      · exact .inr h1
    · refine .inl fun x hx => ?_
      have h1 := more_mem hm
      have h2 := aa x hx
      omega
  · rw [List.length_append]
    have := h.len
    have := more_len A[i] B[j]
    omega
theorem Two.right {A B M : List Sp} {i j : Nat} (h : Two A B i j M) (hA : Can A) (hB : Can B) (hi : i < A.length) (hj : j < B.length) (hlt : ¬ A[i].2 < B[j].2) : Two A B i (j + 1) (M ++ more A[i] B[j]) := by
  obtain ⟨oa, aa⟩ := hd hA hi
  obtain ⟨ob, ab⟩ := hd hB hj
  have va := okB_yes oa
  have vb := okB_yes ob
  refine ⟨more_can h hi hj, fun t => ?_, fun m hm => ?_, ?_⟩
  · have h1 := h.has t
    rw [drop_at hi, drop_at hj, Has_cons, Has_cons] at h1
    rw [← h1, Has_append, more_has _ _ _ oa ob, drop_at hi, Has_cons]
    simp only [oa, ob, true_and]
    have h2 : Has (A.drop (i + 1)) t → A[i].2 + 1 < t := fun ⟨y, hy, _, hy1, _⟩ => by have := aa y hy; omega
    constructor
    · rintro ((h3 | ⟨h3, h4⟩) | ⟨h3, h4⟩)
      · exact .inl h3
      · exact .inr ⟨.inl h3, .inl h4⟩
      · exact .inr ⟨h3, .inr h4⟩
    · rintro (h3 | ⟨h3 | h3, h4 | h4⟩)
      · exact .inl (.inl h3)
      · exact .inl (.inr ⟨h3, h4⟩)
      · exact .inr ⟨.inl h3, h4⟩
      · have := h2 h3
        omega
      · exact .inr ⟨.inr h3, h4⟩
  · rcases List.mem_append.1 hm with hm | hm
    · have h1 := h.lo m hm
      rw [drop_at hj] at h1
      rcases h1 with h1 | h1
      · exact .inl h1
      · exact .inr fun x hx => h1 x (List.mem_cons_of_mem _ hx)
    · refine .inr fun x hx => ?_
      have h1 := more_mem hm
      have h2 := ab x hx
      omega
  · rw [List.length_append]
    have := h.len
    have := more_len A[i] B[j]
    omega
theorem Two.done {A B M : List Sp} {i j : Nat} (h : Two A B i j M) (he : A.length ≤ i ∨ B.length ≤ j) {xs ys : List Sp} (hA : ∀ t, Has A t ↔ Has xs t) (hB : ∀ t, Has B t ↔ Has ys t) : M = join (mall xs ys) := by
  refine join_of h.can fun t => ?_
  rw [mall_has, ← hA, ← hB, ← h.has t]
  refine ⟨.inl, fun h1 => h1.elim id fun ⟨h1, h2⟩ => ?_⟩
  rcases he with he | he
  · rw [List.drop_eq_nil_of_le he] at h1
    exact absurd h1 (Has_nil t)
  · rw [List.drop_eq_nil_of_le he] at h2
    exact absurd h2 (Has_nil t)

/-! ### inside, covered, touched -/
def inside (a b : Sp) : Bool := okB a && okB b && decide (b.1 ≤ a.1 ∧ a.2 ≤ b.2)
def covers (L : List Sp) (s : Sp) : Bool := (join L).any (inside s)
def touches (L : List Sp) (s : Sp) : Bool := L.any fun x => meets x s
end Go.Proofs.YtfojilogcecphaaGreat.Jn
