/- What is of no program: numbers put in order, each once; that there is one such list. -/
import Derived.Test.YtpjckbdljbpliaaSlI
namespace Go.Proofs.Ytpjckbdljbpliaa.Mtm
/-- how many come ahead of x -/
def cut : List Int → Int → Nat
  | [], _ => 0
  | y :: l, x => if y < x then cut l x + 1 else 0
def ins (l : List Int) (x : Int) : List Int := if x ∈ l then l else l.take (cut l x) ++ x :: l.drop (cut l x)
theorem cut_le : ∀ (l : List Int) (x : Int), cut l x ≤ l.length
  | [], _ => Nat.le_refl _
  | y :: l, x => by
    have := cut_le l x
    unfold cut
    split
    · simp only [List.length_cons]; omega
    · omega
theorem cut_at : ∀ {l : List Int} {x : Int} {j : Nat}, (∀ (i : Nat) (y : Int), i < j → l[i]? = some y → y < x) → (j = l.length ∨ ∃ y, l[j]? = some y ∧ ¬ y < x) → cut l x = j
  | [], x, j, _, h2 => by
    rcases h2 with h | ⟨y, h, _⟩
    · exact h.symm
    · simp at h
  | y :: l, x, 0, _, h2 => by
    rcases h2 with h | ⟨z, h, hz⟩
    · simp at h
    · simp only [List.getElem?_cons_zero, Option.some.injEq] at h
      subst h
      unfold cut
      rw [if_neg hz]
  | y :: l, x, j + 1, h1, h2 => by
    have h0 := h1 0 y (Nat.succ_pos _) rfl
    unfold cut
    rw [if_pos h0]
    congr 1
    refine cut_at (fun i z hi hz => h1 (i + 1) z (by omega) (by simpa using hz)) ?_
    rcases h2 with h | ⟨z, h, hz⟩
    · exact Or.inl (by simpa using h)
    · exact Or.inr ⟨z, by simpa using h, hz⟩
theorem take_lt : ∀ {l : List Int} {x y : Int}, y ∈ l.take (cut l x) → y < x
  | [], _, _, h => by simp at h
  | z :: l, x, y, h => by
    unfold cut at h
    split at h
    · rename_i hz
      rw [List.take_succ_cons, List.mem_cons] at h
      rcases h with rfl | h
      · exact hz
      · exact take_lt h
    · simp at h
theorem drop_le : ∀ {l : List Int} {x y : Int}, l.Pairwise (· < ·) → y ∈ l.drop (cut l x) → x ≤ y
  | [], _, _, _, h => by simp at h
  | z :: l, x, y, hs, h => by
    rw [List.pairwise_cons] at hs
    unfold cut at h
    split at h
    · rw [List.drop_succ_cons] at h
      exact drop_le hs.2 h
    · rename_i hz
      rw [List.drop_zero, List.mem_cons] at h
      rcases h with rfl | h
      · omega
      · have := hs.1 y h; omega
theorem ins_in {l : List Int} {x : Int} (h : x ∈ l) : ins l x = l := if_pos h
theorem ins_out {l : List Int} {x : Int} (h : ¬ x ∈ l) : ins l x = l.take (cut l x) ++ x :: l.drop (cut l x) := if_neg h
theorem ins_mem {l : List Int} {x y : Int} : y ∈ ins l x ↔ y = x ∨ y ∈ l := by
  by_cases h : x ∈ l
  · rw [ins_in h]
    exact ⟨Or.inr, fun k => k.elim (fun e => e ▸ h) id⟩
  · rw [ins_out h, List.mem_append, List.mem_cons]
    have e : y ∈ l ↔ y ∈ l.take (cut l x) ∨ y ∈ l.drop (cut l x) := by
      conv => lhs; rw [← List.take_append_drop (cut l x) l]
      exact List.mem_append
    rw [e]
    constructor
    · rintro (h | h | h)
      · exact Or.inr (Or.inl h)
      · exact Or.inl h
      · exact Or.inr (Or.inr h)
    · rintro (h | h | h)
      · exact Or.inr (Or.inl h)
      · exact Or.inl h
      · exact Or.inr (Or.inr h)
theorem ins_sort {l : List Int} {x : Int} (hs : l.Pairwise (· < ·)) : (ins l x).Pairwise (· < ·) := by
  by_cases h : x ∈ l
  · rw [ins_in h]; exact hs
  · rw [ins_out h, List.pairwise_append, List.pairwise_cons]
    refine ⟨hs.sublist (List.take_sublist _ _), ⟨fun y hy => ?_, hs.sublist (List.drop_sublist _ _)⟩, fun a ha b hb => ?_⟩
    · have h1 := drop_le hs hy
      have h2 : y ≠ x := fun e => h (e ▸ List.mem_of_mem_drop hy)
      omega
    · have h1 := take_lt ha
      rw [List.mem_cons] at hb
      rcases hb with rfl | hb
      · exact h1
      · have := drop_le hs hb; omega
theorem ins_len (l : List Int) (x : Int) : (ins l x).length ≤ l.length + 1 := by
  unfold ins
  split
  · omega
  · rw [List.length_append, List.length_cons, List.length_take, List.length_drop]
    omega
theorem uniq : ∀ {l m : List Int}, l.Pairwise (· < ·) → m.Pairwise (· < ·) → (∀ x, x ∈ l ↔ x ∈ m) → l = m
  | [], [], _, _, _ => rfl
  | [], b :: m, _, _, h => absurd ((h b).2 List.mem_cons_self) (by simp)
  | a :: l, [], _, _, h => absurd ((h a).1 List.mem_cons_self) (by simp)
  | a :: l, b :: m, hl, hm, h => by
    rw [List.pairwise_cons] at hl hm
    have hab : a = b := by
      have h1 := (h a).1 List.mem_cons_self
      have h2 := (h b).2 List.mem_cons_self
      rw [List.mem_cons] at h1 h2
      rcases h1 with h1 | h1
      · exact h1
      · rcases h2 with h2 | h2
        · exact h2.symm
        · have := hm.1 a h1
          have := hl.1 b h2
          omega
    subst hab
    congr 1
    refine uniq hl.2 hm.2 fun x => ?_
    have hx := h x
    rw [List.mem_cons, List.mem_cons] at hx
    constructor
    · intro k
      have := hl.1 x k
      rcases hx.1 (Or.inr k) with e | e
      · omega
      · exact e
    · intro k
      have := hm.1 x k
      rcases hx.2 (Or.inr k) with e | e
      · omega
      · exact e
/-- in order, each once -/
def srt (xs : List Int) : List Int := xs.foldl ins []
theorem fold_mem : ∀ (xs l : List Int) (y : Int), y ∈ xs.foldl ins l ↔ y ∈ xs ∨ y ∈ l
  | [], l, y => by simp
  | x :: xs, l, y => by
    rw [List.foldl_cons, fold_mem xs, ins_mem, List.mem_cons]
    constructor
    · rintro (h | h | h)
      · exact Or.inl (Or.inr h)
      · exact Or.inl (Or.inl h)
      · exact Or.inr h
    · rintro ((h | h) | h)
      · exact Or.inr (Or.inl h)
      · exact Or.inl h
      · exact Or.inr (Or.inr h)
theorem fold_sort : ∀ (xs l : List Int), l.Pairwise (· < ·) → (xs.foldl ins l).Pairwise (· < ·)
  | [], _, h => h
  | _ :: xs, _, h => fold_sort xs _ (ins_sort h)
theorem fold_len : ∀ (xs l : List Int), (xs.foldl ins l).length ≤ l.length + xs.length
  | [], _ => Nat.le_refl _
  | x :: xs, l => by
    have h1 := fold_len xs (ins l x)
    have h2 := ins_len l x
    rw [List.foldl_cons, List.length_cons]
    omega
theorem srt_mem (xs : List Int) (y : Int) : y ∈ srt xs ↔ y ∈ xs := by rw [srt, fold_mem]; simp
theorem srt_sort (xs : List Int) : (srt xs).Pairwise (· < ·) := fold_sort xs [] List.Pairwise.nil
theorem srt_len (xs : List Int) : (srt xs).length ≤ xs.length := by have := fold_len xs []; simpa [srt] using this
theorem srt_of {xs ys : List Int} (h : ys.Pairwise (· < ·)) (hm : ∀ x, x ∈ ys ↔ x ∈ xs) : ys = srt xs := uniq h (srt_sort xs) fun x => (hm x).trans (srt_mem xs x).symm
theorem srt_next {xs : List Int} {k : Nat} {x : Int} (h : xs[k]? = some x) : srt (xs.take (k + 1)) = ins (srt (xs.take k)) x := by
  unfold srt
  rw [List.take_add_one, h]
  simp
end Go.Proofs.Ytpjckbdljbpliaa.Mtm
