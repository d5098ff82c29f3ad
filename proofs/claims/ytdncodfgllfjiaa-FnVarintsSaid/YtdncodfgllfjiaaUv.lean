/- What is of no program: the varint of a number (groups of seven bits), the number that a list of bytes begins with, and that each undoes the other. -/
import Derived.Below
import Derived.Laws.BitsAllLaws
import Derived.Laws.BitsLemmas
namespace Go.Proofs.Ytdncodfgllfjiaa.Uv

/-! ### the varint -/
def uv (n : Nat) : List Int := if n < 128 then [(n : Int)] else ((n % 128 + 128 : Nat) : Int) :: uv (n / 128)
theorem uv_small {n : Nat} (h : n < 128) : uv n = [(n : Int)] := by rw [uv, if_pos h]
theorem uv_big {n : Nat} (h : ¬ n < 128) : uv n = ((n % 128 + 128 : Nat) : Int) :: uv (n / 128) := by rw [uv, if_neg h]
theorem uv_range (n : Nat) : ∀ x ∈ uv n, 0 ≤ x ∧ x ≤ 255 := by
  induction n using Nat.strongRecOn with
  | _ n ih =>
    intro x hx
    by_cases h : n < 128
    · rw [uv_small h] at hx
      simp at hx
      omega
    · rw [uv_big h, List.mem_cons] at hx
      rcases hx with rfl | hx
      · omega
      · exact ih _ (by omega) x hx
theorem uv_pos (n : Nat) : 1 ≤ (uv n).length := by
  by_cases h : n < 128
  · rw [uv_small h]; simp
  · rw [uv_big h]; simp
theorem uv_len (j : Nat) : ∀ n : Nat, n < 128 ^ (j + 1) → (uv n).length ≤ j + 1 := by
  induction j with
  | zero => intro n h; rw [uv_small (by simpa using h)]; simp
  | succ j ih =>
    intro n h
    by_cases h1 : n < 128
    · rw [uv_small h1]; simp
    · rw [uv_big h1, List.length_cons]
      have := ih (n / 128) (by rw [Nat.div_lt_iff_lt_mul (by decide)]; rw [Nat.pow_succ] at h; exact h)
      omega
theorem uv_len6 {n : Nat} (h : n ≤ 1000000000000) : (uv n).length ≤ 6 := uv_len 5 n (by omega)
/-- what AppendUvarint appends -/
def uvI (n : Int) : List Int := if 0 ≤ n ∧ n ≤ 1000000000000 then uv n.toNat else []
theorem uvI_in {n : Int} (h : 0 ≤ n ∧ n ≤ 1000000000000) : uvI n = uv n.toNat := if_pos h
theorem uvI_out {n : Int} (h : ¬ (0 ≤ n ∧ n ≤ 1000000000000)) : uvI n = [] := if_neg h
theorem uvI_nat {n : Nat} (h : n ≤ 1000000000000) : uvI (n : Int) = uv n := by rw [uvI_in (by omega)]; rfl
theorem uvI_range (n : Int) : ∀ x ∈ uvI n, 0 ≤ x ∧ x ≤ 255 := by
  unfold uvI
  split
  · exact uv_range _
  · intro x hx; cases hx
theorem uvI_len (n : Int) : (uvI n).length ≤ 6 := by
  unfold uvI
  split
  · exact uv_len6 (by omega)
  · simp
/-- what EncodeInts gives -/
def enc (l : List Int) : List Int := l.flatMap uvI
theorem enc_nil : enc [] = [] := rfl
theorem enc_cons (n : Int) (l : List Int) : enc (n :: l) = uvI n ++ enc l := by simp [enc]
theorem enc_snoc (l : List Int) (n : Int) : enc (l ++ [n]) = enc l ++ uvI n := by simp [enc]
theorem enc_range (l : List Int) : ∀ x ∈ enc l, 0 ≤ x ∧ x ≤ 255 := by
  intro x hx
  rw [enc, List.mem_flatMap] at hx
  obtain ⟨n, _, h⟩ := hx
  exact uvI_range n x h
theorem enc_len (l : List Int) : (enc l).length ≤ 6 * l.length := by
  induction l with
  | nil => simp [enc]
  | cons n l ih =>
    rw [enc_cons, List.length_append, List.length_cons]
    have := uvI_len n
    omega

/-! ### reading it back -/
def rdv : Nat → List Int → Nat → Int → Option (Int × Nat)
  | 0, _, _, _ => none
  | _ + 1, [], _, _ => none
  | f + 1, x :: l, k, acc =>
    if x < 128 then (if (x = 0 ∧ 0 < k) ∨ 1000000000000 < acc + x * 128 ^ k then none else some (acc + x * 128 ^ k, k + 1))
    else rdv f l (k + 1) (acc + (x - 128) * 128 ^ k)
/-- what ReadUvarint answers: nothing, or the number and the offset behind it -/
def rd (xs : List Int) (at_ : Int) : Option (Int × Int) :=
  if 0 ≤ at_ ∧ at_ ≤ xs.length then (rdv 6 (xs.drop at_.toNat) 0 0).map fun p => (p.1, at_ + p.2) else none
theorem rd_out {xs : List Int} {at_ : Int} (h : ¬ (0 ≤ at_ ∧ at_ ≤ xs.length)) : rd xs at_ = none := if_neg h
theorem rd_in {xs : List Int} {o : Nat} (h : o ≤ xs.length) : rd xs o = (rdv 6 (xs.drop o) 0 0).map fun p => (p.1, (o : Int) + p.2) := by
  unfold rd
  rw [if_pos (by omega)]
  rfl
theorem rdv_nil (f k : Nat) (acc : Int) : rdv f [] k acc = none := by cases f <;> rfl
theorem rdv_more {f : Nat} {x : Int} {l : List Int} {k : Nat} {acc : Int} (h : 128 ≤ x) : rdv (f + 1) (x :: l) k acc = rdv f l (k + 1) (acc + (x - 128) * 128 ^ k) := by
  rw [rdv, if_neg (by omega)]
theorem rdv_zero {f : Nat} {x : Int} {l : List Int} {k : Nat} {acc : Int} (h : x = 0) (hk : 0 < k) : rdv (f + 1) (x :: l) k acc = none := by
  rw [rdv, if_pos (by omega), if_pos (Or.inl ⟨h, hk⟩)]
theorem rdv_over {f : Nat} {x : Int} {l : List Int} {k : Nat} {acc : Int} (h : x < 128) (hn : 1000000000000 < acc + x * 128 ^ k) : rdv (f + 1) (x :: l) k acc = none := by
  rw [rdv, if_pos h, if_pos (Or.inr hn)]
theorem rdv_last {f : Nat} {x : Int} {l : List Int} {k : Nat} {acc : Int} (h : x < 128) (hz : ¬ (x = 0 ∧ 0 < k)) (hn : ¬ 1000000000000 < acc + x * 128 ^ k) : rdv (f + 1) (x :: l) k acc = some (acc + x * 128 ^ k, k + 1) := by
  rw [rdv, if_pos h, if_neg (by rintro (h1 | h1) <;> contradiction)]

theorem shift_up {acc a b c : Int} {k : Nat} (h : a + b * 128 = c) : acc + a * 128 ^ k + b * 128 ^ (k + 1) = acc + c * 128 ^ k := by
  rw [Int.pow_succ, ← h]
  generalize (128 : Int) ^ k = q
  rw [Int.add_assoc, Int.add_mul, Int.mul_comm q 128, Int.mul_assoc]
/-- the varint is read back, whatever follows -/
theorem rdv_uv : ∀ (f n k : Nat) (acc : Int) (r : List Int), (uv n).length ≤ f → (0 < n ∨ k = 0) → acc + n * 128 ^ k ≤ 1000000000000 → rdv f (uv n ++ r) k acc = some (acc + n * 128 ^ k, k + (uv n).length) := by
  intro f
  induction f with
  | zero => intro n k acc r h; have := uv_pos n; omega
  | succ f ih =>
    intro n k acc r h hk hn
    by_cases h1 : n < 128
    · have hx : (n : Int) < 128 := by omega
      have hz : ¬ ((n : Int) = 0 ∧ 0 < k) := by omega
      have hm : ¬ 1000000000000 < acc + (n : Int) * 128 ^ k := Int.not_lt.2 hn
      have hl := rdv_last (f := f) (l := r) hx hz hm
      rw [uv_small h1, List.singleton_append, hl]
      rfl
    · rw [uv_big h1] at h ⊢
      rw [List.length_cons] at h
      rw [List.cons_append, rdv_more (by omega)]
      have e : acc + (((n % 128 + 128 : Nat) : Int) - 128) * 128 ^ k + ((n / 128 : Nat) : Int) * 128 ^ (k + 1) = acc + (n : Int) * 128 ^ k := by
        exact shift_up (by omega)
      rw [ih (n / 128) (k + 1) _ r (by omega) (Or.inl (by omega)) (by rw [e]; exact hn), e, List.length_cons]
      congr 2
      omega
theorem rd_uv (xs r : List Int) {n : Nat} (h : n ≤ 1000000000000) : rd (xs ++ (uv n ++ r)) xs.length = some ((n : Int), (xs.length : Int) + (uv n).length) := by
  rw [rd_in (by simp), List.drop_left, rdv_uv 6 n 0 0 r (uv_len6 h) (Or.inr rfl) (by simp; omega)]
  simp
theorem rd_end (xs : List Int) : rd xs xs.length = none := by
  rw [rd_in (Nat.le_refl _), List.drop_length, rdv_nil]; rfl

/-- what was read is the varint of the number -/
theorem rdv_some : ∀ (f : Nat) (l : List Int) (k : Nat) (acc : Int) (v : Int) (e : Nat), (∀ x ∈ l, 0 ≤ x ∧ x ≤ 255) → 0 ≤ acc → rdv f l k acc = some (v, e) →
    ∃ n : Nat, v = acc + n * 128 ^ k ∧ v ≤ 1000000000000 ∧ (0 < n ∨ k = 0) ∧ e = k + (uv n).length ∧ (uv n).length ≤ l.length ∧ l.take (uv n).length = uv n := by
  intro f
  induction f with
  | zero => intro l k acc v e _ _ h; cases h
  | succ f ih =>
    intro l k acc v e hl ha h
    cases l with
    | nil => rw [rdv_nil] at h; cases h
    | cons x l =>
      have hx := hl x (List.mem_cons_self ..)
      by_cases h1 : x < 128
      · rw [rdv, if_pos h1] at h
        split at h
        · cases h
        · rename_i hno
          rw [not_or] at hno
          simp only [Option.some.injEq, Prod.mk.injEq] at h
          obtain ⟨rfl, rfl⟩ := h
          have hu : uv x.toNat = [x] := by rw [uv_small (by omega)]; congr 1; omega
          refine ⟨x.toNat, by rw [show ((x.toNat : Nat) : Int) = x by omega], by omega, by omega, by rw [hu]; rfl, by rw [hu]; simp, by rw [hu]; rfl⟩
      · rw [rdv_more (by omega)] at h
        have hp : (0 : Int) ≤ 128 ^ k := Int.le_of_lt (Int.pow_pos (by decide))
        obtain ⟨n, hv, hm, hn, he, hle, ht⟩ := ih l (k + 1) _ v e (fun y hy => hl y (List.mem_cons_of_mem _ hy)) (Int.add_nonneg ha (Int.mul_nonneg (by omega) hp)) h
        have hn0 : 0 < n := by omega
        have hu : uv ((x - 128).toNat + 128 * n) = x :: uv n := by
          rw [uv_big (by omega)]
          congr 1
          · omega
          · congr 1; omega
        refine ⟨(x - 128).toNat + 128 * n, ?_, hm, Or.inl (by omega), by rw [hu, List.length_cons]; omega, by rw [hu, List.length_cons, List.length_cons]; omega, by rw [hu, List.length_cons, List.take_succ_cons, ht]⟩
        rw [hv]
        exact shift_up (by omega)
/-- what was read at an offset: the number, its varint, and where it ends -/
theorem rd_some {xs : List Int} {at_ : Int} {v e : Int} (hx : ∀ x ∈ xs, 0 ≤ x ∧ x ≤ 255) (h : rd xs at_ = some (v, e)) :
    ∃ o n : Nat, at_ = o ∧ v = n ∧ n ≤ 1000000000000 ∧ e = ((o + (uv n).length : Nat) : Int) ∧ o + (uv n).length ≤ xs.length ∧ (xs.drop o).take (uv n).length = uv n := by
  by_cases hin : 0 ≤ at_ ∧ at_ ≤ xs.length
  · obtain ⟨o, rfl⟩ := Int.eq_ofNat_of_zero_le hin.1
    rw [rd_in (by omega)] at h
    rcases hr : rdv 6 (xs.drop o) 0 0 with _ | ⟨v', e'⟩
    · rw [hr] at h; cases h
    · rw [hr] at h
      simp only [Option.map_some, Option.some.injEq, Prod.mk.injEq] at h
      obtain ⟨rfl, rfl⟩ := h
      obtain ⟨n, hv, hm, _, he, hle, ht⟩ := rdv_some 6 _ 0 0 _ _ (fun y hy => hx y (List.mem_of_mem_drop hy)) (Int.le_refl _) hr
      rw [List.length_drop] at hle
      simp at hv he
      have := uv_pos n
      refine ⟨o, n, rfl, hv, by omega, by omega, by omega, ht⟩
  · rw [rd_out hin] at h; cases h

/-! ### a list of numbers read back -/
def dec : Nat → List Int → Int → Option (List Int × Int)
  | 0, _, at_ => some ([], at_)
  | n + 1, xs, at_ => match rd xs at_ with
    | none => none
    | some (v, e) => (dec n xs e).map fun p => (v :: p.1, p.2)
/-- what DecodeInts answers -/
def decI (xs : List Int) (at_ n : Int) : Option (List Int × Int) :=
  if (0 ≤ n ∧ n ≤ 100) ∧ (0 ≤ at_ ∧ at_ ≤ xs.length) then dec n.toNat xs at_ else none
theorem decI_out {xs : List Int} {at_ n : Int} (h : ¬ ((0 ≤ n ∧ n ≤ 100) ∧ (0 ≤ at_ ∧ at_ ≤ xs.length))) : decI xs at_ n = none := if_neg h
theorem decI_in {xs : List Int} {at_ n : Int} (h : (0 ≤ n ∧ n ≤ 100) ∧ (0 ≤ at_ ∧ at_ ≤ xs.length)) : decI xs at_ n = dec n.toNat xs at_ := if_pos h
theorem dec_fail {n : Nat} {xs : List Int} {at_ : Int} (h : rd xs at_ = none) : dec (n + 1) xs at_ = none := by rw [dec, h]
theorem dec_next {n : Nat} {xs : List Int} {at_ v e : Int} (h : rd xs at_ = some (v, e)) : dec (n + 1) xs at_ = (dec n xs e).map fun p => (v :: p.1, p.2) := by rw [dec, h]
theorem dec_enc (r : List Int) : ∀ (l xs : List Int), (∀ x ∈ l, 0 ≤ x ∧ x ≤ 1000000000000) → dec l.length (xs ++ (enc l ++ r)) xs.length = some (l, ((xs.length + (enc l).length : Nat) : Int)) := by
  intro l
  induction l with
  | nil => intro xs _; simp [dec, enc]
  | cons n l ih =>
    intro xs h
    have hn := h n (List.mem_cons_self ..)
    obtain ⟨m, rfl⟩ := Int.eq_ofNat_of_zero_le hn.1
    have h1 := rd_uv xs (enc l ++ r) (n := m) (by omega)
    rw [enc_cons, uvI_nat (by omega), List.append_assoc, List.length_cons, dec_next h1]
    have h2 := ih (xs ++ uv m) (fun x hx => h x (List.mem_cons_of_mem _ hx))
    rw [List.length_append, List.append_assoc] at h2
    rw [show (xs.length : Int) + ((uv m).length : Int) = ((xs.length + (uv m).length : Nat) : Int) by omega, h2]
    simp [Nat.add_assoc]
theorem dec_over : ∀ (l xs : List Int), (∀ x ∈ l, 0 ≤ x ∧ x ≤ 1000000000000) → dec (l.length + 1) (xs ++ enc l) xs.length = none := by
  intro l
  induction l with
  | nil => intro xs _; rw [enc_nil, List.append_nil]; exact dec_fail (rd_end xs)
  | cons n l ih =>
    intro xs h
    have hn := h n (List.mem_cons_self ..)
    obtain ⟨m, rfl⟩ := Int.eq_ofNat_of_zero_le hn.1
    have h1 := rd_uv xs (enc l) (n := m) (by omega)
    rw [enc_cons, uvI_nat (by omega), List.length_cons, dec_next h1]
    have h2 := ih (xs ++ uv m) (fun x hx => h x (List.mem_cons_of_mem _ hx))
    rw [List.length_append, List.append_assoc] at h2
    rw [show (xs.length : Int) + ((uv m).length : Int) = ((xs.length + (uv m).length : Nat) : Int) by omega, h2]
    rfl

/-! ### bytes -/
/-- what ReadBytes answers -/
def rb (xs : List Int) (at_ most : Int) : Option (List Int × Int) :=
  match rd xs at_ with
  | none => none
  | some (n, e) => if most < n ∨ xs.length - e < n then none else some ((xs.drop e.toNat).take n.toNat, e + n)
theorem rb_none {xs : List Int} {at_ most : Int} (h : rd xs at_ = none) : rb xs at_ most = none := by rw [rb, h]
theorem rb_over {xs : List Int} {at_ most n e : Int} (h : rd xs at_ = some (n, e)) (hn : most < n ∨ xs.length - e < n) : rb xs at_ most = none := by rw [rb, h]; exact if_pos hn
theorem rb_some {xs : List Int} {at_ most n e : Int} (h : rd xs at_ = some (n, e)) (hn : ¬ (most < n ∨ xs.length - e < n)) : rb xs at_ most = some ((xs.drop e.toNat).take n.toNat, e + n) := by rw [rb, h]; exact if_neg hn
theorem rb_made (xs ys : List Int) (h : ys.length ≤ 1000000000000) : rb (xs ++ (uv ys.length ++ ys)) xs.length ys.length = some (ys, ((xs.length + (uv ys.length).length + ys.length : Nat) : Int)) := by
  rw [rb_some (rd_uv xs ys h) (by simp only [List.length_append]; omega)]
  have e : (xs ++ (uv ys.length ++ ys)).drop ((xs.length : Int) + ((uv ys.length).length : Int)).toNat = ys := by
    rw [← List.append_assoc]
    exact List.drop_left' (by rw [List.length_append]; omega)
  rw [e]
  simp
theorem rb_short (xs ys : List Int) (h : ys.length ≤ 1000000000000) : rb (xs ++ (uv ys.length ++ ys)) xs.length ((ys.length : Int) - 1) = none :=
  rb_over (rd_uv xs ys h) (Or.inl (by omega))
end Go.Proofs.Ytdncodfgllfjiaa.Uv
