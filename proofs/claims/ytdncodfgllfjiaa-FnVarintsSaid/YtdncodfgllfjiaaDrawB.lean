/- Contracts of the reference's draws of chapter 2: some bytes, some varint. -/
import Derived.Test.YtdncodfgllfjiaaDrawOne
import Derived.Test.YtdncodfgllfjiaaVar
namespace Go.Proofs.Ytdncodfgllfjiaa.Cur
open Go.ChangeShapes Go.WideShapes Go.ChangeAt Go.RowKit Sl

theorem rd_drew {k : IntKind} {w : World} {p : Option Addr} {n : Nat} {zs : List Int} (h : Rd k w p n zs) : Rd k w.drew p n zs := h
theorem below_drew {B : Nat} {a w : World} (h : Below B a w) : Below B a w.drew := ⟨h.os, h.tape, h.output, h.size, h.block⟩
theorem below_g {w w1 w2 : World} (hb : Below w.heap.size w w1) (hg : w1.grownBy w2 (some w.heap.size)) : Below w.heap.size w w2 :=
  hb.grown hg hb.size (fun _ h => by cases h; exact Nat.le_refl _)
theorem big_any (v : Value) (n : Nat) (b : Bool) (w : World) (hc : Code v n w) (hb : decide (1048576 < n) = b) : Calls Try.prog 13 #[v] w fun e w' => e = .returned (.bool b) ∧ w = w' := by
  subst hb
  obtain ⟨hm, hc⟩ := hc
  unfold maxLen at hm
  obtain ⟨a, cap, rfl⟩ : ∃ a cap, v = .slice a n cap := by
    rcases hc with ⟨rfl, a0, cap0, rfl⟩ | ⟨b, off, cap, rfl, _⟩
    · exact ⟨_, _, rfl⟩
    · exact ⟨_, _, rfl⟩
  go_enter Try.func13, Try.ntmps13
  go_wp2_with fail
  go_ret
  refine ⟨Ints.ret_bool ?_, rfl⟩
  rw [Bool.eq_iff_iff]
  simp only [decide_eq_true_eq]
  omega
/-- The call answers n bytes of its own; the cursor stands on; its block alone has turned. -/
def GivesL (g : Nat) (n : Nat) (w : World) (e : Ending) (w' : World) : Prop :=
  ∃ p c zs, e = .returned (.slice p n c) ∧ Ow .u8 5 w' w.heap.size w'.heap.size p n c zs ∧ Cur g w' ∧ w.grownBy w' (some g)
/-- on the way -/
def BytesMid (g m : Nat) (p : Option Addr) (c : Nat) (w wr : World) : Prop :=
  ∃ zs, Ow .u8 5 wr w.heap.size wr.heap.size p m c zs ∧ Cur g wr ∧ w.grownBy wr (some g)
theorem BytesMid.byte {g m c : Nat} {p : Option Addr} {w wr w1 : World} (h : BytesMid g m p c w wr) (hlt : g < w.heap.size) (hc : Cur g w1) (hg : wr.grownBy w1 (some g)) : BytesMid g m p c w w1 := by
  obtain ⟨zs, ho, _, h1⟩ := h
  exact ⟨zs, (ho.kept hg (fun k e => by cases e; exact Or.inl hlt)).wide (Nat.le_refl _) hg.size (Nat.le_refl _), hc, only_trans h1 hg⟩
theorem only_far {a w w' : World} {g : Nat} {row : Option Nat} (h : a.grownBy w (some g)) (hg : w.grownBy w' row) (hr : ∀ k, row = some k → a.heap.size ≤ k) : a.grownBy w' (some g) :=
  ⟨hg.os.trans h.os, hg.tape.trans h.tape, hg.output.trans h.output, Nat.le_trans h.size hg.size, fun i hi hne => (hg.block i (Nat.lt_of_lt_of_le hi h.size) (fun e => by have := hr _ e.symm; omega)).trans (h.block i hi hne)⟩
theorem BytesMid.app {g m c c2 : Nat} {p p2 : Option Addr} {zs ys : List Int} {w wr w2 : World} {o : Obj} (ho : Ow .u8 5 wr w.heap.size wr.heap.size p m c zs) (h : Cur g wr) (hg : w.grownBy wr (some g)) (hlt : g < w.heap.size)
    (how : Ow .u8 5 w2 w.heap.size w2.heap.size p2 (m + 1) c2 ys) (hg2 : (wr.alloc o).grownBy w2 (Value.slice p m c).ownBlock) : BytesMid g (m + 1) p2 c2 w w2 := by
  have hfar := ho.far
  refine ⟨ys, how, (h.keep (only_alloc (only_refl _ none) o) (fun _ e => by cases e)).keep hg2 (fun k e => by have := hfar k e; omega), only_far (only_alloc hg o) hg2 (fun k e => (hfar k e).1)⟩
set_option maxHeartbeats 400000 in
theorem bytes_any (g : Nat) (n : Nat) (w : World) (hc : Cur g w) (hn : n ≤ 1000000) : Calls Try.prog 45 #[.pointer (some ⟨g, 0, none⟩), .int .i64 n] w (GivesL g n w) := by
  obtain ⟨i0, hi, hz0, hz1, hz2⟩ := info_parts SlB.info
  have hlt := hc.lt
  have HM : Hid (BytesMid g 0 (some ⟨w.heap.size, 0, none⟩) 0 w (w.alloc (.cells #[] 5))) :=
    ⟨[], by simpa using Var.empty_own w w.heap.size (Nat.le_refl _), hc.keep (only_alloc (only_refl _ none) _) (fun _ e => by cases e), only_alloc (only_refl _ _) _⟩
  clear hc
  go_enter Try.func45, Try.ntmps45
  go_wp2_with fail
  go_loopw [5, 6] (fun b i wr => ∃ (k c' : Nat) (p' : Option Addr), k ≤ n ∧ i = .int .i64 k ∧ b = .slice p' k c' ∧ Hid (BytesMid g k p' c' w wr)) (fun _ i _ => n - (intOf i).toNat)
  case atStart => exact ⟨0, _, _, Nat.zero_le _, rfl, rfl, HM⟩
  case round =>
    obtain ⟨k, c', p', hk, rfl, rfl, HK⟩ := hrel
    by_cases hkn : k < n
    · obtain ⟨_, _, hcur, _⟩ := HK.out
      have HC := Lib.hid hcur
      clear hcur
      go_wp2_with fail
      refine (byte_any g _ HC.out).mono ?_
      rintro e w1 ⟨x, rfl, ⟨x0, x1⟩, hc1, hg1⟩
      have HK1 := Lib.hid (HK.out.byte hlt hc1 hg1)
      clear hc1 hg1
      obtain ⟨zs, ho, hc2, hg2⟩ := HK1.out
      have HO := Lib.hid ho
      have HC2 := Lib.hid hc2
      have HG2 := Lib.hid hg2
      have hs2 := hg2.size
      clear ho hc2 hg2
      go_wp2_with (at_builtin; refine wpList_app1 rfl (.tmp 13) (.tmp 17) 22 rfl i0 _ 1 Try.underlying22 hi hz0 hz1 hz2 rfl rfl (HO.out.alloc _) w1.heap.size 1 x rfl (by go_simp) ⟨by omega, by omega⟩ (by simp; omega) (by omega) (by omega) ?_; intro p3 c3 w3 how3 hg3)
      refine ⟨⟨k + 1, _, _, by omega, by go_num, rfl, BytesMid.app HO.out HC2.out HG2.out hlt how3 hg3⟩, by simp [intOf]; omega⟩
    · obtain rfl : k = n := by omega
      go_wp2_with fail
      go_ret
      obtain ⟨zs, ho, hc, hg⟩ := HK.out
      exact ⟨_, _, _, rfl, ho, hc, hg⟩

/-- The call answers at most m bytes, readable, and an int; what lay before is as it was. -/
def GivesBI (m : Nat) (w : World) (e : Ending) (w' : World) : Prop :=
  ∃ p n c zs x, e = .returned (.tuple #[.slice p n c, .int .i64 x]) ∧ Rd .u8 w' p n zs ∧ n ≤ m ∧ n ≤ c ∧ c ≤ 9223372036854775807 ∧ isInt x ∧ Below w.heap.size w w'
def GivesBB (m : Nat) (w : World) (e : Ending) (w' : World) : Prop :=
  ∃ p n c zs p' n' c' zs', e = .returned (.tuple #[.slice p n c, .slice p' n' c']) ∧ Rd .u8 w' p n zs ∧ n ≤ m ∧ Rd .u8 w' p' n' zs' ∧ n' ≤ m ∧ Below w.heap.size w w'
set_option maxHeartbeats 400000 in
theorem drawAppend_any (v : Value) (n : Nat) (w : World) (hc : Code v n w) : Calls Try.prog 14 #[v] w (GivesBI 100 w) := by
  have HC := Lib.hid hc
  clear hc
  go_enter Try.func14, Try.ntmps14
  go_wp2_with fail
  refine (new_any v n _ HC.out).mono ?_
  rintro e w1 ⟨rfl, hc1, hb1⟩
  have HC1 := Lib.hid hc1
  have HB1 := Lib.hid hb1
  clear hc1 hb1
  go_wp2_with fail
  refine (below_any _ 3 _ HC1.out (by decide)).mono ?_
  rintro e w2 ⟨x, rfl, ⟨x0, x1, _⟩, hc2, hg2⟩
  obtain ⟨k, rfl⟩ := Int.eq_ofNat_of_zero_le x0
  have HC2 := Lib.hid hc2
  have HB2 := Lib.hid (below_g HB1.out hg2)
  have hk : k ≤ 2 := by omega
  clear hc2 hg2 x1
  go_wp2_with fail
  refine (bytes_any _ k _ HC2.out (by omega)).mono ?_
  rintro e w3 ⟨p3, c3, zs3, rfl, ho3, hc3, hg3⟩
  have HO3 := Lib.hid ho3
  have HC3 := Lib.hid hc3
  have HB3 := Lib.hid (below_g HB2.out hg3)
  have HS := Lib.hid HC2.out.lt
  clear ho3 hc3 hg3
  go_wp2_with fail
  refine (one_any _ _ HC3.out).mono ?_
  rintro e w4 ⟨y, rfl, hy, hc4, hg4⟩
  have HY := Lib.hid hy
  have HG4 := Lib.hid hg4
  clear hc4 hg4 hy
  go_wp2_with fail
  go_ret2
  have hle := HO3.out.le
  exact ⟨_, _, _, _, _, rfl, (HO3.out.kept HG4.out (fun g e => by cases e; exact Or.inl HS.out)).rd, by omega, hle.1, hle.2, HY.out, below_g HB3.out HG4.out⟩
set_option maxHeartbeats 400000 in
theorem drawAppendB_any (v : Value) (n : Nat) (w : World) (hc : Code v n w) : Calls Try.prog 20 #[v] w (GivesBB 100 w) := by
  have HC := Lib.hid hc
  clear hc
  go_enter Try.func20, Try.ntmps20
  go_wp2_with fail
  refine (new_any v n _ HC.out).mono ?_
  rintro e w1 ⟨rfl, hc1, hb1⟩
  have HC1 := Lib.hid hc1
  have HB1 := Lib.hid hb1
  clear hc1 hb1
  go_wp2_with fail
  refine (below_any _ 3 _ HC1.out (by decide)).mono ?_
  rintro e w2 ⟨x, rfl, ⟨x0, x1, _⟩, hc2, hg2⟩
  obtain ⟨k, rfl⟩ := Int.eq_ofNat_of_zero_le x0
  have HC2 := Lib.hid hc2
  have HB2 := Lib.hid (below_g HB1.out hg2)
  have hk : k ≤ 2 := by omega
  clear hc2 hg2 x1
  go_wp2_with fail
  refine (bytes_any _ k _ HC2.out (by omega)).mono ?_
  rintro e w3 ⟨p3, c3, zs3, rfl, ho3, hc3, hg3⟩
  have HO3 := Lib.hid ho3
  have HC3 := Lib.hid hc3
  have HB3 := Lib.hid (below_g HB2.out hg3)
  have HS := Lib.hid HC2.out.lt
  clear ho3 hc3 hg3
  go_wp2_with fail
  refine (below_any _ 6 _ HC3.out (by decide)).mono ?_
  rintro e w4 ⟨y, rfl, ⟨y0, y1, _⟩, hc4, hg4⟩
  obtain ⟨k', rfl⟩ := Int.eq_ofNat_of_zero_le y0
  have HC4 := Lib.hid hc4
  have HB4 := Lib.hid (below_g HB3.out hg4)
  have HO4 := Lib.hid (HO3.out.kept hg4 (fun g e => by cases e; exact Or.inl HS.out))
  have hk' : k' ≤ 5 := by omega
  have HS4 := Lib.hid hg4.size
  clear hc4 hg4 y1
  go_wp2_with fail
  refine (bytes_any _ k' _ HC4.out (by omega)).mono ?_
  rintro e w5 ⟨p5, c5, zs5, rfl, ho5, hc5, hg5⟩
  have HO5 := Lib.hid ho5
  have HB5 := Lib.hid (below_g HB4.out hg5)
  have HO6 := Lib.hid (HO4.out.kept hg5 (fun g e => by cases e; exact Or.inl HS.out))
  clear ho5 hc5 hg5
  go_wp2_with fail
  go_ret2
  exact ⟨_, _, _, _, _, _, _, _, rfl, HO6.out.rd, by omega, HO5.out.rd, by omega, HB5.out⟩
/-- on the way of a drawn varint -/
def VarMid (g lo m : Nat) (p : Option Addr) (c : Nat) (w wr : World) : Prop :=
  ∃ zs, Ow .u8 5 wr lo wr.heap.size p m c zs ∧ Cur g wr ∧ Below w.heap.size w wr ∧ lo ≤ wr.heap.size
set_option maxHeartbeats 1000000 in
theorem drawRead_any (v : Value) (n : Nat) (w : World) (hc : Code v n w) : Calls Try.prog 18 #[v] w (GivesBI 100 w) := by
  obtain ⟨i0, hi, hz0, hz1, hz2⟩ := info_parts SlB.info
  have HC := Lib.hid hc
  clear hc
  go_enter Try.func18, Try.ntmps18
  go_wp2_with fail
  refine (new_any v n _ HC.out).mono ?_
  rintro e w1 ⟨rfl, hc1, hb1⟩
  have HC1 := Lib.hid hc1
  have HB1 := Lib.hid hb1
  clear hc1 hb1
  go_wp2_with fail
  refine (once_any _ 2 _ HC1.out (by decide)).mono ?_
  rintro e w2 ⟨b, rfl, hc2, hg2⟩
  have HC2 := Lib.hid hc2
  have HB2 := Lib.hid (below_g HB1.out hg2)
  clear hc2 hg2
  cases b
  · go_wp2_with fail
    refine (below_any _ 8 _ (HC2.out.keep (only_alloc (only_refl _ none) _) (fun _ e => by cases e)) (by decide)).mono ?_
    rintro e w3 ⟨x, rfl, ⟨x0, x1, _⟩, hc3, hg3⟩
    obtain ⟨k, rfl⟩ := Int.eq_ofNat_of_zero_le x0
    have hk : k ≤ 7 := by omega
    have HS := Lib.hid HC2.out.lt
    have hsz := hg3.size
    simp at hsz
    have HM : Hid (VarMid w.heap.size w2.heap.size 0 (some ⟨w2.heap.size, 0, none⟩) 0 w w3) :=
      ⟨[], ((Var.empty_own w2 w2.heap.size (Nat.le_refl _)).kept hg3 (fun g e => by cases e; exact Or.inl HS.out)).wide (Nat.le_refl _) hsz (Nat.le_refl _), hc3, below_g (HB2.out.alloc HB2.out.size _) hg3, by omega⟩
    clear hc3 hg3 x1
    go_wp2_with fail
    go_loopw [5, 6] (fun b i wr => ∃ (j m c' : Nat) (p' : Option Addr), j + m ≤ 7 ∧ i = .int .i64 j ∧ b = .slice p' m c' ∧ Hid (VarMid w.heap.size w2.heap.size m p' c' w wr)) (fun _ i _ => (intOf i).toNat)
    case atStart => exact ⟨k, 0, _, _, by omega, rfl, rfl, HM⟩
    case round =>
      obtain ⟨j, m, c', p', hj, rfl, rfl, HK⟩ := hrel
      obtain ⟨zs, ho, hcur, hbe, hlo⟩ := HK.out
      have HO := Lib.hid ho
      have HCr := Lib.hid hcur
      have HBr := Lib.hid hbe
      clear ho hcur hbe
      by_cases hj0 : 0 < j
      · go_wp2_with fail
        refine (int_lit _ [128, 255, 0, 1, 127] _ HCr.out (by decide) (by decide)).mono ?_
        rintro e w4 ⟨y, rfl, hy, hc4, hg4⟩
        have hy2 : 0 ≤ y ∧ y ≤ 255 := by
          simp only [List.mem_cons, List.not_mem_nil, or_false] at hy
          omega
        obtain ⟨hy3, hy4⟩ := hy2
        have HO4 := Lib.hid ((HO.out.kept hg4 (fun g e => by cases e; exact Or.inl HS.out)).wide (Nat.le_refl _) hg4.size (Nat.le_refl _))
        have HC4 := Lib.hid hc4
        have HB4 := Lib.hid (below_g HBr.out hg4)
        have hs4 := hg4.size
        clear hy hc4 hg4
        go_wp2_with (at_builtin; refine wpList_app1 rfl (.tmp 23) (.tmp 28) 22 rfl i0 _ 1 Try.underlying22 hi hz0 hz1 hz2 rfl rfl (HO4.out.alloc _) w4.heap.size 1 y rfl (by go_simp) ⟨by omega, by omega⟩ (by simp; omega) (by omega) (by omega) ?_; intro p5 c5 w5 how5 hg5)
        have hfar := HO4.out.far
        have hs5 := hg5.size
        simp at hs5
        have HSo := HS.out
        have hlow := HB2.out.size
        refine ⟨⟨j - 1, m + 1, _, _, by omega, by go_num, rfl, ⟨_, how5, (HC4.out.keep (only_alloc (only_refl _ none) _) (fun _ e => by cases e)).keep hg5 (fun k e => by have := hfar k e; omega), (HB4.out.alloc HB4.out.size _).grown hg5 (by have := HB4.out.size; simp; omega) (fun k e => by have := hfar k e; omega), by omega⟩⟩, by simp [intOf]; omega⟩
      · go_wp2_with fail
        refine (below_any _ 4 _ HCr.out (by decide)).mono ?_
        rintro e w4 ⟨y, rfl, ⟨y0, y1, _⟩, hc4, hg4⟩
        have HG4 := Lib.hid hg4
        have y2 : y ≤ 3 := by omega
        clear hc4 hg4 y1
        go_wp2_with fail
        go_ret2
        have hle := HO.out.le
        exact ⟨_, _, _, _, _, rfl, (HO.out.kept HG4.out (fun g e => by cases e; exact Or.inl HS.out)).rd, by omega, hle.1, hle.2, ⟨by omega, by omega⟩, below_g HBr.out HG4.out⟩
  · go_wp2_with fail
    refine (bytes_any _ 1 _ HC2.out (by omega)).mono ?_
    rintro e w3 ⟨p3, c3, zs3, rfl, ho3, hc3, hg3⟩
    have HO3 := Lib.hid ho3
    have HC3 := Lib.hid hc3
    have HB3 := Lib.hid (below_g HB2.out hg3)
    have HS := Lib.hid HC2.out.lt
    clear ho3 hc3 hg3
    go_wp2_with fail
    refine (num_any _ _ HC3.out).mono ?_
    rintro e w4 ⟨y, rfl, hy, hc4, hg4⟩
    have HY := Lib.hid hy
    have HO4 := Lib.hid (HO3.out.kept hg4 (fun g e => by cases e; exact Or.inl HS.out))
    have HB4 := Lib.hid (below_g HB3.out hg4)
    clear hc4 hg4 hy
    go_wp2_with fail
    refine (Var.spec_append_any _ _ _ _ _ _ HO4.out.rd (by omega)).mono ?_
    rintro e w5 ⟨p5, n5, c5, rfl, ho5, hb5⟩
    have HO5 := Lib.hid ho5
    have HB5 := Lib.hid (below_on HB4.out hb5)
    clear ho5 hb5
    go_wp2_with fail
    go_ret2
    have hle := HO5.out.le
    have h1 := HO5.out.len
    have h2 := Uv.uvI_len y
    have h3 := HO4.out.len
    rw [List.length_append] at h1
    exact ⟨_, _, _, _, _, rfl, HO5.out.rd, by omega, hle.1, hle.2, ⟨by omega, by omega⟩, HB5.out⟩
end Go.Proofs.Ytdncodfgllfjiaa.Cur
