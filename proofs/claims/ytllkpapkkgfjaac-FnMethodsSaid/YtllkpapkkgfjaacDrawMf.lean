/- The reference's draws of chapter 5, whole: a list and an Id, with a time, a list of numbers. -/
import Derived.Test.YtllkpapkkgfjaacDrawMe
import Derived.Test.YtllkpapkkgfjaacSlI
namespace Go.Proofs.Ytllkpapkkgfjaac.Cur
open Go.ChangeShapes Go.WideShapes Go.ChangeAt Go.RowKit Sl St Mn SlMethod

/-- a list of methods that was drawn -/
def Ms (zs : List Me) (m : Nat) (w : World) (p : Option Addr) : Prop := RdS E w p m zs ∧ (∀ x ∈ zs, InR x) ∧ m ≤ 4
theorem Ms.below {zs : List Me} {m : Nat} {w w' : World} {p : Option Addr} (h : Ms zs m w p) (hb : Below w.heap.size w w') : Ms zs m w' p := ⟨h.1.below hb, h.2⟩
set_option maxHeartbeats 1000000 in
theorem drawFind_any (v : Value) (n : Nat) (w : World) (hc : Code v n w) : Calls Try.prog 133 #[v] w fun e w' => ∃ p m c zs id, e = .returned (.tuple #[.slice p m c, .int .i64 id]) ∧ Ms zs m w' p ∧ isInt id ∧ Below w.heap.size w w' := by
  have HC := Lib.hid hc
  clear hc
  go_enter Try.func133, Try.ntmps133
  go_wp2_with fail
  refine (new_any v n _ HC.out).mono ?_
  rintro e w1 ⟨rfl, hc1, hb1⟩
  have HC1 := Lib.hid hc1
  have HB1 := Lib.hid hb1
  have hgl := hc1.lt
  clear hc1 hb1
  go_wp2_with fail
  refine (any5_any _ _ HC1.out).mono ?_
  rintro e w2 ⟨p2, m2, c2, zs2, rfl, hr, hf, hin, hm, hc, hg⟩
  have HR2 := Lib.hid hr
  have HF2 := Lib.hid hf
  have HI2 := Lib.hid hin
  have HC2 := Lib.hid hc
  have HB2 := Lib.hid (below_g HB1.out hg)
  clear hr hf hin hc hg
  go_wp2_with fail
  refine (below_any _ 6 _ HC2.out (by decide)).mono ?_
  rintro e w3 ⟨x, rfl, ⟨x0, x1, _⟩, hc, hg⟩
  have x6 := x1 (by omega)
  have HB3 := Lib.hid (below_g HB2.out hg)
  have HR3 := Lib.hid (HR2.out.grown hg (fun b o e h => by
    have := HF2.out b o e
    simp only [Option.some.injEq] at h
    omega))
  clear hc hg x1
  go_wp2_with fail
  go_ret2
  exact ⟨_, _, _, _, _, rfl, ⟨HR3.out, HI2.out, hm⟩, ⟨by omega, by omega⟩, HB3.out⟩
set_option maxHeartbeats 1000000 in
theorem drawAlive_any (v : Value) (n : Nat) (w : World) (hc : Code v n w) : Calls Try.prog 74 #[v] w fun e w' => ∃ p m c zs id t, e = .returned (.tuple #[.slice p m c, .int .i64 id, .int .i64 t]) ∧ Ms zs m w' p ∧ isInt id ∧ isInt t ∧ Below w.heap.size w w' := by
  have HC := Lib.hid hc
  clear hc
  go_enter Try.func74, Try.ntmps74
  go_wp2_with fail
  refine (drawFind_any v n _ HC.out).mono ?_
  rintro e w1 ⟨p1, m1, c1, zs1, id, rfl, hms, hid, hb1⟩
  have HM1 := Lib.hid hms
  have HC1 := Lib.hid (HC.out.on hb1)
  have HB1 := Lib.hid hb1
  clear hms hb1
  go_wp2_with fail
  refine (new_any v n _ HC1.out).mono ?_
  rintro e w2 ⟨rfl, hc2, hb2⟩
  have HC2 := Lib.hid hc2
  have HM2 := Lib.hid (HM1.out.below hb2)
  have HB2 := Lib.hid (below_on HB1.out hb2)
  have HG2 := Lib.hid hb2
  clear hc2 hb2
  go_wp2_with fail
  refine (int_lit _ [0, 10, 19, 20, 49, 50, 60, 69, 70, 199, 200, 10000] _ HC2.out (by decide) (by decide)).mono ?_
  rintro e w3 ⟨t, rfl, ht, hc3, hg3⟩
  have htt : isInt t := by simp only [List.mem_cons, List.not_mem_nil, or_false] at ht; unfold isInt; omega
  have hb3 := below_g HG2.out hg3
  have HB3 := Lib.hid (below_on HB1.out hb3)
  have HM3 := Lib.hid (HM1.out.below hb3)
  clear hc3 hg3 ht hb3
  go_wp2_with fail
  go_ret3
  exact ⟨_, _, _, _, _, _, rfl, HM3.out, hid, htt, HB3.out⟩
set_option maxHeartbeats 1000000 in
theorem drawBest_any (v : Value) (n : Nat) (w : World) (hc : Code v n w) : Calls Try.prog 79 #[v] w fun e w' => ∃ p m c zs t, e = .returned (.tuple #[.slice p m c, .int .i64 t]) ∧ Ms zs m w' p ∧ isInt t ∧ Below w.heap.size w w' := by
  go_enter Try.func79, Try.ntmps79
  go_wp2_with fail
  refine (drawAlive_any v n _ hc).mono ?_
  rintro e w1 ⟨p1, m1, c1, zs1, id, t, rfl, hms, _, ht, hb1⟩
  have HM1 := Lib.hid hms
  have HB1 := Lib.hid hb1
  clear hms hb1
  go_wp2_with fail
  go_ret2
  exact ⟨_, _, _, _, _, rfl, HM1.out, ht, HB1.out⟩
theorem empty5 (w : World) (lo : Nat) (h : lo ≤ w.heap.size) : Ow .i64 3 (w.alloc (.cells #[] 3)) lo (w.alloc (.cells #[] 3)).heap.size (some ⟨w.heap.size, 0, none⟩) 0 0 [] :=
  Ow.of_row (World.ownsRow_lit w #[] 0 h (by unfold maxLen; omega) rfl) (fun x hx => by cases hx)
/-- on the way: the numbers drawn -/
def NMid (g lo m : Nat) (p : Option Addr) (c : Nat) (w wr : World) : Prop := ∃ zs, Ow .i64 3 wr lo wr.heap.size p m c zs ∧ (∀ z ∈ zs, 0 ≤ z ∧ z ≤ 8) ∧ Cur g wr ∧ Below w.heap.size w wr ∧ lo ≤ wr.heap.size
theorem NMid.app {g lo m c c2 : Nat} {p p2 : Option Addr} {zs : List Int} {z : Int} {w w4 w5 : World} {o : Obj} (ho : Ow .i64 3 w4 lo w4.heap.size p m c zs) (hz : ∀ z ∈ zs, 0 ≤ z ∧ z ≤ 8) (hzz : 0 ≤ z ∧ z ≤ 8) (hc : Cur g w4) (hb : Below w.heap.size w w4) (hl : lo ≤ w4.heap.size) (hg : g < lo) (hw : w.heap.size ≤ lo)
    (how5 : Ow .i64 3 w5 lo w5.heap.size p2 (m + 1) c2 (zs ++ [z])) (hg5 : (w4.alloc o).grownBy w5 (Value.slice p m c).ownBlock) : NMid g lo (m + 1) p2 c2 w w5 := by
  have hl2 : lo ≤ (w4.alloc o).heap.size := Nat.le_trans hl (by simp)
  refine ⟨zs ++ [z], how5, fun q hq => ?_, (hc.on (below_alloc _ _)).keep hg5 (fun k hk => Nat.lt_of_lt_of_le hg (ho.far k hk).1), (hb.alloc hb.size _).trans (((ho.alloc _).below_row hg5 hl2).mono hw), Nat.le_trans hl2 hg5.size⟩
  rcases List.mem_append.1 hq with h | h
  · exact hz q h
  · rw [List.mem_singleton] at h
    rw [h]
    exact hzz
set_option maxRecDepth 100000 in
set_option maxHeartbeats 2000000 in
theorem drawDigest_any (v : Value) (n : Nat) (w : World) (hc : Code v n w) : Calls Try.prog 82 #[v] w fun e w' => ∃ x p m c zs, e = .returned (.tuple #[.int .i64 x, .slice p m c]) ∧ (0 ≤ x ∧ x ≤ 4) ∧ Rd .i64 w' p m zs ∧ (∀ z ∈ zs, 0 ≤ z ∧ z ≤ 8) ∧ m ≤ 3 ∧ Below w.heap.size w w' := by
  obtain ⟨i0, hi, hz0, hz1, hz2⟩ := info_parts SlI.info
  have HC := Lib.hid hc
  clear hc
  go_enter Try.func82, Try.ntmps82
  go_wp2_with fail
  refine (new_any v n _ HC.out).mono ?_
  rintro e w1 ⟨rfl, hc1, hb1⟩
  have HC1 := Lib.hid hc1
  have HB1 := Lib.hid hb1
  clear hc1 hb1
  go_wp2_with fail
  refine (below_any _ 5 _ HC1.out (by decide)).mono ?_
  rintro e w2 ⟨x, rfl, ⟨x0, x1, _⟩, hc2, hg2⟩
  have x5 := x1 (by omega)
  have hgl := hc2.lt
  have HC2 := Lib.hid (hc2.on (below_alloc w2 (.cells #[] 3)))
  have HB2 := Lib.hid ((below_g HB1.out hg2).alloc (below_g HB1.out hg2).size (.cells #[] 3))
  have HO2 := Lib.hid (empty5 w2 w2.heap.size (Nat.le_refl _))
  clear hc2 hg2 x1
  go_wp2_with fail
  refine (below_any _ 4 _ HC2.out (by decide)).mono ?_
  rintro e w3 ⟨y, rfl, ⟨y0, y1, _⟩, hc3, hg3⟩
  have y4 := y1 (by omega)
  obtain ⟨k0, rfl⟩ : ∃ k : Nat, y = k := ⟨y.toNat, by omega⟩
  have hk0 : k0 ≤ 3 := by omega
  have HM3 : Hid (NMid w.heap.size w2.heap.size 0 (some ⟨w2.heap.size, 0, none⟩) 0 w w3) := Lib.hid ⟨[], (HO2.out.kept hg3 (fun q e => by cases e; left; exact hgl)).wide (Nat.le_refl _) (by have := hg3.size; exact this) (Nat.le_refl _), (fun z hz => by cases hz), hc3, below_g HB2.out hg3, by have := hg3.size; simp at this; omega⟩
  clear hc3 hg3 y1 y0 y4
  go_wp2_with fail
  go_loopw [6, 7] (fun s i wr => ∃ (k m c : Nat) (p : Option Addr), i = .int .i64 k ∧ s = .slice p m c ∧ m + k ≤ 3 ∧ Hid (NMid w.heap.size w2.heap.size m p c w wr)) (fun _ i _ => (intOf i).toNat)
  case atStart => exact ⟨k0, _, _, _, rfl, rfl, by omega, HM3⟩
  case round =>
    obtain ⟨k, m, c, p, rfl, rfl, hmk, HK⟩ := hrel
    obtain ⟨zs, ho, hzs, hc, hb, hlo⟩ := HK.out
    have HO := Lib.hid ho
    have HZ := Lib.hid hzs
    have HCu := Lib.hid hc
    have HB := Lib.hid hb
    clear ho hzs hc hb
    by_cases hpos : 0 < k
    · go_wp2_with fail
      refine (below_any _ 9 _ HCu.out (by decide)).mono ?_
      rintro e w4 ⟨z, rfl, ⟨z0, z1, _⟩, hc4, hg4⟩
      have z9 := z1 (by omega)
      have HO4 := Lib.hid ((HO.out.kept hg4 (fun q e => by cases e; left; exact hgl)).wide (Nat.le_refl _) hg4.size (Nat.le_refl _))
      have HC4 := Lib.hid hc4
      have HB4 := Lib.hid (below_g HB.out hg4)
      have hs4 : w2.heap.size ≤ w4.heap.size := Nat.le_trans hlo hg4.size
      clear hc4 hg4 z1
      go_wp2_with (at_builtin; refine wpList_app1 rfl (.tmp 19) (.tmp 22) 26 rfl i0 _ 8 Try.underlying26 hi hz0 hz1 hz2 rfl rfl (HO4.out.alloc _) w4.heap.size 1 z rfl (by go_simp) ⟨by omega, by omega⟩ (Nat.le_trans hs4 (by simp)) (by omega) (by omega) ?_; intro p5 c5 w5 how5 hg5; have HM5 := Lib.hid (NMid.app HO4.out HZ.out (And.intro z0 (by omega)) HC4.out HB4.out hs4 hgl (Nat.le_of_lt hgl) how5 hg5); clear how5 hg5)
      go_roundw
      case rel => exact ⟨k - 1, m + 1, _, _, by congr 1; omega, rfl, by omega, HM5⟩
      case measure => simp [intOf]; omega
    · obtain rfl : k = 0 := by omega
      go_wp2_with fail
      go_ret2
      exact ⟨_, _, _, _, _, rfl, ⟨by omega, by omega⟩, HO.out.rd, HZ.out, by omega, HB.out⟩
end Go.Proofs.Ytllkpapkkgfjaac.Cur
