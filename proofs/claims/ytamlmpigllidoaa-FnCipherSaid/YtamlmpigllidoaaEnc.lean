/- Encrypt and Decrypt: mathematics, and contracts in the program and in the reference. -/
import Derived.Test.YtamlmpigllidoaaHs
import Derived.Test.YtamlmpigllidoaaOne
import Derived.Deep.RegionHeld3
import Derived.Deep.AppendLies
import Derived.Outline
namespace Go.Proofs.Ytamlmpigllidoaa.Hs
open Go.ChangeShapes Go.WideShapes Go.ChangeAt Go.RowKit Sl Var

/-- the byte of the key's stream at an index -/
def ksI (key : Int) (i : Nat) : Int := khash key [(i : Int)]
theorem ksI_in (key : Int) (i : Nat) : 0 ≤ ksI key i ∧ ksI key i ≤ 2147483646 := khash_in _ _
def encB (key : Int) (i : Nat) (b : Int) : Int := (b + ksI key i) % 256
def decB (key : Int) (i : Nat) (b : Int) : Int := (b - ksI key i) % 256
/-- dir 0: with the stream added; else: with it taken away -/
def crB (dir : Nat) (key : Int) (i : Nat) (b : Int) : Int := if dir = 0 then encB key i b else decB key i b
theorem encB_in (key : Int) (i : Nat) (b : Int) : 0 ≤ encB key i b ∧ encB key i b ≤ 255 := by unfold encB; omega
theorem decB_in (key : Int) (i : Nat) (b : Int) : 0 ≤ decB key i b ∧ decB key i b ≤ 255 := by unfold decB; omega
theorem dec_enc (key : Int) (i : Nat) (b : Int) (h : 0 ≤ b ∧ b ≤ 255) : decB key i (encB key i b) = b := by unfold decB encB; omega
theorem enc_dec (key : Int) (i : Nat) (b : Int) (h : 0 ≤ b ∧ b ≤ 255) : encB key i (decB key i b) = b := by unfold decB encB; omega
def crL (f : Int → Nat → Int → Int) (key : Int) (xs : List Int) : List Int := xs.mapIdx (f key)
theorem crL_len (f : Int → Nat → Int → Int) (key : Int) (xs : List Int) : (crL f key xs).length = xs.length := by simp [crL]
theorem crL_take {f : Int → Nat → Int → Int} {key : Int} {xs : List Int} {k : Nat} (hk : k < xs.length) : crL f key (xs.take (k + 1)) = crL f key (xs.take k) ++ [f key k (xs.getD k 0)] := by
  unfold crL
  rw [List.take_succ_eq_append_getElem hk, List.mapIdx_append, List.getD_eq_getElem?_getD, List.getElem?_eq_getElem hk, List.length_take, Nat.min_eq_left (by omega)]
  simp
theorem crL_back {f g : Int → Nat → Int → Int} {key : Int} {xs : List Int} (h : ∀ i, ∀ b ∈ xs, g key i (f key i b) = b) : crL g key (crL f key xs) = xs := by
  unfold crL
  apply List.ext_getElem
  · simp
  · intro i h1 h2
    simp only [List.getElem_mapIdx]
    exact h i _ (List.getElem_mem _)
theorem crL_dec_enc (key : Int) {xs : List Int} (h : allK .u8 xs) : crL decB key (crL encB key xs) = xs := crL_back fun i b hb => dec_enc key i b (h b hb)
theorem crL_enc_dec (key : Int) {xs : List Int} (h : allK .u8 xs) : crL encB key (crL decB key xs) = xs := crL_back fun i b hb => enc_dec key i b (h b hb)

/-- on the way: k bytes are turned -/
def CrWay (f : Int → Nat → Int → Int) (lo : Nat) (key : Int) (xs : List Int) (k : Nat) (p : Option Addr) (c : Nat) (wr : World) : Prop :=
  Ow .u8 5 wr lo wr.heap.size p k c (crL f key (xs.take k))
theorem CrWay.done {f : Int → Nat → Int → Int} {lo n c : Nat} {key : Int} {xs : List Int} {p : Option Addr} {w wr : World} (h : CrWay f lo key xs n p c wr) (hl : xs.length = n) (hlo : w.heap.size ≤ lo) (hb : Below w.heap.size w wr) : SlB.Makes (crL f key xs) w (.returned (.slice p n c)) wr := by
  unfold CrWay at h
  rw [← hl, List.take_length] at h
  subst hl
  exact ⟨_, _, _, rfl, h.wide hlo (Nat.le_refl _) (Nat.le_refl _), hb⟩
theorem emptyB_own (w : World) (lo : Nat) (h : lo ≤ w.heap.size) : Ow .u8 5 (w.alloc (.cells #[] 5)) lo (w.alloc (.cells #[] 5)).heap.size (some ⟨w.heap.size, 0, none⟩) 0 0 [] :=
  Ow.of_row (World.ownsRow_lit w #[] 0 h (Nat.zero_le _) rfl) (allK_nil _)
theorem below_drew1 {B : Nat} {a w : World} (h : Below B a w) : Below B a w.drew := ⟨h.os, h.tape, h.output, h.size, h.block⟩
theorem Ow.drew1 {k : IntKind} {E : TypeId} {w : World} {lo hi n c : Nat} {p : Option Addr} {zs : List Int} (h : Ow k E w lo hi p n c zs) : Ow k E w.drew lo hi p n c zs := ⟨h.1.drew, h.2⟩
/-- a row that was found for the cells of some bytes -/
theorem crow {lo n c : Nat} {w : World} {p : Option Addr} {ys : List Int} {y : Int} (ha : allK .u8 ys) (hy : inK .u8 y) (h : w.ownsRow lo 5 1 (.slice p n c) n (ys.map (Value.int .u8) ++ [.int .u8 y])) : Ow .u8 5 w lo w.heap.size p n c (ys ++ [y]) :=
  Ow.of_row (by rw [List.map_append]; exact h) (allK_append ha (fun x hx => by rw [List.mem_singleton] at hx; rw [hx]; exact hy))

set_option maxRecDepth 100000 in
set_option maxHeartbeats 4000000 in
theorem spec_enc_any (key : Int) (p : Option Addr) (n c : Nat) (xs : List Int) (w : World) (hr : Rd .u8 w p n xs) (hk : inK .i64 key) (hn : n ≤ 100000000) : Calls Try.prog 51 #[.int .i64 key, .slice p n c] w (SlB.Makes (crL encB key xs) w) := by
  obtain ⟨i0, hi, hz0, hz1, hz2⟩ := info_parts SlB.info
  have HR := Lib.hid hr
  have HL := Lib.hid hr.len
  have HKEY := Lib.hid hk
  have HM : Hid (CrWay encB w.heap.size key xs 0 (some ⟨w.heap.size, 0, none⟩) 0 (w.alloc (.cells #[] 5))) := emptyB_own w _ (Nat.le_refl _)
  have HB : Hid (Below w.heap.size w (w.alloc (.cells #[] 5))) := (Below.refl w.heap.size w).alloc (Nat.le_refl _) _
  clear hr hk
  go_enter Try.func51, Try.ntmps51
  go_wp2_with fail
  go_loopw [5, 6] (fun v i wr => ∃ (k c' : Nat) (p' : Option Addr), k ≤ n ∧ i = .int .i64 k ∧ v = .slice p' k c' ∧ Hid (CrWay encB w.heap.size key xs k p' c' wr) ∧ Hid (Below w.heap.size w wr)) (fun _ i _ => n - (intOf i).toNat)
  case atStart => exact ⟨0, _, _, Nat.zero_le _, rfl, rfl, HM, HB⟩
  case round =>
    obtain ⟨k, c', p', hk, rfl, rfl, HK, HBr⟩ := hrel
    have hs := HBr.out.size
    by_cases hlt : k < n
    · obtain ⟨b, o, rfl, hb, hc⟩ := HR.out.at_below HBr.out hlt
      have hin := byte_range HR.out.all k
      generalize hx : xs.getD k 0 = x at hc hin
      have HX := Lib.hid hx
      have HCW := Lib.hid ((HBr.out.cell (p := ⟨b, o + k, none⟩) hb).symm.trans hc)
      obtain ⟨hx1, hx2⟩ := hin
      have hks := ksI_in key k
      obtain ⟨y, hy⟩ : ∃ y, ksI key k = y := ⟨_, rfl⟩
      rw [hy] at hks
      have HY := Lib.hid hy
      have HLO := Lib.hid (lit1_own wr.drew 0 (k : Int) ⟨by omega, by omega⟩ (Nat.zero_le _)).rd
      have HCK : Hid (∀ (w : World) (q : Option Addr), Rd .i64 w q 1 [(k : Int)] → Calls Try.prog 42 #[.int .i64 key, .slice q 1 1] w (Num y w)) := Lib.hid fun w q h => by
        rw [← hy]
        exact spec_khash_any key q 1 1 _ w h HKEY.out (by omega)
      obtain ⟨hy1, hy2⟩ := hks
      have hbb : b < wr.heap.size := by omega
      have i1 : (0 : Int) ≤ (k : Int) := by omega
      have i2 : (k : Int) < (n : Int) := by omega
      have t0 : IntKind.i64.wrap x = x := IntWalk.i64_in _ (by omega)
      have t4 : IntKind.u8.wrap ((x + y) % 256) = (x + y) % 256 := IntWalk.u8_in _ (by omega)
      have t1 : IntKind.i64.wrap (x + y % 256) = x + y % 256 := IntWalk.i64_in _ (by omega)
      have t2 : y.tmod 256 = y % 256 := Int.tmod_eq_emod_of_nonneg hy1
      have t3 : (x + y % 256).tmod 256 = (x + y % 256) % 256 := Int.tmod_eq_emod_of_nonneg (by omega)
      clear hx hy
      go_wp2_with fail
      go_region_held3 (fun w' => w'.cell? ⟨b, o + k, none⟩ = some (.int .u8 x)) (first | assumption | go_keep) (first
        | (go_at_call 42; refine (HCK.out _ _ HLO.out).mono ?_; rintro e w2 ⟨rfl, hb2⟩; have hc2 : w2.cell? ⟨b, o + k, none⟩ = some (.int .u8 x) := (hb2.cell (p := ⟨b, o + k, none⟩) (by simp; omega)).trans (by go_simp); have HB2 := Lib.hid (below_on ((below_drew1 HBr.out).alloc (by simp; omega) _) hb2); have HK2 := Lib.hid (((Ow.drew1 HK.out).alloc _).below hb2); have hs2 := hb2.size; clear hb2)
        | (refine step_append_lies _ (by rfl) _ _ _ (by rfl) w.heap.size 5 i0 _ 1 1 Try.underlying22 hi hz0 hz1 hz2 rfl (by omega) _ _ _ (by rfl) (HK2.out.alloc _).own ⟨w2.heap.size, 0, none⟩ 1 1 [.int .u8 ((x + y) % 256)] (by rfl) (by rfl) (World.news_of_block (cs := #[.int .u8 ((x + y) % 256)]) (t := 5) (fr := (0, 0)) (heap_alloc_new w2 _)) (by simp [Value.oneCell']) (by omega) (by unfold maxLen; omega) (by omega) (by simp at hs2 ⊢; omega) (w2.heap.size + 1) (by simp) ?_; intro gg cap w3 hown3 hgrow3 hat hlt3; have HG := Lib.hid ((HB2.out.alloc HB2.out.size _).trans ((HK2.out.alloc _).below_row hgrow3 (Nat.le_trans HB2.out.size (by simp)))); have hc3 := (HG.out.cell (p := ⟨b, o + k, none⟩) hb).trans HCW.out))
      clear t0 t1 t2 t3 t4
      go_wp2_with fail
      have HF := Lib.hid (crow HK2.out.all (y := (x + y) % 256) ⟨by omega, by omega⟩ hown3)
      refine ⟨⟨k + 1, _, _, by omega, by go_num, rfl, Lib.hid ?_, HG⟩, by simp [intOf]; omega⟩
      unfold CrWay
      rw [crL_take (by rw [HL.out]; exact hlt), HX.out]
      have hf := HF.out
      rw [show (x + y) % 256 = encB key k x by unfold encB; rw [HY.out]] at hf
      exact hf
    · obtain rfl : k = n := by omega
      go_wp2_with fail
      go_ret
      exact HK.out.done HL.out (Nat.le_refl _) HBr.out
set_option maxRecDepth 100000 in
set_option maxHeartbeats 4000000 in
theorem spec_dec_any (key : Int) (p : Option Addr) (n c : Nat) (xs : List Int) (w : World) (hr : Rd .u8 w p n xs) (hk : inK .i64 key) (hn : n ≤ 100000000) : Calls Try.prog 53 #[.int .i64 key, .slice p n c] w (SlB.Makes (crL decB key xs) w) := by
  obtain ⟨i0, hi, hz0, hz1, hz2⟩ := info_parts SlB.info
  have HR := Lib.hid hr
  have HL := Lib.hid hr.len
  have HKEY := Lib.hid hk
  have HM : Hid (CrWay decB w.heap.size key xs 0 (some ⟨w.heap.size, 0, none⟩) 0 (w.alloc (.cells #[] 5))) := emptyB_own w _ (Nat.le_refl _)
  have HB : Hid (Below w.heap.size w (w.alloc (.cells #[] 5))) := (Below.refl w.heap.size w).alloc (Nat.le_refl _) _
  clear hr hk
  go_enter Try.func53, Try.ntmps53
  go_wp2_with fail
  go_loopw [5, 6] (fun v i wr => ∃ (k c' : Nat) (p' : Option Addr), k ≤ n ∧ i = .int .i64 k ∧ v = .slice p' k c' ∧ Hid (CrWay decB w.heap.size key xs k p' c' wr) ∧ Hid (Below w.heap.size w wr)) (fun _ i _ => n - (intOf i).toNat)
  case atStart => exact ⟨0, _, _, Nat.zero_le _, rfl, rfl, HM, HB⟩
  case round =>
    obtain ⟨k, c', p', hk, rfl, rfl, HK, HBr⟩ := hrel
    have hs := HBr.out.size
    by_cases hlt : k < n
    · obtain ⟨b, o, rfl, hb, hc⟩ := HR.out.at_below HBr.out hlt
      have hin := byte_range HR.out.all k
      generalize hx : xs.getD k 0 = x at hc hin
      have HX := Lib.hid hx
      have HCW := Lib.hid ((HBr.out.cell (p := ⟨b, o + k, none⟩) hb).symm.trans hc)
      obtain ⟨hx1, hx2⟩ := hin
      have hks := ksI_in key k
      obtain ⟨y, hy⟩ : ∃ y, ksI key k = y := ⟨_, rfl⟩
      rw [hy] at hks
      have HY := Lib.hid hy
      have HLO := Lib.hid (lit1_own wr.drew 0 (k : Int) ⟨by omega, by omega⟩ (Nat.zero_le _)).rd
      have HCK : Hid (∀ (w : World) (q : Option Addr), Rd .i64 w q 1 [(k : Int)] → Calls Try.prog 42 #[.int .i64 key, .slice q 1 1] w (Num y w)) := Lib.hid fun w q h => by
        rw [← hy]
        exact spec_khash_any key q 1 1 _ w h HKEY.out (by omega)
      obtain ⟨hy1, hy2⟩ := hks
      have hbb : b < wr.heap.size := by omega
      have i1 : (0 : Int) ≤ (k : Int) := by omega
      have i2 : (k : Int) < (n : Int) := by omega
      have t0 : IntKind.i64.wrap x = x := IntWalk.i64_in _ (by omega)
      have t4 : IntKind.u8.wrap ((x - y) % 256) = (x - y) % 256 := IntWalk.u8_in _ (by omega)
      have t1 : IntKind.i64.wrap (x - y % 256) = x - y % 256 := IntWalk.i64_in _ (by omega)
      have t2 : y.tmod 256 = y % 256 := Int.tmod_eq_emod_of_nonneg hy1
      clear hx hy
      go_wp2_with fail
      go_region_held3 (fun w' => w'.cell? ⟨b, o + k, none⟩ = some (.int .u8 x)) (first | assumption | go_keep) (first
        | (go_at_call 42; refine (HCK.out _ _ HLO.out).mono ?_; rintro e w2 ⟨rfl, hb2⟩; have hc2 : w2.cell? ⟨b, o + k, none⟩ = some (.int .u8 x) := (hb2.cell (p := ⟨b, o + k, none⟩) (by simp; omega)).trans (by go_simp); have HB2 := Lib.hid (below_on ((below_drew1 HBr.out).alloc (by simp; omega) _) hb2); have HK2 := Lib.hid (((Ow.drew1 HK.out).alloc _).below hb2); have hs2 := hb2.size; clear hb2)
        | (go_at_call 21; refine (spec_mod_256 _ _).mono ?_; rintro e w4 ⟨rfl, rfl⟩)
        | (refine step_append_lies _ (by rfl) _ _ _ (by rfl) w.heap.size 5 i0 _ 1 1 Try.underlying22 hi hz0 hz1 hz2 rfl (by omega) _ _ _ (by rfl) (HK2.out.alloc _).own ⟨w2.heap.size, 0, none⟩ 1 1 [.int .u8 ((x - y) % 256)] (by rfl) (by rfl) (World.news_of_block (cs := #[.int .u8 ((x - y) % 256)]) (t := 5) (fr := (0, 0)) (heap_alloc_new w2 _)) (by simp [Value.oneCell']) (by omega) (by unfold maxLen; omega) (by omega) (by simp at hs2 ⊢; omega) (w2.heap.size + 1) (by simp) ?_; intro gg cap w3 hown3 hgrow3 hat hlt3; have HG := Lib.hid ((HB2.out.alloc HB2.out.size _).trans ((HK2.out.alloc _).below_row hgrow3 (Nat.le_trans HB2.out.size (by simp)))); have hc3 := (HG.out.cell (p := ⟨b, o + k, none⟩) hb).trans HCW.out))
      clear t0 t1 t2 t4
      go_wp2_with fail
      have HF := Lib.hid (crow HK2.out.all (y := (x - y) % 256) ⟨by omega, by omega⟩ hown3)
      refine ⟨⟨k + 1, _, _, by omega, by go_num, rfl, Lib.hid ?_, HG⟩, by simp [intOf]; omega⟩
      unfold CrWay
      rw [crL_take (by rw [HL.out]; exact hlt), HX.out]
      have hf := HF.out
      rw [show (x - y) % 256 = decB key k x by unfold decB; rw [HY.out]] at hf
      exact hf
    · obtain rfl : k = n := by omega
      go_wp2_with fail
      go_ret
      exact HK.out.done HL.out (Nat.le_refl _) HBr.out
end Go.Proofs.Ytamlmpigllidoaa.Hs
