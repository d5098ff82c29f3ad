/- Contracts of the laws' helpers over slices of slices: measured, copied, compared. -/
import Derived.Test.YtapijjdjaamldaaEd
import Derived.Test.YtapijjdjaamldaaDz
import Derived.Test.YtapijjdjaamldaaSlI
import Derived.Test.YtapijjdjaamldaaSlStamp
import Derived.OpenShut
import Derived.Deep.Fields
import Derived.LoopTactic
import Derived.Deep.RegionHeld3
import Derived.Outline
namespace Go.Proofs.Ytapijjdjaamldaa.Dss
open Go.ChangeShapes Go.WideShapes Go.ChangeAt Go.RowKit Sl St Ed Dz
theorem stamps_info : (Try.prog.info? 109).map (fun i => (i.zero, i.size, i.bytes)) = some (some (.slice none 0 0), 1, 24) := by kernel_rfl
set_option maxRecDepth 100000 in
set_option maxHeartbeats 4000000 in
theorem stamps_to_any (p : Option Addr) (n c : Nat) (xs : List (List (Int × Int × Int × Int × Int))) {S : Nat → Prop} (w : World) (hr : RdD (sl (flat SlStamp.E SlStamp.InR)) S w p n xs) (hm : n + wts (sl (flat SlStamp.E SlStamp.InR)) xs ≤ 1048576) : Calls Try.prog 62 #[.slice p n c] w fun e w' => ∃ (q : Option Addr) (d : Nat), e = .returned (.slice q n d) ∧ RdD (sl (flat SlStamp.E SlStamp.InR)) (fun b => w.heap.size ≤ b) w' q n xs ∧ Below w.heap.size w w' := by
  obtain ⟨i0, hi, hz0, hz1, hz2⟩ := info_parts stamps_info
  have HR := Lib.hid hr
  have hn : n ≤ 1048576 := by omega
  have HM0 := Lib.hid hm
  clear hr hm
  go_enter Try.func62, Try.ntmps62
  go_wp2_with (refine wpList_make_full _ rfl _ _ 38 rfl w.heap.size 109 i0 _ 1 Try.underlying38 hi hz0 hz1 .i64 .i64 _ _ n rfl rfl rfl rfl (by rw [hz2]; omega) (by unfold maxLen; omega) (Nat.le_refl _) ?_; intro w1 hown1 hg1)
  have HM := Lib.hid (MidD.start (E := (sl (flat SlStamp.E SlStamp.InR))) (z := [.slice none 0 0]) (xs := xs) (.slice none 0 0) rfl rfl (by intro u hu; simp only [List.mem_cons, List.not_mem_nil, or_false] at hu; rcases hu with rfl; rfl) hown1 hg1)
  clear hown1 hg1
  go_loopw [4] (fun i wr => ∃ k : Nat, k ≤ n ∧ i = .int .i64 k ∧ Hid (MidD (sl (flat SlStamp.E SlStamp.InR)) 109 [.slice none 0 0] xs n k w wr)) (fun i _ => n - (intOf i).toNat)
  case atStart => exact ⟨0, Nat.zero_le _, rfl, HM⟩
  case round =>
    obtain ⟨k, hk, rfl, HK⟩ := hrel
    by_cases hlt : k < n
    · obtain ⟨b, o, x, cs, rfl, _, hbw, hx, hc, hrd⟩ := HR.out.at_ hlt
      obtain ⟨pe, ne, ce, rfl, he⟩ := hrd
      have hB := HK.out.below
      have hne : ne ≤ 1048576 := by have h1 := wts_at (E := (sl (flat SlStamp.E SlStamp.InR))) hx; have h2 := HM0.out; have h3 := he.len; rw [wt_sl] at h1; omega
      have u0 : wr.cell? ⟨b, o + k, none⟩ = some (.slice pe ne ce) := by
        have h := (hB.cell (p := ⟨b, o + k * 1 + 0, none⟩) hbw).trans (hc 0 _ rfl)
        rw [Nat.mul_one] at h
        exact h
      have HX := Lib.hid hx
      have HI := Lib.hid he
      have HBB := Lib.hid hB
      clear hc hx hB he
      go_wp2_with fail
      refine (SlStamp.to_any _ _ _ _ _ (HI.out.below HBB.out).rdS (by omega)).mono ?_
      rintro e w2 ⟨q, m, d, rfl, ho, hb2⟩
      obtain rfl : ne = m := HI.out.len.symm.trans ho.len
      obtain ⟨hz, hf⟩ := HK.out.cells hlt
      have d0 : w2.cell? ⟨w.heap.size, k, none⟩ = some (.slice none 0 0) := by
        have h := (hb2.cell (p := ⟨w.heap.size, k * 1 + 0, none⟩) HK.out.lt).trans (hz 0 _ rfl)
        rw [Nat.mul_one] at h
        exact h
      have f0 : w2.frozen? ⟨w.heap.size, k, none⟩ = false := (hb2.frozen (p := ⟨w.heap.size, k, none⟩) HK.out.lt).trans (hf _)
      have hq : (sl (flat SlStamp.E SlStamp.InR)).rd (fun b => wr.heap.size ≤ b) w2 [.slice q ne d] x := ⟨q, ne, d, rfl, RdD.ofOwS ho (HI.out.below HBB.out).allP⟩
      have hM2 := HK.out.next hb2 hlt HX.out hq
      rw [show k * (sl (flat SlStamp.E SlStamp.InR)).C = k from Nat.mul_one k] at hM2
      have HM2 := Lib.hid hM2
      clear hz hf hb2 ho u0 hq hM2
      go_wp2_with fail
      go_roundw
      case rel => exact ⟨k + 1, by omega, by go_num, HM2⟩
      case measure => simp [intOf]; omega
    · obtain rfl : k = n := by omega
      have HD := Lib.hid (HK.out.done HR.out.len (by unfold maxLen; omega))
      go_wp2_with fail
      go_ret
      exact ⟨_, _, rfl, HD.out.1, HD.out.2⟩
set_option maxRecDepth 100000 in
set_option maxHeartbeats 4000000 in
theorem stamps_eq_any (p p' : Option Addr) (n c c' : Nat) (xs : List (List (Int × Int × Int × Int × Int))) {S S' : Nat → Prop} (w : World) (hr : RdD (sl (flat SlStamp.E SlStamp.InR)) S w p n xs) (hr' : RdD (sl (flat SlStamp.E SlStamp.InR)) S' w p' n xs) : Calls Try.prog 64 #[.slice p n c, .slice p' n c'] w (Yes w) := by
  have HR := Lib.hid hr
  have HR' := Lib.hid hr'
  have hle := hr.le
  clear hr hr'
  go_enter Try.func64, Try.ntmps64
  go_wp2_with fail
  go_loopw [5] (fun i wr => ∃ k : Nat, k ≤ n ∧ i = .int .i64 k ∧ Hid (Below w.heap.size w wr)) (fun i _ => n - (intOf i).toNat)
  case atStart => exact ⟨0, Nat.zero_le _, rfl, Below.refl _ _⟩
  case round =>
    obtain ⟨k, hk, rfl, HB⟩ := hrel
    by_cases hlt : k < n
    · obtain ⟨b, o, x, cs, rfl, _, hbw, hx, hc, hrd⟩ := HR.out.at_ hlt
      obtain ⟨b', o', x', cs', rfl, _, hbw', hx', hc', hrd'⟩ := HR'.out.at_ hlt
      rw [hx] at hx'
      obtain rfl := Option.some.inj hx'
      clear hx hx'
      obtain ⟨pe, ne, ce, rfl, he⟩ := hrd
      obtain ⟨pf, nf, cf, rfl, hf⟩ := hrd'
      obtain rfl : ne = nf := he.len.symm.trans hf.len
      have u0 : wr.cell? ⟨b, o + k, none⟩ = some (.slice pe ne ce) := by
        have h := (HB.out.cell (p := ⟨b, o + k * 1 + 0, none⟩) hbw).trans (hc 0 _ rfl)
        rw [Nat.mul_one] at h
        exact h
      have v0 : wr.cell? ⟨b', o' + k, none⟩ = some (.slice pf ne cf) := by
        have h := (HB.out.cell (p := ⟨b', o' + k * 1 + 0, none⟩) hbw').trans (hc' 0 _ rfl)
        rw [Nat.mul_one] at h
        exact h
      have H0 := Lib.hid (he.below HB.out)
      have H0' := Lib.hid (hf.below HB.out)
      have hlb : b < wr.heap.size := Nat.lt_of_lt_of_le hbw HB.out.size
      have hlb' : b' < wr.heap.size := Nat.lt_of_lt_of_le hbw' HB.out.size
      have HU := Lib.hid u0
      have HV := Lib.hid v0
      have HH := Lib.hid (And.intro u0 v0)
      have i1 : (0 : Int) ≤ (k : Int) := by omega
      have i2 : (k : Int) < (n : Int) := by omega
      clear hc hc' he hf
      go_wp2_with fail
      go_region_held3 (fun w' => w'.cell? ⟨b, o + k, none⟩ = some (.slice pe ne ce) ∧ w'.cell? ⟨b', o' + k, none⟩ = some (.slice pf ne cf)) (first | exact HH.out | exact HH2.out | go_keep) (first | (go_at_call 115; (with_reducible refine (SlStamp.eq_any _ _ _ _ _ _ _ H0.out.drew1.rdS H0'.out.drew1.rdS).mono ?_); rintro e w2 ⟨rfl, hb2⟩; have HH2 := Lib.hid (And.intro ((hb2.cell (p := ⟨b, o + k, none⟩) hlb).trans HU.out) ((hb2.cell (p := ⟨b', o' + k, none⟩) hlb').trans HV.out)); have HB2 := Lib.hid (below_on (below_drewN HB.out 1) hb2); clear hb2) | fail)
      go_wp2_with fail
      go_roundw
      case rel => exact ⟨k + 1, by omega, by go_num, HB2⟩
      case measure => simp [intOf]; omega
    · obtain rfl : k = n := by omega
      go_wp2_with fail
      go_ret
      exact ⟨rfl, HB.out⟩
set_option maxRecDepth 100000 in
set_option maxHeartbeats 4000000 in
theorem stamps_sz_fits (p : Option Addr) (n c : Nat) (xs : List (List (Int × Int × Int × Int × Int))) {S : Nat → Prop} (left : Int) (w : World) (hr : RdD (sl (flat SlStamp.E SlStamp.InR)) S w p n xs) (h1 : left ≤ 1048576) (h : (n + wts (sl (flat SlStamp.E SlStamp.InR)) xs : Nat) ≤ left) : Calls Try.prog 60 #[.slice p n c, .int .i64 left] w (Val (.int .i64 (left - (n + wts (sl (flat SlStamp.E SlStamp.InR)) xs : Nat))) w) := by
  have HR := Lib.hid hr
  have hle := hr.le
  have HL := Lib.hid hr.len
  have HT := Lib.hid h
  clear hr
  clear h
  have hn : (n : Int) ≤ left := by have := HT.out; omega
  go_enter Try.func60, Try.ntmps60
  go_wp2_with fail
  go_loopw [1, 5] (fun v i wr => ∃ k t : Nat, k ≤ n ∧ i = .int .i64 k ∧ v = .int .i64 (left - n - t) ∧ (n : Int) + t ≤ left ∧ Hid (t = wts (sl (flat SlStamp.E SlStamp.InR)) (xs.take k)) ∧ Hid (Below w.heap.size w wr)) (fun _ i _ => n - (intOf i).toNat)
  case atStart => exact ⟨0, 0, Nat.zero_le _, rfl, by congr 1; omega, by omega, Lib.hid rfl, Below.refl _ _⟩
  case round =>
    obtain ⟨k, t, hk, rfl, rfl, ht, HT2, HB⟩ := hrel
    by_cases hlt : k < n
    · obtain ⟨b, o, x, cs, rfl, _, hbw, hx, hc, hrd⟩ := HR.out.at_ hlt
      have hnx := wts_take (E := (sl (flat SlStamp.E SlStamp.InR))) hx
      have hall := wts_le (E := (sl (flat SlStamp.E SlStamp.InR))) xs (k + 1)
      obtain ⟨pe, ne, ce, rfl, he⟩ := hrd
      have hwe : (sl (flat SlStamp.E SlStamp.InR)).wt x = ne := by rw [wt_sl, wts_zero (fun _ => rfl), he.len, Nat.add_zero]
      rw [hwe] at hnx
      have u0 : wr.cell? ⟨b, o + k, none⟩ = some (.slice pe ne ce) := by
        have h := (HB.out.cell (p := ⟨b, o + k * 1 + 0, none⟩) hbw).trans (hc 0 _ rfl)
        rw [Nat.mul_one] at h
        exact h
      have hne := he.le
      have HN : Hid (t + ne = wts (sl (flat SlStamp.E SlStamp.InR)) (xs.take (k + 1))) := Lib.hid (by rw [hnx, HT2.out])
      have hfit : (n : Int) + t + ne ≤ left := by have h1 := HT.out; have h2 := HT2.out; omega
      clear hc hx hnx hall hwe he
      go_wp2_with fail
      refine (SlStamp.sz_fits _ _ _ _ _ (by omega) (by omega)).mono ?_
      rintro e w2 ⟨rfl, rfl⟩
      clear u0
      go_wp2_with fail
      go_roundw
      case rel => exact ⟨k + 1, t + ne, by omega, by go_num, by congr 1; omega, by omega, HN, HB⟩
      case measure => simp [intOf]; omega
    · obtain rfl : k = n := by omega
      have hall := wts_all (E := (sl (flat SlStamp.E SlStamp.InR))) xs HL.out
      have HV : Hid (Value.int .i64 (left - k - t) = .int .i64 (left - (k + wts (sl (flat SlStamp.E SlStamp.InR)) xs : Nat))) := Lib.hid (by have h2 := HT2.out; rw [hall] at h2; congr 1; omega)
      clear hall
      go_wp2_with fail
      go_ret
      exact val_of HV.out HB.out
set_option maxRecDepth 100000 in
set_option maxHeartbeats 4000000 in
theorem stamps_sz_big (p : Option Addr) (n c : Nat) (xs : List (List (Int × Int × Int × Int × Int))) {S : Nat → Prop} (left : Int) (w : World) (hr : RdD (sl (flat SlStamp.E SlStamp.InR)) S w p n xs) (h0 : 0 ≤ left) (h1 : left ≤ 1048576) (h : left < (n + wts (sl (flat SlStamp.E SlStamp.InR)) xs : Nat)) : Calls Try.prog 60 #[.slice p n c, .int .i64 left] w (Val (.int .i64 (-1)) w) := by
  have HR := Lib.hid hr
  have hle := hr.le
  have HL := Lib.hid hr.len
  have HT := Lib.hid h
  clear hr
  by_cases hbig : left < n
  · go_enter Try.func60, Try.ntmps60
    go_wp2_with fail
    go_ret
    exact ⟨rfl, Below.refl _ _⟩
  clear h
  go_enter Try.func60, Try.ntmps60
  go_wp2_with fail
  go_loopw [1, 5] (fun v i wr => ∃ k t : Nat, k ≤ n ∧ i = .int .i64 k ∧ v = .int .i64 (left - n - t) ∧ (n : Int) + t ≤ left ∧ Hid (t = wts (sl (flat SlStamp.E SlStamp.InR)) (xs.take k)) ∧ Hid (Below w.heap.size w wr)) (fun _ i _ => n - (intOf i).toNat)
  case atStart => exact ⟨0, 0, Nat.zero_le _, rfl, by congr 1; omega, by omega, Lib.hid rfl, Below.refl _ _⟩
  case round =>
    obtain ⟨k, t, hk, rfl, rfl, ht, HT2, HB⟩ := hrel
    by_cases hlt : k < n
    · obtain ⟨b, o, x, cs, rfl, _, hbw, hx, hc, hrd⟩ := HR.out.at_ hlt
      have hnx := wts_take (E := (sl (flat SlStamp.E SlStamp.InR))) hx
      have hall := wts_le (E := (sl (flat SlStamp.E SlStamp.InR))) xs (k + 1)
      obtain ⟨pe, ne, ce, rfl, he⟩ := hrd
      have hwe : (sl (flat SlStamp.E SlStamp.InR)).wt x = ne := by rw [wt_sl, wts_zero (fun _ => rfl), he.len, Nat.add_zero]
      rw [hwe] at hnx
      have u0 : wr.cell? ⟨b, o + k, none⟩ = some (.slice pe ne ce) := by
        have h := (HB.out.cell (p := ⟨b, o + k * 1 + 0, none⟩) hbw).trans (hc 0 _ rfl)
        rw [Nat.mul_one] at h
        exact h
      have hne := he.le
      have HN : Hid (t + ne = wts (sl (flat SlStamp.E SlStamp.InR)) (xs.take (k + 1))) := Lib.hid (by rw [hnx, HT2.out])
      by_cases hfit : (n : Int) + t + ne ≤ left
      · skip
        clear hc hx hnx hall hwe he
        go_wp2_with fail
        refine (SlStamp.sz_fits _ _ _ _ _ (by omega) (by omega)).mono ?_
        rintro e w2 ⟨rfl, rfl⟩
        clear u0
        go_wp2_with fail
        go_roundw
        case rel => exact ⟨k + 1, t + ne, by omega, by go_num, by congr 1; omega, by omega, HN, HB⟩
        case measure => simp [intOf]; omega
      · skip
        clear hc hx hnx hall hwe he
        go_wp2_with fail
        refine (SlStamp.sz_big _ _ _ _ _ (by omega) (by omega) (by omega) hne).mono ?_
        rintro e w2 ⟨rfl, rfl⟩
        clear u0
        go_wp2_with fail
        go_ret
        exact ⟨rfl, HB.out⟩
    · obtain rfl : k = n := by omega
      have hall := wts_all (E := (sl (flat SlStamp.E SlStamp.InR))) xs HL.out
      exact absurd HT.out (by have h2 := HT2.out; rw [hall] at h2; omega)
end Go.Proofs.Ytapijjdjaamldaa.Dss
