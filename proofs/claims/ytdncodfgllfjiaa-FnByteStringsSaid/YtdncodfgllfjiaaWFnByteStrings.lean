/- The walk of the law FnByteStrings. -/
import Derived.Test.YtdncodfgllfjiaaDrawB
import Derived.Test.YtdncodfgllfjiaaVarB
import Derived.Test.YtdncodfgllfjiaaVarE
import Derived.Test.YtdncodfgllfjiaaVarD
import Derived.Outline
namespace Go.Proofs.Ytdncodfgllfjiaa.fnByteStrings
open Go.ChangeShapes Go.WideShapes Go.ChangeAt Go.RowKit Sl Uv Var

theorem at_any (v : Value) (n i : Nat) (w : World) (hc : Cur.Code v n w) (hn : n ≤ 1048576) (hi : i ≤ 100) : Calls Try.prog 23 #[v, .int .i64 i] w fun e w' => ∃ x : Int, e = .returned (.int .i64 x) ∧ (0 ≤ x ∧ x ≤ 255) ∧ w = w' := by
  obtain ⟨hm, hc⟩ := hc
  by_cases hlt : i < n
  · rcases hc with ⟨rfl, _⟩ | ⟨b, off, cap, rfl, hb, hcell⟩
    · omega
    · obtain ⟨x, hx, x0, x1⟩ := hcell i hlt
      clear hcell
      go_enter Try.func23, Try.ntmps23
      go_wp2_with fail
      go_ret
      exact ⟨_, rfl, ⟨x0, x1⟩, rfl⟩
  · obtain ⟨a, cap, rfl⟩ : ∃ a cap, v = .slice a n cap := by
      rcases hc with ⟨rfl, a0, cap0, rfl⟩ | ⟨b, off, cap, rfl, _⟩
      · exact ⟨_, _, rfl⟩
      · exact ⟨_, _, rfl⟩
    clear hc
    go_enter Try.func23, Try.ntmps23
    go_wp2_with fail
    go_ret
    exact ⟨_, rfl, ⟨by omega, by omega⟩, rfl⟩
theorem readB_some {xs zs : List Int} {a m v : Int} {w w' : World} {e : Ending} {L : Nat} (h : rb xs a m = some (zs, v)) (hl : zs.length = L) (hp : RbEnd xs a m w e w') : ∃ p c, e = .returned (.tuple #[.slice p L c, .int .i64 v, .bool true]) ∧ Ow .u8 5 w' w.heap.size w'.heap.size p L c zs ∧ Below w.heap.size w w' := by
  obtain ⟨p, n, c, he, ho, hb⟩ := hp
  unfold rbL at ho
  unfold rbE rbOk at he
  rw [h] at ho he
  obtain rfl : n = L := by rw [← ho.len, ← hl]
  exact ⟨p, c, he, ho, hb⟩
theorem readB_none {xs : List Int} {a m : Int} {w w' : World} {e : Ending} (h : rb xs a m = none) (hp : RbEnd xs a m w e w') : ∃ p n c, e = .returned (.tuple #[.slice p n c, .int .i64 0, .bool false]) ∧ Below w.heap.size w w' := by
  obtain ⟨p, n, c, he, _, hb⟩ := hp
  unfold rbE rbOk at he
  rw [h] at he
  exact ⟨p, n, c, he, hb⟩
theorem dec_some {xs zs : List Int} {a m v : Int} {w w' : World} {e : Ending} {L : Nat} (h : decI xs a m = some (zs, v)) (hl : zs.length = L) (hp : DecEnd xs a m w e w') : ∃ p c, e = .returned (.tuple #[.slice p L c, .int .i64 v, .bool true]) ∧ Ow .i64 3 w' w.heap.size w'.heap.size p L c zs ∧ Below w.heap.size w w' := by
  obtain ⟨p, n, c, he, ho, hb⟩ := hp
  unfold decL at ho
  unfold decE decOk at he
  rw [h] at ho he
  obtain rfl : n = L := by rw [← ho.len, ← hl]
  exact ⟨p, c, he, ho, hb⟩
theorem dec_none {xs : List Int} {a m : Int} {w w' : World} {e : Ending} (h : decI xs a m = none) (hp : DecEnd xs a m w e w') : ∃ p n c, e = .returned (.tuple #[.slice p n c, .int .i64 0, .bool false]) ∧ Below w.heap.size w w' := by
  obtain ⟨p, n, c, he, _, hb⟩ := hp
  unfold decE decOk at he
  rw [h] at he
  exact ⟨p, n, c, he, hb⟩
theorem neq_self (a : Int) : (a != a) = false := by simp
theorem eq_self (a : Int) : (a == a) = true := by simp
theorem dec_back {vs : List Int} {m n : Nat} (h : ∀ x ∈ vs, 0 ≤ x ∧ x ≤ 1000000000000) (hm : vs.length = m) (hm2 : m ≤ 100) (hn : (enc vs).length = n) : decI (enc vs) 0 m = some (vs, (n : Int)) := by
  have h1 := dec_enc [] vs [] h
  rw [decI_in (by omega)]
  simp only [List.nil_append, List.append_nil, List.length_nil, Nat.zero_add] at h1
  rw [Int.toNat_natCast, ← hm, ← hn]
  exact h1
theorem dec_more {vs : List Int} {m : Nat} (h : ∀ x ∈ vs, 0 ≤ x ∧ x ≤ 1000000000000) (hm : vs.length = m) (hm2 : m ≤ 99) : decI (enc vs) 0 ((m : Int) + 1) = none := by
  have h1 := dec_over vs [] h
  rw [decI_in (by omega)]
  simp only [List.nil_append, List.length_nil] at h1
  rw [show ((m : Int) + 1).toNat = m + 1 by omega, ← hm]
  exact h1
/-- on the way: the numbers that are gathered -/
def Gath (m : Nat) (p : Option Addr) (c lo : Nat) (W w : World) : Prop := ∃ vs, Ow .i64 3 w lo w.heap.size p m c vs ∧ (∀ x ∈ vs, 0 ≤ x ∧ x ≤ 1000000000000) ∧ Below W.heap.size W w ∧ W.heap.size ≤ lo ∧ lo ≤ w.heap.size
set_option maxRecDepth 100000 in
set_option maxHeartbeats 4000000 in
theorem walk {H : Type} {enc : TypeId × Value → H} (W : World) (base : Nat)
    (v0 : Value) (d0 : DataW H) (p0 : List MemPlace) (h0 : DataW.Trod enc Try.prog W 0 (fun _ => true) true 22 v0 d0 p0) (k0 : Value.okWide Try.prog W .any base 22 v0)
    (_hsz : (DataW.weightsEach Try.prog [22] [d0]).all (· ≤ reachBytes) = true) :
    Calls Try.prog 4 #[v0] W fun e w' => e = .returned (.bool true) ∧ Below W.heap.size W w' := by
  obtain ⟨i0, hi, hz0, hz1, hz2⟩ := info_parts SlI.info
  obtain ⟨n, hcode⟩ := Cur.code_of h0 k0
  have HC := Lib.hid hcode
  clear h0 k0 hcode
  rcases hbig : decide (1048576 < n) with _ | _
  · have hn : n ≤ 1048576 := by have := of_decide_eq_false hbig; omega
    have HBig := Lib.hid hbig
    clear hbig
    go_enter Try.func4, Try.ntmps4
    go_wp2_with fail
    refine (Cur.big_any _ _ _ _ HC.out HBig.out).mono ?_
    rintro e w' ⟨rfl, rfl⟩
    go_wp2_with fail
    refine (Cur.drawAppendB_any _ _ _ HC.out).mono ?_
    rintro e w1 ⟨p1, n1, c1, xs, p2, n2, c2, ys, rfl, hr1, hn1, hr2, hn2, hb1⟩
    have HR1 := Lib.hid hr1
    have HR2 := Lib.hid hr2
    have HB1 := Lib.hid hb1
    clear hr1 hr2 hb1
    go_wp2_with fail
    refine (appendB_any _ _ _ _ _ _ _ _ _ HR1.out HR2.out (by omega) (by omega)).mono ?_
    rintro e w2 ⟨p3, n3, c3, rfl, ho3, hb3⟩
    have HX := Lib.hid ho3.rd
    have HB3 := Lib.hid (below_on HB1.out hb3)
    have HR3 := Lib.hid (HR2.out.below hb3)
    have hle3 := ho3.le
    have hu := uvI_len (n2 : Int)
    have hl3 : (xs ++ uvI (n2 : Int) ++ ys).length = n3 := ho3.len
    have hn3 : n3 ≤ 300 := by
      have h1 := HR1.out.len
      have h2 := HR2.out.len
      rw [List.length_append, List.length_append] at hl3
      omega
    have HRB : Hid (rb (xs ++ uvI (n2 : Int) ++ ys) n1 n2 = some (ys, (n3 : Int))) := by
      have h := rb_made xs ys (by rw [HR2.out.len]; omega)
      rw [HR1.out.len, HR2.out.len, ← uvI_nat (n := n2) (by omega), ← List.append_assoc] at h
      have e3 : n1 + (uvI (n2 : Int)).length + n2 = n3 := by
        rw [List.length_append, List.length_append, HR1.out.len, HR2.out.len] at hl3
        exact hl3
      rw [e3] at h
      exact h
    have HRS : Hid (rb (xs ++ uvI (n2 : Int) ++ ys) n1 ((n2 : Int) - 1) = none) := by
      have h := rb_short xs ys (by rw [HR2.out.len]; omega)
      rw [HR1.out.len, HR2.out.len, ← uvI_nat (n := n2) (by omega), ← List.append_assoc] at h
      exact h
    clear ho3 hb3 hl3 hu
    go_wp2_with fail
    refine (readB_any _ _ _ _ _ _ _ HX.out (by omega) hle3.1 hle3.2).mono ?_
    intro e w3 hq
    obtain ⟨p4, c4, rfl, ho4, hb4⟩ := readB_some HRB.out HR2.out.len hq
    have HY := Lib.hid ho4.rd
    have HX4 := Lib.hid (HX.out.below hb4)
    have HR4 := Lib.hid (HR3.out.below hb4)
    have HB4 := Lib.hid (below_on HB3.out hb4)
    clear ho4 hb4 hq
    go_wp2_with fail
    refine (readB_any _ _ _ _ _ _ _ HX4.out (by omega) hle3.1 hle3.2).mono ?_
    intro e w4 hq
    obtain ⟨p5, n5, c5, rfl, hb5⟩ := readB_none HRS.out hq
    have HY5 := Lib.hid (HY.out.below hb5)
    have HR5 := Lib.hid (HR4.out.below hb5)
    have HB5 := Lib.hid (below_on HB4.out hb5)
    clear hb5 hq
    go_wp2_with fail
    refine (SlB.same_any _ _ _ _ _ ys _ HY5.out HR5.out).mono ?_
    rintro e w5 ⟨rfl, hb6⟩
    have HB6 := Lib.hid (below_on HB5.out hb6)
    clear hb6
    have e1 := neq_self (n3 : Int)
    go_wp2_with fail
    have HG : Hid (Gath 0 (some ⟨w5.heap.size, 0, none⟩) 0 w5.heap.size W (w5.alloc (.cells #[] 3))) := ⟨[], emptyI_own w5 _ (Nat.le_refl _), (fun x hx => by cases hx), HB6.out.alloc HB6.out.size _, HB6.out.size, by simp⟩
    go_loopw [12, 13] (fun b i wr => ∃ (k c' : Nat) (p' : Option Addr), k ≤ 5 ∧ i = .int .i64 k ∧ b = .slice p' k c' ∧ Hid (Gath k p' c' w5.heap.size W wr)) (fun _ i _ => 6 - (intOf i).toNat)
    case atStart => exact ⟨0, _, _, by omega, rfl, rfl, HG⟩
    case round =>
      obtain ⟨k, c', p', hk, rfl, rfl, HK⟩ := hrel
      obtain ⟨vs, ho, hv, hbe, hlo1, hlo2⟩ := HK.out
      have HO := Lib.hid ho
      have HV := Lib.hid hv
      have HBe := Lib.hid hbe
      have HCr := Lib.hid (HC.out.on hbe)
      clear ho hv hbe
      go_wp2_with fail
      refine (at_any _ _ 0 _ HCr.out hn (by omega)).mono ?_
      rintro e wr' ⟨x, rfl, ⟨x0, x1⟩, rfl⟩
      by_cases hlt : (k : Int) < x % 6
      · go_wp2_with fail
        refine (at_any _ _ (k + 1) _ HCr.out hn (by omega)).mono ?_
        rintro e wr' ⟨y, rfl, ⟨y0, y1⟩, rfl⟩
        go_wp2_with fail
        refine (at_any _ _ (k + 2) _ HCr.out hn (by omega)).mono ?_
        rintro e wr' ⟨z, rfl, ⟨z0, z1⟩, rfl⟩
        have q0 : 0 ≤ y * z := Int.mul_nonneg y0 z0
        have q1 : y * z ≤ 255 * 255 := Int.mul_le_mul y1 z1 z0 (by omega)
        go_wp2_with fail
        refine (at_any _ _ (k + 3) _ HCr.out hn (by omega)).mono ?_
        rintro e wr' ⟨t, rfl, ⟨t0, t1⟩, rfl⟩
        have r0 : 0 ≤ y * z * t := Int.mul_nonneg q0 t0
        have r1 : y * z * t ≤ 255 * 255 * 255 := Int.mul_le_mul q1 t1 t0 (by omega)
        go_wp2_with (at_builtin; refine wpList_app1 rfl (.tmp 77) (.tmp 92) 35 rfl i0 _ 8 Try.underlying35 hi hz0 hz1 hz2 rfl rfl (HO.out.alloc _) wr.heap.size 1 (y * z * t) rfl (by go_simp) ⟨by omega, by omega⟩ (by simp; omega) (by omega) (by omega) ?_; intro p7 c7 w7 how7 hg7)
        have hfar := HO.out.far
        have hs7 := hg7.size
        simp at hs7
        refine ⟨⟨k + 1, _, _, by omega, by go_num, rfl, ⟨_, how7, fun u hu => ?_, (HBe.out.alloc HBe.out.size _).grown hg7 (by have := HBe.out.size; simp; omega) (fun j e => by have := hfar j e; omega), hlo1, by omega⟩⟩, by simp [intOf]; omega⟩
        rcases List.mem_append.1 hu with hu | hu
        · exact HV.out u hu
        · rw [List.mem_singleton] at hu
          omega
      · go_wp2_with fail
        refine (enc_any _ _ _ _ _ HO.out.rd (by omega)).mono ?_
        rintro e w8 ⟨p8, n8, c8, rfl, ho8, hb8⟩
        have HE := Lib.hid ho8.rd
        have HL8 := Lib.hid (HO.out.rd.below hb8)
        have HB8 := Lib.hid (below_on HBe.out hb8)
        have hle8 := ho8.le
        have hn8 : n8 ≤ 100 := by
          have h1 := ho8.len
          have h2 := enc_len vs
          have h3 := HO.out.len
          omega
        have HD1 := Lib.hid (dec_back HV.out HO.out.len (by omega) ho8.len)
        have HD2 := Lib.hid (dec_more HV.out HO.out.len (by omega))
        clear ho8 hb8
        go_wp2_with fail
        refine (dec_any _ _ _ _ _ _ _ HE.out (by omega) hle8.1 hle8.2).mono ?_
        intro e w9 hq
        obtain ⟨p9, c9, rfl, ho9, hb9⟩ := dec_some HD1.out HO.out.len hq
        have HM := Lib.hid ho9.rd
        have HL9 := Lib.hid (HL8.out.below hb9)
        have HE9 := Lib.hid (HE.out.below hb9)
        have HB9 := Lib.hid (below_on HB8.out hb9)
        clear ho9 hb9 hq
        go_wp2_with fail
        refine (dec_any _ _ _ _ _ _ _ HE9.out (by omega) hle8.1 hle8.2).mono ?_
        intro e w10 hq
        obtain ⟨p10, n10, c10, rfl, hb10⟩ := dec_none HD2.out hq
        have HM10 := Lib.hid (HM.out.below hb10)
        have HL10 := Lib.hid (HL9.out.below hb10)
        have HB10 := Lib.hid (below_on HB9.out hb10)
        clear hb10 hq
        go_wp2_with fail
        refine (SlI.same_any _ _ _ _ _ vs _ HM10.out HL10.out).mono ?_
        rintro e w11 ⟨rfl, hb11⟩
        have HB11 := Lib.hid (below_on HB10.out hb11)
        clear hb11
        have e2 := eq_self (n8 : Int)
        go_wp2_with fail
        go_ret
        exact ⟨rfl, HB11.out⟩
  · have HBig := Lib.hid hbig
    clear hbig
    go_enter Try.func4, Try.ntmps4
    go_wp2_with fail
    refine (Cur.big_any _ _ _ _ HC.out HBig.out).mono ?_
    rintro e w' ⟨rfl, rfl⟩
    go_wp2_with fail
    go_ret
    exact ⟨rfl, Below.refl _ _⟩
end Go.Proofs.Ytdncodfgllfjiaa.fnByteStrings
