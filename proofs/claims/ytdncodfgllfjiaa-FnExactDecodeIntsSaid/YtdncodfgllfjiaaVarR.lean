/- Contracts of ReadUvarint, in the program and in the reference. -/
import Derived.Test.YtdncodfgllfjiaaVar
import Derived.Test.YtdncodfgllfjiaaMin
namespace Go.Proofs.Ytdncodfgllfjiaa.Var
open Go.ChangeShapes Go.WideShapes Go.ChangeAt Go.RowKit Sl Uv

def rdN (r : Option (Int × Int)) : Int := match r with | none => 0 | some p => p.1
def rdE (r : Option (Int × Int)) : Int := match r with | none => 0 | some p => p.2
def rdOk (r : Option (Int × Int)) : Bool := match r with | none => false | some _ => true
/-- what the call answers -/
def ReadE (r : Option (Int × Int)) : Ending := .returned (.tuple #[.int .i64 (rdN r), .int .i64 (rdE r), .bool (rdOk r)])
theorem ret_none {r : Option (Int × Int)} (h : r = none) : Ending.returned (.tuple #[.int .i64 0, .int .i64 0, .bool false]) = ReadE r := by rw [h]; rfl
theorem ret_some {r : Option (Int × Int)} {a b : Int} (h : r = some (a, b)) : Ending.returned (.tuple #[.int .i64 a, .int .i64 b, .bool true]) = ReadE r := by rw [h]; rfl

/-- on the way: k groups are read, and what is left says what is answered -/
def RdMid (xs : List Int) (o k : Nat) (acc : Int) : Prop := k ≤ 6 ∧ (rdv 6 (xs.drop o) 0 0 = rdv (6 - k) (xs.drop (o + k)) k acc) ∧ 0 ≤ acc ∧ acc < 128 ^ k
theorem RdMid.start (xs : List Int) (o : Nat) : RdMid xs o 0 0 := ⟨by omega, rfl, by omega, by decide⟩
theorem rd_eq {xs : List Int} {o : Nat} (h : o ≤ xs.length) {r : Option (Int × Nat)} (hr : rdv 6 (xs.drop o) 0 0 = r) : rd xs o = r.map fun p => (p.1, (o : Int) + p.2) := by rw [rd_in h, hr]
/-- no group is left to read: the limit, or the end -/
theorem RdMid.stop {xs : List Int} {o k : Nat} {acc : Int} (h : RdMid xs o k acc) (ho : o ≤ xs.length) (hk : 6 ≤ k ∨ xs.length ≤ o + k) : rd xs o = none := by
  obtain ⟨h1, h2, _⟩ := h
  rw [rd_eq ho h2]
  rcases hk with hk | hk
  · rw [show 6 - k = 0 by omega]; rfl
  · rw [List.drop_eq_nil_of_le hk, rdv_nil]; rfl
theorem RdMid.cons {xs : List Int} {o k : Nat} {acc : Int} (h : RdMid xs o k acc) (hk : k < 6) (ho : o + k < xs.length) : rdv 6 (xs.drop o) 0 0 = rdv (5 - k + 1) (xs.getD (o + k) 0 :: xs.drop (o + (k + 1))) k acc := by
  rw [h.2.1, show 6 - k = 5 - k + 1 by omega, List.drop_eq_getElem_cons ho, List.getD_eq_getElem?_getD, List.getElem?_eq_getElem ho]
  rfl
theorem RdMid.zero {xs : List Int} {o k : Nat} {acc x : Int} (h : RdMid xs o k acc) (hx : xs.getD (o + k) 0 = x) (hk : k < 6) (ho : o + k < xs.length) (hz : x = 0) (h0 : 0 < k) : rd xs o = none := by
  have := h.cons hk ho
  rw [hx, rdv_zero hz h0] at this
  rw [rd_eq (by omega) this]; rfl
theorem RdMid.over {xs : List Int} {o k : Nat} {acc x : Int} (h : RdMid xs o k acc) (hx : xs.getD (o + k) 0 = x) (hk : k < 6) (ho : o + k < xs.length) (hx1 : x < 128) (hn : 1000000000000 < acc + x * 128 ^ k) : rd xs o = none := by
  have := h.cons hk ho
  rw [hx, rdv_over hx1 hn] at this
  rw [rd_eq (by omega) this]; rfl
theorem RdMid.last {xs : List Int} {o k : Nat} {acc x : Int} (h : RdMid xs o k acc) (hx : xs.getD (o + k) 0 = x) (hk : k < 6) (ho : o + k < xs.length) (hx1 : x < 128) (hz : ¬ (x = 0 ∧ 0 < k)) (hn : ¬ 1000000000000 < acc + x * 128 ^ k) {v e : Int} (hv : v = acc + x * 128 ^ k) (he : e = (o : Int) + k + 1) : rd xs o = some (v, e) := by
  have := h.cons hk ho
  rw [hx, rdv_last hx1 hz hn] at this
  rw [rd_eq (by omega) this, hv, he]
  simp [Int.add_assoc]
theorem RdMid.next {xs : List Int} {o k : Nat} {acc x : Int} (h : RdMid xs o k acc) (hx : xs.getD (o + k) 0 = x) (hk : k < 6) (ho : o + k < xs.length) (hx1 : 128 ≤ x) (hx2 : x ≤ 255) {v : Int} (hv : v = acc + (x - 128) * 128 ^ k) : RdMid xs o (k + 1) v := by
  have h1 := h.cons hk ho
  rw [hx, rdv_more hx1] at h1
  have hp : (0 : Int) < 128 ^ k := Int.pow_pos (by decide)
  refine ⟨by omega, by rw [show 6 - (k + 1) = 5 - k by omega, hv]; exact h1, by rw [hv]; exact Int.add_nonneg h.2.2.1 (Int.mul_nonneg (by omega) (Int.le_of_lt hp)), ?_⟩
  have h2 : (x - 128) * 128 ^ k ≤ 127 * 128 ^ k := Int.mul_le_mul_of_nonneg_right (by omega) (Int.le_of_lt hp)
  have h3 := h.2.2.2
  rw [hv, Int.pow_succ]
  omega
theorem minI_nat (n o : Nat) : Ints.minI (n : Int) ((o : Int) + 6) = ((min n (o + 6) : Nat) : Int) := by
  unfold Ints.minI
  split <;> omega
theorem or_group {zs : List Int} {o k : Nat} {A g : Int} (h : RdMid zs o k A) (hk : k < 6) (h0 : 0 ≤ g) (h1 : g ≤ 127) : bits .or .i64 A (wrap64 (g * 2 ^ (7 * k))) = A + g * 128 ^ k := by
  obtain ⟨_, _, hA0, hA1⟩ := h
  have e : (2 : Int) ^ (7 * k) = 128 ^ k := by rw [Int.pow_mul]; rfl
  rw [e]
  obtain ⟨a, rfl⟩ := Int.eq_ofNat_of_zero_le hA0
  obtain ⟨b, rfl⟩ := Int.eq_ofNat_of_zero_le h0
  have e2 : ((b : Int) * 128 ^ k) = ((b * 2 ^ (7 * k) : Nat) : Int) := by rw [Nat.pow_mul]; simp
  have e3 : (a : Int) < ((2 ^ (7 * k) : Nat) : Int) := by rw [Nat.pow_mul]; simpa using hA1
  have hp : 2 ^ (7 * k) ≤ 2 ^ 35 := Nat.pow_le_pow_right (by decide) (by omega)
  have hb : b * 2 ^ (7 * k) ≤ 127 * 2 ^ 35 := Nat.mul_le_mul (by omega) hp
  rw [e2]
  have hw : wrap64 ((b * 2 ^ (7 * k) : Nat) : Int) = ((b * 2 ^ (7 * k) : Nat) : Int) := by unfold wrap64; omega
  rw [hw, Sl.i64_or_nat _ _ (by omega) (by omega)]
  have h2 := Nat.two_pow_add_eq_or_of_lt (i := 7 * k) (b := a) (by omega) b
  rw [Nat.or_comm, Nat.mul_comm b, ← h2]
  omega
theorem group_u8 {x : Int} (h0 : 0 ≤ x) (h1 : x ≤ 255) : bits .and .u8 x 127 = x % 128 := bits_mask .u8 8 (by decide) wraps_u8 7 (by decide) x h0 (by omega)
set_option maxHeartbeats 1000000 in
theorem read_any (p : Option Addr) (n c : Nat) (zs : List Int) (a : Int) (w : World) (hr : Rd .u8 w p n zs) (hn : n ≤ 1000000000000) (hc : n ≤ c) (hc' : c ≤ 9223372036854775807) : Calls Try.prog 16 #[.slice p n c, .int .i64 a] w fun e w' => e = .returned (.tuple #[.int .i64 (rdN (rd zs a)), .int .i64 (rdE (rd zs a)), .bool (rdOk (rd zs a))]) ∧ Below w.heap.size w w' := by
  have HR := Lib.hid hr
  have HL := Lib.hid hr.len
  clear hr
  by_cases hin : 0 ≤ a ∧ a ≤ n
  · obtain ⟨ha0, ha1⟩ := hin
    obtain ⟨o, rfl⟩ := Int.eq_ofNat_of_zero_le ha0
    have HM := Lib.hid (minI_nat n o)
    by_cases hon : o < n
    · obtain ⟨b, q, rfl, hb, _⟩ := HR.out.at_ hon
      obtain ⟨m, hm⟩ : ∃ m, min n (o + 6) = o + m := ⟨min n (o + 6) - o, by omega⟩
      have hm1 : 0 < m := by omega
      have hm2 : o + m ≤ n := by omega
      have hm3 : m ≤ 6 := by omega
      have HE : Hid (o + m = n ∨ m = 6) := by show o + m = n ∨ m = 6; omega
      rw [hm, Int.natCast_add] at HM
      clear hm
      go_enter Try.func16, Try.ntmps16
      go_wp2_with fail
      refine (Ints.inRange_any _ _ _ true (by rw [decide_eq_true_iff]; omega) _).mono ?_
      rintro e0 w1 ⟨rfl, rfl⟩
      go_wp2_with fail
      refine (Ints.min_any _ _ _).mono ?_
      rintro e0 w1 ⟨rfl, rfl⟩
      rw [HM.out]
      go_wp2_with fail
      go_loop [8, 28] (fun x i => ∃ (k : Nat) (A : Int), k ≤ m ∧ i = .int .i64 k ∧ x = .int .i64 A ∧ Hid (RdMid zs o k A)) (fun _ i => m - (intOf i).toNat)
      case atStart => exact ⟨0, 0, Nat.zero_le _, rfl, rfl, RdMid.start _ _⟩
      case round =>
        obtain ⟨k, A, hk, rfl, rfl, HK⟩ := hrel
        by_cases hkm : k < m
        · obtain ⟨_, _, e, _, hcell⟩ := HR.out.at_ (i := o + k) (by omega)
          simp only [Option.some.injEq, Addr.mk.injEq, and_true] at e
          obtain ⟨rfl, rfl⟩ := e
          have hxr := byte_range HR.out.all (o + k)
          rw [← Nat.add_assoc] at hcell
          generalize hx : zs.getD (o + k) 0 = x at hcell hxr
          have HX := Lib.hid hx
          clear hx
          obtain ⟨hx0, hx1⟩ := hxr
          have hg := group_u8 hx0 hx1
          by_cases hbig : 127 < x
          · have hor := or_group HK.out (by omega) (g := x % 128) (by omega) (by omega)
            generalize hy : A + x % 128 * 128 ^ k = y at hor
            have HY := Lib.hid hy
            clear hy
            go_wp2_with fail
            refine ⟨⟨k + 1, _, by omega, by go_num, rfl, HK.out.next HX.out (by omega) (by have := HL.out; omega) (by omega) hx1 ?_⟩, by simp [intOf]; omega⟩
            rw [← HY.out, show x % 128 = x - 128 by omega]
          · rw [show x % 128 = x by omega] at hg
            have hor := or_group HK.out (by omega) (g := x) (by omega) (by omega)
            generalize hy : A + x * 128 ^ k = y at hor
            have HY := Lib.hid hy
            clear hy
            have HLT : Hid (o + k < zs.length) := by have := HL.out; show o + k < zs.length; omega
            by_cases hz : x = 0
            · have hzb : (x == 0) = true := beq_iff_eq.2 hz
              have HZ := Lib.hid hz
              clear hz
              by_cases hk0 : 0 < k
              · go_wp2_with fail
                go_ret3
                exact ⟨ret_none (HK.out.zero HX.out (by omega) HLT.out HZ.out hk0), (Below.refl _ _).alloc (Nat.le_refl _) _⟩
              · by_cases hyb : 1000000000000 < y
                · go_wp2_with fail
                  go_ret3
                  exact ⟨ret_none (HK.out.over HX.out (by omega) HLT.out (by omega) (by rw [HY.out]; exact hyb)), (Below.refl _ _).alloc (Nat.le_refl _) _⟩
                · go_wp2_with fail
                  go_ret3
                  exact ⟨ret_some (HK.out.last HX.out (by omega) HLT.out (by omega) (by omega) (by rw [HY.out]; exact Int.not_lt.2 hyb) HY.out.symm rfl), (Below.refl _ _).alloc (Nat.le_refl _) _⟩
            · have hzb : (x == 0) = false := beq_eq_false_iff_ne.2 hz
              by_cases hyb : 1000000000000 < y
              · go_wp2_with fail
                all_goals
                  go_ret3
                  exact ⟨ret_none (HK.out.over HX.out (by omega) HLT.out (by omega) (by rw [HY.out]; exact hyb)), (Below.refl _ _).alloc (Nat.le_refl _) _⟩
              · go_wp2_with fail
                all_goals
                  go_ret3
                  exact ⟨ret_some (HK.out.last HX.out (by omega) HLT.out (by omega) (by omega) (by rw [HY.out]; exact Int.not_lt.2 hyb) HY.out.symm rfl), (Below.refl _ _).alloc (Nat.le_refl _) _⟩
        · obtain rfl : k = m := by omega
          go_wp2_with fail
          go_ret3
          exact ⟨ret_none (HK.out.stop (by have := HL.out; omega) (by have := HL.out; have := HE.out; omega)), (Below.refl _ _).alloc (Nat.le_refl _) _⟩
    · obtain rfl : o = n := by omega
      have HN : Hid (rd zs o = none) := by
        have := rd_end zs
        rw [HL.out] at this
        exact this
      rcases p with _ | ⟨b, q, spot⟩
      all_goals
        go_enter Try.func16, Try.ntmps16
        go_wp2_with fail
        refine (Ints.inRange_any _ _ _ true (by rw [decide_eq_true_iff]; omega) _).mono ?_
        rintro e0 w1 ⟨rfl, rfl⟩
        go_wp2_with fail
        refine (Ints.min_any _ _ _).mono ?_
        rintro e0 w1 ⟨rfl, rfl⟩
        rw [HM.out, show min o (o + 6) = o by omega]
        go_wp2_with fail
        go_loop [28] (fun i => i = .int .i64 0) (fun _ => 0)
        case atStart => rfl
        case round =>
          obtain rfl := hrel
          go_wp2_with fail
          go_ret3
          exact ⟨ret_none HN.out, (Below.refl _ _).alloc (Nat.le_refl _) _⟩
  · go_enter Try.func16, Try.ntmps16
    go_wp2_with fail
    refine (Ints.inRange_any _ _ _ false (by rw [decide_eq_false_iff_not]; exact hin) _).mono ?_
    rintro e0 w1 ⟨rfl, rfl⟩
    go_wp2_with fail
    go_ret3
    exact ⟨ret_none (rd_out (by rw [HL.out]; exact hin)), Below.refl _ _⟩
theorem group_i64 {x : Int} (h0 : 0 ≤ x) (h1 : x ≤ 255) : bits .and .i64 x 127 = x % 128 := by
  obtain ⟨a, rfl⟩ := Int.eq_ofNat_of_zero_le h0
  rw [show (127 : Int) = ((127 : Nat) : Int) from rfl, Sl.i64_and_nat _ _ (by omega) (by omega), show 127 = 2 ^ 7 - 1 from rfl, Nat.and_two_pow_sub_one_eq_mod]
  omega
set_option maxHeartbeats 1000000 in
theorem spec_read_any (p : Option Addr) (n c : Nat) (zs : List Int) (a : Int) (w : World) (hr : Rd .u8 w p n zs) (hn : n ≤ 1000000000000) (ha1 : -9223372036854775808 ≤ a) (ha2 : a ≤ 9223372036854775807) : Calls Try.prog 19 #[.slice p n c, .int .i64 a] w fun e w' => e = .returned (.tuple #[.int .i64 (rdN (rd zs a)), .int .i64 (rdE (rd zs a)), .bool (rdOk (rd zs a))]) ∧ Below w.heap.size w w' := by
  have HR := Lib.hid hr
  have HL := Lib.hid hr.len
  clear hr
  by_cases hin : 0 ≤ a ∧ a < n
  · obtain ⟨ha0, ha3⟩ := hin
    obtain ⟨o, rfl⟩ := Int.eq_ofNat_of_zero_le ha0
    obtain ⟨b, q, rfl, hb, _⟩ := HR.out.at_ (i := o) (by omega)
    go_enter Try.func19, Try.ntmps19
    go_wp2_with fail
    go_loop [7, 8] (fun x i => ∃ (k : Nat) (A : Int), k ≤ 6 ∧ i = .int .i64 k ∧ x = .int .i64 A ∧ Hid (RdMid zs o k A)) (fun _ i => 6 - (intOf i).toNat)
    case atStart => exact ⟨0, 0, Nat.zero_le _, rfl, rfl, RdMid.start _ _⟩
    case round =>
      obtain ⟨k, A, hk, rfl, rfl, HK⟩ := hrel
      by_cases hk6 : k < 6
      · by_cases hkm : o + k < n
        · obtain ⟨_, _, e, _, hcell⟩ := HR.out.at_ (i := o + k) hkm
          simp only [Option.some.injEq, Addr.mk.injEq, and_true] at e
          obtain ⟨rfl, rfl⟩ := e
          have hxr := byte_range HR.out.all (o + k)
          generalize hx : zs.getD (o + k) 0 = x at hcell hxr
          have HX := Lib.hid hx
          clear hx
          obtain ⟨hx0, hx1⟩ := hxr
          have hg := group_i64 hx0 hx1
          have HLT : Hid (o + k < zs.length) := by have := HL.out; show o + k < zs.length; omega
          by_cases hbig : 127 < x
          · have hor := or_group HK.out (by omega) (g := x % 128) (by omega) (by omega)
            generalize hy : A + x % 128 * 128 ^ k = y at hor
            have HY := Lib.hid hy
            clear hy
            go_wp2_with fail
            refine ⟨⟨k + 1, _, by omega, by go_num, rfl, HK.out.next HX.out (by omega) HLT.out (by omega) hx1 ?_⟩, by simp [intOf]; omega⟩
            rw [← HY.out, show x % 128 = x - 128 by omega]
          · rw [show x % 128 = x by omega] at hg
            have hor := or_group HK.out (by omega) (g := x) (by omega) (by omega)
            generalize hy : A + x * 128 ^ k = y at hor
            have HY := Lib.hid hy
            clear hy
            by_cases hz : x = 0
            · have hzb : (x == 0) = true := beq_iff_eq.2 hz
              have HZ := Lib.hid hz
              clear hz
              by_cases hk0 : 0 < k
              · go_wp2_with fail
                go_ret3
                exact ⟨ret_none (HK.out.zero HX.out (by omega) HLT.out HZ.out hk0), Below.refl _ _⟩
              · by_cases hyb : 1000000000000 < y
                · go_wp2_with fail
                  go_ret3
                  exact ⟨ret_none (HK.out.over HX.out (by omega) HLT.out (by omega) (by rw [HY.out]; exact hyb)), Below.refl _ _⟩
                · go_wp2_with fail
                  go_ret3
                  exact ⟨ret_some (HK.out.last HX.out (by omega) HLT.out (by omega) (by omega) (by rw [HY.out]; exact Int.not_lt.2 hyb) HY.out.symm rfl), Below.refl _ _⟩
            · have hzb : (x == 0) = false := beq_eq_false_iff_ne.2 hz
              by_cases hyb : 1000000000000 < y
              · go_wp2_with fail
                all_goals
                  go_ret3
                  exact ⟨ret_none (HK.out.over HX.out (by omega) HLT.out (by omega) (by rw [HY.out]; exact hyb)), Below.refl _ _⟩
              · go_wp2_with fail
                all_goals
                  go_ret3
                  exact ⟨ret_some (HK.out.last HX.out (by omega) HLT.out (by omega) (by omega) (by rw [HY.out]; exact Int.not_lt.2 hyb) HY.out.symm rfl), Below.refl _ _⟩
        · go_wp2_with fail
          go_ret3
          exact ⟨ret_none (HK.out.stop (by have := HL.out; omega) (by have := HL.out; omega)), Below.refl _ _⟩
      · obtain rfl : k = 6 := by omega
        go_wp2_with fail
        go_ret3
        exact ⟨ret_none (HK.out.stop (by have := HL.out; omega) (by omega)), Below.refl _ _⟩
  · have HN : Hid (rd zs a = none) := by
      by_cases he : a = n
      · have := rd_end zs
        rw [HL.out] at this
        rw [he]
        exact this
      · exact rd_out (by rw [HL.out]; omega)
    by_cases hneg : a < 0
    all_goals
      go_enter Try.func19, Try.ntmps19
      go_wp2_with fail
      go_loop [8] (fun i => i = .int .i64 0) (fun _ => 0)
      case atStart => rfl
      case round =>
        obtain rfl := hrel
        go_wp2_with fail
        go_ret3
        exact ⟨ret_none HN.out, Below.refl _ _⟩
end Go.Proofs.Ytdncodfgllfjiaa.Var
