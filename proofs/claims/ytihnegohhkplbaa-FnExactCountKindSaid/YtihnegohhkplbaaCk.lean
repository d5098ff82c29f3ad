/- Events counted, and whether they are honest; in the program and in the reference. -/
import Derived.Test.YtihnegohhkplbaaDpEvent
import Derived.Test.YtihnegohhkplbaaEs
import Derived.Test.YtihnegohhkplbaaInt
import Derived.LoopTactic
import Derived.Outline
namespace Go.Proofs.Ytihnegohhkplbaa.Ck
open Go.ChangeShapes Go.WideShapes Go.ChangeAt Go.RowKit Sl St Ed Dz Es Ints
def isK (k : Int) (e : DpEvent.A) : Bool := decide (e.1 = k)
set_option maxRecDepth 100000 in
set_option maxHeartbeats 4000000 in
theorem count_any (xs : List DpEvent.A) (p : Option Addr) (n c : Nat) (kind : Int) {S : Nat → Prop} (w : World) (hr : RdD DpEvent.E S w p n xs) : Calls Try.prog 36 #[.slice p n c, .int .i64 kind] w (Val (.int .i64 (cnt (isK kind) xs)) w) := by
  have HR := Lib.hid hr
  have hle := hr.le
  clear hr
  go_enter Try.func36, Try.ntmps36
  go_wp2_with fail
  go_loopw [5, 10] (fun s i wr => ∃ k q : Nat, k ≤ n ∧ i = .int .i64 k ∧ s = .int .i64 q ∧ q ≤ k ∧ Hid (q = cnt (isK kind) (xs.take k)) ∧ Hid (Below w.heap.size w wr)) (fun _ i _ => n - (intOf i).toNat)
  case atStart => exact ⟨0, 0, Nat.zero_le _, rfl, rfl, Nat.le_refl _, Lib.hid rfl, Lib.hid (Below.refl _ _)⟩
  case round =>
    obtain ⟨k, q, hk, rfl, rfl, hq, HQ, HB⟩ := hrel
    by_cases hlt : k < n
    · skip
      obtain ⟨b, o, x_, cs_, rfl, _, hbw, hx, hc, hrd⟩ := HR.out.at_ hlt
      obtain ⟨x0, x1, x2, x3, x4, ⟨x5, l6, l7⟩, l8⟩ := x_
      obtain ⟨p6, n6, c6, p7, n7, c7, p8, n8, c8, rfl, b0, b1, b2, b3, b4, b5, h6, h7, h8⟩ := DpEvent.ex hrd
      have hcc : ∀ j v, [.int .i64 x0, .int .i64 x1, .int .i64 x2, .int .i64 x3, .int .i64 x4, .int .i64 x5, .slice p6 n6 c6, .slice p7 n7 c7, .slice p8 n8 c8][j]? = some v → wr.cell? ⟨b, o + k * 9 + j, none⟩ = some v := fun j v hv => (HB.out.cell (p := ⟨b, o + k * 9 + j, none⟩) hbw).trans (hc j v hv)
      have HX := Lib.hid hx
      have HC := Lib.hid hcc
      have H6 := Lib.hid (h6.below HB.out)
      have hn6 := h6.le
      have H7 := Lib.hid (h7.below HB.out)
      have hn7 := h7.le
      have H8 := Lib.hid (h8.below HB.out)
      have hn8 := h8.le
      have Gb0 := Lib.hid b0
      have Gb1 := Lib.hid b1
      have Gb2 := Lib.hid b2
      have Gb3 := Lib.hid b3
      have Gb4 := Lib.hid b4
      have Gb5 := Lib.hid b5
      obtain ⟨u0, u1, u2, u3, u4, u5, u6, u7, u8⟩ := DpEvent.at_cells hcc
      clear hcc hc hx hrd b0 b1 b2 b3 b4 b5 h6 h7 h8
      by_cases hkd : x0 = kind
      · have HN : Hid (q + 1 = cnt (isK kind) (xs.take (k + 1))) := Lib.hid (by rw [cnt_yes HX.out (decide_eq_true hkd), HQ.out])
        have e1 : (x0 == kind) = true := beq_iff_eq.2 hkd
        clear hkd
        go_wp2_with fail
        go_roundw
        case rel => exact ⟨k + 1, q + 1, by omega, by go_num, by go_num, by omega, HN, Lib.hid (HB.out.alloc HB.out.size _)⟩
        case measure => simp [intOf]; omega
      · have HN : Hid (q = cnt (isK kind) (xs.take (k + 1))) := Lib.hid (by rw [cnt_no HX.out (decide_eq_false hkd), HQ.out])
        have e1 : (x0 == kind) = false := beq_eq_false_iff_ne.2 hkd
        clear hkd
        go_wp2_with fail
        go_roundw
        case rel => exact ⟨k + 1, q, by omega, by go_num, rfl, by omega, HN, Lib.hid (HB.out.alloc HB.out.size _)⟩
        case measure => simp [intOf]; omega
    · obtain rfl : k = n := by omega
      have HV : Hid (q = cnt (isK kind) xs) := Lib.hid (by rw [HQ.out, cnt_all xs HR.out.len])
      go_wp2_with fail
      go_ret
      refine val_of ?_ HB.out
      rw [← HV.out]
      rfl
set_option maxRecDepth 100000 in
set_option maxHeartbeats 4000000 in
theorem spec_count_any (xs : List DpEvent.A) (p : Option Addr) (n c : Nat) (kind : Int) {S : Nat → Prop} (w : World) (hr : RdD DpEvent.E S w p n xs) : Calls Try.prog 34 #[.slice p n c, .int .i64 kind] w (Val (.int .i64 (cnt (isK kind) xs)) w) := by
  have HR := Lib.hid hr
  have hle := hr.le
  clear hr
  go_enter Try.func34, Try.ntmps34
  go_wp2_with fail
  go_loopw [5, 6] (fun s i wr => ∃ k q : Nat, k ≤ n ∧ i = .int .i64 k ∧ s = .int .i64 q ∧ q ≤ k ∧ Hid (q = cnt (isK kind) (xs.take k)) ∧ Hid (Below w.heap.size w wr)) (fun _ i _ => n - (intOf i).toNat)
  case atStart => exact ⟨0, 0, Nat.zero_le _, rfl, rfl, Nat.le_refl _, Lib.hid rfl, Lib.hid (Below.refl _ _)⟩
  case round =>
    obtain ⟨k, q, hk, rfl, rfl, hq, HQ, HB⟩ := hrel
    by_cases hlt : k < n
    · skip
      obtain ⟨b, o, x_, cs_, rfl, _, hbw, hx, hc, hrd⟩ := HR.out.at_ hlt
      obtain ⟨x0, x1, x2, x3, x4, ⟨x5, l6, l7⟩, l8⟩ := x_
      obtain ⟨p6, n6, c6, p7, n7, c7, p8, n8, c8, rfl, b0, b1, b2, b3, b4, b5, h6, h7, h8⟩ := DpEvent.ex hrd
      have hcc : ∀ j v, [.int .i64 x0, .int .i64 x1, .int .i64 x2, .int .i64 x3, .int .i64 x4, .int .i64 x5, .slice p6 n6 c6, .slice p7 n7 c7, .slice p8 n8 c8][j]? = some v → wr.cell? ⟨b, o + k * 9 + j, none⟩ = some v := fun j v hv => (HB.out.cell (p := ⟨b, o + k * 9 + j, none⟩) hbw).trans (hc j v hv)
      have HX := Lib.hid hx
      have HC := Lib.hid hcc
      have H6 := Lib.hid (h6.below HB.out)
      have hn6 := h6.le
      have H7 := Lib.hid (h7.below HB.out)
      have hn7 := h7.le
      have H8 := Lib.hid (h8.below HB.out)
      have hn8 := h8.le
      have Gb0 := Lib.hid b0
      have Gb1 := Lib.hid b1
      have Gb2 := Lib.hid b2
      have Gb3 := Lib.hid b3
      have Gb4 := Lib.hid b4
      have Gb5 := Lib.hid b5
      obtain ⟨u0, u1, u2, u3, u4, u5, u6, u7, u8⟩ := DpEvent.at_cells hcc
      clear hcc hc hx hrd b0 b1 b2 b3 b4 b5 h6 h7 h8
      by_cases hkd : x0 = kind
      · have HN : Hid (q + 1 = cnt (isK kind) (xs.take (k + 1))) := Lib.hid (by rw [cnt_yes HX.out (decide_eq_true hkd), HQ.out])
        have e1 : (x0 == kind) = true := beq_iff_eq.2 hkd
        clear hkd
        go_wp2_with fail
        go_roundw
        case rel => exact ⟨k + 1, q + 1, by omega, by go_num, by go_num, by omega, HN, Lib.hid HB.out⟩
        case measure => simp [intOf]; omega
      · have HN : Hid (q = cnt (isK kind) (xs.take (k + 1))) := Lib.hid (by rw [cnt_no HX.out (decide_eq_false hkd), HQ.out])
        have e1 : (x0 == kind) = false := beq_eq_false_iff_ne.2 hkd
        clear hkd
        go_wp2_with fail
        go_roundw
        case rel => exact ⟨k + 1, q, by omega, by go_num, rfl, by omega, HN, Lib.hid HB.out⟩
        case measure => simp [intOf]; omega
    · obtain rfl : k = n := by omega
      have HV : Hid (q = cnt (isK kind) xs) := Lib.hid (by rw [HQ.out, cnt_all xs HR.out.len])
      go_wp2_with fail
      go_ret
      refine val_of ?_ HB.out
      rw [← HV.out]
      rfl
def bad (e : DpEvent.A) : Bool := decide (8 ≤ e.1 ∧ e.1 ≤ 10)
set_option maxRecDepth 100000 in
theorem bad_any (x0 : Int) (x1 : Int) (x2 : Int) (x3 : Int) (x4 : Int) (x5 : Int) (l6 : List ByteArray) (p6 : Option Addr) (n6 c6 : Nat) (l7 : List Int) (p7 : Option Addr) (n7 c7 : Nat) (l8 : List Int) (p8 : Option Addr) (n8 c8 : Nat) (w : World) : Calls Try.prog 74 #[.agg #[.int .i64 x0, .int .i64 x1, .int .i64 x2, .int .i64 x3, .int .i64 x4, .int .i64 x5, .slice p6 n6 c6, .slice p7 n7 c7, .slice p8 n8 c8]] w (Val (.bool (bad (x0, x1, x2, x3, x4, (x5, l6, l7), l8))) w) := by
  have HB := Lib.hid (box1 w (.cells #[.int .i64 x0, .int .i64 x1, .int .i64 x2, .int .i64 x3, .int .i64 x4, .int .i64 x5, .slice p6 n6 c6, .slice p7 n7 c7, .slice p8 n8 c8] 101))
  obtain ⟨β, hβ⟩ : ∃ b, decide (8 ≤ x0 ∧ x0 ≤ 10) = b := ⟨_, rfl⟩
  have HE : Hid (bad (x0, x1, x2, x3, x4, (x5, l6, l7), l8) = β) := Lib.hid hβ
  have H1 := Lib.hid hβ
  clear hβ
  go_enter Try.func74, Try.ntmps74
  go_wp2_with fail
  refine (inRange_any _ _ _ β H1.out _).mono ?_
  rintro e w1 ⟨rfl, rfl⟩
  go_wp2_with fail
  go_ret
  exact val_of (by rw [HE.out]; rfl) HB.out
set_option maxRecDepth 100000 in
set_option maxHeartbeats 4000000 in
theorem index_any (xs : List DpEvent.A) (p : Option Addr) (n c : Nat)  {S : Nat → Prop} (w : World) (hr : RdD DpEvent.E S w p n xs) : Calls Try.prog 95 #[.slice p n c, .func (.func 74) #[] #[]] w fun e w' => ∃ r : Int, e = .returned (.int .i64 r) ∧ decide (0 ≤ r) = xs.any (bad) ∧ -1 ≤ r ∧ r ≤ 9223372036854775807 ∧ Below w.heap.size w w' := by
  have HR := Lib.hid hr
  have hle := hr.le
  clear hr
  go_enter Try.func95, Try.ntmps95
  go_wp2_with fail
  go_loopw [8] (fun i wr => ∃ k : Nat, k ≤ n ∧ i = .int .i64 k ∧ Hid (noneB (bad) xs k) ∧ Hid (Below w.heap.size w wr)) (fun i _ => n - (intOf i).toNat)
  case atStart => exact ⟨0, Nat.zero_le _, rfl, Lib.hid (noneB_zero _), Lib.hid (Below.refl _ _)⟩
  case round =>
    obtain ⟨k, hk, rfl, HN, HB⟩ := hrel
    by_cases hlt : k < n
    · skip
      obtain ⟨b, o, x_, cs_, rfl, _, hbw, hx, hc, hrd⟩ := HR.out.at_ hlt
      obtain ⟨x0, x1, x2, x3, x4, ⟨x5, l6, l7⟩, l8⟩ := x_
      obtain ⟨p6, n6, c6, p7, n7, c7, p8, n8, c8, rfl, b0, b1, b2, b3, b4, b5, h6, h7, h8⟩ := DpEvent.ex hrd
      have hcc : ∀ j v, [.int .i64 x0, .int .i64 x1, .int .i64 x2, .int .i64 x3, .int .i64 x4, .int .i64 x5, .slice p6 n6 c6, .slice p7 n7 c7, .slice p8 n8 c8][j]? = some v → wr.cell? ⟨b, o + k * 9 + j, none⟩ = some v := fun j v hv => (HB.out.cell (p := ⟨b, o + k * 9 + j, none⟩) hbw).trans (hc j v hv)
      have HX := Lib.hid hx
      have HC := Lib.hid hcc
      have H6 := Lib.hid (h6.below HB.out)
      have hn6 := h6.le
      have H7 := Lib.hid (h7.below HB.out)
      have hn7 := h7.le
      have H8 := Lib.hid (h8.below HB.out)
      have hn8 := h8.le
      have Gb0 := Lib.hid b0
      have Gb1 := Lib.hid b1
      have Gb2 := Lib.hid b2
      have Gb3 := Lib.hid b3
      have Gb4 := Lib.hid b4
      have Gb5 := Lib.hid b5
      obtain ⟨u0, u1, u2, u3, u4, u5, u6, u7, u8⟩ := DpEvent.at_cells hcc
      clear hcc hc hx hrd b0 b1 b2 b3 b4 b5 h6 h7 h8
      go_wp2_with fail
      refine (bad_any x0 x1 x2 x3 x4 x5 l6 _ _ _ l7 _ _ _ l8 _ _ _ _).mono ?_
      rintro e w1 ⟨rfl, hb⟩
      obtain ⟨β, hβ⟩ : ∃ b, (bad) (x0, x1, x2, x3, x4, (x5, l6, l7), l8) = b := ⟨_, rfl⟩
      rw [hβ]
      have HP := Lib.hid hβ
      have HB1 := Lib.hid (below_on HB.out hb)
      clear hβ hb u0 u1 u2 u3 u4 u5 u6 u7 u8
      cases β
      · have HN1 := Lib.hid (noneB_next HN.out HX.out HP.out)
        go_wp2_with fail
        go_roundw
        case rel => exact ⟨k + 1, by omega, by go_num, HN1, HB1⟩
        case measure => simp [intOf]; omega
      · have HA := Lib.hid (any_yes HX.out HP.out)
        go_wp2_with fail
        go_ret
        exact ⟨k, rfl, by rw [HA.out]; exact decide_eq_true (by omega), by omega, by omega, HB1.out⟩
    · obtain rfl : k = n := by omega
      have HA := Lib.hid (any_no HN.out HR.out.len)
      go_wp2_with fail
      go_ret
      exact ⟨-1, rfl, by rw [HA.out]; rfl, by omega, by omega, HB.out⟩
set_option maxRecDepth 100000 in
theorem contains_any (xs : List DpEvent.A) (p : Option Addr) (n c : Nat)  {S : Nat → Prop} (w : World) (hr : RdD DpEvent.E S w p n xs) : Calls Try.prog 73 #[.slice p n c, .func (.func 74) #[] #[]] w (Val (.bool (xs.any (bad))) w) := by
  have HR := Lib.hid hr
  clear hr
  go_enter Try.func73, Try.ntmps73
  go_wp2_with fail
  refine (index_any xs _ _ _  _ HR.out).mono ?_
  rintro e w1 ⟨r, rfl, hd, h1, h2, hb⟩
  have HD := Lib.hid hd
  have HB := Lib.hid hb
  clear hd hb
  go_wp2_with fail
  go_ret
  exact val_of (by rw [← HD.out]; rfl) HB.out
def hon (xs : List DpEvent.A) : Bool := !(xs.any bad)
set_option maxRecDepth 100000 in
theorem honest_any (xs : List DpEvent.A) (p : Option Addr) (n c : Nat) {S : Nat → Prop} (w : World) (hr : RdD DpEvent.E S w p n xs) : Calls Try.prog 41 #[.slice p n c] w (Val (.bool (hon xs)) w) := by
  have HR := Lib.hid hr
  have HH : Hid (hon xs = !(xs.any bad)) := Lib.hid rfl
  clear hr
  go_enter Try.func41, Try.ntmps41
  go_wp2_with fail
  refine (contains_any xs _ _ _ _ HR.out).mono ?_
  rintro e w1 ⟨rfl, hb⟩
  have HB := Lib.hid hb
  clear hb
  generalize xs.any bad = β at HH ⊢
  go_wp2_with fail
  go_ret
  exact val_of (by rw [HH.out]; rfl) HB.out
set_option maxRecDepth 100000 in
set_option maxHeartbeats 4000000 in
theorem spec_honest_any (xs : List DpEvent.A) (p : Option Addr) (n c : Nat) {S : Nat → Prop} (w : World) (hr : RdD DpEvent.E S w p n xs) : Calls Try.prog 40 #[.slice p n c] w (Val (.bool (hon xs)) w) := by
  have HR := Lib.hid hr
  have hle := hr.le
  clear hr
  go_enter Try.func40, Try.ntmps40
  go_wp2_with fail
  go_loopw [3] (fun i wr => ∃ k : Nat, k ≤ n ∧ i = .int .i64 k ∧ Hid (noneB bad xs k) ∧ Hid (Below w.heap.size w wr)) (fun i _ => n - (intOf i).toNat)
  case atStart => exact ⟨0, Nat.zero_le _, rfl, Lib.hid (noneB_zero _), Lib.hid (Below.refl _ _)⟩
  case round =>
    obtain ⟨k, hk, rfl, HN, HB⟩ := hrel
    by_cases hlt : k < n
    · skip
      obtain ⟨b, o, x_, cs_, rfl, _, hbw, hx, hc, hrd⟩ := HR.out.at_ hlt
      obtain ⟨x0, x1, x2, x3, x4, ⟨x5, l6, l7⟩, l8⟩ := x_
      obtain ⟨p6, n6, c6, p7, n7, c7, p8, n8, c8, rfl, b0, b1, b2, b3, b4, b5, h6, h7, h8⟩ := DpEvent.ex hrd
      have hcc : ∀ j v, [.int .i64 x0, .int .i64 x1, .int .i64 x2, .int .i64 x3, .int .i64 x4, .int .i64 x5, .slice p6 n6 c6, .slice p7 n7 c7, .slice p8 n8 c8][j]? = some v → wr.cell? ⟨b, o + k * 9 + j, none⟩ = some v := fun j v hv => (HB.out.cell (p := ⟨b, o + k * 9 + j, none⟩) hbw).trans (hc j v hv)
      have HX := Lib.hid hx
      have HC := Lib.hid hcc
      have H6 := Lib.hid (h6.below HB.out)
      have hn6 := h6.le
      have H7 := Lib.hid (h7.below HB.out)
      have hn7 := h7.le
      have H8 := Lib.hid (h8.below HB.out)
      have hn8 := h8.le
      have Gb0 := Lib.hid b0
      have Gb1 := Lib.hid b1
      have Gb2 := Lib.hid b2
      have Gb3 := Lib.hid b3
      have Gb4 := Lib.hid b4
      have Gb5 := Lib.hid b5
      obtain ⟨u0, u1, u2, u3, u4, u5, u6, u7, u8⟩ := DpEvent.at_cells hcc
      clear hcc hc hx hrd b0 b1 b2 b3 b4 b5 h6 h7 h8
      obtain ⟨β, hβ⟩ : ∃ b, decide (8 ≤ x0 ∧ x0 ≤ 10) = b := ⟨_, rfl⟩
      have HP : Hid (bad (x0, x1, x2, x3, x4, (x5, l6, l7), l8) = β) := Lib.hid hβ
      have H1 := Lib.hid hβ
      clear hβ
      go_wp2_with fail
      refine (l1In_any _ _ _ β H1.out _).mono ?_
      rintro e w1 ⟨rfl, rfl⟩
      cases β
      · have HN1 := Lib.hid (noneB_next HN.out HX.out HP.out)
        go_wp2_with fail
        go_roundw
        case rel => exact ⟨k + 1, by omega, by go_num, HN1, HB⟩
        case measure => simp [intOf]; omega
      · have HA : Hid (hon xs = false) := Lib.hid (by unfold hon; rw [any_yes HX.out HP.out]; rfl)
        go_wp2_with fail
        go_ret
        exact val_of (by rw [HA.out]; rfl) HB.out
    · obtain rfl : k = n := by omega
      have HA : Hid (hon xs = true) := Lib.hid (by unfold hon; rw [any_no HN.out HR.out.len]; rfl)
      go_wp2_with fail
      go_ret
      exact val_of (by rw [HA.out]; rfl) HB.out
end Go.Proofs.Ytihnegohhkplbaa.Ck
