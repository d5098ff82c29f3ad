/- Whether a key is stolen; in the program and in the reference. -/
import Derived.Test.YtpjckbdljbpliaaGreatDpFrame
import Derived.Test.YtpjckbdljbpliaaGreatFKey
import Derived.Test.YtpjckbdljbpliaaGreatMmA
import Derived.Test.YtpjckbdljbpliaaGreatQt
import Derived.Outline
namespace Go.Proofs.YtpjckbdljbpliaaGreat.Ist
open Go.ChangeShapes Go.WideShapes Go.ChangeAt Go.RowKit Sl St Ed Dz Fnd
def stolen (ks : List (Int × Int × Int × Int × Int)) (ms : List Mn.Me) (now key : Int) : Bool := decide (0 ≤ find ks key) && decide (Mn.brk ms (ks.getD (find ks key).toNat SlKey.zero).2.2.1 ≤ now)
theorem stolen_none {ks : List (Int × Int × Int × Int × Int)} {ms : List Mn.Me} {now key : Int} (h : find ks key = -1) : stolen ks ms now key = false := by
  unfold stolen
  rw [h]
  rfl
theorem stolen_at {ks : List (Int × Int × Int × Int × Int)} {ms : List Mn.Me} {now key : Int} {k : Nat} {x0 x1 x2 x3 x4 : Int} (h : find ks key = k) (hx : ks[k]? = some (x0, x1, x2, x3, x4)) : stolen ks ms now key = decide (Mn.brk ms x2 ≤ now) := by
  unfold stolen
  rw [h, Int.toNat_natCast, List.getD_eq_getElem?_getD, hx, decide_eq_true (by omega), Bool.true_and]
  rfl
theorem six {w : World} {g b q : Nat} {T : TypeId} {y0 y1 y2 y3 y4 z : Value} (h : Bx w g T #[y0, y1, y2, y3, y4]) (hz : w.cell? ⟨b, q, none⟩ = some z) : w.cell? ⟨g, 0, none⟩ = some y0 ∧ w.cell? ⟨g, 1, none⟩ = some y1 ∧ w.cell? ⟨g, 2, none⟩ = some y2 ∧ w.cell? ⟨g, 3, none⟩ = some y3 ∧ w.cell? ⟨g, 4, none⟩ = some y4 ∧ w.cell? ⟨b, q, none⟩ = some z := ⟨h.cell rfl, h.cell rfl, h.cell rfl, h.cell rfl, h.cell rfl, hz⟩
set_option maxRecDepth 100000 in
set_option maxHeartbeats 8000000 in
theorem stolen_any (l0 : List (Int × Int × Int × Int × Int)) (p0 : Option Addr) (n0 c0 : Nat) (p1 : Option Addr) (n1 c1 : Nat) (l2 : List (Int × Int × Int × Int)) (p2 : Option Addr) (n2 c2 : Nat) (x3 x4 key : Int) {S0 S2 : Nat → Prop} (w : World) (h0 : RdD (flat SlKey.E SlKey.InR) S0 w p0 n0 l0) (h2 : RdD (flat SlMethod.E SlMethod.InR) S2 w p2 n2 l2) : Calls Tryz.prog 93 #[.agg #[.slice p0 n0 c0, .slice p1 n1 c1, .slice p2 n2 c2, .int .i64 x3, .int .i64 x4], .int .i64 key] w (Val (.bool (stolen l0 l2 x4 key)) w) := by
  have hb0 := box1 w (.cells #[.slice p0 n0 c0, .slice p1 n1 c1, .slice p2 n2 c2, .int .i64 x3, .int .i64 x4] 38)
  have HBV := Lib.hid hb0
  have HX := Lib.hid (Bx.new w 38 #[.slice p0 n0 c0, .slice p1 n1 c1, .slice p2 n2 c2, .int .i64 x3, .int .i64 x4])
  have H0 := Lib.hid (h0.below hb0)
  have H2 := Lib.hid (h2.below hb0)
  have hle := h0.le
  have HIn := Lib.hid h2.allP
  clear hb0 h0 h2
  rcases Fnd.look_cases SlKey.zero l0 key with ⟨k, hk, hf, _, _, _⟩ | ⟨hf, _, _⟩
  rotate_left
  · have HF := Lib.hid hf
    have HS := Lib.hid (stolen_none (ms := l2) (now := x4) hf)
    clear hf
    go_enter Tryz.func93, Tryz.ntmps93
    go_wp2_with fail
    generalize (w.alloc (.cells #[.slice p0 n0 c0, .slice p1 n1 c1, .slice p2 n2 c2, .int .i64 x3, .int .i64 x4] 38)) = V at HBV HX H0 H2 ⊢
    refine (FKey.find_any _ _ _ l0 key _ H0.out.rdS).mono ?_
    rintro e w1 ⟨rfl, hb⟩
    rw [HF.out]
    have HB1 := Lib.hid hb
    have HX1 := Lib.hid (HX.out.below hb)
    clear hb
    go_wp2_with fail
    refine Qt.region (Qt.Keeps (w1)) (by kernel_rfl) (by kernel_rfl) (Qt.Keeps.drew _) ?_
    repeat (first
      | go_big_quiet_skip
      | (go_big_quiet_want
         refine Qt.val (v := ?_) (fun w hw => ?_) ?_
         rotate_left
         · go_simp
           rfl
         simp only [Act.put, List.setIfInBounds_toArray, List.set_cons_zero, List.set_cons_succ]
         go_big_quiet_on))
    refine wpQuiet_nil ?_
    intro w2 hw2
    have HB2 := Lib.hid (below_on (below_on HBV.out HB1.out) hw2)
    clear hw2
    go_wp2_with fail
    go_ret
    exact val_of (by rw [HS.out]; rfl) HB2.out
  · have hlt : k < n0 := by rw [H0.out.len] at hk; exact hk
    have HF := Lib.hid hf
    clear hf hk
    go_enter Tryz.func93, Tryz.ntmps93
    go_wp2_with fail
    generalize (w.alloc (.cells #[.slice p0 n0 c0, .slice p1 n1 c1, .slice p2 n2 c2, .int .i64 x3, .int .i64 x4] 38)) = V at HBV HX H0 H2 ⊢
    refine (FKey.find_any _ _ _ l0 key _ H0.out.rdS).mono ?_
    rintro e w1 ⟨rfl, hb⟩
    rw [HF.out]
    have HB1 := Lib.hid hb
    have HX1 := Lib.hid (HX.out.below hb)
    clear hb
    obtain ⟨b, o, x_y, cs_y, rfl, _, hbwy, hxy, hcy, hrdy⟩ := H0.out.at_ hlt
    obtain ⟨xy0, xy1, xy2, xy3, xy4⟩ := x_y
    obtain ⟨rfl, hiny⟩ := hrdy
    have HIy := Lib.hid hiny
    have hccy : ∀ jj v, [.int .i64 xy0, .int .i64 xy1, .int .i64 xy2, .int .i64 xy3, .int .i64 xy4][jj]? = some v → w1.cell? ⟨b, o + k * 5 + jj, none⟩ = some v := fun jj v hv => (HB1.out.cell (p := ⟨b, o + k * 5 + jj, none⟩) hbwy).trans (hcy jj v hv)
    have HXy := Lib.hid hxy
    have HCy := Lib.hid hccy
    have u0 : w1.cell? ⟨b, o + k * 5, none⟩ = some (.int .i64 xy0) := hccy 0 _ rfl
    have u1 : w1.cell? ⟨b, o + k * 5 + 1, none⟩ = some (.int .i64 xy1) := hccy 1 _ rfl
    have u2 : w1.cell? ⟨b, o + k * 5 + 2, none⟩ = some (.int .i64 xy2) := hccy 2 _ rfl
    have u3 : w1.cell? ⟨b, o + k * 5 + 3, none⟩ = some (.int .i64 xy3) := hccy 3 _ rfl
    have u4 : w1.cell? ⟨b, o + k * 5 + 4, none⟩ = some (.int .i64 xy4) := hccy 4 _ rfl
    clear hccy hcy hxy hiny
    have hbW : b < w1.heap.size := Nat.lt_of_lt_of_le hbwy HB1.out.size
    have hiy := HIy.out
    have HYi : Hid (-9223372036854775808 ≤ xy2 ∧ xy2 ≤ 9223372036854775807) := Lib.hid hiy.2.2.1
    have HS := Lib.hid (stolen_at (ms := l2) (now := x4) HF.out HXy.out)
    have H2V := H2
    have H2 := Lib.hid (H2V.out.below HB1.out)
    have i1 : (0 : Int) ≤ (k : Int) := by omega
    have i2 : (k : Int) < (n0 : Int) := by omega
    clear hiy u0 u1 u3 u4
    have HU2 := Lib.hid u2
    clear u2
    obtain ⟨β, hβ⟩ : ∃ z, Mn.brk l2 xy2 = z := ⟨_, rfl⟩
    rw [hβ] at HS
    have HBK := Lib.hid hβ
    clear hβ
    obtain ⟨v0, v1, v2, v3, v4⟩ := DpFrame.bxc HX1.out
    go_wp2_with fail
    clear v0 v1 v2 v3 v4
    have HC : Hid (∀ w', Qt.Keeps (w1) w' → w'.cell? ⟨w.heap.size, 0, none⟩ = some (.slice (some ⟨b, o, none⟩) n0 c0) ∧ w'.cell? ⟨w.heap.size, 1, none⟩ = some (.slice p1 n1 c1) ∧ w'.cell? ⟨w.heap.size, 2, none⟩ = some (.slice p2 n2 c2) ∧ w'.cell? ⟨w.heap.size, 3, none⟩ = some (.int .i64 x3) ∧ w'.cell? ⟨w.heap.size, 4, none⟩ = some (.int .i64 x4) ∧ w'.cell? ⟨b, o + k * 5 + 2, none⟩ = some (.int .i64 xy2)) := Lib.hid fun w' hw => six (HX1.out.below hw) (((show Below w1.heap.size w1 w' from hw).cell (p := ⟨b, o + k * 5 + 2, none⟩) hbW).trans HU2.out)
    refine Qt.region (Qt.Keeps (w1)) (by kernel_rfl) (by kernel_rfl) (Qt.Keeps.drew _) ?_
    repeat (first
      | go_big_quiet_skip
      | (go_big_quiet_want
         refine Qt.val (v := ?_) (fun w hw => ?_) ?_
         rotate_left
         · obtain ⟨s0, s1, s2, s3, s4, s5⟩ := HC.out w hw
           go_simp
           rfl
         simp only [Act.put, List.setIfInBounds_toArray, List.set_cons_zero, List.set_cons_succ]
         go_big_quiet_on)
      | (go_big_quiet_want
         refine Qt.call (v := .int .i64 β) (f := 113) (args := #[.slice p2 n2 c2, .int .i64 xy2]) (fun w hw => ?_) (fun w hw => ?_) ?_
         · go_simp
         · refine (Mq.brk_any _ _ _ l2 HIn.out xy2 HYi.out _ (H2.out.below hw).rdS).mono ?_
           rintro e w1 ⟨rfl, hb1⟩
           rw [HBK.out]
           exact ⟨rfl, hw.then hb1⟩
         simp only [Act.put, List.setIfInBounds_toArray, List.set_cons_zero, List.set_cons_succ]
         go_big_quiet_on))
    refine wpQuiet_nil ?_
    intro w2 hw2
    have HB2 := Lib.hid (below_on (below_on HBV.out HB1.out) hw2)
    clear hw2
    go_wp2_with fail
    go_ret
    exact val_of (by rw [HS.out]; rfl) HB2.out
set_option maxRecDepth 100000 in
set_option maxHeartbeats 8000000 in
theorem spec_stolen_any (l0 : List (Int × Int × Int × Int × Int)) (p0 : Option Addr) (n0 c0 : Nat) (p1 : Option Addr) (n1 c1 : Nat) (l2 : List (Int × Int × Int × Int)) (p2 : Option Addr) (n2 c2 : Nat) (x3 x4 key : Int) {S0 S2 : Nat → Prop} (w : World) (h0 : RdD (flat SlKey.E SlKey.InR) S0 w p0 n0 l0) (h2 : RdD (flat SlMethod.E SlMethod.InR) S2 w p2 n2 l2) : Calls Tryz.prog 46 #[.agg #[.slice p0 n0 c0, .slice p1 n1 c1, .slice p2 n2 c2, .int .i64 x3, .int .i64 x4], .int .i64 key] w (Val (.bool (stolen l0 l2 x4 key)) w) := by
  have hb0 := box1 w (.cells #[.slice p0 n0 c0, .slice p1 n1 c1, .slice p2 n2 c2, .int .i64 x3, .int .i64 x4] 38)
  have HBV := Lib.hid hb0
  have HX := Lib.hid (Bx.new w 38 #[.slice p0 n0 c0, .slice p1 n1 c1, .slice p2 n2 c2, .int .i64 x3, .int .i64 x4])
  have H0 := Lib.hid (h0.below hb0)
  have H2 := Lib.hid (h2.below hb0)
  have hle := h0.le
  skip
  clear hb0 h0 h2
  rcases Fnd.look_cases SlKey.zero l0 key with ⟨k, hk, hf, _, _, _⟩ | ⟨hf, _, _⟩
  rotate_left
  · have HF := Lib.hid hf
    have HS := Lib.hid (stolen_none (ms := l2) (now := x4) hf)
    clear hf
    go_enter Tryz.func46, Tryz.ntmps46
    go_wp2_with fail
    generalize (w.alloc (.cells #[.slice p0 n0 c0, .slice p1 n1 c1, .slice p2 n2 c2, .int .i64 x3, .int .i64 x4] 38)) = V at HBV HX H0 H2 ⊢
    refine (FKey.spec_find_any _ _ _ l0 key _ H0.out.rdS).mono ?_
    rintro e w1 ⟨rfl, rfl⟩
    rw [HF.out]
    have HB1 := Lib.hid (Below.refl V.heap.size V)
    have HX1 := HX
    go_wp2_with fail
    refine Qt.region (Qt.Keeps (V)) (by kernel_rfl) (by kernel_rfl) (Qt.Keeps.drew _) ?_
    repeat (first
      | go_big_quiet_skip
      | (go_big_quiet_want
         refine Qt.val (v := ?_) (fun w hw => ?_) ?_
         rotate_left
         · go_simp
           rfl
         simp only [Act.put, List.setIfInBounds_toArray, List.set_cons_zero, List.set_cons_succ]
         go_big_quiet_on))
    refine wpQuiet_nil ?_
    intro w2 hw2
    have HB2 := Lib.hid (below_on (below_on HBV.out HB1.out) hw2)
    clear hw2
    go_wp2_with fail
    go_ret
    exact val_of (by rw [HS.out]; rfl) HB2.out
  · have hlt : k < n0 := by rw [H0.out.len] at hk; exact hk
    have HF := Lib.hid hf
    clear hf hk
    go_enter Tryz.func46, Tryz.ntmps46
    go_wp2_with fail
    generalize (w.alloc (.cells #[.slice p0 n0 c0, .slice p1 n1 c1, .slice p2 n2 c2, .int .i64 x3, .int .i64 x4] 38)) = V at HBV HX H0 H2 ⊢
    refine (FKey.spec_find_any _ _ _ l0 key _ H0.out.rdS).mono ?_
    rintro e w1 ⟨rfl, rfl⟩
    rw [HF.out]
    have HB1 := Lib.hid (Below.refl V.heap.size V)
    have HX1 := HX
    obtain ⟨b, o, x_y, cs_y, rfl, _, hbwy, hxy, hcy, hrdy⟩ := H0.out.at_ hlt
    obtain ⟨xy0, xy1, xy2, xy3, xy4⟩ := x_y
    obtain ⟨rfl, hiny⟩ := hrdy
    have HIy := Lib.hid hiny
    have hccy : ∀ jj v, [.int .i64 xy0, .int .i64 xy1, .int .i64 xy2, .int .i64 xy3, .int .i64 xy4][jj]? = some v → V.cell? ⟨b, o + k * 5 + jj, none⟩ = some v := fun jj v hv => (HB1.out.cell (p := ⟨b, o + k * 5 + jj, none⟩) hbwy).trans (hcy jj v hv)
    have HXy := Lib.hid hxy
    have HCy := Lib.hid hccy
    have u0 : V.cell? ⟨b, o + k * 5, none⟩ = some (.int .i64 xy0) := hccy 0 _ rfl
    have u1 : V.cell? ⟨b, o + k * 5 + 1, none⟩ = some (.int .i64 xy1) := hccy 1 _ rfl
    have u2 : V.cell? ⟨b, o + k * 5 + 2, none⟩ = some (.int .i64 xy2) := hccy 2 _ rfl
    have u3 : V.cell? ⟨b, o + k * 5 + 3, none⟩ = some (.int .i64 xy3) := hccy 3 _ rfl
    have u4 : V.cell? ⟨b, o + k * 5 + 4, none⟩ = some (.int .i64 xy4) := hccy 4 _ rfl
    clear hccy hcy hxy hiny
    have hbW : b < V.heap.size := Nat.lt_of_lt_of_le hbwy HB1.out.size
    have hiy := HIy.out
    have HYi : Hid (-9223372036854775808 ≤ xy2 ∧ xy2 ≤ 9223372036854775807) := Lib.hid hiy.2.2.1
    have HS := Lib.hid (stolen_at (ms := l2) (now := x4) HF.out HXy.out)
    have H2V := H2
    have H2 := Lib.hid (H2V.out.below HB1.out)
    have i1 : (0 : Int) ≤ (k : Int) := by omega
    have i2 : (k : Int) < (n0 : Int) := by omega
    clear hiy u0 u1 u3 u4
    have HU2 := Lib.hid u2
    clear u2
    obtain ⟨β, hβ⟩ : ∃ z, Mn.brk l2 xy2 = z := ⟨_, rfl⟩
    rw [hβ] at HS
    have HBK := Lib.hid hβ
    clear hβ
    obtain ⟨v0, v1, v2, v3, v4⟩ := DpFrame.bxc HX1.out
    go_wp2_with fail
    clear v0 v1 v2 v3 v4
    have HC : Hid (∀ w', Qt.Keeps (V) w' → w'.cell? ⟨w.heap.size, 0, none⟩ = some (.slice (some ⟨b, o, none⟩) n0 c0) ∧ w'.cell? ⟨w.heap.size, 1, none⟩ = some (.slice p1 n1 c1) ∧ w'.cell? ⟨w.heap.size, 2, none⟩ = some (.slice p2 n2 c2) ∧ w'.cell? ⟨w.heap.size, 3, none⟩ = some (.int .i64 x3) ∧ w'.cell? ⟨w.heap.size, 4, none⟩ = some (.int .i64 x4) ∧ w'.cell? ⟨b, o + k * 5 + 2, none⟩ = some (.int .i64 xy2)) := Lib.hid fun w' hw => six (HX1.out.below hw) (((show Below V.heap.size V w' from hw).cell (p := ⟨b, o + k * 5 + 2, none⟩) hbW).trans HU2.out)
    refine Qt.region (Qt.Keeps (V)) (by kernel_rfl) (by kernel_rfl) (Qt.Keeps.drew _) ?_
    repeat (first
      | go_big_quiet_skip
      | (go_big_quiet_want
         refine Qt.val (v := ?_) (fun w hw => ?_) ?_
         rotate_left
         · obtain ⟨s0, s1, s2, s3, s4, s5⟩ := HC.out w hw
           go_simp
           rfl
         simp only [Act.put, List.setIfInBounds_toArray, List.set_cons_zero, List.set_cons_succ]
         go_big_quiet_on)
      | (go_big_quiet_want
         refine Qt.call (v := .int .i64 β) (f := 71) (args := #[.slice p2 n2 c2, .int .i64 xy2]) (fun w hw => ?_) (fun w hw => ?_) ?_
         · go_simp
         · refine (Mq.spec_brk_any _ _ _ l2 xy2 _ (H2.out.below hw).rdS).mono ?_
           rintro e w1 ⟨rfl, hb1⟩
           rw [HBK.out]
           exact ⟨rfl, hw.then hb1⟩
         simp only [Act.put, List.setIfInBounds_toArray, List.set_cons_zero, List.set_cons_succ]
         go_big_quiet_on))
    refine wpQuiet_nil ?_
    intro w2 hw2
    have HB2 := Lib.hid (below_on (below_on HBV.out HB1.out) hw2)
    clear hw2
    go_wp2_with fail
    go_ret
    exact val_of (by rw [HS.out]; rfl) HB2.out
end Go.Proofs.YtpjckbdljbpliaaGreat.Ist
