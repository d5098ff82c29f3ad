/- Whether a frame is valid; in the program and in the reference. -/
import Derived.Test.YtapijjdjaamldaaDpFrame
import Derived.Test.YtapijjdjaamldaaSoKey
import Derived.Test.YtapijjdjaamldaaSoAuthority
import Derived.Test.YtapijjdjaamldaaSoMethod
import Derived.Test.YtapijjdjaamldaaKi
import Derived.Outline
namespace Go.Proofs.Ytapijjdjaamldaa.If
open Go.ChangeShapes Go.WideShapes Go.ChangeAt Go.RowKit Sl St Ed Dz Fnd
def isF (b0 b1 b2 b3 b4 : Bool) : Bool := b0 && (b1 && (b2 && (b3 && b4)))
def isFr (l0 : List (Int × Int × Int × Int × Int)) (l1 : List (Int × Int × Int)) (l2 : List (Int × Int × Int × Int)) (x3 x4 : Int) : Bool := isF (SoKey.are l0) (SoAuthority.are l1) (SoMethod.are l2) (inB x3 0 6) (inB x4 0 10000)
set_option maxRecDepth 100000 in
set_option maxHeartbeats 4000000 in
theorem frame_any (l0 : List (Int × Int × Int × Int × Int)) (p0 : Option Addr) (n0 c0 : Nat) (l1 : List (Int × Int × Int)) (p1 : Option Addr) (n1 c1 : Nat) (l2 : List (Int × Int × Int × Int)) (p2 : Option Addr) (n2 c2 : Nat) (x3 x4 : Int) {S0 S1 S2 : Nat → Prop} (w : World) (h0 : RdD (flat SlKey.E SlKey.InR) S0 w p0 n0 l0) (h1 : RdD (flat SlAuthority.E SlAuthority.InR) S1 w p1 n1 l1) (h2 : RdD (flat SlMethod.E SlMethod.InR) S2 w p2 n2 l2) : Calls Try.prog 52 #[.agg #[.slice p0 n0 c0, .slice p1 n1 c1, .slice p2 n2 c2, .int .i64 x3, .int .i64 x4]] w (Val (.bool (isFr l0 l1 l2 x3 x4)) w) := by
  have hb := box1 w (.cells #[.slice p0 n0 c0, .slice p1 n1 c1, .slice p2 n2 c2, .int .i64 x3, .int .i64 x4] 85)
  have HB := Lib.hid hb
  have HX := Lib.hid (Bx.new w 85 #[.slice p0 n0 c0, .slice p1 n1 c1, .slice p2 n2 c2, .int .i64 x3, .int .i64 x4])
  have H0 := Lib.hid (h0.below hb)
  have H1 := Lib.hid (h1.below hb)
  have H2 := Lib.hid (h2.below hb)
  obtain ⟨b0, hb0⟩ : ∃ b, SoKey.are l0 = b := ⟨_, rfl⟩
  obtain ⟨b1, hb1⟩ : ∃ b, SoAuthority.are l1 = b := ⟨_, rfl⟩
  obtain ⟨b2, hb2⟩ : ∃ b, SoMethod.are l2 = b := ⟨_, rfl⟩
  obtain ⟨b3, hb3⟩ : ∃ b, inB x3 0 6 = b := ⟨_, rfl⟩
  obtain ⟨b4, hb4⟩ : ∃ b, inB x4 0 10000 = b := ⟨_, rfl⟩
  have HV : Hid (isFr l0 l1 l2 x3 x4 = isF b0 b1 b2 b3 b4) := Lib.hid (by unfold isFr; rw [hb0, hb1, hb2, hb3, hb4])
  have E0 := Lib.hid hb0
  have E1 := Lib.hid hb1
  have E2 := Lib.hid hb2
  have E3 := Lib.hid hb3
  have E4 := Lib.hid hb4
  clear hb h0 h1 h2 hb0 hb1 hb2 hb3 hb4
  go_enter Try.func52, Try.ntmps52
  go_wp2_with fail
  generalize (w.alloc (.cells #[.slice p0 n0 c0, .slice p1 n1 c1, .slice p2 n2 c2, .int .i64 x3, .int .i64 x4] 85)) = V at HB HX H0 H1 H2 ⊢
  refine (SoKey.are_any _ _ _ _ _ H0.out.rdS).mono ?_
  rintro e w1 ⟨rfl, hb⟩
  rw [E0.out]
  replace HB := Lib.hid (below_on HB.out hb)
  replace HX := Lib.hid (HX.out.below hb)
  replace H1 := Lib.hid (H1.out.below hb)
  replace H2 := Lib.hid (H2.out.below hb)
  clear hb
  cases b0
  · go_wp2_with fail
    go_ret
    exact val_of (by rw [HV.out]; rfl) HB.out
  obtain ⟨y0, y1, y2, y3, y4⟩ := DpFrame.bxc HX.out
  go_wp2_with fail
  refine (SoAuthority.are_any _ _ _ _ _ H1.out.rdS).mono ?_
  rintro e w2 ⟨rfl, hb⟩
  rw [E1.out]
  replace HB := Lib.hid (below_on HB.out hb)
  replace HX := Lib.hid (HX.out.below hb)
  replace H1 := Lib.hid (H1.out.below hb)
  replace H2 := Lib.hid (H2.out.below hb)
  clear hb y0 y1 y2 y3 y4
  cases b1
  · go_wp2_with fail
    go_ret
    exact val_of (by rw [HV.out]; rfl) HB.out
  obtain ⟨y0, y1, y2, y3, y4⟩ := DpFrame.bxc HX.out
  go_wp2_with fail
  refine (SoMethod.are_any _ _ _ _ _ H2.out.rdS).mono ?_
  rintro e w3 ⟨rfl, hb⟩
  rw [E2.out]
  replace HB := Lib.hid (below_on HB.out hb)
  replace HX := Lib.hid (HX.out.below hb)
  replace H1 := Lib.hid (H1.out.below hb)
  replace H2 := Lib.hid (H2.out.below hb)
  clear hb y0 y1 y2 y3 y4
  cases b2
  · go_wp2_with fail
    go_ret
    exact val_of (by rw [HV.out]; rfl) HB.out
  obtain ⟨y0, y1, y2, y3, y4⟩ := DpFrame.bxc HX.out
  go_wp2_with fail
  refine (Ki.rng_any _ _ _ _).mono ?_
  rintro e w4 ⟨rfl, rfl⟩
  rw [E3.out]
  cases b3
  · go_wp2_with fail
    go_ret
    exact val_of (by rw [HV.out]; rfl) HB.out
  go_wp2_with fail
  refine (Ki.time1_any _ x4 _ (by go_simp)).mono ?_
  rintro e w5 ⟨rfl, rfl⟩
  rw [E4.out]
  have HB2 := Lib.hid (HB.out.alloc HB.out.size (.cells #[.int .i64 x4] 3))
  go_wp2_with fail
  go_ret
  exact val_of (by rw [HV.out]; rfl) HB2.out
set_option maxRecDepth 100000 in
set_option maxHeartbeats 4000000 in
theorem spec_frame_any (l0 : List (Int × Int × Int × Int × Int)) (p0 : Option Addr) (n0 c0 : Nat) (l1 : List (Int × Int × Int)) (p1 : Option Addr) (n1 c1 : Nat) (l2 : List (Int × Int × Int × Int)) (p2 : Option Addr) (n2 c2 : Nat) (x3 x4 : Int) {S0 S1 S2 : Nat → Prop} (w : World) (h0 : RdD (flat SlKey.E SlKey.InR) S0 w p0 n0 l0) (h1 : RdD (flat SlAuthority.E SlAuthority.InR) S1 w p1 n1 l1) (h2 : RdD (flat SlMethod.E SlMethod.InR) S2 w p2 n2 l2) : Calls Try.prog 50 #[.agg #[.slice p0 n0 c0, .slice p1 n1 c1, .slice p2 n2 c2, .int .i64 x3, .int .i64 x4]] w (Val (.bool (isFr l0 l1 l2 x3 x4)) w) := by
  have hb := box1 w (.cells #[.slice p0 n0 c0, .slice p1 n1 c1, .slice p2 n2 c2, .int .i64 x3, .int .i64 x4] 85)
  have HB := Lib.hid hb
  have HX := Lib.hid (Bx.new w 85 #[.slice p0 n0 c0, .slice p1 n1 c1, .slice p2 n2 c2, .int .i64 x3, .int .i64 x4])
  have H0 := Lib.hid (h0.below hb)
  have H1 := Lib.hid (h1.below hb)
  have H2 := Lib.hid (h2.below hb)
  obtain ⟨b0, hb0⟩ : ∃ b, SoKey.are l0 = b := ⟨_, rfl⟩
  obtain ⟨b1, hb1⟩ : ∃ b, SoAuthority.are l1 = b := ⟨_, rfl⟩
  obtain ⟨b2, hb2⟩ : ∃ b, SoMethod.are l2 = b := ⟨_, rfl⟩
  obtain ⟨b3, hb3⟩ : ∃ b, inB x3 0 6 = b := ⟨_, rfl⟩
  obtain ⟨b4, hb4⟩ : ∃ b, inB x4 0 10000 = b := ⟨_, rfl⟩
  have HV : Hid (isFr l0 l1 l2 x3 x4 = isF b0 b1 b2 b3 b4) := Lib.hid (by unfold isFr; rw [hb0, hb1, hb2, hb3, hb4])
  have E0 := Lib.hid hb0
  have E1 := Lib.hid hb1
  have E2 := Lib.hid hb2
  have E3 := Lib.hid hb3
  have E4 := Lib.hid hb4
  clear hb h0 h1 h2 hb0 hb1 hb2 hb3 hb4
  go_enter Try.func50, Try.ntmps50
  go_wp2_with fail
  generalize (w.alloc (.cells #[.slice p0 n0 c0, .slice p1 n1 c1, .slice p2 n2 c2, .int .i64 x3, .int .i64 x4] 85)) = V at HB HX H0 H1 H2 ⊢
  refine (SoKey.spec_are_any _ _ _ _ _ H0.out.rdS).mono ?_
  rintro e w1 ⟨rfl, hb⟩
  rw [E0.out]
  replace HB := Lib.hid (below_on HB.out hb)
  replace HX := Lib.hid (HX.out.below hb)
  replace H1 := Lib.hid (H1.out.below hb)
  replace H2 := Lib.hid (H2.out.below hb)
  clear hb
  cases b0
  · go_wp2_with fail
    go_ret
    exact val_of (by rw [HV.out]; rfl) HB.out
  obtain ⟨y0, y1, y2, y3, y4⟩ := DpFrame.bxc HX.out
  go_wp2_with fail
  refine (SoAuthority.spec_are_any _ _ _ _ _ H1.out.rdS).mono ?_
  rintro e w2 ⟨rfl, hb⟩
  rw [E1.out]
  replace HB := Lib.hid (below_on HB.out hb)
  replace HX := Lib.hid (HX.out.below hb)
  replace H1 := Lib.hid (H1.out.below hb)
  replace H2 := Lib.hid (H2.out.below hb)
  clear hb y0 y1 y2 y3 y4
  cases b1
  · go_wp2_with fail
    go_ret
    exact val_of (by rw [HV.out]; rfl) HB.out
  obtain ⟨y0, y1, y2, y3, y4⟩ := DpFrame.bxc HX.out
  go_wp2_with fail
  refine (SoMethod.spec_are_any _ _ _ _ _ H2.out.rdS).mono ?_
  rintro e w3 ⟨rfl, hb⟩
  rw [E2.out]
  replace HB := Lib.hid (below_on HB.out hb)
  replace HX := Lib.hid (HX.out.below hb)
  replace H1 := Lib.hid (H1.out.below hb)
  replace H2 := Lib.hid (H2.out.below hb)
  clear hb y0 y1 y2 y3 y4
  cases b2
  · go_wp2_with fail
    go_ret
    exact val_of (by rw [HV.out]; rfl) HB.out
  obtain ⟨y0, y1, y2, y3, y4⟩ := DpFrame.bxc HX.out
  go_wp2_with fail
  refine (Ki.in_any _ _ _ _).mono ?_
  rintro e w4 ⟨rfl, rfl⟩
  rw [E3.out]
  cases b3
  · go_wp2_with fail
    go_ret
    exact val_of (by rw [HV.out]; rfl) HB.out
  go_wp2_with fail
  refine (Ki.time_any x4 _).mono ?_
  rintro e w5 ⟨rfl, rfl⟩
  rw [E4.out]
  go_wp2_with fail
  go_ret
  exact val_of (by rw [HV.out]; rfl) HB.out
end Go.Proofs.Ytapijjdjaamldaa.If
