/- The end of a method; the closures that tell a method's time. -/
import Derived.Test.YtpjckbdljbpliaaGreatFm0
import Derived.Test.YtpjckbdljbpliaaGreatMmA
import Derived.Test.YtpjckbdljbpliaaGreatDpFrame
import Derived.Outline
namespace Go.Proofs.YtpjckbdljbpliaaGreat.Fm1
open Go.ChangeShapes Go.WideShapes Go.ChangeAt Go.RowKit Sl St Mn SlMethod Mb Mq Fm0
set_option maxHeartbeats 1000000 in
theorem end_any (p : Option Addr) (n c : Nat) (xs : List Me) (hR : ∀ x ∈ xs, InR x) (id : Int) (hid : -9223372036854775808 ≤ id ∧ id ≤ 9223372036854775807) (w : World) (hr : RdS E w p n xs) : Calls Tryz.prog 84 #[.slice p n c, .int .i64 id] w (Val (.int .i64 (ends xs id)) w) := by
  have hl := hr.len
  have hle := hr.le
  rcases fnd_in xs id with hf | ⟨k, hk, hf⟩
  · have HF := Lib.hid hf
    have HS := Lib.hid (ends_none hf)
    clear hf
    go_enter Tryz.func84, Tryz.ntmps84
    go_wp2_with fail
    refine (find_any p n c xs hR id hid _ hr).mono ?_
    rintro e w1 ⟨rfl, hb⟩
    rw [HF.out]
    go_wp2_with fail
    go_ret
    exact ⟨by rw [HS.out]; rfl, hb⟩
  · have HF := Lib.hid hf
    have HS := Lib.hid (ends_at hf)
    rw [hl] at hk
    clear hf hl
    go_enter Tryz.func84, Tryz.ntmps84
    go_wp2_with fail
    refine (find_any p n c xs hR id hid _ hr).mono ?_
    rintro e w1 ⟨rfl, hb⟩
    rw [HF.out]
    obtain ⟨b, o, rfl, _, hat⟩ := rd_at (hr.below hb) hk
    rw [zero_z4] at hat
    obtain ⟨_, _, h3, _⟩ := hat
    rw [← HS.out] at h3
    have HB := Lib.hid hb
    clear hb hr
    go_wp2_with fail
    go_ret
    exact ⟨rfl, HB.out⟩
set_option maxHeartbeats 1000000 in
theorem spec_end_any (p : Option Addr) (n c : Nat) (xs : List Me) (id : Int) (w : World) (hr : RdS E w p n xs) : Calls Tryz.prog 97 #[.slice p n c, .int .i64 id] w (Val (.int .i64 (ends xs id)) w) := by
  have hl := hr.len
  have hle := hr.le
  rcases fnd_in xs id with hf | ⟨k, hk, hf⟩
  · have HF := Lib.hid hf
    have HS := Lib.hid (ends_none hf)
    clear hf
    go_enter Tryz.func97, Tryz.ntmps97
    go_wp2_with fail
    refine (spec_find_any p n c xs id _ hr).mono ?_
    rintro e w1 ⟨rfl, hb⟩
    rw [HF.out]
    go_wp2_with fail
    go_ret
    exact ⟨by rw [HS.out]; rfl, hb⟩
  · have HF := Lib.hid hf
    have HS := Lib.hid (ends_at hf)
    rw [hl] at hk
    clear hf hl
    go_enter Tryz.func97, Tryz.ntmps97
    go_wp2_with fail
    refine (spec_find_any p n c xs id _ hr).mono ?_
    rintro e w1 ⟨rfl, hb⟩
    rw [HF.out]
    obtain ⟨b, o, rfl, _, hat⟩ := rd_at (hr.below hb) hk
    rw [zero_z4] at hat
    obtain ⟨_, _, h3, _⟩ := hat
    rw [← HS.out] at h3
    have HB := Lib.hid hb
    clear hb hr
    go_wp2_with fail
    go_ret
    exact ⟨rfl, HB.out⟩
open Ed Dz
set_option maxRecDepth 100000 in
theorem endClo_any (g : Nat) (pk : Option Addr) (nk ck : Nat) (pa : Option Addr) (na ca : Nat) (f3 f4 : Int) (ms : List Me) (pm : Option Addr) (nm cm : Nat) (id : Int) (hid : InI id) {S : Nat → Prop} (w : World) (hm : RdD (flat SlMethod.E SlMethod.InR) S w pm nm ms) (hg : Bx w g 38 #[.slice pk nk ck, .slice pa na ca, .slice pm nm cm, .int .i64 f3, .int .i64 f4]) : Calls Tryz.prog 83 #[.int .i64 id, .pointer (some ⟨g, 0, none⟩)] w (Dz.Val (.int .i64 (ends ms id)) w) := by
  have HM := Lib.hid hm
  have HI := Lib.hid hid
  obtain ⟨v0, v1, v2, v3, v4⟩ := DpFrame.bxc hg
  clear hm hid
  go_enter Tryz.func83, Tryz.ntmps83
  go_wp2_with fail
  refine (end_any _ _ _ ms HM.out.allP id HI.out _ HM.out.rdS).mono ?_
  rintro e w1 ⟨rfl, hb⟩
  have HB := Lib.hid hb
  clear hb
  go_wp2_with fail
  go_ret
  exact Dz.val_of rfl HB.out
end Go.Proofs.YtpjckbdljbpliaaGreat.Fm1
