/- The end of a method; the closures that tell a method's time. -/
import Derived.Test.YtlipcnaimpplpaaFm0
import Derived.Test.YtlipcnaimpplpaaMb
import Derived.Test.YtlipcnaimpplpaaMq
import Derived.Test.YtlipcnaimpplpaaDpFrame
import Derived.Outline
namespace Go.Proofs.Ytlipcnaimpplpaa.Fm1
open Go.ChangeShapes Go.WideShapes Go.ChangeAt Go.RowKit Sl St Mn SlMethod Mb Mq Fm0
set_option maxHeartbeats 1000000 in
theorem end_any (p : Option Addr) (n c : Nat) (xs : List Me) (hR : ∀ x ∈ xs, InR x) (id : Int) (hid : -9223372036854775808 ≤ id ∧ id ≤ 9223372036854775807) (w : World) (hr : RdS E w p n xs) : Calls Try.prog 37 #[.slice p n c, .int .i64 id] w (Val (.int .i64 (ends xs id)) w) := by
  have hl := hr.len
  have hle := hr.le
  rcases fnd_in xs id with hf | ⟨k, hk, hf⟩
  · have HF := Lib.hid hf
    have HS := Lib.hid (ends_none hf)
    clear hf
    go_enter Try.func37, Try.ntmps37
    go_wp2_with fail
    refine (find_any p n c xs hR id hid _ hr).mono ?_
    rintro e w1 ⟨rfl, hb⟩
    rw [HF.out]
    go_wp2_with fail
    go_ret
    exact ⟨by rw [HS.out]; rfl, hb⟩
  · have HF := Lib.hid hf
    have HS := Lib.hid (ends_at hf)
    rw [hl] at hk
    clear hf hl
    go_enter Try.func37, Try.ntmps37
    go_wp2_with fail
    refine (find_any p n c xs hR id hid _ hr).mono ?_
    rintro e w1 ⟨rfl, hb⟩
    rw [HF.out]
    obtain ⟨b, o, rfl, _, hat⟩ := rd_at (hr.below hb) hk
    rw [zero_z4] at hat
    obtain ⟨_, _, h3, _⟩ := hat
    rw [← HS.out] at h3
    have HB := Lib.hid hb
    clear hb hr
    go_wp2_with fail
    go_ret
    exact ⟨rfl, HB.out⟩
set_option maxHeartbeats 1000000 in
theorem spec_end_any (p : Option Addr) (n c : Nat) (xs : List Me) (id : Int) (w : World) (hr : RdS E w p n xs) : Calls Try.prog 31 #[.slice p n c, .int .i64 id] w (Val (.int .i64 (ends xs id)) w) := by
  have hl := hr.len
  have hle := hr.le
  rcases fnd_in xs id with hf | ⟨k, hk, hf⟩
  · have HF := Lib.hid hf
    have HS := Lib.hid (ends_none hf)
    clear hf
    go_enter Try.func31, Try.ntmps31
    go_wp2_with fail
    refine (spec_find_any p n c xs id _ hr).mono ?_
    rintro e w1 ⟨rfl, hb⟩
    rw [HF.out]
    go_wp2_with fail
    go_ret
    exact ⟨by rw [HS.out]; rfl, hb⟩
  · have HF := Lib.hid hf
    have HS := Lib.hid (ends_at hf)
    rw [hl] at hk
    clear hf hl
    go_enter Try.func31, Try.ntmps31
    go_wp2_with fail
    refine (spec_find_any p n c xs id _ hr).mono ?_
    rintro e w1 ⟨rfl, hb⟩
    rw [HF.out]
    obtain ⟨b, o, rfl, _, hat⟩ := rd_at (hr.below hb) hk
    rw [zero_z4] at hat
    obtain ⟨_, _, h3, _⟩ := hat
    rw [← HS.out] at h3
    have HB := Lib.hid hb
    clear hb hr
    go_wp2_with fail
    go_ret
    exact ⟨rfl, HB.out⟩
open Ed Dz
end Go.Proofs.Ytlipcnaimpplpaa.Fm1
