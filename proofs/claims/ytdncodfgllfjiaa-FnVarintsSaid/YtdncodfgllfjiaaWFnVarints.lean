/- The walk of the law FnVarints. -/
import Derived.Test.YtdncodfgllfjiaaDrawB
import Derived.Test.YtdncodfgllfjiaaVarB
import Derived.Deep.RegionHeld3
import Derived.WalkKit
import Derived.Outline
namespace Go.Proofs.Ytdncodfgllfjiaa.fnVarints
open Go.ChangeShapes Go.WideShapes Go.ChangeAt Go.RowKit Sl Uv Var

theorem rd_back (xs : List Int) {m n : Nat} (h : m ≤ 1000000000000) (hn : (xs ++ uvI (m : Int)).length = n) : rd (xs ++ uvI (m : Int)) xs.length = some ((m : Int), (n : Int)) := by
  have := rd_uv xs [] h
  rw [List.append_nil] at this
  rw [uvI_nat h, this, ← hn, List.length_append, uvI_nat h]
  simp
theorem neq_self (a : Int) : (a != a) = false := by simp
set_option maxRecDepth 100000 in
set_option maxHeartbeats 4000000 in
theorem walk {H : Type} {enc : TypeId × Value → H} (W : World) (base : Nat)
    (v0 : Value) (d0 : DataW H) (p0 : List MemPlace) (h0 : DataW.Trod enc Try.prog W 0 (fun _ => true) true 22 v0 d0 p0) (k0 : Value.okWide Try.prog W .any base 22 v0)
    (_hsz : (DataW.weightsEach Try.prog [22] [d0]).all (· ≤ reachBytes) = true) :
    Calls Try.prog 3 #[v0] W fun e w' => e = .returned (.bool true) ∧ Below W.heap.size W w' := by
  obtain ⟨n, hcode⟩ := Cur.code_of h0 k0
  have HC := Lib.hid hcode
  clear h0 k0 hcode
  rcases hbig : decide (1048576 < n) with _ | _
  · have HBig := Lib.hid hbig
    clear hbig
    go_enter Try.func3, Try.ntmps3
    go_wp2_with fail
    refine (Cur.big_any _ _ _ _ HC.out HBig.out).mono ?_
    rintro e w' ⟨rfl, rfl⟩
    go_wp2_with fail
    refine (Cur.drawAppend_any _ _ _ HC.out).mono ?_
    rintro e w1 ⟨p1, n1, c1, xs, x, rfl, hr1, hn1, _, _, ⟨hx1, hx2⟩, hb1⟩
    have HR1 := Lib.hid hr1
    have HB1 := Lib.hid hb1
    clear hr1 hb1
    go_wp2_with fail
    refine (append_any _ _ _ _ _ _ HR1.out (by omega)).mono ?_
    rintro e w2 ⟨p2, n2, c2, rfl, ho2, hb2⟩
    have HO2 := Lib.hid ho2
    have HB2 := Lib.hid (below_on HB1.out hb2)
    have HR2 := Lib.hid (HR1.out.below hb2)
    have hle2 := ho2.le
    have hn2 : n2 ≤ 200 := by
      have h1 := ho2.len
      have h2 := uvI_len x
      have h3 := HR1.out.len
      rw [List.length_append] at h1
      omega
    clear ho2 hb2
    have hcase : (0 ≤ x ∧ x ≤ 1000000000000) ∨ x < 0 ∨ (0 ≤ x ∧ 1000000000000 < x) := by omega
    rcases hcase with ⟨hx3, hx4⟩ | hx3 | ⟨hx3, hx4⟩
    focus
      obtain ⟨m, rfl⟩ := Int.eq_ofNat_of_zero_le hx3
      have hrd : rd (xs ++ uvI (m : Int)) n1 = some ((m : Int), (n2 : Int)) := by
        have h1 := rd_back xs (m := m) (by omega) HO2.out.len
        rw [HR1.out.len] at h1
        exact h1
      have HD := Lib.hid hrd
      clear hrd
      go_wp2_with fail
      refine (read_some _ _ _ _ _ _ HO2.out.rd (by omega) hle2.1 hle2.2 HD.out).mono ?_
      rintro e w3 ⟨rfl, hb3⟩
      have HB3 := Lib.hid (below_on HB2.out hb3)
      clear hb3
      have e1 := neq_self (m : Int)
      have e2 := neq_self (n2 : Int)
      go_wp2_with fail
    rotate_left
    focus
      have hxo : uvI x = [] := uvI_out (by omega)
      have hr2 : Rd .u8 w2 p2 n2 xs := by have h := HO2.out.rd; rw [hxo, List.append_nil] at h; exact h
      obtain rfl : n1 = n2 := by rw [← hr2.len, ← HR1.out.len]
      have HR3 := Lib.hid hr2
      have HD := Lib.hid (rd_end xs)
      rw [HR1.out.len] at HD
      clear hxo hr2
      go_wp2_with fail
      refine (read_none _ _ _ _ _ _ HO2.out.rd (by omega) hle2.1 hle2.2 (by rw [uvI_out (by omega), List.append_nil]; exact HD.out)).mono ?_
      rintro e w2' ⟨rfl, hb3⟩
      have HB3' := Lib.hid (below_on HB2.out hb3)
      have HR4 := Lib.hid (HR3.out.below hb3)
      have HR5 := Lib.hid (HR2.out.below hb3)
      clear hb3
      go_wp2_with fail
      refine (SlB.same_any _ _ _ _ _ xs _ HR4.out HR5.out).mono ?_
      rintro e w3 ⟨rfl, hb3⟩
      have HB3 := Lib.hid (below_on HB3'.out hb3)
      clear hb3
      go_wp2_with fail
    rotate_left
    focus
      have hxo : uvI x = [] := uvI_out (by omega)
      have hr2 : Rd .u8 w2 p2 n2 xs := by have h := HO2.out.rd; rw [hxo, List.append_nil] at h; exact h
      obtain rfl : n1 = n2 := by rw [← hr2.len, ← HR1.out.len]
      have HR3 := Lib.hid hr2
      have HD := Lib.hid (rd_end xs)
      rw [HR1.out.len] at HD
      clear hxo hr2
      go_wp2_with fail
      refine (read_none _ _ _ _ _ _ HO2.out.rd (by omega) hle2.1 hle2.2 (by rw [uvI_out (by omega), List.append_nil]; exact HD.out)).mono ?_
      rintro e w2' ⟨rfl, hb3⟩
      have HB3' := Lib.hid (below_on HB2.out hb3)
      have HR4 := Lib.hid (HR3.out.below hb3)
      have HR5 := Lib.hid (HR2.out.below hb3)
      clear hb3
      go_wp2_with fail
      refine (SlB.same_any _ _ _ _ _ xs _ HR4.out HR5.out).mono ?_
      rintro e w3 ⟨rfl, hb3⟩
      have HB3 := Lib.hid (below_on HB3'.out hb3)
      clear hb3
      go_wp2_with fail
    rotate_left
    all_goals
      refine (Cur.drawRead_any _ _ _ (HC.out.on HB3.out)).mono ?_
      rintro e w4 ⟨p4, n4, c4, ys, a, rfl, hr4, hn4, hc4, hc5, ⟨ha1, ha2⟩, hb4⟩
      have HY := Lib.hid hr4
      have HB4 := Lib.hid (below_on HB3.out hb4)
      clear hr4 hb4
      rcases hrd : rd ys a with _ | ⟨v, e⟩
      · have HD2 := Lib.hid hrd
        clear hrd
        go_wp2_with fail
        refine (read_none _ _ _ _ _ _ HY.out (by omega) hc4 hc5 HD2.out).mono ?_
        rintro e w5 ⟨rfl, hb5⟩
        have HB5 := Lib.hid (below_on HB4.out hb5)
        have HY5 := Lib.hid (HY.out.below hb5)
        clear hb5
        go_wp2_with fail
        refine (spec_read_none _ _ _ _ _ _ HY5.out (by omega) ha1 ha2 HD2.out).mono ?_
        rintro e w6 ⟨rfl, hb6⟩
        have HB6 := Lib.hid (below_on HB5.out hb6)
        clear hb6
        go_wp2_with fail
        go_ret
        exact ⟨rfl, HB6.out⟩
      · obtain ⟨o, k, rfl, rfl, hk, rfl, hend, htake⟩ := rd_some HY.out.all hrd
        have HD2 := Lib.hid hrd
        have hpos := uv_pos k
        generalize hL : (uv k).length = L at *
        have HL := Lib.hid hL
        have HT := Lib.hid htake
        rw [HY.out.len] at hend
        clear hrd hL htake
        obtain ⟨b, q, rfl, hb, _⟩ := HY.out.at_ (i := o) (by omega)
        have HRC := Lib.hid (HY.out.cut (lo := o) (m := L) (p' := some ⟨b, q + o, none⟩) hend (fun _ b' o' e => by simp only [Option.some.injEq, Addr.mk.injEq, and_true] at e; obtain ⟨rfl, rfl⟩ := e; rfl))
        have hcs : ¬ c4 = o := by omega
        go_wp2_with fail
        refine (read_some _ _ _ _ _ _ HY.out (by omega) hc4 hc5 HD2.out).mono ?_
        rintro e w5 ⟨rfl, hb5⟩
        have HB5 := Lib.hid (below_on HB4.out hb5)
        have HRC5 := Lib.hid (HRC.out.below hb5)
        clear hb5
        go_wp2_with fail
        have hlen : (uvI (k : Int)).length = L := by rw [uvI_nat hk]; exact HL.out
        have HLEN := Lib.hid hlen
        clear hlen
        have i1 : (0 : Int) ≤ (o : Int) := by omega
        have i2 : (o : Int) ≤ (o : Int) + (L : Int) := by omega
        have i3 : (o : Int) + (L : Int) ≤ (c4 : Int) := by omega
        have i4 : (o : Int) + (L : Int) ≤ (n4 : Int) := by omega
        have i5 : (o : Int) < (o : Int) + (L : Int) := by omega
        have t1 : ((o : Int) + (L : Int)).toNat = o + L := by omega
        go_region_held3 (fun _ => True) (first | exact trivial) (first
          | (go_at_call 15; refine (append_any _ 0 0 [] _ _ (Rd.nil_ _ _ _) (by omega)).mono ?_; rintro e w6 ⟨p6, n6, c6, rfl, ho6, hb6⟩; obtain rfl : L = n6 := (by rw [← ho6.len, List.nil_append, HLEN.out]); have HR6 := Lib.hid ho6.rd; have HQ6 := Lib.hid hb6; clear ho6 hb6)
          | (go_at_call 17; refine (SlB.same_any _ _ _ _ _ (uvI (k : Int)) _ HR6.out (by rw [uvI_nat hk, ← HT.out]; exact (Cur.rd_drew (HRC5.out.alloc _)).below HQ6.out)).mono ?_; rintro e w7 ⟨rfl, hb7⟩; have HQ7 := Lib.hid hb7; clear hb7))
        go_wp2_with fail
        go_ret
        exact ⟨rfl, below_on (below_on (Cur.below_drew (HB5.out.alloc HB5.out.size _)) HQ6.out) HQ7.out⟩
  · have HBig := Lib.hid hbig
    clear hbig
    go_enter Try.func3, Try.ntmps3
    go_wp2_with fail
    refine (Cur.big_any _ _ _ _ HC.out HBig.out).mono ?_
    rintro e w' ⟨rfl, rfl⟩
    go_wp2_with fail
    go_ret
    exact ⟨rfl, Below.refl _ _⟩
end Go.Proofs.Ytdncodfgllfjiaa.fnVarints
