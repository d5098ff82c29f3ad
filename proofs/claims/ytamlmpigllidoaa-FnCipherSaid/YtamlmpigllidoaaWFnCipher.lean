/- The walk of the law FnCipher. -/
import Derived.Test.YtamlmpigllidoaaEncI
import Derived.Test.YtamlmpigllidoaaDrawW
import Derived.WalkKit
namespace Go.Proofs.Ytamlmpigllidoaa.fnCipher
open Go.ChangeShapes Go.WideShapes Go.ChangeAt Go.RowKit Sl Hs

set_option maxRecDepth 100000 in
set_option maxHeartbeats 4000000 in
theorem walk {H : Type} {enc : TypeId × Value → H} (W : World) (base : Nat)
    (v0 : Value) (d0 : DataW H) (p0 : List MemPlace) (h0 : DataW.Trod enc Try.prog W 0 (fun _ => true) true 22 v0 d0 p0) (k0 : Value.okWide Try.prog W .any base 22 v0)
    (_hsz : (DataW.weightsEach Try.prog [22] [d0]).all (· ≤ reachBytes) = true) :
    Calls Try.prog 3 #[v0] W fun e w' => e = .returned (.bool true) ∧ Below W.heap.size W w' := by
  obtain ⟨n, hcode⟩ := Cur.code_of h0 k0
  have HC := Lib.hid hcode
  clear h0 k0 hcode _hsz
  rcases hbig : decide (1048576 < n) with _ | _
  · have HBig := Lib.hid hbig
    clear hbig
    go_enter Try.func3, Try.ntmps3
    go_wp2_with fail
    refine (Cur.big_any _ _ _ _ HC.out HBig.out).mono ?_
    rintro e w' ⟨rfl, rfl⟩
    go_wp2_with fail
    refine (Cur.drawEncrypt_any _ _ _ HC.out).mono ?_
    rintro e w1 ⟨p1, n1, c1, zs, x, rfl, hr1, hn1, _, hb1⟩
    have HR1 := Lib.hid hr1
    have HB1 := Lib.hid hb1
    have HLen := Lib.hid hr1.len
    have HAll := Lib.hid hr1.all
    clear hr1 hb1
    go_wp2_with fail
    refine (enc_any _ _ _ _ _ _ HR1.out (by omega)).mono ?_
    rintro e w2 ⟨p2, n2, c2, rfl, ho, hb⟩
    have HO2 := Lib.hid ho
    have HB2 := Lib.hid (below_on HB1.out hb)
    have HR2 := Lib.hid (HR1.out.below hb)
    obtain rfl : n1 = n2 := by rw [← ho.len, crL_len, HLen.out]
    clear ho hb
    go_wp2_with fail
    refine (dec_any _ _ _ _ _ _ HO2.out.rd (by omega)).mono ?_
    rintro e w3 ⟨p3, n3, c3, rfl, ho, hb⟩
    rw [crL_dec_enc _ HAll.out] at ho
    have HO3 := Lib.hid ho
    have HB3 := Lib.hid (below_on HB2.out hb)
    have HR3 := Lib.hid (HR2.out.below hb)
    obtain rfl : n1 = n3 := by rw [← ho.len, HLen.out]
    clear ho hb HO2
    go_wp2_with fail
    refine (SlB.same_any _ _ _ _ _ zs _ HO3.out.rd HR3.out).mono ?_
    rintro e w4 ⟨rfl, hb⟩
    have HB4 := Lib.hid (below_on HB3.out hb)
    have HR4 := Lib.hid (HR3.out.below hb)
    clear hb HO3
    go_wp2_with fail
    refine (dec_any _ _ _ _ _ _ HR4.out (by omega)).mono ?_
    rintro e w5 ⟨p5, n5, c5, rfl, ho, hb⟩
    have HO5 := Lib.hid ho
    have HB5 := Lib.hid (below_on HB4.out hb)
    have HR5 := Lib.hid (HR4.out.below hb)
    obtain rfl : n1 = n5 := by rw [← ho.len, crL_len, HLen.out]
    clear ho hb
    go_wp2_with fail
    refine (enc_any _ _ _ _ _ _ HO5.out.rd (by omega)).mono ?_
    rintro e w6 ⟨p6, n6, c6, rfl, ho, hb⟩
    rw [crL_enc_dec _ HAll.out] at ho
    have HO6 := Lib.hid ho
    have HB6 := Lib.hid (below_on HB5.out hb)
    have HR6 := Lib.hid (HR5.out.below hb)
    obtain rfl : n1 = n6 := by rw [← ho.len, HLen.out]
    clear ho hb HO5
    go_wp2_with fail
    refine (SlB.same_any _ _ _ _ _ zs _ HO6.out.rd HR6.out).mono ?_
    rintro e w7 ⟨rfl, hb⟩
    have HB7 := Lib.hid (below_on HB6.out hb)
    have HR7 := Lib.hid (HR6.out.below hb)
    clear hb HO6
    go_wp2_with fail
    refine (enc_any _ _ _ _ _ _ HR7.out (by omega)).mono ?_
    rintro e w8 ⟨p8, n8, c8, rfl, ho, hb⟩
    have HB8 := Lib.hid (below_on HB7.out hb)
    obtain rfl : n1 = n8 := by rw [← ho.len, crL_len, HLen.out]
    clear ho hb
    go_wp2_with fail
    go_ret
    exact ⟨rfl, HB8.out⟩
  · have HBig := Lib.hid hbig
    clear hbig
    go_enter Try.func3, Try.ntmps3
    go_wp2_with fail
    refine (Cur.big_any _ _ _ _ HC.out HBig.out).mono ?_
    rintro e w' ⟨rfl, rfl⟩
    go_wp2_with fail
    go_ret
    exact ⟨rfl, Below.refl _ _⟩
end Go.Proofs.Ytamlmpigllidoaa.fnCipher
