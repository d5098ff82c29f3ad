/- The walk of the law FnKeyedHash. -/
import Derived.Test.YtamlmpigllidoaaDer
import Derived.Test.YtamlmpigllidoaaDrawW
import Derived.Test.YtamlmpigllidoaaSlG
import Derived.Deep.RegionLaw
import Derived.Deep.RegionWith
import Derived.WalkKit
import Derived.Outline
namespace Go.Proofs.Ytamlmpigllidoaa.fnKeyedHash
open Go.ChangeShapes Go.WideShapes Go.ChangeAt Go.RowKit Sl Hs

theorem only_zero {d s : Int} (h0 : -2147483647 < d) (h1 : d < 2147483647) (e : d = 2147483647 * s) : d = 0 := by omega
theorem bezout (d t : Int) (e : d * 1000003 = 2147483647 * t) : d = 2147483647 * (t * 1523789695 - d * 709572) := by
  have e1 : d * 1000003 * 1523789695 = 2147483647 * t * 1523789695 := by rw [e]
  have e2 : d * 1000003 * 1523789695 = d + 2147483647 * (d * 709572) := by
    rw [Int.mul_assoc, show (1000003 : Int) * 1523789695 = 1 + 2147483647 * 709572 by decide, Int.mul_add, Int.mul_one, Int.mul_left_comm]
  rw [Int.mul_sub, ← Int.mul_assoc, ← e1, e2]
  exact (Int.add_sub_cancel _ _).symm
theorem same_rest {x y a r p q : Int} (e1 : r + 2147483647 * p = x * 1000003 + a + 13) (e2 : r + 2147483647 * q = y * 1000003 + a + 13) : (x - y) * 1000003 = 2147483647 * (p - q) := by omega
theorem hstep_left {h h' v : Int} (h0 : 0 ≤ h ∧ h ≤ 2147483646) (h1 : 0 ≤ h' ∧ h' ≤ 2147483646) (e : hstep h v = hstep h' v) : h = h' := by
  have b1 : -2147483647 < h - h' := by clear e; omega
  have b2 : h - h' < 2147483647 := by clear e; omega
  unfold hstep at e
  have e1 := Int.emod_add_mul_ediv (h * 1000003 + v % 2147483647 + 13) 2147483647
  have e2 := Int.emod_add_mul_ediv (h' * 1000003 + v % 2147483647 + 13) 2147483647
  rw [e] at e1
  have e3 := bezout _ _ (same_rest e1 e2)
  exact Int.sub_eq_zero.1 (only_zero b1 b2 e3)
theorem hstep_right {h v v' : Int} (e : hstep h v = hstep h v') : v % 2147483647 = v' % 2147483647 := by
  unfold hstep at e
  omega
theorem hashF_left : ∀ (zs : List Int) {h h' : Int}, (0 ≤ h ∧ h ≤ 2147483646) → (0 ≤ h' ∧ h' ≤ 2147483646) → hashF h zs = hashF h' zs → h = h'
  | [], _, _, _, _, e => e
  | v :: zs, h, h', h0, h1, e => hstep_left h0 h1 (hashF_left zs (hstep_in h v) (hstep_in h' v) e)
theorem hashF_set : ∀ (zs : List Int) {h : Int} {i : Nat} {v : Int}, i < zs.length → v % 2147483647 ≠ zs.getD i 0 % 2147483647 → hashF h (zs.set i v) ≠ hashF h zs
  | [], _, _, _, hi, _ => absurd hi (Nat.not_lt_zero _)
  | x :: zs, h, 0, v, _, hne => fun e => by
    rw [List.set_cons_zero, hashF_cons, hashF_cons] at e
    exact hne (hstep_right (hashF_left zs (hstep_in h v) (hstep_in h x) e))
  | x :: zs, h, i + 1, v, hi, hne => fun e => by
    rw [List.set_cons_succ, hashF_cons, hashF_cons] at e
    exact hashF_set zs (by simpa using hi) (by simpa using hne) e
theorem khash_set (k : Int) {zs : List Int} {i : Nat} {v : Int} (hi : i < zs.length) (hne : v % 2147483647 ≠ zs.getD i 0 % 2147483647) : khash k (zs.set i v) ≠ khash k zs := fun e => by
  unfold khash at e
  exact hashF_set zs hi hne (hstep_left (hashF_in (hstep_in 11 k) _) (hashF_in (hstep_in 11 k) _) e)
/-- a byte of the code, or a number out of the length -/
def Small (w : World) (e : Ending) (w' : World) : Prop := ∃ a : Int, e = .returned (.int .i64 a) ∧ 0 ≤ a ∧ a ≤ 255 ∧ w = w'
set_option maxHeartbeats 1000000 in
theorem at_any (v : Value) (n : Nat) (i : Nat) (w : World) (hc : Cur.Code v n w) (hi : i ≤ 1) (hn : n ≤ 1048576) : Calls Try.prog 20 #[v, .int .i64 i] w (Small w) := by
  obtain ⟨hm, hc⟩ := hc
  rcases hc with ⟨rfl, a, cap, rfl⟩ | ⟨b, off, cap, rfl, _, hcell⟩
  · go_enter Try.func20, Try.ntmps20
    go_wp2_with fail
    go_ret
    exact ⟨_, rfl, by omega, by omega, rfl⟩
  · by_cases hlt : i < n
    · obtain ⟨x, hx, x0, x1⟩ := hcell i hlt
      clear hcell
      go_enter Try.func20, Try.ntmps20
      go_wp2_with fail
      go_ret
      exact ⟨_, rfl, by omega, by omega, rfl⟩
    · clear hcell
      go_enter Try.func20, Try.ntmps20
      go_wp2_with fail
      go_ret
      exact ⟨_, rfl, by omega, by omega, rfl⟩
theorem own_drew {k : IntKind} {E : TypeId} {w : World} {lo hi n c : Nat} {p : Option Addr} {zs : List Int} (h : Ow k E w lo hi p n c zs) : Ow k E w.drew lo hi p n c zs := ⟨h.1.drew, h.2⟩
theorem own_set {T : TypeId} {w : World} {lo hi g n c i : Nat} {zs : List Int} {v : Int} (h : Ow .i64 T w lo hi (some ⟨g, 0, none⟩) n c zs) (hv : inK .i64 v) : Ow .i64 T (w.setCell ⟨g, i, none⟩ (.int .i64 v)) lo hi (some ⟨g, 0, none⟩) n c (zs.set i v) ∧ w.grownBy (w.setCell ⟨g, i, none⟩ (.int .i64 v)) (some g) := by
  obtain ⟨h1, h2⟩ := h.own.stored i (.int .i64 v)
  rw [← List.map_set] at h1
  refine ⟨⟨h1, fun x hx => ?_, Nat.le_trans h.2.2.1 h2.size, h.2.2.2⟩, h2⟩
  rcases List.mem_or_eq_of_mem_set hx with hx | rfl
  · exact h.all x hx
  · exact hv
set_option maxRecDepth 100000 in
set_option maxHeartbeats 8000000 in
theorem walk {H : Type} {enc : TypeId × Value → H} (W : World) (base : Nat)
    (v0 : Value) (d0 : DataW H) (p0 : List MemPlace) (h0 : DataW.Trod enc Try.prog W 0 (fun _ => true) true 22 v0 d0 p0) (k0 : Value.okWide Try.prog W .any base 22 v0)
    (_hsz : (DataW.weightsEach Try.prog [22] [d0]).all (· ≤ reachBytes) = true) :
    Calls Try.prog 4 #[v0] W fun e w' => e = .returned (.bool true) ∧ Below W.heap.size W w' := by
  obtain ⟨i0, hi, hz0, hz1, hz2⟩ := info_parts SlI.info
  obtain ⟨n, hcode⟩ := Cur.code_of h0 k0
  have HC := Lib.hid hcode
  clear h0 k0 hcode _hsz
  rcases hbig : decide (1048576 < n) with _ | _
  · have HBig := Lib.hid hbig
    have HN : Hid (n ≤ 1048576) := Lib.hid (by simpa using hbig)
    clear hbig
    go_enter Try.func4, Try.ntmps4
    go_wp2_with fail
    refine (Cur.big_any _ _ _ _ HC.out HBig.out).mono ?_
    rintro e w' ⟨rfl, rfl⟩
    go_wp2_with fail
    refine (Cur.drawKeyed_any _ _ _ HC.out).mono ?_
    rintro e w1 ⟨p1, n1, c1, zs, x, rfl, hr1, hn1, hz1', hx, hb1⟩
    have HR1 := Lib.hid hr1
    have HB1 := Lib.hid hb1
    have HZ := Lib.hid hz1'
    have HLen := Lib.hid hr1.len
    have hs1 := hb1.size
    have HXI : Hid (inK .i64 x) := Lib.hid hx.isInt
    obtain ⟨y, hy⟩ : ∃ y, khash x zs = y := ⟨_, rfl⟩
    have hyb := khash_in x zs
    rw [hy] at hyb
    obtain ⟨hy1, hy2⟩ := hyb
    have HY := Lib.hid hy
    have HO1 := Lib.hid (lit1_own w1 w1.heap.size x hx.isInt (Nat.le_refl _))
    have HBL := Lib.hid ((Below.refl w1.heap.size w1).alloc (Nat.le_refl _) (.cells #[.int .i64 x] 3))
    clear hr1 hb1 hz1' hx hy
    go_wp2_with fail
    refine (khash_any _ _ _ _ _ _ HR1.out).mono ?_
    rintro e w1' ⟨rfl, rfl⟩
    rw [HY.out]
    go_wp2_with (first
      | (at_builtin; refine wpList_appG (by go_simp) (.tmp 29) (.tmp 30) 28 rfl i0 _ 8 Try.underlying28 hi hz0 hz1 hz2 rfl rfl HO1.out p1 n1 c1 zs rfl (HR1.out.alloc _) (by simp) (by omega) (by omega) ?_; intro p2 c2 w2 how2 hg2; have HO2 := Lib.hid how2; have HB2 := Lib.hid (below_row HBL.out HO1.out hg2 (Nat.le_refl _)); clear how2 hg2)
      | (at_builtin; refine wpList_appG (by go_simp) (.tmp 31) (.tmp 33) 28 rfl i0 _ 8 Try.underlying28 hi hz0 hz1 hz2 rfl rfl (HO2.out.alloc _) (some ⟨w2.heap.size, 0, none⟩) 1 1 [x] rfl (lit1_own w2 0 x HXI.out (Nat.zero_le _)).rd (Nat.le_trans HB2.out.size (by simp)) (by omega) (by omega) ?_; intro p3 c3 w3 how3 hg3; have HO3 := Lib.hid how3; have HB3 := Lib.hid ((HB2.out.alloc HB2.out.size _).trans ((HO2.out.alloc _).below_row hg3 (Nat.le_trans HB2.out.size (by simp)))); clear how3 hg3))
    refine (hash_any _ _ _ _ _ HO3.out.rd).mono ?_
    rintro e w3' ⟨rfl, rfl⟩
    rw [show Hs.hash ([x] ++ zs ++ [x]) = y from (khash_hash x zs).trans HY.out]
    have HR3 := Lib.hid (HR1.out.below HB3.out)
    have HB4 := Lib.hid (below_on HB1.out HB3.out)
    clear HO2 HO3 HB2 HB3 HO1 HBL
    by_cases hn0 : n1 = 0
    focus
      subst hn0
      go_wp2_with fail
      have HE := Lib.hid HB4.out
    rotate_left
    focus
      have hpos : 0 < n1 := by omega
      have HOE := Lib.hid (Cur.emptyI w3 w3.heap.size (Nat.le_refl _))
      have HBE := Lib.hid ((Below.refl w3.heap.size w3).alloc (Nat.le_refl _) (.cells #[] 3))
      go_wp2_with (at_builtin; refine wpList_appR rfl (.tmp 41) (.tmp 42) 28 rfl i0 _ 8 Try.underlying28 hi hz0 hz1 hz2 rfl rfl HOE.out p1 n1 c1 zs rfl (HR3.out.alloc _) (by simp) (by omega) (by omega) ?_; intro p5 c5 w5 how5 hg5; rw [Nat.zero_add, List.nil_append] at how5; rw [Nat.zero_add]; have HO5 := Lib.hid how5; have HB5 := Lib.hid (below_row HBE.out HOE.out hg5 (Nat.le_refl _)); clear how5 hg5)
      refine (at_any _ _ 0 _ (HC.out.on (below_on HB4.out HB5.out)) (by omega) HN.out).mono ?_
      rintro e w6 ⟨a0, rfl, ha0, ha1, rfl⟩
      obtain ⟨i, hI⟩ : ∃ i : Nat, a0 % (n1 : Int) = (i : Int) := ⟨(a0 % (n1 : Int)).toNat, (Int.toNat_of_nonneg (Int.emod_nonneg _ (by omega))).symm⟩
      have hin : i < n1 := by
        have := Int.emod_lt_of_pos a0 (show (0 : Int) < n1 by omega)
        omega
      go_wp2_with fail
      rw [hI]
      rcases HO5.out.form with ⟨_, hn0', _⟩ | ⟨g, rfl, hg1, hg2, hg3, _⟩
      · omega
      have hcell := HO5.out.cell hin
      have hfree := HO5.out.free (i := i)
      have hz := HZ.out (zs.getD i 0) (by rw [List.getD_eq_getElem?_getD, List.getElem?_eq_getElem (by rw [HLen.out]; exact hin)]; exact List.getElem_mem _)
      generalize hzz : zs.getD i 0 = z at hcell hz
      have HZZ := Lib.hid hzz
      obtain ⟨z1, z2⟩ := hz
      have HCD := Lib.hid (HC.out.on (Cur.below_drew (below_on HB4.out HB5.out)))
      have i1 : (0 : Int) ≤ (i : Int) := by omega
      have i2 : (i : Int) < (n1 : Int) := by omega
      have t1 : IntKind.i64.wrap (z + 1) = z + 1 := IntWalk.i64_in _ (by omega)
      clear hI hzz
      go_region_with (first
        | (go_at_call 20; refine (at_any _ _ 1 _ HCD.out (by omega) HN.out).mono ?_; rintro e w6 ⟨a1, rfl, b0, b1, rfl⟩; have t2 : IntKind.i64.wrap (z + 1 + a1) = z + 1 + a1 := IntWalk.i64_in _ (by omega))
        | (go_at_call 21; refine (spec_mod_m _ _).mono ?_; rintro e w7 ⟨rfl, rfl⟩))
      all_goals
        obtain ⟨v, hv⟩ : ∃ v, (z + 1 + a1) % 2147483647 = v := ⟨_, rfl⟩
        have hvb : 0 ≤ v ∧ v ≤ 2147483646 := by omega
        have hne : v % 2147483647 ≠ zs.getD i 0 % 2147483647 := by
          rw [HZZ.out]
          omega
        have hks := khash_set x (by rw [HLen.out]; exact hin) hne
        rw [HY.out] at hks
        have hset := own_set (i := i) (v := v) (own_drew HO5.out) ⟨by omega, by omega⟩
        have HR8 := Lib.hid hset.1.rd
        have HE := Lib.hid ((Cur.below_drew (below_on HB4.out HB5.out)).grown hset.2 (below_on HB4.out HB5.out).size (fun k e => by cases e; have := HB4.out.size; omega))
        obtain ⟨y2, hy2'⟩ : ∃ y2, khash x (zs.set i v) = y2 := ⟨_, rfl⟩
        rw [hy2'] at hks
        have hbne : (y2 == y) = false := beq_eq_false_iff_ne.2 hks
        have HY2 := Lib.hid hy2'
        rw [hv]
        clear hv hvb hne hks hset hy2' hcell hfree t1
        go_wp2_with fail
        refine (khash_any _ _ _ _ _ _ HR8.out).mono ?_
        rintro e w9 ⟨rfl, rfl⟩
        rw [HY2.out]
        go_wp2_with fail
    all_goals
      refine (Cur.drawDerive_any _ _ _ (HC.out.on HE.out)).mono ?_
      rintro e w10 ⟨kx, s, rfl, hs, hkx, hb⟩
      have HB10 := Lib.hid (below_on HE.out hb)
      clear hb
      go_wp2_with fail
      refine (derive_any _ _ _ (by omega)).mono ?_
      rintro e w11 ⟨rfl, hb⟩
      have HB11 := Lib.hid (below_on HB10.out hb)
      clear hb
      go_wp2_with fail
      refine (valid_any _ _).mono ?_
      rintro e w12 ⟨rfl, hb⟩
      rw [show validB (derI kx s) = true from decide_eq_true (derI_valid kx s)]
      have HB12 := Lib.hid (below_on HB11.out hb)
      clear hb
      go_wp2_with fail
      go_ret
      exact ⟨rfl, HB12.out⟩
  · have HBig := Lib.hid hbig
    clear hbig
    go_enter Try.func4, Try.ntmps4
    go_wp2_with fail
    refine (Cur.big_any _ _ _ _ HC.out HBig.out).mono ?_
    rintro e w' ⟨rfl, rfl⟩
    go_wp2_with fail
    go_ret
    exact ⟨rfl, Below.refl _ _⟩
end Go.Proofs.Ytamlmpigllidoaa.fnKeyedHash
