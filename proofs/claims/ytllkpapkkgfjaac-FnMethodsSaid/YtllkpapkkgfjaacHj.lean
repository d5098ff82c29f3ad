/- The hash and the digest tell one value from another. -/
import Derived.Test.YtllkpapkkgfjaacDg
namespace Go.Proofs.Ytllkpapkkgfjaac.Hj
open Hs Dg
theorem only_zero {d s : Int} (h0 : -2147483647 < d) (h1 : d < 2147483647) (e : d = 2147483647 * s) : d = 0 := by omega
theorem bezout (d t : Int) (e : d * 1000003 = 2147483647 * t) : d = 2147483647 * (t * 1523789695 - d * 709572) := by
  have e1 : d * 1000003 * 1523789695 = 2147483647 * t * 1523789695 := by rw [e]
  have e2 : d * 1000003 * 1523789695 = d + 2147483647 * (d * 709572) := by
    rw [Int.mul_assoc, show (1000003 : Int) * 1523789695 = 1 + 2147483647 * 709572 by decide, Int.mul_add, Int.mul_one, Int.mul_left_comm]
  rw [Int.mul_sub, ← Int.mul_assoc, ← e1, e2]
  exact (Int.add_sub_cancel _ _).symm
theorem same_rest {x y a r p q : Int} (e1 : r + 2147483647 * p = x * 1000003 + a + 13) (e2 : r + 2147483647 * q = y * 1000003 + a + 13) : (x - y) * 1000003 = 2147483647 * (p - q) := by omega
theorem hstep_left {h h' v : Int} (h0 : 0 ≤ h ∧ h ≤ 2147483646) (h1 : 0 ≤ h' ∧ h' ≤ 2147483646) (e : hstep h v = hstep h' v) : h = h' := by
  have b1 : -2147483647 < h - h' := by clear e; omega
  have b2 : h - h' < 2147483647 := by clear e; omega
  unfold hstep at e
  have e1 := Int.emod_add_mul_ediv (h * 1000003 + v % 2147483647 + 13) 2147483647
  have e2 := Int.emod_add_mul_ediv (h' * 1000003 + v % 2147483647 + 13) 2147483647
  rw [e] at e1
  have e3 := bezout _ _ (same_rest e1 e2)
  exact Int.sub_eq_zero.1 (only_zero b1 b2 e3)
theorem hstep_right {h v v' : Int} (e : hstep h v = hstep h v') : v % 2147483647 = v' % 2147483647 := by
  unfold hstep at e
  omega
theorem hashF_left : ∀ (zs : List Int) {h h' : Int}, (0 ≤ h ∧ h ≤ 2147483646) → (0 ≤ h' ∧ h' ≤ 2147483646) → hashF h zs = hashF h' zs → h = h'
  | [], _, _, _, _, e => e
  | v :: zs, h, h', h0, h1, e => hstep_left h0 h1 (hashF_left zs (hstep_in h v) (hstep_in h' v) e)
theorem hashF_set : ∀ (zs : List Int) {h : Int} {i : Nat} {v : Int}, i < zs.length → v % 2147483647 ≠ zs.getD i 0 % 2147483647 → hashF h (zs.set i v) ≠ hashF h zs
  | [], _, _, _, hi, _ => absurd hi (Nat.not_lt_zero _)
  | x :: zs, h, 0, v, _, hne => fun e => by
    rw [List.set_cons_zero, hashF_cons, hashF_cons] at e
    exact hne (hstep_right (hashF_left zs (hstep_in h v) (hstep_in h x) e))
  | x :: zs, h, i + 1, v, hi, hne => fun e => by
    rw [List.set_cons_succ, hashF_cons, hashF_cons] at e
    exact hashF_set zs (by simpa using hi) (by simpa using hne) e
theorem dig_set (id : Int) {zs : List Int} {i : Nat} {v : Int} (hi : i < zs.length) (hne : v % 2147483647 ≠ zs.getD i 0 % 2147483647) : dig id (zs.set i v) ≠ dig id zs := hashF_set zs hi hne
theorem dig_id {id id' : Int} (zs : List Int) (hne : id % 2147483647 ≠ id' % 2147483647) : dig id zs ≠ dig id' zs := fun e => hne (hstep_right (hashF_left zs (hstep_in _ _) (hstep_in _ _) e))
end Go.Proofs.Ytllkpapkkgfjaac.Hj
