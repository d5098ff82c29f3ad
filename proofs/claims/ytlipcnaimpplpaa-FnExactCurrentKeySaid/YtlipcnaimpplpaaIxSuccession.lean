/- Contract of slices.IndexFunc over Succession, the predicate asked of elements in their ranges alone. -/
import Derived.Test.YtlipcnaimpplpaaSlSuccession
import Derived.Test.YtlipcnaimpplpaaFnd
import Derived.Test.YtlipcnaimpplpaaShelfG
import Derived.Shelf.SlicesQ.IndexFunc
import Derived.LoopTactic
namespace Go.Proofs.Ytlipcnaimpplpaa.IxSuccession
open Go.ChangeShapes Go.WideShapes Go.ChangeAt Go.RowKit Go.Shelf Sl St Fnd SlSuccession
abbrev In := { x : I4 // InR x }
instance : Inhabited In := ⟨⟨zero, by unfold InR zero; simp⟩⟩
def pack : (xs : List I4) → (∀ x ∈ xs, InR x) → List In
  | [], _ => []
  | x :: xs, h => ⟨x, h x (List.mem_cons_self ..)⟩ :: pack xs (fun y hy => h y (List.mem_cons_of_mem _ hy))
theorem pack_map : ∀ (xs : List I4) (h : ∀ x ∈ xs, InR x), (pack xs h).map (fun y => y.1) = xs
  | [], _ => rfl
  | x :: xs, h => by rw [pack, List.map_cons, pack_map xs]
theorem pack_len (xs : List I4) (h : ∀ x ∈ xs, InR x) : (pack xs h).length = xs.length := by
  have := congrArg List.length (pack_map xs h)
  rwa [List.length_map] at this
theorem pack_at {xs : List I4} {h : ∀ x ∈ xs, InR x} {j : Nat} (hj : j < (pack xs h).length) : xs[j]? = some (pack xs h)[j]!.1 := by
  have e := congrArg (fun l => l[j]?) (pack_map xs h)
  simp only [List.getElem?_map, List.getElem?_eq_getElem hj, Option.map_some] at e
  rw [← e]
  simp [hj]
theorem first_pack (pr : I4 → Bool) : ∀ (xs : List I4) (h : ∀ x ∈ xs, InR x), firstN (fun y : In => pr y.1) (pack xs h) = firstN pr xs
  | [], _ => rfl
  | x :: xs, h => by rw [pack, firstN, firstN, first_pack pr xs]
set_option maxHeartbeats 1000000 in
theorem index_none (g : Nat) (lb : Array Value) (q : Option Addr) (c : Nat) (w : World) : Calls Try.prog 63 #[.slice q 0 c, .func (.func g) #[] lb] w fun e w' => e = .returned (.int .i64 (-1)) ∧ w = w' := by
  go_enter Try.func63, Try.ntmps63
  go_wp2_with fail
  go_loop [8] (fun i => i = .int .i64 0) (fun _ => 0)
  case atStart => rfl
  case round =>
    obtain rfl := hrel
    go_wp2_with fail
    go_ret
    exact ⟨rfl, rfl⟩
/-- the first that is such -/
theorem index_any (pr : I4 → Bool) (g : Nat) (lb : Array Value) (eg : ∀ args w, (callFunc g args).run Try.prog w = .ok (.enter g args) w) (q : Option Addr) (n c : Nat) (xs : List I4) (hx : ∀ x ∈ xs, InR x) (w : World) (hr : RdS E w q n xs)
    (hp : ∀ (W : World) (x : I4), InR x → Below w.heap.size w W → Calls Try.prog g (#[.agg (E.of x).toArray] ++ lb) W fun e w' => e = .returned (.bool (pr x)) ∧ Below w.heap.size w w') : Calls Try.prog 63 #[.slice q n c, .func (.func g) #[] lb] w (Val (.int .i64 (first pr xs)) w) := by
  rcases Nat.eq_zero_or_pos n with hn | hn
  · subst hn
    obtain rfl : xs = [] := List.eq_nil_of_length_eq_zero hr.len
    exact (index_none _ _ _ _ _).mono fun e w' ⟨he, hw⟩ => ⟨he, by rw [hw]; exact Below.refl _ _⟩
  · obtain ⟨b, o, e, hb, hc⟩ := hr.2.2 hn
    subst e
    have h := AnyQ.slices_IndexFunc Try.laysIdxSuccession 4 Try.isAgg76 Try.sizeOf76 (fun y : In => E.of y.1) (fun y => E.len y.1) (fun y : In => pr y.1) g lb eg b o n c (pack xs hx) w (fun W y hb => hp W y.1 y.2 hb) (by rw [pack_len, hr.len]; exact Nat.le_refl _) hr.le hb (fun j hj i v hi => hc j _ (pack_at hj) i v hi)
    rw [List.take_of_length_le (by rw [pack_len, hr.len]; exact Nat.le_refl _), idxBy_first] at h
    have e2 : first (fun y : In => pr y.1) (pack xs hx) = first pr xs := by unfold first; rw [first_pack]
    rw [e2] at h
    exact h
end Go.Proofs.Ytlipcnaimpplpaa.IxSuccession
