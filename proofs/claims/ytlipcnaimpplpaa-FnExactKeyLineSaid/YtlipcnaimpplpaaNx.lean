/- Contracts of the key that has taken another's place; in the program (slices.IndexFunc with a closure) and in the reference. -/
import Derived.Test.YtlipcnaimpplpaaIxSuccession
import Derived.Test.YtlipcnaimpplpaaMSuccession
import Derived.LoopTactic
namespace Go.Proofs.Ytlipcnaimpplpaa.Nx
open Go.ChangeShapes Go.WideShapes Go.ChangeAt Go.RowKit Go.Shelf Sl St Fnd Kn Kr Ki Km Ko SlSuccession MSuccession
def pk (ks : List I5) (key t : Int) (y : I4) : Bool := decide (y.1 = key) && (decide (y.2.2.1 ≤ t) && chk ks y)
def next (ks : List I5) (xs : List I4) (key t : Int) : Int := match firstN (pk ks key t) xs with | some i => (xs.getD i zero).2.1 | none => 0
theorem next_at {ks : List I5} {xs : List I4} {key t : Int} {k : Nat} (hk : k < xs.length) (he : pk ks key t (xs.getD k zero) = true) (hb : ∀ j, j < k → pk ks key t (xs.getD j zero) = false) : first (pk ks key t) xs = k ∧ next ks xs key t = (xs.getD k zero).2.1 := by
  have h := first_at hk he hb
  refine ⟨h, ?_⟩
  unfold first at h
  unfold next
  cases hf : firstN (pk ks key t) xs with
  | none => rw [hf] at h; simp at h
  | some i => rw [hf] at h; simp at h; obtain rfl : i = k := (by omega); rfl
theorem next_none {ks : List I5} {xs : List I4} {key t : Int} (h : ∀ j, j < xs.length → pk ks key t (xs.getD j zero) = false) : first (pk ks key t) xs = -1 ∧ next ks xs key t = 0 := by
  have h' := first_none (z := zero) h
  refine ⟨h', ?_⟩
  unfold first at h'
  unfold next
  cases hf : firstN (pk ks key t) xs with
  | none => rfl
  | some i => rw [hf] at h'; simp at h'
theorem next_cases (ks : List I5) (xs : List I4) (key t : Int) : (∃ k : Nat, k < xs.length ∧ first (pk ks key t) xs = k ∧ next ks xs key t = (xs.getD k zero).2.1) ∨ (first (pk ks key t) xs = -1 ∧ next ks xs key t = 0) := by
  rcases first_cases (pk ks key t) zero xs with ⟨k, h1, _, h3, h4⟩ | ⟨_, h2⟩
  · exact .inl ⟨k, h1, next_at h1 h3 h4⟩
  · exact .inr (next_none h2)
theorem says {b b' : Value} {w w' : World} (h : b' = b) (hb : Below w.heap.size w w') : SlSuccession.Val b w (.returned b') w' := ⟨by rw [h], hb⟩
set_option maxRecDepth 100000 in
set_option maxHeartbeats 4000000 in
theorem pred_any (g1 g2 g3 : Nat) (p : Option Addr) (n c : Nat) (ks : List I5) (hR : ∀ x ∈ ks, SlKey.InR x) (key t : Int) (x0 x1 x2 x3 : Int) (h0 : -9223372036854775808 ≤ x0 ∧ x0 ≤ 9223372036854775807) (h1 : -9223372036854775808 ≤ x1 ∧ x1 ≤ 9223372036854775807) (h2 : -9223372036854775808 ≤ x2 ∧ x2 ≤ 9223372036854775807) (h3 : -9223372036854775808 ≤ x3 ∧ x3 ≤ 9223372036854775807) (w : World) (ha : Bx w g1 3 #[.int .i64 key]) (hc : Bx w g2 3 #[.int .i64 t]) (hk : Bx w g3 30 #[.slice p n c]) (hr : RdS SlKey.E w p n ks) : Calls Try.prog 64 #[.agg #[.int .i64 x0, .int .i64 x1, .int .i64 x2, .int .i64 x3], .pointer (some ⟨g1, 0, none⟩), .pointer (some ⟨g2, 0, none⟩), .pointer (some ⟨g3, 0, none⟩)] w fun e w' => e = .returned (.bool (pk ks key t (x0, x1, x2, x3))) ∧ Below w.heap.size w w' := by
  have HR := Lib.hid hr
  have HX := Lib.hid (Bx.new w 76 #[.int .i64 x0, .int .i64 x1, .int .i64 x2, .int .i64 x3])
  have HA := Lib.hid (ha.alloc (.cells #[.int .i64 x0, .int .i64 x1, .int .i64 x2, .int .i64 x3] 76))
  have HC := Lib.hid (hc.alloc (.cells #[.int .i64 x0, .int .i64 x1, .int .i64 x2, .int .i64 x3] 76))
  have HK' := Lib.hid (hk.alloc (.cells #[.int .i64 x0, .int .i64 x1, .int .i64 x2, .int .i64 x3] 76))
  have HB : Hid (Below w.heap.size w (w.alloc (.cells #[.int .i64 x0, .int .i64 x1, .int .i64 x2, .int .i64 x3] 76))) := Lib.hid (Ki.box1 w _)
  have k1 := HA.out.cell (j := 0) rfl
  have k2 := HC.out.cell (j := 0) rfl
  have k3 := HK'.out.cell (j := 0) rfl
  have hs : pk ks key t (x0, x1, x2, x3) = (decide (x0 = key) && (decide (x2 ≤ t) && chk ks (x0, x1, x2, x3))) := rfl
  have G0 := Lib.hid h0
  have G1 := Lib.hid h1
  have G2 := Lib.hid h2
  have G3 := Lib.hid h3
  clear h0 h1 h2 h3
  clear ha hc hk hr
  by_cases h1 : x0 = key
  rotate_left
  · have HS : Hid (pk ks key t (x0, x1, x2, x3) = false) := Lib.hid (by rw [hs, decide_eq_false h1]; rfl)
    have e1 : (x0 == key) = false := beq_eq_false_iff_ne.2 h1
    clear hs h1
    go_enter Try.func64, Try.ntmps64
    go_wp2_with fail
    go_ret
    exact ⟨by rw [HS.out]; try rfl, HB.out⟩
  by_cases h2 : x2 ≤ t
  rotate_left
  · have HS : Hid (pk ks key t (x0, x1, x2, x3) = false) := Lib.hid (by rw [hs, decide_eq_false h2]; simp)
    have h2' : t < x2 := by omega
    clear hs h2
    subst h1
    go_enter Try.func64, Try.ntmps64
    go_wp2_with fail
    go_ret
    exact ⟨by rw [HS.out]; try rfl, HB.out⟩
  have HS : Hid (pk ks key t (x0, x1, x2, x3) = chk ks (x0, x1, x2, x3)) := Lib.hid (by rw [hs, decide_eq_true h1, decide_eq_true h2]; rfl)
  clear hs
  subst h1
  go_enter Try.func64, Try.ntmps64
  go_wp2_with fail
  generalize (w.alloc (.cells #[.int .i64 x0, .int .i64 x1, .int .i64 x2, .int .i64 x3] 76)) = V at HB HX HA HC HK' ⊢
  refine (check_any p n c ks hR x0 x1 x2 x3 G0.out G1.out G2.out G3.out _ (HR.out.below HB.out)).mono ?_
  rintro e w1 ⟨rfl, hb⟩
  replace HB := Lib.hid (below_on HB.out hb)
  clear hb
  go_wp2_with fail
  go_ret
  exact ⟨by rw [HS.out]; try rfl, HB.out⟩
set_option maxRecDepth 100000 in
set_option maxHeartbeats 4000000 in
theorem next_any (p : Option Addr) (n c : Nat) (ks : List I5) (hR : ∀ x ∈ ks, SlKey.InR x) (q : Option Addr) (m c' : Nat) (xs : List I4) (hX : ∀ x ∈ xs, InR x) (key t : Int) (w : World) (hr : RdS SlKey.E w p n ks) (hs : RdS E w q m xs) : Calls Try.prog 48 #[.slice p n c, .slice q m c', .int .i64 key, .int .i64 t] w (Val (.int .i64 (next ks xs key t)) w) := by
  have HL := Lib.hid hs.len
  have hle := hs.le
  have b3 := ((Bx.new w 30 #[.slice p n c]).alloc (.cells #[.int .i64 key] 3)).alloc (.cells #[.int .i64 t] 3)
  have b1 := (Bx.new (w.alloc (.cells #[.slice p n c] 30)) 3 #[.int .i64 key]).alloc (.cells #[.int .i64 t] 3)
  have b2 := Bx.new ((w.alloc (.cells #[.slice p n c] 30)).alloc (.cells #[.int .i64 key] 3)) 3 #[.int .i64 t]
  rw [World.size_alloc] at b1
  rw [World.size_alloc, World.size_alloc] at b2
  have HB : Hid (Below w.heap.size w (((w.alloc (.cells #[.slice p n c] 30)).alloc (.cells #[.int .i64 key] 3)).alloc (.cells #[.int .i64 t] 3))) := Lib.hid ((((Below.refl w.heap.size w).alloc (Nat.le_refl _) _).alloc (by simp) _).alloc (by simp; omega) _)
  have HS := Lib.hid (hs.below HB.out)
  have HR := Lib.hid (hr.below HB.out)
  have H1 := Lib.hid b1
  have H2 := Lib.hid b2
  have H3 := Lib.hid b3
  clear b1 b2 b3 hr hs
  have HP : Hid (∀ (W : World) (x : I4), InR x → Below (((w.alloc (.cells #[.slice p n c] 30)).alloc (.cells #[.int .i64 key] 3)).alloc (.cells #[.int .i64 t] 3)).heap.size (((w.alloc (.cells #[.slice p n c] 30)).alloc (.cells #[.int .i64 key] 3)).alloc (.cells #[.int .i64 t] 3)) W → Calls Try.prog 64 (#[.agg (E.of x).toArray] ++ #[.pointer (some ⟨w.heap.size + 1, 0, none⟩), .pointer (some ⟨w.heap.size + 1 + 1, 0, none⟩), .pointer (some ⟨w.heap.size, 0, none⟩)]) W fun e w' => e = .returned (.bool (pk ks key t x)) ∧ Below (((w.alloc (.cells #[.slice p n c] 30)).alloc (.cells #[.int .i64 key] 3)).alloc (.cells #[.int .i64 t] 3)).heap.size (((w.alloc (.cells #[.slice p n c] 30)).alloc (.cells #[.int .i64 key] 3)).alloc (.cells #[.int .i64 t] 3)) w') := Lib.hid (fun W x hx hb => by
    obtain ⟨x0, x1, x2, x3⟩ := x
    obtain ⟨i0, i1, i2, i3⟩ := hx
    refine (pred_any _ _ _ p n c ks hR key t x0 x1 x2 x3 i0 i1 i2 i3 W (H1.out.below hb) (H2.out.below hb) (H3.out.below hb) (HR.out.below hb)).mono ?_
    rintro e w' ⟨he, hb'⟩
    exact ⟨he, below_on hb hb'⟩)
  rcases next_cases ks xs key t with ⟨k, g1, g2, g3⟩ | ⟨g2, g3⟩
  · have HF := Lib.hid g2
    have HN := Lib.hid g3
    have hkm : k < m := by have := HL.out; omega
    clear g1 g2 g3
    go_enter Try.func48, Try.ntmps48
    go_wp2_with fail
    generalize (((w.alloc (.cells #[.slice p n c] 30)).alloc (.cells #[.int .i64 key] 3)).alloc (.cells #[.int .i64 t] 3)) = V at HB HS HR H1 H2 H3 HP ⊢
    refine (IxSuccession.index_any (pk ks key t) _ _ (enters_of Try.func64 (by kernel_rfl) rfl) q m c' xs hX _ HS.out HP.out).mono ?_
    rintro e w1 ⟨rfl, hb⟩
    rw [HF.out]
    obtain ⟨b, o, rfl, hbb, hat⟩ := rd_at (HS.out.below hb) hkm
    replace HB := Lib.hid (below_on HB.out hb)
    generalize hy : xs.getD k zero = y at hat HN
    obtain ⟨y0, y1, y2, y3⟩ := y
    obtain ⟨c0, c1, c2, c3⟩ := hat
    have i1 : (0 : Int) ≤ (k : Int) := by omega
    have i2 : (k : Int) < (m : Int) := by omega
    clear hb hy HP
    go_wp2_with fail
    go_ret
    exact says (by rw [HN.out]; try rfl) HB.out
  · have HF := Lib.hid g2
    have HN := Lib.hid g3
    clear g2 g3
    go_enter Try.func48, Try.ntmps48
    go_wp2_with fail
    generalize (((w.alloc (.cells #[.slice p n c] 30)).alloc (.cells #[.int .i64 key] 3)).alloc (.cells #[.int .i64 t] 3)) = V at HB HS HR H1 H2 H3 HP ⊢
    refine (IxSuccession.index_any (pk ks key t) _ _ (enters_of Try.func64 (by kernel_rfl) rfl) q m c' xs hX _ HS.out HP.out).mono ?_
    rintro e w1 ⟨rfl, hb⟩
    rw [HF.out]
    replace HB := Lib.hid (below_on HB.out hb)
    clear hb HP
    go_wp2_with fail
    go_ret
    exact says (by rw [HN.out]; try rfl) HB.out
set_option maxRecDepth 100000 in
set_option maxHeartbeats 4000000 in
theorem spec_next_any (p : Option Addr) (n c : Nat) (ks : List I5) (hR : ∀ x ∈ ks, SlKey.InR x) (q : Option Addr) (m c' : Nat) (xs : List I4) (hX : ∀ x ∈ xs, InR x) (key t : Int) (w : World) (hr : RdS SlKey.E w p n ks) (hs : RdS E w q m xs) : Calls Try.prog 43 #[.slice p n c, .slice q m c', .int .i64 key, .int .i64 t] w (Val (.int .i64 (next ks xs key t)) w) := by
  have HR := Lib.hid hr
  have HS := Lib.hid hs
  have HL := Lib.hid hs.len
  have hle := hs.le
  clear hr hs
  go_enter Try.func43, Try.ntmps43
  go_wp2_with fail
  go_loopw [9] (fun i wr => ∃ k : Nat, k ≤ m ∧ i = .int .i64 k ∧ Hid (Below w.heap.size w wr) ∧ Hid (∀ j, j < k → pk ks key t (xs.getD j zero) = false)) (fun i _ => m - (intOf i).toNat)
  case atStart => exact ⟨0, Nat.zero_le _, rfl, Lib.hid (Below.refl _ _), Lib.hid fun j h => by omega⟩
  case round =>
    obtain ⟨k, hk, rfl, HB, HK⟩ := hrel
    by_cases hlt : k < m
    · obtain ⟨b, o, rfl, hbb, hat⟩ := rd_at (HS.out.below HB.out) hlt
      have HI := Lib.hid (hX (xs.getD k zero) (getD_mem zero (by rw [HL.out]; exact hlt)))
      generalize hy : xs.getD k zero = y at hat HI
      have HY := Lib.hid hy
      clear hy
      obtain ⟨x0, x1, x2, x3⟩ := y
      have hp : pk ks key t (x0, x1, x2, x3) = (decide (x0 = key) && (decide (x2 ≤ t) && chk ks (x0, x1, x2, x3))) := rfl
      have HNx : Hid (pk ks key t (x0, x1, x2, x3) = false → ∀ j, j < k + 1 → pk ks key t (xs.getD j zero) = false) := Lib.hid fun h j hj => by
        rcases Nat.lt_succ_iff_lt_or_eq.1 hj with h' | rfl
        · exact HK.out j h'
        · rw [HY.out]; exact h
      have HAT := Lib.hid hat
      obtain ⟨c0, c1, c2, c3⟩ := hat
      by_cases h1 : x0 = key
      rotate_left
      · have HF := Lib.hid (HNx.out (by rw [hp, decide_eq_false h1]; rfl))
        have e1 : (x0 == key) = false := beq_eq_false_iff_ne.2 h1
        clear hp h1 HNx
        go_wp2_with fail
        go_roundw
        case rel => exact ⟨k + 1, by omega, by go_num, HB, HF⟩
        case measure => simp [intOf]; omega
      by_cases h2 : x2 ≤ t
      rotate_left
      · have HF := Lib.hid (HNx.out (by rw [hp, decide_eq_false h2]; simp))
        have h2' : t < x2 := by omega
        clear hp h2 HNx
        subst h1
        go_wp2_with fail
        go_roundw
        case rel => exact ⟨k + 1, by omega, by go_num, HB, HF⟩
        case measure => simp [intOf]; omega
      have hp2 : pk ks key t (x0, x1, x2, x3) = chk ks (x0, x1, x2, x3) := by rw [hp, decide_eq_true h1, decide_eq_true h2]; rfl
      clear hp
      obtain ⟨i0, i1, i2, i3⟩ := HI.out
      have I0 := Lib.hid i0
      have I1 := Lib.hid i1
      have I2 := Lib.hid i2
      have I3 := Lib.hid i3
      clear i0 i1 i2 i3 HI
      subst h1
      obtain ⟨β, hβ⟩ : ∃ β, chk ks (x0, x1, x2, x3) = β := ⟨_, rfl⟩
      have HC := Lib.hid hβ
      rw [hβ] at hp2
      clear hβ
      cases β
      · have HF := Lib.hid (HNx.out hp2)
        clear hp2 HNx
        go_wp2_with fail
        refine (spec_check_any p n c ks hR x0 x1 x2 x3 I0.out I1.out I2.out I3.out _ (HR.out.below HB.out)).mono ?_
        rintro e w1 ⟨rfl, hb⟩
        rw [HC.out]
        replace HB := Lib.hid (below_on HB.out hb)
        clear hb c0 c1 c2 c3
        go_wp2_with fail
        go_roundw
        case rel => exact ⟨k + 1, by omega, by go_num, HB, HF⟩
        case measure => simp [intOf]; omega
      · have HN := Lib.hid (next_at (k := k) (by rw [HL.out]; exact hlt) (by rw [HY.out]; exact hp2) HK.out).2
        clear hp2 HNx
        go_wp2_with fail
        refine (spec_check_any p n c ks hR x0 x1 x2 x3 I0.out I1.out I2.out I3.out _ (HR.out.below HB.out)).mono ?_
        rintro e w1 ⟨rfl, hb⟩
        rw [HC.out]
        replace HB := Lib.hid (below_on HB.out hb)
        obtain ⟨d0, d1, d2, d3⟩ := HAT.out.below hb hbb
        clear hb c0 c1 c2 c3
        go_wp2_with fail
        go_ret
        exact says (by rw [HN.out, HY.out]; try rfl) HB.out
    · obtain rfl : k = m := by omega
      have HN := Lib.hid (next_none (by rw [HL.out]; exact HK.out)).2
      go_wp2_with fail
      go_ret
      exact says (by rw [HN.out]; try rfl) HB.out
end Go.Proofs.Ytlipcnaimpplpaa.Nx
