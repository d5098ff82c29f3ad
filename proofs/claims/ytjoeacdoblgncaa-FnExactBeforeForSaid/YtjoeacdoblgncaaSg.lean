/- Contracts of the first signature of a digest by a key of an owner; in the program (slices.IndexFunc with a closure) and in the reference. -/
import Derived.Test.YtjoeacdoblgncaaIxSignature
import Derived.Test.YtjoeacdoblgncaaMSignature
import Derived.LoopTactic
namespace Go.Proofs.Ytjoeacdoblgncaa.Sg
open Go.ChangeShapes Go.WideShapes Go.ChangeAt Go.RowKit Go.Shelf Sl St Fnd Kn Kr Ki Km Ko SlSignature Gi Ge Gs
def ck (ks : List I5) : I9 → Bool := fun (x0, x1, x2, x3, x4, x5, x6, x7, x8) => (okG (x0, x1, x2, x3, x4, x5, x6, x7, x8) && checkM ks x0 [104, x0, x1, x2, x3, x4, x5, x6, x7] x8)
def sg (ks : List I5) (ow dg : Int) (y : I9) : Bool := decide (y.2.2.2.1 = dg) && (decide (ownerOf ks y.1 = ow) && ck ks y)
theorem says {b b' : Value} {w w' : World} (h : b' = b) (hb : Below w.heap.size w w') : SlSignature.Val b w (.returned b') w' := ⟨by rw [h], hb⟩
set_option maxRecDepth 100000 in
set_option maxHeartbeats 4000000 in
theorem signed_any (p : Option Addr) (n c : Nat) (ks : List I5) (hR : ∀ x ∈ ks, SlKey.InR x) (ow dg : Int) (x0 x1 x2 x3 x4 x5 x6 x7 x8 : Int) (h0 : -9223372036854775808 ≤ x0 ∧ x0 ≤ 9223372036854775807) (h1 : -9223372036854775808 ≤ x1 ∧ x1 ≤ 9223372036854775807) (h2 : -9223372036854775808 ≤ x2 ∧ x2 ≤ 9223372036854775807) (h3 : -9223372036854775808 ≤ x3 ∧ x3 ≤ 9223372036854775807) (h4 : -9223372036854775808 ≤ x4 ∧ x4 ≤ 9223372036854775807) (h5 : -9223372036854775808 ≤ x5 ∧ x5 ≤ 9223372036854775807) (h6 : -9223372036854775808 ≤ x6 ∧ x6 ≤ 9223372036854775807) (h7 : -9223372036854775808 ≤ x7 ∧ x7 ≤ 9223372036854775807) (h8 : -9223372036854775808 ≤ x8 ∧ x8 ≤ 9223372036854775807) (w : World) (hr : RdS SlKey.E w p n ks) : Calls Try.prog 81 #[.slice p n c, .agg #[.int .i64 x0, .int .i64 x1, .int .i64 x2, .int .i64 x3, .int .i64 x4, .int .i64 x5, .int .i64 x6, .int .i64 x7, .int .i64 x8], .int .i64 ow, .int .i64 dg] w (Val (.bool (sg ks ow dg (x0, x1, x2, x3, x4, x5, x6, x7, x8))) w) := by
  have HR := Lib.hid hr
  have HX := Lib.hid (Bx.new w 70 #[.int .i64 x0, .int .i64 x1, .int .i64 x2, .int .i64 x3, .int .i64 x4, .int .i64 x5, .int .i64 x6, .int .i64 x7, .int .i64 x8])
  have HB : Hid (Below w.heap.size w (w.alloc (.cells #[.int .i64 x0, .int .i64 x1, .int .i64 x2, .int .i64 x3, .int .i64 x4, .int .i64 x5, .int .i64 x6, .int .i64 x7, .int .i64 x8] 70))) := Lib.hid (Ki.box1 w _)
  have hs : sg ks ow dg (x0, x1, x2, x3, x4, x5, x6, x7, x8) = (decide (x3 = dg) && (decide (ownerOf ks x0 = ow) && (okG (x0, x1, x2, x3, x4, x5, x6, x7, x8) && checkM ks x0 [104, x0, x1, x2, x3, x4, x5, x6, x7] x8))) := rfl
  have G0 := Lib.hid h0
  have G1 := Lib.hid h1
  have G2 := Lib.hid h2
  have G3 := Lib.hid h3
  have G4 := Lib.hid h4
  have G5 := Lib.hid h5
  have G6 := Lib.hid h6
  have G7 := Lib.hid h7
  have G8 := Lib.hid h8
  clear h0 h1 h2 h3 h4 h5 h6 h7 h8
  clear hr
  by_cases h1 : x3 = dg
  rotate_left
  · have HS : Hid (sg ks ow dg (x0, x1, x2, x3, x4, x5, x6, x7, x8) = false) := Lib.hid (by rw [hs, decide_eq_false h1]; rfl)
    have e1 : (x3 == dg) = false := beq_eq_false_iff_ne.2 h1
    clear hs h1
    go_enter Try.func81, Try.ntmps81
    go_wp2_with fail
    go_ret
    exact says (by rw [HS.out]; try rfl) HB.out
  obtain ⟨ω, hω⟩ : ∃ ω, ownerOf ks x0 = ω := ⟨_, rfl⟩
  have HW := Lib.hid hω
  rw [hω] at hs
  clear hω
  by_cases h2 : ω = ow
  rotate_left
  · have HS : Hid (sg ks ow dg (x0, x1, x2, x3, x4, x5, x6, x7, x8) = false) := Lib.hid (by rw [hs, decide_eq_false h2]; simp)
    have e1 : (ω == ow) = false := beq_eq_false_iff_ne.2 h2
    clear hs h2
    subst h1
    go_enter Try.func81, Try.ntmps81
    go_wp2_with fail
    generalize (w.alloc (.cells #[.int .i64 x0, .int .i64 x1, .int .i64 x2, .int .i64 x3, .int .i64 x4, .int .i64 x5, .int .i64 x6, .int .i64 x7, .int .i64 x8] 70)) = V at HB HX ⊢
    refine (ownerOf_any p n c ks hR x0 G0.out _ (HR.out.below HB.out)).mono ?_
    rintro e w1 ⟨rfl, hb⟩
    rw [HW.out]
    replace HB := Lib.hid (below_on HB.out hb)
    replace HX := Lib.hid (HX.out.below hb)
    obtain ⟨c0, c1, c2, c3, c4, c5, c6, c7, c8⟩ := bxc HX.out
    clear hb
    go_wp2_with fail
    go_ret
    exact says (by rw [HS.out]; try rfl) HB.out
  have HS : Hid (sg ks ow dg (x0, x1, x2, x3, x4, x5, x6, x7, x8) = (okG (x0, x1, x2, x3, x4, x5, x6, x7, x8) && checkM ks x0 [104, x0, x1, x2, x3, x4, x5, x6, x7] x8)) := Lib.hid (by rw [hs, decide_eq_true h1, decide_eq_true h2]; rfl)
  clear hs
  subst h1
  subst h2
  go_enter Try.func81, Try.ntmps81
  go_wp2_with fail
  generalize (w.alloc (.cells #[.int .i64 x0, .int .i64 x1, .int .i64 x2, .int .i64 x3, .int .i64 x4, .int .i64 x5, .int .i64 x6, .int .i64 x7, .int .i64 x8] 70)) = V at HB HX ⊢
  refine (ownerOf_any p n c ks hR x0 G0.out _ (HR.out.below HB.out)).mono ?_
  rintro e w1 ⟨rfl, hb⟩
  rw [HW.out]
  replace HB := Lib.hid (below_on HB.out hb)
  replace HX := Lib.hid (HX.out.below hb)
  obtain ⟨c0, c1, c2, c3, c4, c5, c6, c7, c8⟩ := bxc HX.out
  clear hb
  go_wp2_with fail
  refine (MSignature.check_any p n c ks hR x0 x1 x2 x3 x4 x5 x6 x7 x8 G0.out G1.out G2.out G3.out G4.out G5.out G6.out G7.out G8.out _ (HR.out.below HB.out)).mono ?_
  rintro e w2 ⟨rfl, hb⟩
  replace HB := Lib.hid (below_on HB.out hb)
  clear hb c0 c1 c2 c3 c4 c5 c6 c7 c8
  go_wp2_with fail
  go_ret
  exact says (by rw [HS.out]; try rfl) HB.out
set_option maxRecDepth 100000 in
set_option maxHeartbeats 4000000 in
theorem pred_any (g1 g2 g3 : Nat) (p : Option Addr) (n c : Nat) (ks : List I5) (hR : ∀ x ∈ ks, SlKey.InR x) (ow dg : Int) (x0 x1 x2 x3 x4 x5 x6 x7 x8 : Int) (h0 : -9223372036854775808 ≤ x0 ∧ x0 ≤ 9223372036854775807) (h1 : -9223372036854775808 ≤ x1 ∧ x1 ≤ 9223372036854775807) (h2 : -9223372036854775808 ≤ x2 ∧ x2 ≤ 9223372036854775807) (h3 : -9223372036854775808 ≤ x3 ∧ x3 ≤ 9223372036854775807) (h4 : -9223372036854775808 ≤ x4 ∧ x4 ≤ 9223372036854775807) (h5 : -9223372036854775808 ≤ x5 ∧ x5 ≤ 9223372036854775807) (h6 : -9223372036854775808 ≤ x6 ∧ x6 ≤ 9223372036854775807) (h7 : -9223372036854775808 ≤ x7 ∧ x7 ≤ 9223372036854775807) (h8 : -9223372036854775808 ≤ x8 ∧ x8 ≤ 9223372036854775807) (w : World) (hk : Bx w g1 31 #[.slice p n c]) (ha : Bx w g2 3 #[.int .i64 ow]) (hc : Bx w g3 3 #[.int .i64 dg]) (hr : RdS SlKey.E w p n ks) : Calls Try.prog 83 #[.agg #[.int .i64 x0, .int .i64 x1, .int .i64 x2, .int .i64 x3, .int .i64 x4, .int .i64 x5, .int .i64 x6, .int .i64 x7, .int .i64 x8], .pointer (some ⟨g1, 0, none⟩), .pointer (some ⟨g2, 0, none⟩), .pointer (some ⟨g3, 0, none⟩)] w fun e w' => e = .returned (.bool (sg ks ow dg (x0, x1, x2, x3, x4, x5, x6, x7, x8))) ∧ Below w.heap.size w w' := by
  have HR := Lib.hid hr
  have HA := Lib.hid (ha.alloc (.cells #[.int .i64 x0, .int .i64 x1, .int .i64 x2, .int .i64 x3, .int .i64 x4, .int .i64 x5, .int .i64 x6, .int .i64 x7, .int .i64 x8] 70))
  have HC := Lib.hid (hc.alloc (.cells #[.int .i64 x0, .int .i64 x1, .int .i64 x2, .int .i64 x3, .int .i64 x4, .int .i64 x5, .int .i64 x6, .int .i64 x7, .int .i64 x8] 70))
  have HK' := Lib.hid (hk.alloc (.cells #[.int .i64 x0, .int .i64 x1, .int .i64 x2, .int .i64 x3, .int .i64 x4, .int .i64 x5, .int .i64 x6, .int .i64 x7, .int .i64 x8] 70))
  have HB : Hid (Below w.heap.size w (w.alloc (.cells #[.int .i64 x0, .int .i64 x1, .int .i64 x2, .int .i64 x3, .int .i64 x4, .int .i64 x5, .int .i64 x6, .int .i64 x7, .int .i64 x8] 70))) := Lib.hid (Ki.box1 w _)
  have k1 := HA.out.cell (j := 0) rfl
  have k2 := HC.out.cell (j := 0) rfl
  have k3 := HK'.out.cell (j := 0) rfl
  have G0 := Lib.hid h0
  have G1 := Lib.hid h1
  have G2 := Lib.hid h2
  have G3 := Lib.hid h3
  have G4 := Lib.hid h4
  have G5 := Lib.hid h5
  have G6 := Lib.hid h6
  have G7 := Lib.hid h7
  have G8 := Lib.hid h8
  clear h0 h1 h2 h3 h4 h5 h6 h7 h8
  clear ha hc hk hr
  go_enter Try.func83, Try.ntmps83
  go_wp2_with fail
  refine (signed_any p n c ks hR ow dg x0 x1 x2 x3 x4 x5 x6 x7 x8 G0.out G1.out G2.out G3.out G4.out G5.out G6.out G7.out G8.out _ (HR.out.below HB.out)).mono ?_
  rintro e w1 ⟨rfl, hb⟩
  replace HB := Lib.hid (below_on HB.out hb)
  clear hb
  go_wp2_with fail
  go_ret
  exact ⟨rfl, HB.out⟩
set_option maxRecDepth 100000 in
set_option maxHeartbeats 4000000 in
theorem sigOf_any (p : Option Addr) (n c : Nat) (ks : List I5) (hR : ∀ x ∈ ks, SlKey.InR x) (q : Option Addr) (m c' : Nat) (xs : List I9) (hX : ∀ x ∈ xs, InR x) (ow dg : Int) (w : World) (hr : RdS SlKey.E w p n ks) (hs : RdS E w q m xs) : Calls Try.prog 58 #[.slice p n c, .slice q m c', .int .i64 ow, .int .i64 dg] w (Val (.int .i64 (first (sg ks ow dg) xs)) w) := by
  have b3 := ((Bx.new w 31 #[.slice p n c]).alloc (.cells #[.int .i64 ow] 3)).alloc (.cells #[.int .i64 dg] 3)
  have b1 := (Bx.new (w.alloc (.cells #[.slice p n c] 31)) 3 #[.int .i64 ow]).alloc (.cells #[.int .i64 dg] 3)
  have b2 := Bx.new ((w.alloc (.cells #[.slice p n c] 31)).alloc (.cells #[.int .i64 ow] 3)) 3 #[.int .i64 dg]
  rw [World.size_alloc] at b1
  rw [World.size_alloc, World.size_alloc] at b2
  have HB : Hid (Below w.heap.size w (((w.alloc (.cells #[.slice p n c] 31)).alloc (.cells #[.int .i64 ow] 3)).alloc (.cells #[.int .i64 dg] 3))) := Lib.hid ((((Below.refl w.heap.size w).alloc (Nat.le_refl _) _).alloc (by simp) _).alloc (by simp; omega) _)
  have HS := Lib.hid (hs.below HB.out)
  have HR := Lib.hid (hr.below HB.out)
  have H1 := Lib.hid b1
  have H2 := Lib.hid b2
  have H3 := Lib.hid b3
  clear b1 b2 b3 hr hs
  have HP : Hid (∀ (W : World) (x : I9), InR x → Below (((w.alloc (.cells #[.slice p n c] 31)).alloc (.cells #[.int .i64 ow] 3)).alloc (.cells #[.int .i64 dg] 3)).heap.size (((w.alloc (.cells #[.slice p n c] 31)).alloc (.cells #[.int .i64 ow] 3)).alloc (.cells #[.int .i64 dg] 3)) W → Calls Try.prog 83 (#[.agg (E.of x).toArray] ++ #[.pointer (some ⟨w.heap.size, 0, none⟩), .pointer (some ⟨w.heap.size + 1, 0, none⟩), .pointer (some ⟨w.heap.size + 1 + 1, 0, none⟩)]) W fun e w' => e = .returned (.bool (sg ks ow dg x)) ∧ Below (((w.alloc (.cells #[.slice p n c] 31)).alloc (.cells #[.int .i64 ow] 3)).alloc (.cells #[.int .i64 dg] 3)).heap.size (((w.alloc (.cells #[.slice p n c] 31)).alloc (.cells #[.int .i64 ow] 3)).alloc (.cells #[.int .i64 dg] 3)) w') := Lib.hid (fun W x hx hb => by
    obtain ⟨x0, x1, x2, x3, x4, x5, x6, x7, x8⟩ := x
    obtain ⟨i0, i1, i2, i3, i4, i5, i6, i7, i8⟩ := hx
    refine (pred_any _ _ _ p n c ks hR ow dg x0 x1 x2 x3 x4 x5 x6 x7 x8 i0 i1 i2 i3 i4 i5 i6 i7 i8 W (H3.out.below hb) (H1.out.below hb) (H2.out.below hb) (HR.out.below hb)).mono ?_
    rintro e w' ⟨he, hb'⟩
    exact ⟨he, below_on hb hb'⟩)
  go_enter Try.func58, Try.ntmps58
  go_wp2_with fail
  generalize (((w.alloc (.cells #[.slice p n c] 31)).alloc (.cells #[.int .i64 ow] 3)).alloc (.cells #[.int .i64 dg] 3)) = V at HB HS HR H1 H2 H3 HP ⊢
  refine (IxSignature.index_any (sg ks ow dg) _ _ (enters_of Try.func83 (by kernel_rfl) rfl) q m c' xs hX _ HS.out HP.out).mono ?_
  rintro e w1 ⟨rfl, hb⟩
  replace HB := Lib.hid (below_on HB.out hb)
  clear hb HP
  go_wp2_with fail
  go_ret
  exact says rfl HB.out
set_option maxRecDepth 100000 in
set_option maxHeartbeats 8000000 in
theorem spec_sigOf_any (p : Option Addr) (n c : Nat) (ks : List I5) (hR : ∀ x ∈ ks, SlKey.InR x) (q : Option Addr) (m c' : Nat) (xs : List I9) (hX : ∀ x ∈ xs, InR x) (ow dg : Int) (w : World) (hr : RdS SlKey.E w p n ks) (hs : RdS E w q m xs) : Calls Try.prog 46 #[.slice p n c, .slice q m c', .int .i64 ow, .int .i64 dg] w (Val (.int .i64 (first (sg ks ow dg) xs)) w) := by
  have HR := Lib.hid hr
  have HS := Lib.hid hs
  have HL := Lib.hid hs.len
  have hle := hs.le
  clear hr hs
  go_enter Try.func46, Try.ntmps46
  go_wp2_with fail
  go_loopw [9] (fun i wr => ∃ k : Nat, k ≤ m ∧ i = .int .i64 k ∧ Hid (Below w.heap.size w wr) ∧ Hid (∀ j, j < k → sg ks ow dg (xs.getD j zero) = false)) (fun i _ => m - (intOf i).toNat)
  case atStart => exact ⟨0, Nat.zero_le _, rfl, Lib.hid (Below.refl _ _), Lib.hid fun j h => by omega⟩
  case round =>
    obtain ⟨k, hk, rfl, HB, HK⟩ := hrel
    by_cases hlt : k < m
    · obtain ⟨b, o, rfl, hbb, hat⟩ := rd_at (HS.out.below HB.out) hlt
      have HI := Lib.hid (hX (xs.getD k zero) (getD_mem zero (by rw [HL.out]; exact hlt)))
      generalize hy : xs.getD k zero = y at hat HI
      have HY := Lib.hid hy
      clear hy
      obtain ⟨x0, x1, x2, x3, x4, x5, x6, x7, x8⟩ := y
      have hp : sg ks ow dg (x0, x1, x2, x3, x4, x5, x6, x7, x8) = (decide (x3 = dg) && (decide (ownerOf ks x0 = ow) && (okG (x0, x1, x2, x3, x4, x5, x6, x7, x8) && checkM ks x0 [104, x0, x1, x2, x3, x4, x5, x6, x7] x8))) := rfl
      have HNx : Hid (sg ks ow dg (x0, x1, x2, x3, x4, x5, x6, x7, x8) = false → ∀ j, j < k + 1 → sg ks ow dg (xs.getD j zero) = false) := Lib.hid fun h j hj => by
        rcases Nat.lt_succ_iff_lt_or_eq.1 hj with h' | rfl
        · exact HK.out j h'
        · rw [HY.out]; exact h
      have HAT := Lib.hid hat
      obtain ⟨c0, c1, c2, c3, c4, c5, c6, c7, c8⟩ := hat
      obtain ⟨i0, i1, i2, i3, i4, i5, i6, i7, i8⟩ := HI.out
      have I0 := Lib.hid i0
      have I1 := Lib.hid i1
      have I2 := Lib.hid i2
      have I3 := Lib.hid i3
      have I4 := Lib.hid i4
      have I5 := Lib.hid i5
      have I6 := Lib.hid i6
      have I7 := Lib.hid i7
      have I8 := Lib.hid i8
      clear i0 i1 i2 i3 i4 i5 i6 i7 i8 HI
      obtain ⟨β, hβ⟩ : ∃ β, (okG (x0, x1, x2, x3, x4, x5, x6, x7, x8) && checkM ks x0 [104, x0, x1, x2, x3, x4, x5, x6, x7] x8) = β := ⟨_, rfl⟩
      have HC := Lib.hid hβ
      rw [hβ] at hp
      clear hβ
      cases β
      · have HF := Lib.hid (HNx.out (by rw [hp]; simp))
        clear hp HNx
        go_wp2_with fail
        refine (MSignature.spec_check_any p n c ks hR x0 x1 x2 x3 x4 x5 x6 x7 x8 I0.out I1.out I2.out I3.out I4.out I5.out I6.out I7.out I8.out _ (HR.out.below HB.out)).mono ?_
        rintro e w1 ⟨rfl, hb⟩
        rw [HC.out]
        replace HB := Lib.hid (below_on HB.out hb)
        replace HAT := Lib.hid (HAT.out.below hb hbb)
        have hbb1 : b < w1.heap.size := Nat.lt_of_lt_of_le hbb hb.size
        clear hb c0 c1 c2 c3 c4 c5 c6 c7 c8
        clear hbb1
        go_wp2_with fail
        go_roundw
        case rel => exact ⟨k + 1, by omega, by go_num, HB, HF⟩
        case measure => simp [intOf]; omega
      obtain ⟨ω, hω⟩ : ∃ ω, ownerOf ks x0 = ω := ⟨_, rfl⟩
      have HW := Lib.hid hω
      rw [hω] at hp
      clear hω
      by_cases h2 : ω = ow
      rotate_left
      · have HF := Lib.hid (HNx.out (by rw [hp, decide_eq_false h2]; simp))
        have e1 : (ω == ow) = false := beq_eq_false_iff_ne.2 h2
        clear hp HNx h2
        go_wp2_with fail
        refine (MSignature.spec_check_any p n c ks hR x0 x1 x2 x3 x4 x5 x6 x7 x8 I0.out I1.out I2.out I3.out I4.out I5.out I6.out I7.out I8.out _ (HR.out.below HB.out)).mono ?_
        rintro e w1 ⟨rfl, hb⟩
        rw [HC.out]
        replace HB := Lib.hid (below_on HB.out hb)
        replace HAT := Lib.hid (HAT.out.below hb hbb)
        have hbb1 : b < w1.heap.size := Nat.lt_of_lt_of_le hbb hb.size
        clear hb c0 c1 c2 c3 c4 c5 c6 c7 c8
        obtain ⟨c0, c1, c2, c3, c4, c5, c6, c7, c8⟩ := HAT.out
        go_wp2_with fail
        refine (spec_ownerOf_any p n c ks x0 _ (HR.out.below HB.out)).mono ?_
        rintro e w2 ⟨rfl, hb⟩
        rw [HW.out]
        replace HB := Lib.hid (below_on HB.out hb)
        replace HAT := Lib.hid (HAT.out.below hb hbb1)
        clear hb c0 c1 c2 c3 c4 c5 c6 c7 c8
        obtain ⟨c0, c1, c2, c3, c4, c5, c6, c7, c8⟩ := HAT.out
        go_wp2_with fail
        go_roundw
        case rel => exact ⟨k + 1, by omega, by go_num, HB, HF⟩
        case measure => simp [intOf]; omega
      by_cases h1 : x3 = dg
      rotate_left
      · have HF := Lib.hid (HNx.out (by rw [hp, decide_eq_false h1]; rfl))
        have e1 : (x3 == dg) = false := beq_eq_false_iff_ne.2 h1
        clear hp HNx h1
        subst h2
        go_wp2_with fail
        refine (MSignature.spec_check_any p n c ks hR x0 x1 x2 x3 x4 x5 x6 x7 x8 I0.out I1.out I2.out I3.out I4.out I5.out I6.out I7.out I8.out _ (HR.out.below HB.out)).mono ?_
        rintro e w1 ⟨rfl, hb⟩
        rw [HC.out]
        replace HB := Lib.hid (below_on HB.out hb)
        replace HAT := Lib.hid (HAT.out.below hb hbb)
        have hbb1 : b < w1.heap.size := Nat.lt_of_lt_of_le hbb hb.size
        clear hb c0 c1 c2 c3 c4 c5 c6 c7 c8
        obtain ⟨c0, c1, c2, c3, c4, c5, c6, c7, c8⟩ := HAT.out
        go_wp2_with fail
        refine (spec_ownerOf_any p n c ks x0 _ (HR.out.below HB.out)).mono ?_
        rintro e w2 ⟨rfl, hb⟩
        rw [HW.out]
        replace HB := Lib.hid (below_on HB.out hb)
        replace HAT := Lib.hid (HAT.out.below hb hbb1)
        clear hb c0 c1 c2 c3 c4 c5 c6 c7 c8
        obtain ⟨c0, c1, c2, c3, c4, c5, c6, c7, c8⟩ := HAT.out
        go_wp2_with fail
        go_roundw
        case rel => exact ⟨k + 1, by omega, by go_num, HB, HF⟩
        case measure => simp [intOf]; omega
      have HN := Lib.hid (first_at (p := sg ks ow dg) (z := zero) (l := xs) (k := k) (by rw [HL.out]; exact hlt) (by rw [HY.out, hp, decide_eq_true h1, decide_eq_true h2]; rfl) HK.out)
      clear hp HNx
      subst h1
      subst h2
      go_wp2_with fail
      refine (MSignature.spec_check_any p n c ks hR x0 x1 x2 x3 x4 x5 x6 x7 x8 I0.out I1.out I2.out I3.out I4.out I5.out I6.out I7.out I8.out _ (HR.out.below HB.out)).mono ?_
      rintro e w1 ⟨rfl, hb⟩
      rw [HC.out]
      replace HB := Lib.hid (below_on HB.out hb)
      replace HAT := Lib.hid (HAT.out.below hb hbb)
      have hbb1 : b < w1.heap.size := Nat.lt_of_lt_of_le hbb hb.size
      clear hb c0 c1 c2 c3 c4 c5 c6 c7 c8
      obtain ⟨c0, c1, c2, c3, c4, c5, c6, c7, c8⟩ := HAT.out
      go_wp2_with fail
      refine (spec_ownerOf_any p n c ks x0 _ (HR.out.below HB.out)).mono ?_
      rintro e w2 ⟨rfl, hb⟩
      rw [HW.out]
      replace HB := Lib.hid (below_on HB.out hb)
      replace HAT := Lib.hid (HAT.out.below hb hbb1)
      clear hb c0 c1 c2 c3 c4 c5 c6 c7 c8
      obtain ⟨c0, c1, c2, c3, c4, c5, c6, c7, c8⟩ := HAT.out
      go_wp2_with fail
      go_ret
      exact says (by rw [HN.out]; try rfl) HB.out
    · obtain rfl : k = m := by omega
      have HN := Lib.hid (first_none (p := sg ks ow dg) (z := zero) (l := xs) (by rw [HL.out]; exact HK.out))
      go_wp2_with fail
      go_ret
      exact says (by rw [HN.out]; try rfl) HB.out
end Go.Proofs.Ytjoeacdoblgncaa.Sg
