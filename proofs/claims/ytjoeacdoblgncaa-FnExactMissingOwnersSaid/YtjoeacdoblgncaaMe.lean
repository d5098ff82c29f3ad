/- Contracts of signing together: who has signed in turn, a chain, a rule that is met, what comes before; in the program and in the reference. -/
import Derived.Test.YtjoeacdoblgncaaMo
import Derived.Test.YtjoeacdoblgncaaIr
import Derived.Test.YtjoeacdoblgncaaGd
import Derived.Test.YtjoeacdoblgncaaQt
import Derived.Deep.LoopGhost
import Derived.LoopTactic
import Derived.Outline
namespace Go.Proofs.Ytjoeacdoblgncaa.Me
open Go.ChangeShapes Go.WideShapes Go.ChangeAt Go.RowKit Go.Shelf Sl St Fnd Kn Kr Ki Km Ko SlSignature Gi Ge Gs Sg Mo Ir
def pv (ks : List I5) (xs : List I9) (dg ow : Int) : I9 := xs.getD (first (sg ks ow dg) xs).toNat zero
/-- how many come ahead of the first that is so -/
def led (f : Int → Bool) : List Int → Nat
  | [] => 0
  | x :: r => if f x = true then 0 else led f r + 1
theorem led_eq {f : Int → Bool} : ∀ {l : List Int} {j : Nat}, j ≤ l.length → (∀ i, i < j → f (l.getD i 0) = false) → (j < l.length → f (l.getD j 0) = true) → led f l = j
  | [], j, h, _, _ => by
    have : j = 0 := by simpa using h
    rw [this]; rfl
  | x :: r, 0, _, _, h3 => by
    have h := h3 (by simp)
    rw [List.getD_cons_zero] at h
    rw [led, if_pos h]
  | x :: r, j + 1, h1, h2, h3 => by
    have h0 := h2 0 (by omega)
    rw [List.getD_cons_zero] at h0
    have ih := led_eq (f := f) (l := r) (j := j) (by simpa using h1) (fun i hi => by have := h2 (i + 1) (by omega); rwa [List.getD_cons_succ] at this) (fun hj => by have := h3 (by simpa using hj); rwa [List.getD_cons_succ] at this)
    rw [led, if_neg (by rw [h0]; simp), ih]
theorem led_le (f : Int → Bool) : ∀ l : List Int, led f l ≤ l.length
  | [] => Nat.le_refl _
  | x :: r => by
    have ih := led_le f r
    rw [led]
    split
    · exact Nat.zero_le _
    · simp; exact ih
theorem led_no (f : Int → Bool) : ∀ (l : List Int) (i : Nat), i < led f l → f (l.getD i 0) = false
  | [], i, h => by simp [led] at h
  | x :: r, i, h => by
    rw [led] at h
    by_cases hx : f x = true
    · rw [if_pos hx] at h; omega
    · rw [if_neg hx] at h
      cases i with
      | zero => rw [List.getD_cons_zero]; simpa using hx
      | succ i => rw [List.getD_cons_succ]; exact led_no f r i (by omega)
theorem led_yes (f : Int → Bool) : ∀ l : List Int, led f l < l.length → f (l.getD (led f l) 0) = true
  | [], h => by simp at h
  | x :: r, h => by
    by_cases hx : f x = true
    · rw [led, if_pos hx, List.getD_cons_zero]; exact hx
    · rw [led, if_neg hx] at h ⊢
      rw [List.getD_cons_succ]
      exact led_yes f r (by simpa using h)
theorem next_led (f : Int → Bool) : ∀ l : List Int, nextO (l.filter f) = if led f l < l.length then l.getD (led f l) 0 else -1
  | [] => rfl
  | x :: r => by
    have ih := next_led f r
    by_cases hx : f x = true
    · rw [List.filter_cons_of_pos hx, led, if_pos hx, if_pos (by simp)]; rfl
    · rw [List.filter_cons_of_neg hx, led, if_neg hx, ih, List.getD_cons_succ]
      by_cases h : led f r < r.length
      · rw [if_pos h, if_pos (by simpa using h)]
      · rw [if_neg h, if_neg (by simpa using h)]
def signedL (ks : List I5) (xs : List I9) (dg : Int) (ows : List Int) : List I9 := (ows.take (led (isMiss ks xs dg) ows)).map (pv ks xs dg)
theorem signedL_at {ks : List I5} {xs : List I9} {dg : Int} {ows : List Int} {k : Nat} (hk : k ≤ ows.length) (h : ∀ i, i < k → isMiss ks xs dg (ows.getD i 0) = false) (he : k < ows.length → isMiss ks xs dg (ows.getD k 0) = true) : (ows.take k).map (pv ks xs dg) = signedL ks xs dg ows := by
  unfold signedL
  rw [led_eq hk h he]
theorem pv_next {ks : List I5} {xs : List I9} {dg x : Int} {ows : List Int} {k : Nat} {y : I9} (hk : k < ows.length) (hx : ows.getD k 0 = x) (hy : pv ks xs dg x = y) : (ows.take (k + 1)).map (pv ks xs dg) = (ows.take k).map (pv ks xs dg) ++ [y] := by
  rw [take_succ 0 hk, List.map_append, hx, List.map_cons, List.map_nil, hy]
theorem pv_at {ks : List I5} {xs : List I9} {dg x : Int} {j : Nat} {y : I9} (hj : j < xs.length) (hy : xs.getD j zero = y) (h : sg ks x dg y = true) (hn : ∀ t, t < j → sg ks x dg (xs.getD t zero) = false) : pv ks xs dg x = y ∧ isMiss ks xs dg x = false := by
  have h1 := first_at (p := sg ks x dg) (z := zero) hj (by rw [hy]; exact h) hn
  refine ⟨?_, isMiss_no h1 (by omega)⟩
  unfold pv
  rw [h1, Int.toNat_natCast, hy]
theorem miss_none {ks : List I5} {xs : List I9} {dg x : Int} (h : ∀ t, t < xs.length → sg ks x dg (xs.getD t zero) = false) : isMiss ks xs dg x = true := isMiss_yes (first_none (z := zero) h) (by omega)
theorem all_next {f : Int → Bool} {ows : List Int} {k : Nat} {x : Int} (h : ∀ i, i < k → f (ows.getD i 0) = false) (hx : ows.getD k 0 = x) (hf : f x = false) : ∀ i, i < k + 1 → f (ows.getD i 0) = false := fun i hi => by
  rcases Nat.lt_succ_iff_lt_or_eq.1 hi with h' | rfl
  · exact h i h'
  · rw [hx]; exact hf
def SWay (ks : List I5) (xs : List I9) (dg : Int) (ows : List Int) (k : Nat) (pw : Option Addr) (cw : Nat) (V wr : World) : Prop := OwS E 70 wr V.heap.size wr.heap.size pw k cw ((ows.take k).map (pv ks xs dg)) ∧ Below V.heap.size V wr
theorem SWay.on {ks : List I5} {xs : List I9} {dg : Int} {ows : List Int} {k : Nat} {pw : Option Addr} {cw : Nat} {V wr w1 : World} (h : SWay ks xs dg ows k pw cw V wr) (hb : Below wr.heap.size wr w1) : SWay ks xs dg ows k pw cw V w1 := ⟨(h.1.below hb).wide (Nat.le_refl _) hb.size (Nat.le_refl _), below_on h.2 hb⟩
theorem one_sig (w : World) (x0 x1 x2 x3 x4 x5 x6 x7 x8 : Int) : RdS E (w.alloc (.cells #[.int .i64 x0, .int .i64 x1, .int .i64 x2, .int .i64 x3, .int .i64 x4, .int .i64 x5, .int .i64 x6, .int .i64 x7, .int .i64 x8] 70)) (some ⟨w.heap.size, 0, none⟩) 1 [(x0, x1, x2, x3, x4, x5, x6, x7, x8)] := (lit_own E 70 w 0 [(x0, x1, x2, x3, x4, x5, x6, x7, x8)] #[.int .i64 x0, .int .i64 x1, .int .i64 x2, .int .i64 x3, .int .i64 x4, .int .i64 x5, .int .i64 x6, .int .i64 x7, .int .i64 x8] 1 (by rw [fl_one]; rfl) rfl (by unfold maxLen; omega) (Nat.zero_le _)).rd
set_option maxRecDepth 100000 in
set_option maxHeartbeats 8000000 in
theorem turn_any (p : Option Addr) (n c : Nat) (ks : List I5) (hR : ∀ x ∈ ks, SlKey.InR x) (po : Option Addr) (no co : Nat) (io : Bool) (ows : List Int) (q : Option Addr) (m c' : Nat) (xs : List I9) (hX : ∀ x ∈ xs, InR x) (dg : Int) (w : World) (hr : RdS SlKey.E w p n ks) (ho : Rd .i64 w po no ows) (hs : RdS E w q m xs) (hn : no ≤ 10000000) : Calls Try.prog 52 #[.slice p n c, .agg #[.slice po no co, .bool io], .slice q m c', .int .i64 dg] w (SlSignature.Makes (signedL ks xs dg ows) w) := by
  obtain ⟨i0, hi, hz0, hz1, hz2⟩ := info_parts SlSignature.info
  have hb := Ki.box1 w (.cells #[.slice po no co, .bool io] 33)
  have HB := Lib.hid hb
  have HX' := Lib.hid (Bx.new w 33 #[.slice po no co, .bool io])
  have HS := Lib.hid (hs.below hb)
  have HSL := Lib.hid hs.len
  have HR := Lib.hid (hr.below hb)
  have HO := Lib.hid (ho.below hb)
  have HL := Lib.hid ho.len
  have hmle := hs.le
  have HV : Hid ((w.alloc (.cells #[.slice po no co, .bool io] 33)).heap.size = w.heap.size + 1) := Lib.hid (by rw [World.size_alloc])
  clear hb hr hs ho
  go_enter Try.func52, Try.ntmps52
  go_wp2_with fail
  go_step3
  go_wp2_with fail
  generalize w.alloc (.cells #[.slice po no co, .bool io] 33) = V at HB HX' HS HR HO HV ⊢
  have h0 := lit_own E 70 V V.heap.size [] #[] 0 rfl rfl (by unfold maxLen; omega) (Nat.le_refl _)
  have e0 : (some ⟨V.heap.size, 0, none⟩ : Option Addr) = some ⟨w.heap.size + 1, 0, none⟩ := by rw [HV.out]
  rw [e0] at h0
  have HM : Hid (SWay ks xs dg ows 0 (some ⟨w.heap.size + 1, 0, none⟩) 0 V (V.alloc (.cells #[] 70))) := Lib.hid ⟨h0, (Below.refl _ _).alloc (Nat.le_refl _) _⟩
  clear h0 e0
  obtain ⟨q0, q1⟩ := SlRule.bx2 (HX'.out.alloc (.cells #[] 70))
  go_step3
  go_wp2_with fail
  clear q0 q1
  go_loopg [9, 18] no (fun g v i wr => ∃ (k cw : Nat) (pw : Option Addr), k + g = no ∧ i = .int .i64 k ∧ v = .slice pw k cw ∧ Hid (SWay ks xs dg ows k pw cw V wr) ∧ Hid (∀ i, i < k → isMiss ks xs dg (ows.getD i 0) = false))
  case atStart => exact ⟨0, _, _, by omega, rfl, rfl, HM, Lib.hid fun i h => by omega⟩
  case round =>
    obtain ⟨k, cw, pw, hkg, rfl, rfl, HK, HA⟩ := hrel
    cases gk with
    | zero =>
      have hkz : ¬ (k : Int) < (no : Int) := by omega
      have hkn : k = no := by omega
      have HE := Lib.hid (signedL_at (ks := ks) (xs := xs) (dg := dg) (ows := ows) (k := k) (by rw [HL.out]; omega) HA.out (fun h => by rw [HL.out] at h; omega))
      clear hkg hkn
      go_wp2_with fail
      try rw [Exit.noGoto_ret]
      go_ret
      exact ⟨_, _, _, rfl, by have h := HK.out.1.wide HB.out.size (Nat.le_refl _) (Nat.le_refl _); rw [HE.out] at h; exact h, below_on HB.out HK.out.2⟩
    | succ g =>
      have hlt : k < no := by omega
      have hkz : (k : Int) < (no : Int) := by omega
      obtain ⟨b, o, rfl, hbb, hat⟩ := HO.out.at_below HK.out.2 hlt
      have HKX : Hid (k < ows.length) := Lib.hid (by rw [HL.out]; exact hlt)
      generalize hx : ows.getD k 0 = x at hat
      have HXx := Lib.hid hx
      clear hx hlt
      go_wp2_with fail
      clear hat
      obtain ⟨W1, rfl⟩ : ∃ W1, W1 = wr := ⟨_, rfl⟩
      go_loopg [9, 24] m (fun h v i wy => ∃ j : Nat, j + h = m ∧ i = .int .i64 j ∧ v = .slice pw k cw ∧ Hid (Below W1.heap.size W1 wy) ∧ Hid (∀ t, t < j → sg ks x dg (xs.getD t zero) = false))
      case atStart => exact ⟨0, by omega, rfl, rfl, Lib.hid (Below.refl _ _), Lib.hid fun t h => by omega⟩
      case round =>
        obtain ⟨j, hjh, rfl, rfl, HBi, HN⟩ := hrel
        cases gk with
        | zero =>
          have hjz : ¬ (j : Int) < (m : Int) := by omega
          have hjm : j = m := by omega
          have HE := Lib.hid (signedL_at (ks := ks) (xs := xs) (dg := dg) (ows := ows) (k := k) (by have := HKX.out; omega) HA.out (fun h => by rw [HXx.out]; exact miss_none (by rw [HSL.out, ← hjm]; exact HN.out)))
          have HK1 := Lib.hid (HK.out.on HBi.out)
          clear hjh hjm
          go_wp2_with fail
          try rw [Exit.noGoto_ret]
          go_ret
          exact ⟨_, _, _, rfl, by have h := HK1.out.1.wide HB.out.size (Nat.le_refl _) (Nat.le_refl _); rw [HE.out] at h; exact h, below_on HB.out HK1.out.2⟩
        | succ h =>
          have hjt : j < m := by omega
          have hjz : (j : Int) < (m : Int) := by omega
          have HK1 := Lib.hid (HK.out.on HBi.out)
          obtain ⟨b2, o2, rfl, hb2, hat⟩ := rd_at (HS.out.below HK1.out.2) hjt
          have HJX : Hid (j < xs.length) := Lib.hid (by rw [HSL.out]; exact hjt)
          have HI := Lib.hid (hX (xs.getD j zero) (getD_mem zero HJX.out))
          generalize hy : xs.getD j zero = y at hat HI
          have HY := Lib.hid hy
          clear hy hjt
          obtain ⟨x0, x1, x2, x3, x4, x5, x6, x7, x8⟩ := y
          obtain ⟨c0, c1, c2, c3, c4, c5, c6, c7, c8⟩ := hat
          obtain ⟨ii0, ii1, ii2, ii3, ii4, ii5, ii6, ii7, ii8⟩ := HI.out
          have I0 := Lib.hid ii0
          have I1 := Lib.hid ii1
          have I2 := Lib.hid ii2
          have I3 := Lib.hid ii3
          have I4 := Lib.hid ii4
          have I5 := Lib.hid ii5
          have I6 := Lib.hid ii6
          have I7 := Lib.hid ii7
          have I8 := Lib.hid ii8
          clear ii0 ii1 ii2 ii3 ii4 ii5 ii6 ii7 ii8
          have HBx := Lib.hid (Bx.new wr 70 #[.int .i64 x0, .int .i64 x1, .int .i64 x2, .int .i64 x3, .int .i64 x4, .int .i64 x5, .int .i64 x6, .int .i64 x7, .int .i64 x8])
          have HWa := Lib.hid (Ki.box1 wr (.cells #[.int .i64 x0, .int .i64 x1, .int .i64 x2, .int .i64 x3, .int .i64 x4, .int .i64 x5, .int .i64 x6, .int .i64 x7, .int .i64 x8] 70))
          obtain ⟨β, hβ⟩ : ∃ β, sg ks x dg (x0, x1, x2, x3, x4, x5, x6, x7, x8) = β := ⟨_, rfl⟩
          have HC := Lib.hid hβ
          clear hβ
          cases β
          · go_wp2_with fail
            clear c0 c1 c2 c3 c4 c5 c6 c7 c8
            refine (signed_any p n c ks hR x dg x0 x1 x2 x3 x4 x5 x6 x7 x8 I0.out I1.out I2.out I3.out I4.out I5.out I6.out I7.out I8.out _ (HR.out.below (below_on HK1.out.2 HWa.out))).mono ?_
            rintro e w1 ⟨rfl, hb⟩
            rw [HC.out]
            have HB2 := Lib.hid (below_on HBi.out (below_on HWa.out hb))
            have HN2 : Hid (∀ t, t < j + 1 → sg ks x dg (xs.getD t zero) = false) := Lib.hid fun t ht => by
              rcases Nat.lt_succ_iff_lt_or_eq.1 ht with h' | rfl
              · exact HN.out t h'
              · rw [HY.out]; exact HC.out
            clear hb
            go_wp2_with fail
            go_roundg h
            case measure => omega
            case rel => exact ⟨j + 1, by omega, by go_num, rfl, HB2, HN2⟩
          · have HP := Lib.hid (pv_at (ks := ks) (x := x) HJX.out HY.out HC.out HN.out)
            go_wp2_with fail
            clear c0 c1 c2 c3 c4 c5 c6 c7 c8
            refine (signed_any p n c ks hR x dg x0 x1 x2 x3 x4 x5 x6 x7 x8 I0.out I1.out I2.out I3.out I4.out I5.out I6.out I7.out I8.out _ (HR.out.below (below_on HK1.out.2 HWa.out))).mono ?_
            rintro e w1 ⟨rfl, hb⟩
            rw [HC.out]
            have HK2 := Lib.hid (HK1.out.on (below_on HWa.out hb))
            have HT := Lib.hid (pv_next (ks := ks) (xs := xs) (dg := dg) HKX.out HXx.out HP.out.1)
            have HA2 := Lib.hid (all_next HA.out HXx.out HP.out.2)
            have hsz := HK2.out.2.size
            have HLit := Lib.hid (one_sig w1 x0 x1 x2 x3 x4 x5 x6 x7 x8)
            obtain ⟨d0, d1, d2, d3, d4, d5, d6, d7, d8⟩ := bxc (HBx.out.below hb)
            clear hb
            go_wp2_with (at_builtin; refine wpList_appS rfl (.tmp 33) (.tmp 35) 35 rfl i0 _ 72 Try.underlying35 hi hz0 hz1 hz2 rfl rfl (HK2.out.1.alloc _) (some ⟨w1.heap.size, 0, none⟩) 1 1 [(x0, x1, x2, x3, x4, x5, x6, x7, x8)] rfl HLit.out (Nat.le_trans hsz (by simp)) (by omega) (by omega) ?_; intro p3 c3 w3 how3 hg3; rw [← HT.out] at how3; have HK3 : Hid (SWay ks xs dg ows (k + 1) p3 c3 V w3) := Lib.hid ⟨how3.wide (Nat.le_refl _) (Nat.le_refl _) (Nat.le_refl _), below_rowS (HK2.out.2.alloc hsz _) (HK2.out.1.alloc _) hg3 (Nat.le_refl _)⟩; clear how3 hg3)
            go_roundg g
            case measure => omega
            case rel => exact ⟨k + 1, _, _, by omega, by go_num, rfl, HK3, HA2⟩
end Go.Proofs.Ytjoeacdoblgncaa.Me
