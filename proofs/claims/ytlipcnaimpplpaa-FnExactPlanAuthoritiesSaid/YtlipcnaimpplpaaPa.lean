/- Contracts of the authorities whose stamps can be asked for, in the program (a closure over a map of keys) and in the reference. -/
import Derived.Test.YtlipcnaimpplpaaFm1
import Derived.Test.YtlipcnaimpplpaaKo
import Derived.Test.YtlipcnaimpplpaaFKey
import Derived.Test.YtlipcnaimpplpaaQt
import Derived.Test.YtlipcnaimpplpaaSlAuthority
import Derived.LoopTactic
namespace Go.Proofs.Ytlipcnaimpplpaa.Pa
open Go.ChangeShapes Go.WideShapes Go.ChangeAt Go.RowKit Go.Shelf Sl St Fnd Kn Kr Ki Km Ko
def lasts (ks : List I5) (ms : List Mn.Me) (now : Int) (a : I3) : Bool := match ring ks a.2.1 with | none => false | some k => decide (k.2.2.2.1 ≤ now) && (Mn.alive ms k.2.2.1 now && decide (now < Fm0.ends ms k.2.2.1))
theorem lasts_none {ks : List I5} {ms : List Mn.Me} {now a0 a1 a2 : Int} (h : ring ks a1 = none) : lasts ks ms now (a0, a1, a2) = false := by
  unfold lasts
  rw [show ring ks (a0, a1, a2).2.1 = none from h]
theorem lasts_some {ks : List I5} {ms : List Mn.Me} {now a0 a1 a2 x0 x1 x2 x3 x4 : Int} (h : ring ks a1 = some (x0, x1, x2, x3, x4)) : lasts ks ms now (a0, a1, a2) = (decide (x3 ≤ now) && (Mn.alive ms x2 now && decide (now < Fm0.ends ms x2))) := by
  unfold lasts
  rw [show ring ks (a0, a1, a2).2.1 = some (x0, x1, x2, x3, x4) from h]
def pl (ks : List I5) (ms : List Mn.Me) (now : Int) (us : List I3) : List Int := (us.filter (lasts ks ms now)).map (·.1)
theorem pl_no {ks : List I5} {ms : List Mn.Me} {now : Int} {us : List I3} {k : Nat} {x : I3} (hk : k < us.length) (hx : us.getD k SlAuthority.zero = x) (h : lasts ks ms now x = false) : pl ks ms now (us.take (k + 1)) = pl ks ms now (us.take k) := by
  unfold pl
  rw [take_succ SlAuthority.zero hk, List.filter_append, hx]
  simp [h]
theorem pl_yes {ks : List I5} {ms : List Mn.Me} {now : Int} {us : List I3} {k : Nat} {x : I3} (hk : k < us.length) (hx : us.getD k SlAuthority.zero = x) (h : lasts ks ms now x = true) : pl ks ms now (us.take (k + 1)) = pl ks ms now (us.take k) ++ [x.1] := by
  unfold pl
  rw [take_succ SlAuthority.zero hk, List.filter_append, hx]
  simp [h]
theorem pl_len (ks : List I5) (ms : List Mn.Me) (now : Int) (us : List I3) : (pl ks ms now us).length ≤ us.length := by
  unfold pl
  rw [List.length_map]
  exact List.length_filter_le _ _
def PW (ks : List I5) (ms : List Mn.Me) (now : Int) (us : List I3) (k : Nat) (p : Option Addr) (m c : Nat) (U wr : World) : Prop := Ow .i64 3 wr U.heap.size wr.heap.size p m c (pl ks ms now (us.take k)) ∧ Below U.heap.size U wr
theorem PW.len {ks : List I5} {ms : List Mn.Me} {now : Int} {us : List I3} {k : Nat} {p : Option Addr} {m c : Nat} {U wr : World} (h : PW ks ms now us k p m c U wr) : m ≤ k := by
  have h1 := h.1.len
  have h2 := pl_len ks ms now (us.take k)
  rw [List.length_take] at h2
  omega
theorem PW.next {ks : List I5} {ms : List Mn.Me} {now : Int} {us : List I3} {k : Nat} {p : Option Addr} {m c : Nat} {U wr w1 : World} (h : PW ks ms now us k p m c U wr) (hb : Below wr.heap.size wr w1) (hi : pl ks ms now (us.take (k + 1)) = pl ks ms now (us.take k)) : PW ks ms now us (k + 1) p m c U w1 := ⟨by rw [hi]; exact (h.1.below hb).wide (Nat.le_refl _) hb.size (Nat.le_refl _), below_on h.2 hb⟩
theorem says {b b' : Value} {w w' : World} (h : b' = b) (hb : Below w.heap.size w w') : (Ending.returned b' = .returned b) ∧ Below w.heap.size w w' := ⟨by rw [h], hb⟩
set_option maxRecDepth 100000 in
set_option maxHeartbeats 8000000 in
theorem lasts_any (g1 g2 gm : Nat) (ks : List I5) (hR : ∀ x ∈ ks, SlKey.InR x) (ms : List Mn.Me) (hM : ∀ x ∈ ms, SlMethod.InR x) (vk va : Value) (pm : Option Addr) (nm cm : Nat) (f3 now : Int) (a0 a1 a2 : Int) (ha : -9223372036854775808 ≤ a1 ∧ a1 ≤ 9223372036854775807) (w : World) (hF : Bx w g2 34 #[vk, va, .slice pm nm cm, .int .i64 f3, .int .i64 now]) (hG : Bx w g1 65 #[.map (some gm)]) (hh : Holds ks gm w) (hm : RdS SlMethod.E w pm nm ms) : Calls Try.prog 35 #[.agg #[.int .i64 a0, .int .i64 a1, .int .i64 a2], .pointer (some ⟨g1, 0, none⟩), .pointer (some ⟨g2, 0, none⟩)] w fun e w' => e = .returned (.bool (lasts ks ms now (a0, a1, a2))) ∧ Below w.heap.size w w' := by
  have hb := Ki.box1 w (.cells #[.int .i64 a0, .int .i64 a1, .int .i64 a2] 57)
  have HB := Lib.hid hb
  have c1 := (hG.alloc (.cells #[.int .i64 a0, .int .i64 a1, .int .i64 a2] 57)).cell (j := 0) rfl
  have HF := Lib.hid (hF.alloc (.cells #[.int .i64 a0, .int .i64 a1, .int .i64 a2] 57))
  have HM := Lib.hid (hm.below hb)
  have hh1 := hh.below hb
  have hkey := Maps.keyOf_int_mk (a := a1) Try.underlying3 (WalkArith.wf_i64 ha)
  obtain ⟨m, D, hown, hD⟩ := hh1
  clear hF hG hh hm hb ha
  rcases hD a1 with ⟨k, h1, h2, h3⟩ | ⟨h1, h2, h3⟩
  · obtain ⟨x0, x1, x2, x3, x4⟩ := k
    obtain ⟨_, _, k2, _, _⟩ := inr_key hR h1
    have K2 : Hid (-9223372036854775808 ≤ x2 ∧ x2 ≤ 9223372036854775807) := Lib.hid k2
    have hs := lasts_some (ms := ms) (now := now) (a0 := a0) (a2 := a2) h1
    have H2 := Lib.hid h2
    have H3 := Lib.hid h3
    obtain ⟨β, hβ⟩ : ∃ β, Mn.alive ms x2 now = β := ⟨_, rfl⟩
    obtain ⟨en, hen⟩ : ∃ e, Fm0.ends ms x2 = e := ⟨_, rfl⟩
    rw [hβ, hen] at hs
    have HAl := Lib.hid hβ
    have HEn := Lib.hid hen
    have HKb : Hid (Bx ((w.alloc (.cells #[.int .i64 a0, .int .i64 a1, .int .i64 a2] 57)).alloc (.cells #[.int .i64 x0, .int .i64 x1, .int .i64 x2, .int .i64 x3, .int .i64 x4] 59)) (w.heap.size + 1) 59 #[.int .i64 x0, .int .i64 x1, .int .i64 x2, .int .i64 x3, .int .i64 x4]) := Lib.hid (by have h := Bx.new (w.alloc (.cells #[.int .i64 a0, .int .i64 a1, .int .i64 a2] 57)) 59 #[.int .i64 x0, .int .i64 x1, .int .i64 x2, .int .i64 x3, .int .i64 x4]; rw [World.size_alloc] at h; exact h)
    have HF2 := Lib.hid (HF.out.alloc (.cells #[.int .i64 x0, .int .i64 x1, .int .i64 x2, .int .i64 x3, .int .i64 x4] 59))
    have HM2 := Lib.hid (HM.out.alloc (.cells #[.int .i64 x0, .int .i64 x1, .int .i64 x2, .int .i64 x3, .int .i64 x4] 59))
    have HB2 := Lib.hid (HB.out.alloc HB.out.size (.cells #[.int .i64 x0, .int .i64 x1, .int .i64 x2, .int .i64 x3, .int .i64 x4] 59))
    clear h1 h2 h3 hD k2 hβ hen HF HM
    by_cases hb3 : x3 ≤ now
    · cases β
      · skip
        have HS : Hid (lasts ks ms now (a0, a1, a2) = false) := Lib.hid (by rw [hs]; simp [hb3])
        clear hs
        go_enter Try.func35, Try.ntmps35
        go_wp2_with (at_lookup; refine wpList_lookup_own_ok _ rfl _ _ 65 rfl 3 59 (Maps.int_keyed Try.underlying3) Try.underlying65 kR (zeroE _) (kd z5) [] (kR_kv z5) _ m D rfl hown _ _ rfl hkey ?_; intro v ps hv; rw [H3.out] at hv; obtain rfl := kR_inv hv; rw [H2.out]; clear hv; simp only [kv])
        generalize ((w.alloc (.cells #[.int .i64 a0, .int .i64 a1, .int .i64 a2] 57)).alloc (.cells #[.int .i64 x0, .int .i64 x1, .int .i64 x2, .int .i64 x3, .int .i64 x4] 59)) = V at HKb HF2 HM2 HB2 ⊢
        have HC : Hid (∀ w', Qt.Keeps (V) w' → w'.cell? ⟨w.heap.size + 1, 2, none⟩ = some (.int .i64 x2) ∧ w'.cell? ⟨w.heap.size + 1, 3, none⟩ = some (.int .i64 x3) ∧ w'.cell? ⟨g2, 2, none⟩ = some (.slice pm nm cm) ∧ w'.cell? ⟨g2, 4, none⟩ = some (.int .i64 now)) := Lib.hid fun w' hw => ⟨(HKb.out.below hw).cell (j := 2) rfl, (HKb.out.below hw).cell (j := 3) rfl, (HF2.out.below hw).cell (j := 2) rfl, (HF2.out.below hw).cell (j := 4) rfl⟩
        refine Qt.region (Qt.Keeps (V)) (by kernel_rfl) (by kernel_rfl) (Qt.Keeps.drew _) ?_
        repeat (first
          | go_big_quiet_skip
          | (go_big_quiet_want
             refine Qt.val (v := ?_) (fun w hw => ?_) ?_
             rotate_left
             · obtain ⟨k2_, k3_, f2_, f4_⟩ := HC.out w hw
               go_simp
               rfl
             simp only [Act.put, List.setIfInBounds_toArray, List.set_cons_zero, List.set_cons_succ]
             go_big_quiet_on)
          | (go_big_quiet_want
             refine Qt.call (v := .bool false) (f := 36) (args := #[.slice pm nm cm, .int .i64 x2, .int .i64 now]) (fun w hw => ?_) (fun w hw => ?_) ?_
             · go_simp
             · refine (Mq.alive_any _ _ _ ms hM x2 K2.out now _ (HM2.out.below hw)).mono ?_
               rintro e w1 ⟨rfl, hb1⟩
               rw [HAl.out]
               exact ⟨rfl, hw.then hb1⟩
             simp only [Act.put, List.setIfInBounds_toArray, List.set_cons_zero, List.set_cons_succ]
             go_big_quiet_on)
          | (go_big_quiet_want
             refine Qt.call (v := .int .i64 en) (f := 37) (args := #[.slice pm nm cm, .int .i64 x2]) (fun w hw => ?_) (fun w hw => ?_) ?_
             · go_simp
             · refine (Fm1.end_any _ _ _ ms hM x2 K2.out _ (HM2.out.below hw)).mono ?_
               rintro e w1 ⟨rfl, hb1⟩
               rw [HEn.out]
               exact ⟨rfl, hw.then hb1⟩
             simp only [Act.put, List.setIfInBounds_toArray, List.set_cons_zero, List.set_cons_succ]
             go_big_quiet_on))
        refine wpQuiet_nil ?_
        intro w3 hw3
        have HB3 := Lib.hid (below_on HB2.out hw3)
        clear hw3
        go_wp2_with fail
        go_ret
        exact says (by rw [HS.out]; try rfl) HB3.out
      · by_cases h4 : now < en
        · skip
          have HS : Hid (lasts ks ms now (a0, a1, a2) = true) := Lib.hid (by rw [hs]; simp [hb3, h4])
          clear hs
          go_enter Try.func35, Try.ntmps35
          go_wp2_with (at_lookup; refine wpList_lookup_own_ok _ rfl _ _ 65 rfl 3 59 (Maps.int_keyed Try.underlying3) Try.underlying65 kR (zeroE _) (kd z5) [] (kR_kv z5) _ m D rfl hown _ _ rfl hkey ?_; intro v ps hv; rw [H3.out] at hv; obtain rfl := kR_inv hv; rw [H2.out]; clear hv; simp only [kv])
          generalize ((w.alloc (.cells #[.int .i64 a0, .int .i64 a1, .int .i64 a2] 57)).alloc (.cells #[.int .i64 x0, .int .i64 x1, .int .i64 x2, .int .i64 x3, .int .i64 x4] 59)) = V at HKb HF2 HM2 HB2 ⊢
          have HC : Hid (∀ w', Qt.Keeps (V) w' → w'.cell? ⟨w.heap.size + 1, 2, none⟩ = some (.int .i64 x2) ∧ w'.cell? ⟨w.heap.size + 1, 3, none⟩ = some (.int .i64 x3) ∧ w'.cell? ⟨g2, 2, none⟩ = some (.slice pm nm cm) ∧ w'.cell? ⟨g2, 4, none⟩ = some (.int .i64 now)) := Lib.hid fun w' hw => ⟨(HKb.out.below hw).cell (j := 2) rfl, (HKb.out.below hw).cell (j := 3) rfl, (HF2.out.below hw).cell (j := 2) rfl, (HF2.out.below hw).cell (j := 4) rfl⟩
          refine Qt.region (Qt.Keeps (V)) (by kernel_rfl) (by kernel_rfl) (Qt.Keeps.drew _) ?_
          repeat (first
            | go_big_quiet_skip
            | (go_big_quiet_want
               refine Qt.val (v := ?_) (fun w hw => ?_) ?_
               rotate_left
               · obtain ⟨k2_, k3_, f2_, f4_⟩ := HC.out w hw
                 go_simp
                 rfl
               simp only [Act.put, List.setIfInBounds_toArray, List.set_cons_zero, List.set_cons_succ]
               go_big_quiet_on)
            | (go_big_quiet_want
               refine Qt.call (v := .bool true) (f := 36) (args := #[.slice pm nm cm, .int .i64 x2, .int .i64 now]) (fun w hw => ?_) (fun w hw => ?_) ?_
               · go_simp
               · refine (Mq.alive_any _ _ _ ms hM x2 K2.out now _ (HM2.out.below hw)).mono ?_
                 rintro e w1 ⟨rfl, hb1⟩
                 rw [HAl.out]
                 exact ⟨rfl, hw.then hb1⟩
               simp only [Act.put, List.setIfInBounds_toArray, List.set_cons_zero, List.set_cons_succ]
               go_big_quiet_on)
            | (go_big_quiet_want
               refine Qt.call (v := .int .i64 en) (f := 37) (args := #[.slice pm nm cm, .int .i64 x2]) (fun w hw => ?_) (fun w hw => ?_) ?_
               · go_simp
               · refine (Fm1.end_any _ _ _ ms hM x2 K2.out _ (HM2.out.below hw)).mono ?_
                 rintro e w1 ⟨rfl, hb1⟩
                 rw [HEn.out]
                 exact ⟨rfl, hw.then hb1⟩
               simp only [Act.put, List.setIfInBounds_toArray, List.set_cons_zero, List.set_cons_succ]
               go_big_quiet_on))
          refine wpQuiet_nil ?_
          intro w3 hw3
          have HB3 := Lib.hid (below_on HB2.out hw3)
          clear hw3
          go_wp2_with fail
          go_ret
          exact says (by rw [HS.out]; try rfl) HB3.out
        · skip
          have nh4_ : decide (now < en) = false := decide_eq_false h4
          have HS : Hid (lasts ks ms now (a0, a1, a2) = false) := Lib.hid (by rw [hs]; simp [hb3, h4])
          clear hs
          go_enter Try.func35, Try.ntmps35
          go_wp2_with (at_lookup; refine wpList_lookup_own_ok _ rfl _ _ 65 rfl 3 59 (Maps.int_keyed Try.underlying3) Try.underlying65 kR (zeroE _) (kd z5) [] (kR_kv z5) _ m D rfl hown _ _ rfl hkey ?_; intro v ps hv; rw [H3.out] at hv; obtain rfl := kR_inv hv; rw [H2.out]; clear hv; simp only [kv])
          generalize ((w.alloc (.cells #[.int .i64 a0, .int .i64 a1, .int .i64 a2] 57)).alloc (.cells #[.int .i64 x0, .int .i64 x1, .int .i64 x2, .int .i64 x3, .int .i64 x4] 59)) = V at HKb HF2 HM2 HB2 ⊢
          have HC : Hid (∀ w', Qt.Keeps (V) w' → w'.cell? ⟨w.heap.size + 1, 2, none⟩ = some (.int .i64 x2) ∧ w'.cell? ⟨w.heap.size + 1, 3, none⟩ = some (.int .i64 x3) ∧ w'.cell? ⟨g2, 2, none⟩ = some (.slice pm nm cm) ∧ w'.cell? ⟨g2, 4, none⟩ = some (.int .i64 now)) := Lib.hid fun w' hw => ⟨(HKb.out.below hw).cell (j := 2) rfl, (HKb.out.below hw).cell (j := 3) rfl, (HF2.out.below hw).cell (j := 2) rfl, (HF2.out.below hw).cell (j := 4) rfl⟩
          refine Qt.region (Qt.Keeps (V)) (by kernel_rfl) (by kernel_rfl) (Qt.Keeps.drew _) ?_
          repeat (first
            | go_big_quiet_skip
            | (go_big_quiet_want
               refine Qt.val (v := ?_) (fun w hw => ?_) ?_
               rotate_left
               · obtain ⟨k2_, k3_, f2_, f4_⟩ := HC.out w hw
                 go_simp
                 rfl
               simp only [Act.put, List.setIfInBounds_toArray, List.set_cons_zero, List.set_cons_succ]
               go_big_quiet_on)
            | (go_big_quiet_want
               refine Qt.call (v := .bool true) (f := 36) (args := #[.slice pm nm cm, .int .i64 x2, .int .i64 now]) (fun w hw => ?_) (fun w hw => ?_) ?_
               · go_simp
               · refine (Mq.alive_any _ _ _ ms hM x2 K2.out now _ (HM2.out.below hw)).mono ?_
                 rintro e w1 ⟨rfl, hb1⟩
                 rw [HAl.out]
                 exact ⟨rfl, hw.then hb1⟩
               simp only [Act.put, List.setIfInBounds_toArray, List.set_cons_zero, List.set_cons_succ]
               go_big_quiet_on)
            | (go_big_quiet_want
               refine Qt.call (v := .int .i64 en) (f := 37) (args := #[.slice pm nm cm, .int .i64 x2]) (fun w hw => ?_) (fun w hw => ?_) ?_
               · go_simp
               · refine (Fm1.end_any _ _ _ ms hM x2 K2.out _ (HM2.out.below hw)).mono ?_
                 rintro e w1 ⟨rfl, hb1⟩
                 rw [HEn.out]
                 exact ⟨rfl, hw.then hb1⟩
               simp only [Act.put, List.setIfInBounds_toArray, List.set_cons_zero, List.set_cons_succ]
               go_big_quiet_on))
          refine wpQuiet_nil ?_
          intro w3 hw3
          have HB3 := Lib.hid (below_on HB2.out hw3)
          clear hw3
          go_wp2_with fail
          go_ret
          exact says (by rw [HS.out]; try rfl) HB3.out
    · skip
      have nhb3_ : decide (x3 ≤ now) = false := decide_eq_false hb3
      have HS : Hid (lasts ks ms now (a0, a1, a2) = false) := Lib.hid (by rw [hs]; simp [hb3])
      clear hs
      go_enter Try.func35, Try.ntmps35
      go_wp2_with (at_lookup; refine wpList_lookup_own_ok _ rfl _ _ 65 rfl 3 59 (Maps.int_keyed Try.underlying3) Try.underlying65 kR (zeroE _) (kd z5) [] (kR_kv z5) _ m D rfl hown _ _ rfl hkey ?_; intro v ps hv; rw [H3.out] at hv; obtain rfl := kR_inv hv; rw [H2.out]; clear hv; simp only [kv])
      generalize ((w.alloc (.cells #[.int .i64 a0, .int .i64 a1, .int .i64 a2] 57)).alloc (.cells #[.int .i64 x0, .int .i64 x1, .int .i64 x2, .int .i64 x3, .int .i64 x4] 59)) = V at HKb HF2 HM2 HB2 ⊢
      have HC : Hid (∀ w', Qt.Keeps (V) w' → w'.cell? ⟨w.heap.size + 1, 2, none⟩ = some (.int .i64 x2) ∧ w'.cell? ⟨w.heap.size + 1, 3, none⟩ = some (.int .i64 x3) ∧ w'.cell? ⟨g2, 2, none⟩ = some (.slice pm nm cm) ∧ w'.cell? ⟨g2, 4, none⟩ = some (.int .i64 now)) := Lib.hid fun w' hw => ⟨(HKb.out.below hw).cell (j := 2) rfl, (HKb.out.below hw).cell (j := 3) rfl, (HF2.out.below hw).cell (j := 2) rfl, (HF2.out.below hw).cell (j := 4) rfl⟩
      refine Qt.region (Qt.Keeps (V)) (by kernel_rfl) (by kernel_rfl) (Qt.Keeps.drew _) ?_
      repeat (first
        | go_big_quiet_skip
        | (go_big_quiet_want
           refine Qt.val (v := ?_) (fun w hw => ?_) ?_
           rotate_left
           · obtain ⟨k2_, k3_, f2_, f4_⟩ := HC.out w hw
             go_simp
             rfl
           simp only [Act.put, List.setIfInBounds_toArray, List.set_cons_zero, List.set_cons_succ]
           go_big_quiet_on)
        | (go_big_quiet_want
           refine Qt.call (v := .bool β) (f := 36) (args := #[.slice pm nm cm, .int .i64 x2, .int .i64 now]) (fun w hw => ?_) (fun w hw => ?_) ?_
           · go_simp
           · refine (Mq.alive_any _ _ _ ms hM x2 K2.out now _ (HM2.out.below hw)).mono ?_
             rintro e w1 ⟨rfl, hb1⟩
             rw [HAl.out]
             exact ⟨rfl, hw.then hb1⟩
           simp only [Act.put, List.setIfInBounds_toArray, List.set_cons_zero, List.set_cons_succ]
           go_big_quiet_on)
        | (go_big_quiet_want
           refine Qt.call (v := .int .i64 en) (f := 37) (args := #[.slice pm nm cm, .int .i64 x2]) (fun w hw => ?_) (fun w hw => ?_) ?_
           · go_simp
           · refine (Fm1.end_any _ _ _ ms hM x2 K2.out _ (HM2.out.below hw)).mono ?_
             rintro e w1 ⟨rfl, hb1⟩
             rw [HEn.out]
             exact ⟨rfl, hw.then hb1⟩
           simp only [Act.put, List.setIfInBounds_toArray, List.set_cons_zero, List.set_cons_succ]
           go_big_quiet_on))
      refine wpQuiet_nil ?_
      intro w3 hw3
      have HB3 := Lib.hid (below_on HB2.out hw3)
      clear hw3
      go_wp2_with fail
      go_ret
      exact says (by rw [HS.out]; try rfl) HB3.out
  · have HS : Hid (lasts ks ms now (a0, a1, a2) = false) := Lib.hid (lasts_none h1)
    have H2 := Lib.hid h2
    have H3 := Lib.hid h3
    have HB2 := Lib.hid (HB.out.alloc HB.out.size (.cells #[.int .i64 0, .int .i64 0, .int .i64 0, .int .i64 0, .int .i64 0] 59))
    clear h1 h2 h3 hD
    go_enter Try.func35, Try.ntmps35
    go_wp2_with (at_lookup; refine wpList_lookup_own_ok _ rfl _ _ 65 rfl 3 59 (Maps.int_keyed Try.underlying3) Try.underlying65 kR (zeroE _) (kd z5) [] (kR_kv z5) _ m D rfl hown _ _ rfl hkey ?_; intro v ps hv; rw [H3.out] at hv; obtain rfl := kR_inv hv; rw [H2.out]; clear hv; simp only [kv, z5])
    generalize ((w.alloc (.cells #[.int .i64 a0, .int .i64 a1, .int .i64 a2] 57)).alloc (.cells #[.int .i64 0, .int .i64 0, .int .i64 0, .int .i64 0, .int .i64 0] 59)) = V at HB2 ⊢
    refine Qt.region (Qt.Keeps (V)) (by kernel_rfl) (by kernel_rfl) (Qt.Keeps.drew _) ?_
    repeat (first
      | go_big_quiet_skip
      | (go_big_quiet_want
         refine Qt.val (v := ?_) (fun w hw => ?_) ?_
         rotate_left
         · go_simp
           rfl
         simp only [Act.put, List.setIfInBounds_toArray, List.set_cons_zero, List.set_cons_succ]
         go_big_quiet_on))
    refine wpQuiet_nil ?_
    intro w3 hw3
    have HB3 := Lib.hid (below_on HB2.out hw3)
    clear hw3
    go_wp2_with fail
    go_ret
    exact says (by rw [HS.out]; try rfl) HB3.out
set_option maxRecDepth 100000 in
set_option maxHeartbeats 8000000 in
theorem plan_any (ks : List I5) (pk : Option Addr) (nk ck : Nat) (us : List I3) (pa : Option Addr) (na ca : Nat) (ms : List Mn.Me) (pm : Option Addr) (nm cm : Nat) (f3 now : Int) (hR : ∀ x ∈ ks, SlKey.InR x) (hA : ∀ x ∈ us, SlAuthority.InR x) (hM : ∀ x ∈ ms, SlMethod.InR x) (w : World) (hk : RdS SlKey.E w pk nk ks) (ha : RdS SlAuthority.E w pa na us) (hm : RdS SlMethod.E w pm nm ms) (hna : na ≤ 10000000) : Calls Try.prog 9 #[.agg #[.slice pk nk ck, .slice pa na ca, .slice pm nm cm, .int .i64 f3, .int .i64 now]] w (SlI.Makes (pl ks ms now us) w) := by
  obtain ⟨i0, hi0, hz0, hz1, hz2⟩ := info_parts SlI.info
  have hb := Ki.box1 w (.cells #[.slice pk nk ck, .slice pa na ca, .slice pm nm cm, .int .i64 f3, .int .i64 now] 34)
  have HB := Lib.hid hb
  have HF := Lib.hid (Bx.new w 34 #[.slice pk nk ck, .slice pa na ca, .slice pm nm cm, .int .i64 f3, .int .i64 now])
  have HK := Lib.hid (hk.below hb)
  have HA' := Lib.hid (ha.below hb)
  have HM := Lib.hid (hm.below hb)
  have HLu := Lib.hid ha.len
  clear hb hk ha hm
  obtain ⟨f0_, f1_, f2_, f3_, f4_⟩ := DpFrame.bxc HF.out
  go_enter Try.func9, Try.ntmps9
  go_wp2_with fail
  clear f0_ f1_ f2_ f3_ f4_
  generalize w.alloc (.cells #[.slice pk nk ck, .slice pa na ca, .slice pm nm cm, .int .i64 f3, .int .i64 now] 34) = V at HB HF HK HA' HM ⊢
  refine (ringOf_any pk nk ck ks hR _ HK.out).mono ?_
  rintro e w1 ⟨rfl, hh, hb⟩
  have hr := Ki.box1 w1 (.cells #[.map (some V.heap.size)] 65)
  have hbr := below_on hb hr
  have HG := Lib.hid (Bx.new w1 65 #[.map (some V.heap.size)])
  have HH := Lib.hid (hh.below hr)
  have HFr := Lib.hid (HF.out.below hbr)
  have HAu := Lib.hid (HA'.out.below hbr)
  have HMr := Lib.hid (HM.out.below hbr)
  have HBr := Lib.hid (below_on HB.out hbr)
  have HO0 : Hid (PW ks ms now us 0 (some ⟨w1.heap.size + 1, 0, none⟩) 0 0 (w1.alloc (.cells #[.map (some V.heap.size)] 65)) ((w1.alloc (.cells #[.map (some V.heap.size)] 65)).alloc (.cells #[] 3))) := Lib.hid (by
    have h := lit0_own (w1.alloc (.cells #[.map (some V.heap.size)] 65))
    have e1 : (w1.alloc (.cells #[.map (some V.heap.size)] 65)).heap.size = w1.heap.size + 1 := by rw [World.size_alloc]
    refine ⟨?_, Ki.box1 _ _⟩
    rw [← e1]
    exact h)
  obtain ⟨f0_, f1_, f2_, f3_, f4_⟩ := DpFrame.bxc (HFr.out.alloc (.cells #[] 3))
  clear hh hb hr hbr HK HA' HM HF HB
  go_wp2_with fail
  clear f0_ f1_ f2_ f3_ f4_
  generalize w1.alloc (.cells #[.map (some V.heap.size)] 65) = U at HG HH HFr HAu HMr HBr HO0 ⊢
  go_loopw [5, 16] (fun v i wr => ∃ (k m c' : Nat) (p' : Option Addr), k ≤ na ∧ i = .int .i64 k ∧ v = .slice p' m c' ∧ Hid (PW ks ms now us k p' m c' U wr)) (fun _ i _ => na - (intOf i).toNat)
  case atStart => exact ⟨0, _, _, _, Nat.zero_le _, rfl, rfl, HO0⟩
  case round =>
    obtain ⟨k, m, c', p', hk, rfl, rfl, HKk⟩ := hrel
    have hml := HKk.out.len
    have HKB : Hid (Below U.heap.size U wr) := Lib.hid HKk.out.2
    by_cases hlt : k < na
    · skip
      obtain ⟨b, o, rfl, hbb, hat⟩ := SlAuthority.rd_at (HAu.out.below HKB.out) hlt
      have HKX : Hid (k < us.length) := Lib.hid (by rw [HLu.out]; exact hlt)
      have hin := hA (us.getD k SlAuthority.zero) (getD_mem SlAuthority.zero HKX.out)
      generalize hx : us.getD k SlAuthority.zero = x at hat hin
      have HXx := Lib.hid hx
      clear hx
      obtain ⟨a0, a1, a2⟩ := x
      obtain ⟨ia0, ia1, _⟩ := hin
      have IA0 : Hid (inK .i64 a0) := Lib.hid ia0
      have IA : Hid (-9223372036854775808 ≤ a1 ∧ a1 ≤ 9223372036854775807) := Lib.hid ia1
      have HAT := Lib.hid hat
      clear ia0 ia1
      obtain ⟨c0, c1, c2⟩ := hat
      have HBx := Lib.hid (Bx.new wr 57 #[.int .i64 a0, .int .i64 a1, .int .i64 a2])
      have HWa := Lib.hid (Ki.box1 wr (.cells #[.int .i64 a0, .int .i64 a1, .int .i64 a2] 57))
      have HWb := Lib.hid (below_on HKB.out HWa.out)
      obtain ⟨β, hβ⟩ : ∃ β, lasts ks ms now (a0, a1, a2) = β := ⟨_, rfl⟩
      have HBt := Lib.hid hβ
      clear hβ HAT
      cases β
      · have HIn := Lib.hid (pl_no HKX.out HXx.out HBt.out)
        go_wp2_with fail
        clear c0 c1 c2
        refine (lasts_any w1.heap.size w.heap.size V.heap.size ks hR ms hM _ _ pm nm cm f3 now a0 a1 a2 IA.out _ (HFr.out.below HWb.out) (HG.out.below HWb.out) (HH.out.below HWb.out) (HMr.out.below HWb.out)).mono ?_
        rintro e w2 ⟨rfl, hb1⟩
        rw [HBt.out]
        have HK1 := Lib.hid (HKk.out.next (below_on HWa.out hb1) HIn.out)
        clear hb1
        go_wp2_with fail
        go_roundw
        case rel => exact ⟨k + 1, _, _, _, by omega, by go_num, rfl, HK1⟩
        case measure => simp [intOf]; omega
      · have HIn := Lib.hid (pl_yes HKX.out HXx.out HBt.out)
        go_wp2_with fail
        clear c0 c1 c2
        refine (lasts_any w1.heap.size w.heap.size V.heap.size ks hR ms hM _ _ pm nm cm f3 now a0 a1 a2 IA.out _ (HFr.out.below HWb.out) (HG.out.below HWb.out) (HH.out.below HWb.out) (HMr.out.below HWb.out)).mono ?_
        rintro e w2 ⟨rfl, hb1⟩
        rw [HBt.out]
        have HO1 := Lib.hid ((HKk.out.1.below (below_on HWa.out hb1)).wide (Nat.le_refl _) (below_on HWa.out hb1).size (Nat.le_refl _))
        have HB1 := Lib.hid (below_on HKB.out (below_on HWa.out hb1))
        have hsz := HB1.out.size
        obtain ⟨d0, d1, d2⟩ := SlAuthority.bxc (HBx.out.below hb1)
        clear hb1
        go_wp2_with (at_builtin; refine wpList_app1 rfl (.tmp 23) (.tmp 26) 28 rfl i0 _ 8 Try.underlying28 hi0 hz0 hz1 hz2 rfl rfl (HO1.out.alloc _) w2.heap.size 1 a0 rfl (by go_simp) IA0.out (Nat.le_trans hsz (by simp)) (by omega) (by omega) ?_; intro p4 c4 w4 how2 hg2; rw [← HIn.out] at how2; have HK2 : Hid (PW ks ms now us (k + 1) p4 (m + 1) c4 U w4) := Lib.hid ⟨how2, (HB1.out.alloc hsz _).trans ((HO1.out.alloc _).below_row hg2 (Nat.le_trans hsz (by simp)))⟩; clear how2 hg2)
        go_roundw
        case rel => exact ⟨k + 1, _, _, _, by omega, by go_num, rfl, HK2⟩
        case measure => simp [intOf]; omega
    · obtain rfl : k = na := by omega
      have HT : Hid (us.take k = us) := Lib.hid (List.take_of_length_le (by rw [HLu.out]; exact Nat.le_refl _))
      go_wp2_with fail
      go_ret
      exact ⟨_, _, _, rfl, by have h := HKk.out.1; rw [HT.out] at h; exact h.wide HBr.out.size (Nat.le_refl _) (Nat.le_refl _), below_on HBr.out HKB.out⟩
set_option maxRecDepth 100000 in
set_option maxHeartbeats 8000000 in
theorem spec_plan_any (ks : List I5) (pk : Option Addr) (nk ck : Nat) (us : List I3) (pa : Option Addr) (na ca : Nat) (ms : List Mn.Me) (pm : Option Addr) (nm cm : Nat) (f3 now : Int) (hA : ∀ x ∈ us, SlAuthority.InR x) (w : World) (hk : RdS SlKey.E w pk nk ks) (ha : RdS SlAuthority.E w pa na us) (hm : RdS SlMethod.E w pm nm ms) (hna : na ≤ 10000000) : Calls Try.prog 7 #[.agg #[.slice pk nk ck, .slice pa na ca, .slice pm nm cm, .int .i64 f3, .int .i64 now]] w (SlI.Makes (pl ks ms now us) w) := by
  obtain ⟨i0, hi0, hz0, hz1, hz2⟩ := info_parts SlI.info
  have hb := Ki.box1 w (.cells #[.slice pk nk ck, .slice pa na ca, .slice pm nm cm, .int .i64 f3, .int .i64 now] 34)
  have HBr := Lib.hid hb
  have HF := Lib.hid (Bx.new w 34 #[.slice pk nk ck, .slice pa na ca, .slice pm nm cm, .int .i64 f3, .int .i64 now])
  have HK := Lib.hid (hk.below hb)
  have HAu := Lib.hid (ha.below hb)
  have HM := Lib.hid (hm.below hb)
  have HLu := Lib.hid ha.len
  have HLk := Lib.hid hk.len
  have HO0 : Hid (PW ks ms now us 0 (some ⟨w.heap.size + 1, 0, none⟩) 0 0 (w.alloc (.cells #[.slice pk nk ck, .slice pa na ca, .slice pm nm cm, .int .i64 f3, .int .i64 now] 34)) ((w.alloc (.cells #[.slice pk nk ck, .slice pa na ca, .slice pm nm cm, .int .i64 f3, .int .i64 now] 34)).alloc (.cells #[] 3))) := Lib.hid (by
    have h := lit0_own (w.alloc (.cells #[.slice pk nk ck, .slice pa na ca, .slice pm nm cm, .int .i64 f3, .int .i64 now] 34))
    have e1 : (w.alloc (.cells #[.slice pk nk ck, .slice pa na ca, .slice pm nm cm, .int .i64 f3, .int .i64 now] 34)).heap.size = w.heap.size + 1 := by rw [World.size_alloc]
    refine ⟨?_, Ki.box1 _ _⟩
    rw [← e1]
    exact h)
  clear hb hk ha hm
  go_enter Try.func7, Try.ntmps7
  go_wp2_with fail
  generalize w.alloc (.cells #[.slice pk nk ck, .slice pa na ca, .slice pm nm cm, .int .i64 f3, .int .i64 now] 34) = U at HBr HF HK HAu HM HO0 ⊢
  go_loopw [3, 4] (fun v i wr => ∃ (k m c' : Nat) (p' : Option Addr), k ≤ na ∧ i = .int .i64 k ∧ v = .slice p' m c' ∧ Hid (PW ks ms now us k p' m c' U wr)) (fun _ i _ => na - (intOf i).toNat)
  case atStart => exact ⟨0, _, _, _, Nat.zero_le _, rfl, rfl, HO0⟩
  case round =>
    obtain ⟨k, m, c', p', hk, rfl, rfl, HKk⟩ := hrel
    have hml := HKk.out.len
    have HKB : Hid (Below U.heap.size U wr) := Lib.hid HKk.out.2
    by_cases hlt : k < na
    · skip
      obtain ⟨b, o, rfl, hbb, hat⟩ := SlAuthority.rd_at (HAu.out.below HKB.out) hlt
      have HKX : Hid (k < us.length) := Lib.hid (by rw [HLu.out]; exact hlt)
      have hin := hA (us.getD k SlAuthority.zero) (getD_mem SlAuthority.zero HKX.out)
      generalize hx : us.getD k SlAuthority.zero = x at hat hin
      have HXx := Lib.hid hx
      clear hx
      obtain ⟨a0, a1, a2⟩ := x
      obtain ⟨ia0, ia1, _⟩ := hin
      have IA0 : Hid (inK .i64 a0) := Lib.hid ia0
      have IA : Hid (-9223372036854775808 ≤ a1 ∧ a1 ≤ 9223372036854775807) := Lib.hid ia1
      have HAT := Lib.hid hat
      clear ia0 ia1
      obtain ⟨c0, c1, c2⟩ := hat
      have i1 : (0 : Int) ≤ (k : Int) := by omega
      have i2 : (k : Int) < (na : Int) := by omega
      have HFk := Lib.hid (HF.out.below HKB.out)
      have HKk2 := Lib.hid (HK.out.below HKB.out)
      have HMk := Lib.hid (HM.out.below HKB.out)
      obtain ⟨f0_, f1_, f2_, f3_, f4_⟩ := DpFrame.bxc HFk.out
      rcases ring_cases ks a1 with ⟨j, g1, g2, g3, _, _⟩ | ⟨g2, g3, _⟩
      · have HFd := Lib.hid g2
        have hjn : j < nk := by rw [← HLk.out]; exact g1
        obtain ⟨bk, ok, rfl, hbk, hatk⟩ := SlKey.rd_at HKk2.out hjn
        rw [zero_z5] at hatk
        generalize ks.getD j z5 = y at hatk g3
        obtain ⟨x0, x1, x2, x3, x4⟩ := y
        have HATk := Lib.hid hatk
        have hs := lasts_some (ms := ms) (now := now) (a0 := a0) (a2 := a2) g3
        obtain ⟨β, hβ⟩ : ∃ β, Mn.alive ms x2 now = β := ⟨_, rfl⟩
        obtain ⟨en, hen⟩ : ∃ e, Fm0.ends ms x2 = e := ⟨_, rfl⟩
        rw [hβ, hen] at hs
        have HAl := Lib.hid hβ
        have HEn := Lib.hid hen
        have j1 : (0 : Int) ≤ (j : Int) := by omega
        have j2 : (j : Int) < (nk : Int) := by omega
        clear hatk g1 g2 g3 hβ hen
        by_cases hb3 : x3 ≤ now
        rotate_left
        · skip
          have nhb3_ : decide (x3 ≤ now) = false := decide_eq_false hb3
          have HS : Hid (lasts ks ms now (a0, a1, a2) = false) := Lib.hid (by rw [hs]; simp [hb3])
          clear hs
          have HIn := Lib.hid (pl_no HKX.out HXx.out HS.out)
          go_wp2_with fail
          have HC : Hid (∀ w', Qt.Keeps (wr) w' → w'.cell? ⟨w.heap.size, 0, none⟩ = some (.slice (some ⟨bk, ok, none⟩) nk ck) ∧ w'.cell? ⟨w.heap.size, 1, none⟩ = some (.slice (some ⟨b, o, none⟩) na ca) ∧ w'.cell? ⟨b, o + k * 3 + 1, none⟩ = some (.int .i64 a1)) := Lib.hid fun w' hw => ⟨(HFk.out.below hw).cell (j := 0) rfl, (HFk.out.below hw).cell (j := 1) rfl, (hw.cell (p := ⟨b, o + k * 3 + 1, none⟩) hbb).trans HAT.out.2.1⟩
          refine Qt.region (Qt.Keeps (wr)) (by kernel_rfl) (by kernel_rfl) (Qt.Keeps.drew _) ?_
          repeat (first
            | go_big_quiet_skip
            | (go_big_quiet_want
               refine Qt.val (v := ?_) (fun w hw => ?_) ?_
               rotate_left
               · obtain ⟨f0_, f1_, c1_⟩ := HC.out w hw
                 go_simp
                 rfl
               simp only [Act.put, List.setIfInBounds_toArray, List.set_cons_zero, List.set_cons_succ]
               go_big_quiet_on)
            | (go_big_quiet_want
               refine Qt.call (v := .int .i64 (j : Int)) (f := 29) (args := #[.slice (some ⟨bk, ok, none⟩) nk ck, .int .i64 a1]) (fun w hw => ?_) (fun w hw => ?_) ?_
               · go_simp
               · refine (FKey.spec_find_any _ _ _ ks a1 _ (HKk2.out.below hw)).mono ?_
                 rintro e w1 ⟨rfl, rfl⟩
                 rw [HFd.out]
                 exact ⟨rfl, hw⟩
               simp only [Act.put, List.setIfInBounds_toArray, List.set_cons_zero, List.set_cons_succ]
               go_big_quiet_on))
          refine wpQuiet_nil ?_
          intro w2 hw2
          have HB2 : Hid (Below wr.heap.size wr w2) := Lib.hid hw2
          clear hw2
          go_wp2_with fail
          have HC : Hid (∀ w', Qt.Keeps (w2) w' → w'.cell? ⟨w.heap.size, 0, none⟩ = some (.slice (some ⟨bk, ok, none⟩) nk ck) ∧ w'.cell? ⟨w.heap.size, 2, none⟩ = some (.slice pm nm cm) ∧ w'.cell? ⟨w.heap.size, 4, none⟩ = some (.int .i64 now) ∧ w'.cell? ⟨bk, ok + j * 5 + 2, none⟩ = some (.int .i64 x2) ∧ w'.cell? ⟨bk, ok + j * 5 + 3, none⟩ = some (.int .i64 x3)) := Lib.hid fun w' hw => let h2 := below_on HB2.out hw; ⟨(HFk.out.below h2).cell (j := 0) rfl, (HFk.out.below h2).cell (j := 2) rfl, (HFk.out.below h2).cell (j := 4) rfl, (h2.cell (p := ⟨bk, ok + j * 5 + 2, none⟩) hbk).trans HATk.out.2.2.1, (h2.cell (p := ⟨bk, ok + j * 5 + 3, none⟩) hbk).trans HATk.out.2.2.2.1⟩
          refine Qt.region (Qt.Keeps (w2)) (by kernel_rfl) (by kernel_rfl) (Qt.Keeps.drew _) ?_
          repeat (first
            | go_big_quiet_skip
            | (go_big_quiet_want
               refine Qt.val (v := ?_) (fun w hw => ?_) ?_
               rotate_left
               · obtain ⟨f0_, f2_, f4_, k2_, k3_⟩ := HC.out w hw
                 go_simp
                 rfl
               simp only [Act.put, List.setIfInBounds_toArray, List.set_cons_zero, List.set_cons_succ]
               go_big_quiet_on)
            | (go_big_quiet_want
               refine Qt.call (v := .bool β) (f := 30) (args := #[.slice pm nm cm, .int .i64 x2, .int .i64 now]) (fun w hw => ?_) (fun w hw => ?_) ?_
               · go_simp
               · refine (Mq.spec_alive_any _ _ _ ms x2 now _ (HMk.out.below (below_on HB2.out hw))).mono ?_
                 rintro e w1 ⟨rfl, hb1⟩
                 rw [HAl.out]
                 exact ⟨rfl, hw.then hb1⟩
               simp only [Act.put, List.setIfInBounds_toArray, List.set_cons_zero, List.set_cons_succ]
               go_big_quiet_on)
            | (go_big_quiet_want
               refine Qt.call (v := .int .i64 en) (f := 31) (args := #[.slice pm nm cm, .int .i64 x2]) (fun w hw => ?_) (fun w hw => ?_) ?_
               · go_simp
               · refine (Fm1.spec_end_any _ _ _ ms x2 _ (HMk.out.below (below_on HB2.out hw))).mono ?_
                 rintro e w1 ⟨rfl, hb1⟩
                 rw [HEn.out]
                 exact ⟨rfl, hw.then hb1⟩
               simp only [Act.put, List.setIfInBounds_toArray, List.set_cons_zero, List.set_cons_succ]
               go_big_quiet_on))
          refine wpQuiet_nil ?_
          intro w3 hw3
          have HB3 : Hid (Below wr.heap.size wr w3) := Lib.hid (below_on HB2.out hw3)
          clear hw3
          have HK1 := Lib.hid (HKk.out.next HB3.out HIn.out)
          go_wp2_with fail
          go_roundw
          case rel => exact ⟨k + 1, _, _, _, by omega, by go_num, rfl, HK1⟩
          case measure => simp [intOf]; omega
        cases β
        · skip
          have HS : Hid (lasts ks ms now (a0, a1, a2) = false) := Lib.hid (by rw [hs]; simp [hb3])
          clear hs
          have HIn := Lib.hid (pl_no HKX.out HXx.out HS.out)
          go_wp2_with fail
          have HC : Hid (∀ w', Qt.Keeps (wr) w' → w'.cell? ⟨w.heap.size, 0, none⟩ = some (.slice (some ⟨bk, ok, none⟩) nk ck) ∧ w'.cell? ⟨w.heap.size, 1, none⟩ = some (.slice (some ⟨b, o, none⟩) na ca) ∧ w'.cell? ⟨b, o + k * 3 + 1, none⟩ = some (.int .i64 a1)) := Lib.hid fun w' hw => ⟨(HFk.out.below hw).cell (j := 0) rfl, (HFk.out.below hw).cell (j := 1) rfl, (hw.cell (p := ⟨b, o + k * 3 + 1, none⟩) hbb).trans HAT.out.2.1⟩
          refine Qt.region (Qt.Keeps (wr)) (by kernel_rfl) (by kernel_rfl) (Qt.Keeps.drew _) ?_
          repeat (first
            | go_big_quiet_skip
            | (go_big_quiet_want
               refine Qt.val (v := ?_) (fun w hw => ?_) ?_
               rotate_left
               · obtain ⟨f0_, f1_, c1_⟩ := HC.out w hw
                 go_simp
                 rfl
               simp only [Act.put, List.setIfInBounds_toArray, List.set_cons_zero, List.set_cons_succ]
               go_big_quiet_on)
            | (go_big_quiet_want
               refine Qt.call (v := .int .i64 (j : Int)) (f := 29) (args := #[.slice (some ⟨bk, ok, none⟩) nk ck, .int .i64 a1]) (fun w hw => ?_) (fun w hw => ?_) ?_
               · go_simp
               · refine (FKey.spec_find_any _ _ _ ks a1 _ (HKk2.out.below hw)).mono ?_
                 rintro e w1 ⟨rfl, rfl⟩
                 rw [HFd.out]
                 exact ⟨rfl, hw⟩
               simp only [Act.put, List.setIfInBounds_toArray, List.set_cons_zero, List.set_cons_succ]
               go_big_quiet_on))
          refine wpQuiet_nil ?_
          intro w2 hw2
          have HB2 : Hid (Below wr.heap.size wr w2) := Lib.hid hw2
          clear hw2
          go_wp2_with fail
          have HC : Hid (∀ w', Qt.Keeps (w2) w' → w'.cell? ⟨w.heap.size, 0, none⟩ = some (.slice (some ⟨bk, ok, none⟩) nk ck) ∧ w'.cell? ⟨w.heap.size, 2, none⟩ = some (.slice pm nm cm) ∧ w'.cell? ⟨w.heap.size, 4, none⟩ = some (.int .i64 now) ∧ w'.cell? ⟨bk, ok + j * 5 + 2, none⟩ = some (.int .i64 x2) ∧ w'.cell? ⟨bk, ok + j * 5 + 3, none⟩ = some (.int .i64 x3)) := Lib.hid fun w' hw => let h2 := below_on HB2.out hw; ⟨(HFk.out.below h2).cell (j := 0) rfl, (HFk.out.below h2).cell (j := 2) rfl, (HFk.out.below h2).cell (j := 4) rfl, (h2.cell (p := ⟨bk, ok + j * 5 + 2, none⟩) hbk).trans HATk.out.2.2.1, (h2.cell (p := ⟨bk, ok + j * 5 + 3, none⟩) hbk).trans HATk.out.2.2.2.1⟩
          refine Qt.region (Qt.Keeps (w2)) (by kernel_rfl) (by kernel_rfl) (Qt.Keeps.drew _) ?_
          repeat (first
            | go_big_quiet_skip
            | (go_big_quiet_want
               refine Qt.val (v := ?_) (fun w hw => ?_) ?_
               rotate_left
               · obtain ⟨f0_, f2_, f4_, k2_, k3_⟩ := HC.out w hw
                 go_simp
                 rfl
               simp only [Act.put, List.setIfInBounds_toArray, List.set_cons_zero, List.set_cons_succ]
               go_big_quiet_on)
            | (go_big_quiet_want
               refine Qt.call (v := .bool false) (f := 30) (args := #[.slice pm nm cm, .int .i64 x2, .int .i64 now]) (fun w hw => ?_) (fun w hw => ?_) ?_
               · go_simp
               · refine (Mq.spec_alive_any _ _ _ ms x2 now _ (HMk.out.below (below_on HB2.out hw))).mono ?_
                 rintro e w1 ⟨rfl, hb1⟩
                 rw [HAl.out]
                 exact ⟨rfl, hw.then hb1⟩
               simp only [Act.put, List.setIfInBounds_toArray, List.set_cons_zero, List.set_cons_succ]
               go_big_quiet_on)
            | (go_big_quiet_want
               refine Qt.call (v := .int .i64 en) (f := 31) (args := #[.slice pm nm cm, .int .i64 x2]) (fun w hw => ?_) (fun w hw => ?_) ?_
               · go_simp
               · refine (Fm1.spec_end_any _ _ _ ms x2 _ (HMk.out.below (below_on HB2.out hw))).mono ?_
                 rintro e w1 ⟨rfl, hb1⟩
                 rw [HEn.out]
                 exact ⟨rfl, hw.then hb1⟩
               simp only [Act.put, List.setIfInBounds_toArray, List.set_cons_zero, List.set_cons_succ]
               go_big_quiet_on))
          refine wpQuiet_nil ?_
          intro w3 hw3
          have HB3 : Hid (Below wr.heap.size wr w3) := Lib.hid (below_on HB2.out hw3)
          clear hw3
          have HK1 := Lib.hid (HKk.out.next HB3.out HIn.out)
          go_wp2_with fail
          go_roundw
          case rel => exact ⟨k + 1, _, _, _, by omega, by go_num, rfl, HK1⟩
          case measure => simp [intOf]; omega
        by_cases h4 : now < en
        rotate_left
        · skip
          have nh4_ : decide (now < en) = false := decide_eq_false h4
          have HS : Hid (lasts ks ms now (a0, a1, a2) = false) := Lib.hid (by rw [hs]; simp [hb3, h4])
          clear hs
          have HIn := Lib.hid (pl_no HKX.out HXx.out HS.out)
          go_wp2_with fail
          have HC : Hid (∀ w', Qt.Keeps (wr) w' → w'.cell? ⟨w.heap.size, 0, none⟩ = some (.slice (some ⟨bk, ok, none⟩) nk ck) ∧ w'.cell? ⟨w.heap.size, 1, none⟩ = some (.slice (some ⟨b, o, none⟩) na ca) ∧ w'.cell? ⟨b, o + k * 3 + 1, none⟩ = some (.int .i64 a1)) := Lib.hid fun w' hw => ⟨(HFk.out.below hw).cell (j := 0) rfl, (HFk.out.below hw).cell (j := 1) rfl, (hw.cell (p := ⟨b, o + k * 3 + 1, none⟩) hbb).trans HAT.out.2.1⟩
          refine Qt.region (Qt.Keeps (wr)) (by kernel_rfl) (by kernel_rfl) (Qt.Keeps.drew _) ?_
          repeat (first
            | go_big_quiet_skip
            | (go_big_quiet_want
               refine Qt.val (v := ?_) (fun w hw => ?_) ?_
               rotate_left
               · obtain ⟨f0_, f1_, c1_⟩ := HC.out w hw
                 go_simp
                 rfl
               simp only [Act.put, List.setIfInBounds_toArray, List.set_cons_zero, List.set_cons_succ]
               go_big_quiet_on)
            | (go_big_quiet_want
               refine Qt.call (v := .int .i64 (j : Int)) (f := 29) (args := #[.slice (some ⟨bk, ok, none⟩) nk ck, .int .i64 a1]) (fun w hw => ?_) (fun w hw => ?_) ?_
               · go_simp
               · refine (FKey.spec_find_any _ _ _ ks a1 _ (HKk2.out.below hw)).mono ?_
                 rintro e w1 ⟨rfl, rfl⟩
                 rw [HFd.out]
                 exact ⟨rfl, hw⟩
               simp only [Act.put, List.setIfInBounds_toArray, List.set_cons_zero, List.set_cons_succ]
               go_big_quiet_on))
          refine wpQuiet_nil ?_
          intro w2 hw2
          have HB2 : Hid (Below wr.heap.size wr w2) := Lib.hid hw2
          clear hw2
          go_wp2_with fail
          have HC : Hid (∀ w', Qt.Keeps (w2) w' → w'.cell? ⟨w.heap.size, 0, none⟩ = some (.slice (some ⟨bk, ok, none⟩) nk ck) ∧ w'.cell? ⟨w.heap.size, 2, none⟩ = some (.slice pm nm cm) ∧ w'.cell? ⟨w.heap.size, 4, none⟩ = some (.int .i64 now) ∧ w'.cell? ⟨bk, ok + j * 5 + 2, none⟩ = some (.int .i64 x2) ∧ w'.cell? ⟨bk, ok + j * 5 + 3, none⟩ = some (.int .i64 x3)) := Lib.hid fun w' hw => let h2 := below_on HB2.out hw; ⟨(HFk.out.below h2).cell (j := 0) rfl, (HFk.out.below h2).cell (j := 2) rfl, (HFk.out.below h2).cell (j := 4) rfl, (h2.cell (p := ⟨bk, ok + j * 5 + 2, none⟩) hbk).trans HATk.out.2.2.1, (h2.cell (p := ⟨bk, ok + j * 5 + 3, none⟩) hbk).trans HATk.out.2.2.2.1⟩
          refine Qt.region (Qt.Keeps (w2)) (by kernel_rfl) (by kernel_rfl) (Qt.Keeps.drew _) ?_
          repeat (first
            | go_big_quiet_skip
            | (go_big_quiet_want
               refine Qt.val (v := ?_) (fun w hw => ?_) ?_
               rotate_left
               · obtain ⟨f0_, f2_, f4_, k2_, k3_⟩ := HC.out w hw
                 go_simp
                 rfl
               simp only [Act.put, List.setIfInBounds_toArray, List.set_cons_zero, List.set_cons_succ]
               go_big_quiet_on)
            | (go_big_quiet_want
               refine Qt.call (v := .bool true) (f := 30) (args := #[.slice pm nm cm, .int .i64 x2, .int .i64 now]) (fun w hw => ?_) (fun w hw => ?_) ?_
               · go_simp
               · refine (Mq.spec_alive_any _ _ _ ms x2 now _ (HMk.out.below (below_on HB2.out hw))).mono ?_
                 rintro e w1 ⟨rfl, hb1⟩
                 rw [HAl.out]
                 exact ⟨rfl, hw.then hb1⟩
               simp only [Act.put, List.setIfInBounds_toArray, List.set_cons_zero, List.set_cons_succ]
               go_big_quiet_on)
            | (go_big_quiet_want
               refine Qt.call (v := .int .i64 en) (f := 31) (args := #[.slice pm nm cm, .int .i64 x2]) (fun w hw => ?_) (fun w hw => ?_) ?_
               · go_simp
               · refine (Fm1.spec_end_any _ _ _ ms x2 _ (HMk.out.below (below_on HB2.out hw))).mono ?_
                 rintro e w1 ⟨rfl, hb1⟩
                 rw [HEn.out]
                 exact ⟨rfl, hw.then hb1⟩
               simp only [Act.put, List.setIfInBounds_toArray, List.set_cons_zero, List.set_cons_succ]
               go_big_quiet_on))
          refine wpQuiet_nil ?_
          intro w3 hw3
          have HB3 : Hid (Below wr.heap.size wr w3) := Lib.hid (below_on HB2.out hw3)
          clear hw3
          have HK1 := Lib.hid (HKk.out.next HB3.out HIn.out)
          go_wp2_with fail
          go_roundw
          case rel => exact ⟨k + 1, _, _, _, by omega, by go_num, rfl, HK1⟩
          case measure => simp [intOf]; omega
        · skip
          have HS : Hid (lasts ks ms now (a0, a1, a2) = true) := Lib.hid (by rw [hs]; simp [hb3, h4])
          clear hs
          have HIn := Lib.hid (pl_yes HKX.out HXx.out HS.out)
          go_wp2_with fail
          have HC : Hid (∀ w', Qt.Keeps (wr) w' → w'.cell? ⟨w.heap.size, 0, none⟩ = some (.slice (some ⟨bk, ok, none⟩) nk ck) ∧ w'.cell? ⟨w.heap.size, 1, none⟩ = some (.slice (some ⟨b, o, none⟩) na ca) ∧ w'.cell? ⟨b, o + k * 3 + 1, none⟩ = some (.int .i64 a1)) := Lib.hid fun w' hw => ⟨(HFk.out.below hw).cell (j := 0) rfl, (HFk.out.below hw).cell (j := 1) rfl, (hw.cell (p := ⟨b, o + k * 3 + 1, none⟩) hbb).trans HAT.out.2.1⟩
          refine Qt.region (Qt.Keeps (wr)) (by kernel_rfl) (by kernel_rfl) (Qt.Keeps.drew _) ?_
          repeat (first
            | go_big_quiet_skip
            | (go_big_quiet_want
               refine Qt.val (v := ?_) (fun w hw => ?_) ?_
               rotate_left
               · obtain ⟨f0_, f1_, c1_⟩ := HC.out w hw
                 go_simp
                 rfl
               simp only [Act.put, List.setIfInBounds_toArray, List.set_cons_zero, List.set_cons_succ]
               go_big_quiet_on)
            | (go_big_quiet_want
               refine Qt.call (v := .int .i64 (j : Int)) (f := 29) (args := #[.slice (some ⟨bk, ok, none⟩) nk ck, .int .i64 a1]) (fun w hw => ?_) (fun w hw => ?_) ?_
               · go_simp
               · refine (FKey.spec_find_any _ _ _ ks a1 _ (HKk2.out.below hw)).mono ?_
                 rintro e w1 ⟨rfl, rfl⟩
                 rw [HFd.out]
                 exact ⟨rfl, hw⟩
               simp only [Act.put, List.setIfInBounds_toArray, List.set_cons_zero, List.set_cons_succ]
               go_big_quiet_on))
          refine wpQuiet_nil ?_
          intro w2 hw2
          have HB2 : Hid (Below wr.heap.size wr w2) := Lib.hid hw2
          clear hw2
          go_wp2_with fail
          have HC : Hid (∀ w', Qt.Keeps (w2) w' → w'.cell? ⟨w.heap.size, 0, none⟩ = some (.slice (some ⟨bk, ok, none⟩) nk ck) ∧ w'.cell? ⟨w.heap.size, 2, none⟩ = some (.slice pm nm cm) ∧ w'.cell? ⟨w.heap.size, 4, none⟩ = some (.int .i64 now) ∧ w'.cell? ⟨bk, ok + j * 5 + 2, none⟩ = some (.int .i64 x2) ∧ w'.cell? ⟨bk, ok + j * 5 + 3, none⟩ = some (.int .i64 x3)) := Lib.hid fun w' hw => let h2 := below_on HB2.out hw; ⟨(HFk.out.below h2).cell (j := 0) rfl, (HFk.out.below h2).cell (j := 2) rfl, (HFk.out.below h2).cell (j := 4) rfl, (h2.cell (p := ⟨bk, ok + j * 5 + 2, none⟩) hbk).trans HATk.out.2.2.1, (h2.cell (p := ⟨bk, ok + j * 5 + 3, none⟩) hbk).trans HATk.out.2.2.2.1⟩
          refine Qt.region (Qt.Keeps (w2)) (by kernel_rfl) (by kernel_rfl) (Qt.Keeps.drew _) ?_
          repeat (first
            | go_big_quiet_skip
            | (go_big_quiet_want
               refine Qt.val (v := ?_) (fun w hw => ?_) ?_
               rotate_left
               · obtain ⟨f0_, f2_, f4_, k2_, k3_⟩ := HC.out w hw
                 go_simp
                 rfl
               simp only [Act.put, List.setIfInBounds_toArray, List.set_cons_zero, List.set_cons_succ]
               go_big_quiet_on)
            | (go_big_quiet_want
               refine Qt.call (v := .bool true) (f := 30) (args := #[.slice pm nm cm, .int .i64 x2, .int .i64 now]) (fun w hw => ?_) (fun w hw => ?_) ?_
               · go_simp
               · refine (Mq.spec_alive_any _ _ _ ms x2 now _ (HMk.out.below (below_on HB2.out hw))).mono ?_
                 rintro e w1 ⟨rfl, hb1⟩
                 rw [HAl.out]
                 exact ⟨rfl, hw.then hb1⟩
               simp only [Act.put, List.setIfInBounds_toArray, List.set_cons_zero, List.set_cons_succ]
               go_big_quiet_on)
            | (go_big_quiet_want
               refine Qt.call (v := .int .i64 en) (f := 31) (args := #[.slice pm nm cm, .int .i64 x2]) (fun w hw => ?_) (fun w hw => ?_) ?_
               · go_simp
               · refine (Fm1.spec_end_any _ _ _ ms x2 _ (HMk.out.below (below_on HB2.out hw))).mono ?_
                 rintro e w1 ⟨rfl, hb1⟩
                 rw [HEn.out]
                 exact ⟨rfl, hw.then hb1⟩
               simp only [Act.put, List.setIfInBounds_toArray, List.set_cons_zero, List.set_cons_succ]
               go_big_quiet_on))
          refine wpQuiet_nil ?_
          intro w3 hw3
          have HB3 : Hid (Below wr.heap.size wr w3) := Lib.hid (below_on HB2.out hw3)
          clear hw3
          have HO1 := Lib.hid ((HKk.out.1.below HB3.out).wide (Nat.le_refl _) HB3.out.size (Nat.le_refl _))
          have HB1 := Lib.hid (below_on HKB.out HB3.out)
          have hsz := HB1.out.size
          obtain ⟨e0_, e1_, e2_, e3_, e4_⟩ := DpFrame.bxc (HFk.out.below HB3.out)
          obtain ⟨d0, d1, d2⟩ := HAT.out.below HB3.out hbb
          go_wp2_with (at_builtin; refine wpList_app1 rfl (.tmp 63) (.tmp 70) 28 rfl i0 _ 8 Try.underlying28 hi0 hz0 hz1 hz2 rfl rfl (HO1.out.alloc _) w3.heap.size 1 a0 rfl (by go_simp) IA0.out (Nat.le_trans hsz (by simp)) (by omega) (by omega) ?_; intro p4 c4 w4 how2 hg2; rw [← HIn.out] at how2; have HK2 : Hid (PW ks ms now us (k + 1) p4 (m + 1) c4 U w4) := Lib.hid ⟨how2, (HB1.out.alloc hsz _).trans ((HO1.out.alloc _).below_row hg2 (Nat.le_trans hsz (by simp)))⟩; clear how2 hg2)
          go_roundw
          case rel => exact ⟨k + 1, _, _, _, by omega, by go_num, rfl, HK2⟩
          case measure => simp [intOf]; omega
      · have HFd := Lib.hid g2
        have HIn := Lib.hid (pl_no HKX.out HXx.out (lasts_none (ms := ms) (now := now) (a0 := a0) (a2 := a2) g3))
        clear g2 g3
        go_wp2_with fail
        have HC : Hid (∀ w', Qt.Keeps (wr) w' → w'.cell? ⟨w.heap.size, 0, none⟩ = some (.slice pk nk ck) ∧ w'.cell? ⟨w.heap.size, 1, none⟩ = some (.slice (some ⟨b, o, none⟩) na ca) ∧ w'.cell? ⟨b, o + k * 3 + 1, none⟩ = some (.int .i64 a1)) := Lib.hid fun w' hw => ⟨(HFk.out.below hw).cell (j := 0) rfl, (HFk.out.below hw).cell (j := 1) rfl, (hw.cell (p := ⟨b, o + k * 3 + 1, none⟩) hbb).trans HAT.out.2.1⟩
        refine Qt.region (Qt.Keeps (wr)) (by kernel_rfl) (by kernel_rfl) (Qt.Keeps.drew _) ?_
        repeat (first
          | go_big_quiet_skip
          | (go_big_quiet_want
             refine Qt.val (v := ?_) (fun w hw => ?_) ?_
             rotate_left
             · obtain ⟨f0_, f1_, c1_⟩ := HC.out w hw
               go_simp
               rfl
             simp only [Act.put, List.setIfInBounds_toArray, List.set_cons_zero, List.set_cons_succ]
             go_big_quiet_on)
          | (go_big_quiet_want
             refine Qt.call (v := .int .i64 (-1)) (f := 29) (args := #[.slice pk nk ck, .int .i64 a1]) (fun w hw => ?_) (fun w hw => ?_) ?_
             · go_simp
             · refine (FKey.spec_find_any _ _ _ ks a1 _ (HKk2.out.below hw)).mono ?_
               rintro e w1 ⟨rfl, rfl⟩
               rw [HFd.out]
               exact ⟨rfl, hw⟩
             simp only [Act.put, List.setIfInBounds_toArray, List.set_cons_zero, List.set_cons_succ]
             go_big_quiet_on))
        refine wpQuiet_nil ?_
        intro w2 hw2
        have HB2 : Hid (Below wr.heap.size wr w2) := Lib.hid hw2
        clear hw2
        go_wp2_with fail
        refine Qt.region (Qt.Keeps (w2)) (by kernel_rfl) (by kernel_rfl) (Qt.Keeps.drew _) ?_
        repeat (first
          | go_big_quiet_skip
          | (go_big_quiet_want
             refine Qt.val (v := ?_) (fun w hw => ?_) ?_
             rotate_left
             · go_simp
               rfl
             simp only [Act.put, List.setIfInBounds_toArray, List.set_cons_zero, List.set_cons_succ]
             go_big_quiet_on))
        refine wpQuiet_nil ?_
        intro w3 hw3
        have HK1 := Lib.hid (HKk.out.next (below_on HB2.out hw3) HIn.out)
        clear hw3
        go_wp2_with fail
        go_roundw
        case rel => exact ⟨k + 1, _, _, _, by omega, by go_num, rfl, HK1⟩
        case measure => simp [intOf]; omega
    · obtain rfl : k = na := by omega
      have HT : Hid (us.take k = us) := Lib.hid (List.take_of_length_le (by rw [HLu.out]; exact Nat.le_refl _))
      obtain ⟨f0_, f1_, f2_, f3_, f4_⟩ := DpFrame.bxc (HF.out.below HKB.out)
      go_wp2_with fail
      go_ret
      exact ⟨_, _, _, rfl, by have h := HKk.out.1; rw [HT.out] at h; exact h.wide HBr.out.size (Nat.le_refl _) (Nat.le_refl _), below_on HBr.out HKB.out⟩
end Go.Proofs.Ytlipcnaimpplpaa.Pa
