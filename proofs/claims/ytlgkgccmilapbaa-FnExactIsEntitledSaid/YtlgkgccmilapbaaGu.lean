/- Contracts: until when answers say that a certificate was good, from when it was bad, whether they agree. -/
import Derived.Test.YtlgkgccmilapbaaSlStatus
import Derived.Test.YtlgkgccmilapbaaMin
import Derived.Test.YtlgkgccmilapbaaKi
import Derived.Deep.RegionHeld3
import Derived.LoopTactic
import Derived.Outline
namespace Go.Proofs.Ytlgkgccmilapbaa.Gu
open Go.ChangeShapes Go.WideShapes Go.ChangeAt Go.RowKit Sl St Fnd SlStatus Ki Ints
abbrev z5 : I5 := SlStatus.zero
def stp (f : Int → Int → Int) (s : Int × Int) (x : I5) : Int × Int := if x.2.2.1 < 0 then (s.1, maxI s.2 x.2.1) else if s.1 < 0 then (x.2.2.1, s.2) else (f s.1 x.2.2.1, s.2)
theorem stp_off {f : Int → Int → Int} {e g x0 x1 x2 x3 x4 : Int} (h : x2 < 0) : stp f (e, g) (x0, x1, x2, x3, x4) = (e, maxI g x1) := if_pos h
theorem stp_new {f : Int → Int → Int} {e g x0 x1 x2 x3 x4 : Int} (h : ¬ x2 < 0) (h' : e < 0) : stp f (e, g) (x0, x1, x2, x3, x4) = (x2, g) := (if_neg h).trans (if_pos h')
theorem stp_old {f : Int → Int → Int} {e g x0 x1 x2 x3 x4 : Int} (h : ¬ x2 < 0) (h' : ¬ e < 0) : stp f (e, g) (x0, x1, x2, x3, x4) = (f e x2, g) := (if_neg h).trans (if_neg h')
def ans (f : Int → Int → Int) (id : Int) (l : List I5) : Int × Int := (l.filter fun x => decide (x.1 = id)).foldl (stp f) (-1, -1)
theorem ans_yes {f : Int → Int → Int} {id : Int} {xs : List I5} {k : Nat} {y : I5} {s : Int × Int} (hk : k < xs.length) (hy : xs.getD k z5 = y) (h : y.1 = id) (hs : ans f id (xs.take k) = s) : ans f id (xs.take (k + 1)) = stp f s y := by
  unfold ans at hs ⊢
  rw [take_succ z5 hk, hy, List.filter_append, List.foldl_append, hs]
  simp [h]
theorem ans_no {f : Int → Int → Int} {id : Int} {xs : List I5} {k : Nat} {y : I5} {s : Int × Int} (hk : k < xs.length) (hy : xs.getD k z5 = y) (h : ¬ y.1 = id) (hs : ans f id (xs.take k) = s) : ans f id (xs.take (k + 1)) = s := by
  unfold ans at hs ⊢
  rw [take_succ z5 hk, hy, List.filter_append, List.foldl_append, hs]
  simp [h]
def goodU (l : List I5) (id : Int) : Int := if (ans minI id l).1 < 0 then (ans minI id l).2 else wrap64 ((ans minI id l).1 - 1)
def badF (l : List I5) (id : Int) : Int := if (ans maxI id l).1 < 0 then 10001 else maxI (ans maxI id l).1 (wrap64 ((ans maxI id l).2 + 1))
def agr (l : List I5) (id : Int) : Bool := decide (badF l id = 10001) || decide (badF l id = wrap64 (goodU l id + 1))
theorem goodU_off {l : List I5} {id e g : Int} (h : ans minI id l = (e, g)) (he : e < 0) : goodU l id = g := by unfold goodU; rw [h]; exact if_pos he
theorem goodU_on {l : List I5} {id e g : Int} (h : ans minI id l = (e, g)) (he : ¬ e < 0) : goodU l id = wrap64 (e - 1) := by unfold goodU; rw [h]; exact if_neg he
theorem badF_off {l : List I5} {id e g : Int} (h : ans maxI id l = (e, g)) (he : e < 0) : badF l id = 10001 := by unfold badF; rw [h]; exact if_pos he
theorem badF_on {l : List I5} {id e g : Int} (h : ans maxI id l = (e, g)) (he : ¬ e < 0) : badF l id = maxI e (wrap64 (g + 1)) := by unfold badF; rw [h]; exact if_neg he
/-- e and g, as a call returns them -/
def Two (s : Int × Int) (w : World) (en : Ending) (w' : World) : Prop := en = .returned (.tuple #[.int .i64 s.1, .int .i64 s.2]) ∧ Below w.heap.size w w'
theorem Bx.c1 {w : World} {g : Nat} {T : TypeId} {x : Value} (h : Bx w g T #[x]) : w.cell? ⟨g, 0, none⟩ = some x := h.cell rfl
theorem drewOn {V w1 : World} (hb : Below V.drew.heap.size V.drew w1) : Below V.heap.size V w1 := below_on (below_drewN (Below.refl _ _) 1) hb
/-- the three variables that the closure shares with its maker -/
def Sh (K : Nat) (B : Nat) (s : Int × Int) (w : World) : Prop := Bx w B 96 #[.func (.func K) #[] #[]] ∧ Bx w (B + 1) 3 #[.int .i64 s.1] ∧ Bx w (B + 1 + 1) 3 #[.int .i64 s.2]
theorem Sh.below {K B : Nat} {s : Int × Int} {w w' : World} (h : Sh K B s w) (hb : Below w.heap.size w w') : Sh K B s w' := ⟨h.1.below hb, h.2.1.below hb, h.2.2.below hb⟩
theorem Sh.alloc {K B : Nat} {s : Int × Int} {w : World} (h : Sh K B s w) (o : Obj) : Sh K B s (w.alloc o) := h.below ((Below.refl _ _).alloc (Nat.le_refl _) _)
theorem Sh.drew {K B : Nat} {s : Int × Int} {w : World} (h : Sh K B s w) : Sh K B s w.drew := h.below (below_drewN (Below.refl _ _) 1)
theorem Sh.set {K B : Nat} {s : Int × Int} {w : World} (h : Sh K B s w) (e g : Int) : Sh K B (e, g) ((w.setCell ⟨B + 1, 0, none⟩ (.int .i64 e)).setCell ⟨B + 1 + 1, 0, none⟩ (.int .i64 g)) :=
  ⟨(h.1.far (q := ⟨B + 1, 0, none⟩) (show B ≠ B + 1 by omega) _).far (q := ⟨B + 1 + 1, 0, none⟩) (show B ≠ B + 1 + 1 by omega) _, (h.2.1.set_ 0 _).far (q := ⟨B + 1 + 1, 0, none⟩) (show B + 1 ≠ B + 1 + 1 by omega) _, (h.2.2.far (q := ⟨B + 1, 0, none⟩) (show B + 1 + 1 ≠ B + 1 by omega) _).set_ 0 _⟩
theorem Sh.cells {K B : Nat} {e g : Int} {w : World} (h : Sh K B (e, g) w) : w.cell? ⟨B, 0, none⟩ = some (.func (.func K) #[] #[]) ∧ w.cell? ⟨B + 1, 0, none⟩ = some (.int .i64 e) ∧ w.cell? ⟨B + 1 + 1, 0, none⟩ = some (.int .i64 g) := ⟨h.1.cell rfl, h.2.1.cell rfl, h.2.2.cell rfl⟩
set_option maxRecDepth 100000 in
set_option maxHeartbeats 8000000 in
theorem with_min (x0 x1 x2 x3 x4 e g : Int) (B : Nat) (w : World) (h : Sh 91 B (e, g) w) : Calls Try.prog 109 #[.agg #[.int .i64 x0, .int .i64 x1, .int .i64 x2, .int .i64 x3, .int .i64 x4], .pointer (some ⟨B + 1, 0, none⟩), .pointer (some ⟨B + 1 + 1, 0, none⟩), .pointer (some ⟨B, 0, none⟩)] w (Two (stp minI (e, g) (x0, x1, x2, x3, x4)) w) := by
  have HX := Lib.hid (Bx.new w 67 #[.int .i64 x0, .int .i64 x1, .int .i64 x2, .int .i64 x3, .int .i64 x4])
  have HB := Lib.hid ((Below.refl w.heap.size w).alloc (Nat.le_refl _) (.cells #[.int .i64 x0, .int .i64 x1, .int .i64 x2, .int .i64 x3, .int .i64 x4] 67))
  have HS := Lib.hid (h.alloc (.cells #[.int .i64 x0, .int .i64 x1, .int .i64 x2, .int .i64 x3, .int .i64 x4] 67))
  clear h
  by_cases h2 : x2 < 0
  · have HF := Lib.hid (stp_off (f := minI) (e := e) (g := g) (x0 := x0) (x1 := x1) (x3 := x3) (x4 := x4) h2)
    go_enter Try.func109, Try.ntmps109
    go_wp2_with fail
    generalize w.alloc (.cells #[.int .i64 x0, .int .i64 x1, .int .i64 x2, .int .i64 x3, .int .i64 x4] 67) = V at HX HB HS ⊢
    go_region_held3 (fun w' => (w'.cell? ⟨B, 0, none⟩ = some (.func (.func 91) #[] #[]) ∧ w'.cell? ⟨B + 1, 0, none⟩ = some (.int .i64 e) ∧ w'.cell? ⟨B + 1 + 1, 0, none⟩ = some (.int .i64 g)) ∧ (w'.cell? ⟨w.heap.size, 0, none⟩ = some (.int .i64 x0) ∧ w'.cell? ⟨w.heap.size, 1, none⟩ = some (.int .i64 x1) ∧ w'.cell? ⟨w.heap.size, 2, none⟩ = some (.int .i64 x2) ∧ w'.cell? ⟨w.heap.size, 3, none⟩ = some (.int .i64 x3) ∧ w'.cell? ⟨w.heap.size, 4, none⟩ = some (.int .i64 x4))) (first | exact ⟨Sh.cells HS2.out, bxc HX2.out⟩ | exact ⟨Sh.cells HS.out.drew, bxc HX.out.drew1⟩ | go_keep) (first
      | (go_at_call 92; (with_reducible refine (max_any _ _ _).mono ?_); rintro en w2 ⟨rfl, rfl⟩; have HS2 := Lib.hid (HS.out.drew.alloc (.cells #[.int .i64 x1] 3)); have HX2 := Lib.hid (HX.out.drew1.alloc (.cells #[.int .i64 x1] 3)); have HB2 := Lib.hid ((below_drewN HB.out 1).alloc (Nat.le_trans HB.out.size (Nat.le_refl _)) (.cells #[.int .i64 x1] 3))))
    all_goals
      go_wp2_with fail
      exact bodyPost_ret (v := .tuple #[.int .i64 e, .int .i64 (maxI g x1)]) (by simp [results, Try.results109, go_sem]) rfl ⟨by rw [HF.out], HB2.out⟩
  · by_cases h3 : e < 0
    · have HF := Lib.hid (stp_new (f := minI) (e := e) (g := g) (x0 := x0) (x1 := x1) (x3 := x3) (x4 := x4) h2 h3)
      obtain ⟨c0, c1, c2⟩ := Sh.cells HS.out
      go_enter Try.func109, Try.ntmps109
      go_wp2_with fail
      generalize w.alloc (.cells #[.int .i64 x0, .int .i64 x1, .int .i64 x2, .int .i64 x3, .int .i64 x4] 67) = V at HX HB HS c0 c1 c2 ⊢
      go_region_held3 (fun w' => (w'.cell? ⟨B, 0, none⟩ = some (.func (.func 91) #[] #[]) ∧ w'.cell? ⟨B + 1, 0, none⟩ = some (.int .i64 e) ∧ w'.cell? ⟨B + 1 + 1, 0, none⟩ = some (.int .i64 g)) ∧ (w'.cell? ⟨w.heap.size, 0, none⟩ = some (.int .i64 x0) ∧ w'.cell? ⟨w.heap.size, 1, none⟩ = some (.int .i64 x1) ∧ w'.cell? ⟨w.heap.size, 2, none⟩ = some (.int .i64 x2) ∧ w'.cell? ⟨w.heap.size, 3, none⟩ = some (.int .i64 x3) ∧ w'.cell? ⟨w.heap.size, 4, none⟩ = some (.int .i64 x4))) (first | exact ⟨Sh.cells HS2.out, bxc HX2.out⟩ | exact ⟨Sh.cells HS.out.drew, bxc HX.out.drew1⟩ | go_keep) (fail)
      all_goals
        go_wp2_with fail
        exact bodyPost_ret (v := .tuple #[.int .i64 x2, .int .i64 g]) (by simp [results, Try.results109, go_sem]) rfl ⟨by rw [HF.out], below_drewN HB.out 1⟩
    · have HF := Lib.hid (stp_old (f := minI) (e := e) (g := g) (x0 := x0) (x1 := x1) (x3 := x3) (x4 := x4) h2 h3)
      obtain ⟨c0, c1, c2⟩ := Sh.cells HS.out
      go_enter Try.func109, Try.ntmps109
      go_wp2_with fail
      generalize w.alloc (.cells #[.int .i64 x0, .int .i64 x1, .int .i64 x2, .int .i64 x3, .int .i64 x4] 67) = V at HX HB HS c0 c1 c2 ⊢
      go_region_held3 (fun w' => (w'.cell? ⟨B, 0, none⟩ = some (.func (.func 91) #[] #[]) ∧ w'.cell? ⟨B + 1, 0, none⟩ = some (.int .i64 e) ∧ w'.cell? ⟨B + 1 + 1, 0, none⟩ = some (.int .i64 g)) ∧ (w'.cell? ⟨w.heap.size, 0, none⟩ = some (.int .i64 x0) ∧ w'.cell? ⟨w.heap.size, 1, none⟩ = some (.int .i64 x1) ∧ w'.cell? ⟨w.heap.size, 2, none⟩ = some (.int .i64 x2) ∧ w'.cell? ⟨w.heap.size, 3, none⟩ = some (.int .i64 x3) ∧ w'.cell? ⟨w.heap.size, 4, none⟩ = some (.int .i64 x4))) (first | exact ⟨Sh.cells HS2.out, bxc HX2.out⟩ | exact ⟨Sh.cells HS.out.drew, bxc HX.out.drew1⟩ | go_keep) (first
        | (go_at_call 91; (with_reducible refine (min_any _ _ _).mono ?_); rintro en w2 ⟨rfl, rfl⟩; have HS2 := Lib.hid (HS.out.drew.alloc (.cells #[.int .i64 x2] 3)); have HX2 := Lib.hid (HX.out.drew1.alloc (.cells #[.int .i64 x2] 3)); have HB2 := Lib.hid ((below_drewN HB.out 1).alloc (Nat.le_trans HB.out.size (Nat.le_refl _)) (.cells #[.int .i64 x2] 3))))
      all_goals
        go_wp2_with fail
        exact bodyPost_ret (v := .tuple #[.int .i64 (minI e x2), .int .i64 g]) (by simp [results, Try.results109, go_sem]) rfl ⟨by rw [HF.out], HB2.out⟩
set_option maxRecDepth 100000 in
set_option maxHeartbeats 8000000 in
theorem fold_min (p : Option Addr) (n c : Nat) (xs : List I5) (id : Int) (w : World) (hr : RdS E w p n xs) : Calls Try.prog 90 #[.slice p n c, .int .i64 id, .func (.func 91) #[] #[]] w (Two (ans minI id xs) w) := by
  have hL := hr.len
  have hle := hr.le
  have HV : Hid (Below w.heap.size w (((w.alloc (.cells #[.func (.func 91) #[] #[]] 96)).alloc (.cells #[.int .i64 (-1)] 3)).alloc (.cells #[.int .i64 (-1)] 3))) := Lib.hid ((((Below.refl w.heap.size w).alloc (Nat.le_refl _) _).alloc (by simp) _).alloc (by simp; omega) _)
  have HS0 : Hid (Sh 91 w.heap.size (-1, -1) (((w.alloc (.cells #[.func (.func 91) #[] #[]] 96)).alloc (.cells #[.int .i64 (-1)] 3)).alloc (.cells #[.int .i64 (-1)] 3))) := Lib.hid (by
    have h1 := ((Bx.new w 96 #[.func (.func 91) #[] #[]]).alloc (.cells #[.int .i64 (-1)] 3)).alloc (.cells #[.int .i64 (-1)] 3)
    have h2 := (Bx.new (w.alloc (.cells #[.func (.func 91) #[] #[]] 96)) 3 #[.int .i64 (-1)]).alloc (.cells #[.int .i64 (-1)] 3)
    have h3 := Bx.new ((w.alloc (.cells #[.func (.func 91) #[] #[]] 96)).alloc (.cells #[.int .i64 (-1)] 3)) 3 #[.int .i64 (-1)]
    rw [World.size_alloc] at h2
    rw [World.size_alloc, World.size_alloc] at h3
    exact ⟨h1, h2, h3⟩)
  have HR := Lib.hid hr
  have H0 : Hid (ans minI id (xs.take 0) = (-1, -1)) := Lib.hid (by simp [ans])
  clear hr
  go_enter Try.func90, Try.ntmps90
  go_wp2_with fail
  generalize ((w.alloc (.cells #[.func (.func 91) #[] #[]] 96)).alloc (.cells #[.int .i64 (-1)] 3)).alloc (.cells #[.int .i64 (-1)] 3) = V at HV HS0 ⊢
  go_loopw [15] (fun i wr => ∃ (k : Nat) (s : Int × Int), k ≤ n ∧ i = .int .i64 k ∧ Hid (ans minI id (xs.take k) = s) ∧ Hid (Sh 91 w.heap.size s wr) ∧ Hid (Below w.heap.size w wr)) (fun i _ => n - (intOf i).toNat)
  case atStart => exact ⟨0, _, Nat.zero_le _, rfl, H0, HS0, HV⟩
  case round =>
    obtain ⟨k, ⟨e, g⟩, hk, rfl, HA, HS, HB⟩ := hrel
    have hsz := HB.out.size
    by_cases hlt : k < n
    · obtain ⟨b, o, rfl, hb, hat⟩ := rd_at (HR.out.below HB.out) hlt
      have hkx : k < xs.length := by omega
      generalize hy : xs.getD k SlStatus.zero = y at hat
      obtain ⟨y0, y1, y2, y3, y4⟩ := y
      obtain ⟨c0, c1, c2, c3, c4⟩ := hat
      by_cases he : y0 = id
      · subst he
        obtain ⟨⟨e', g'⟩, hs'⟩ : ∃ s', stp minI (e, g) (y0, y1, y2, y3, y4) = s' := ⟨_, rfl⟩
        have HI := Lib.hid ((ans_yes hkx hy rfl HA.out).trans hs')
        have HST := Lib.hid hs'
        clear hy hkx hs' hL
        go_wp2_with fail
        refine (with_min y0 y1 y2 y3 y4 e g w.heap.size _ HS.out).mono ?_
        rintro en w2 ⟨rfl, hb2⟩
        rw [HST.out]
        have HS2 := Lib.hid (HS.out.below hb2)
        have HB2 := Lib.hid (below_on HB.out hb2)
        obtain ⟨_, q1, q2⟩ := Sh.cells HS2.out
        have f1 := HS2.out.2.1.free 0
        have f2 := HS2.out.2.2.free 0
        clear hb2 c0 c1 c2 c3 c4
        go_wp2_with fail
        go_roundw
        case rel => exact ⟨k + 1, (e', g'), by omega, by go_num, HI, Lib.hid (HS2.out.set e' g'), Lib.hid ((HB2.out.setCell (p := ⟨w.heap.size + 1, 0, none⟩) (by simp) _).setCell (p := ⟨w.heap.size + 1 + 1, 0, none⟩) (by simp; omega) _)⟩
        case measure => simp [intOf]; omega
      · have HI := Lib.hid (ans_no (f := minI) hkx hy he HA.out)
        have hne : (y0 == id) = false := by simpa using he
        clear hy hkx hL
        go_wp2_with fail
        go_roundw
        case rel => exact ⟨k + 1, (e, g), by omega, by go_num, HI, HS, HB⟩
        case measure => simp [intOf]; omega
    · obtain rfl : k = n := by omega
      have hT : xs.take k = xs := List.take_of_length_le (by omega)
      have hZ := HA.out
      rw [hT] at hZ
      have HZ := Lib.hid hZ
      clear hT hZ
      obtain ⟨_, q1, q2⟩ := Sh.cells HS.out
      go_wp2_with fail
      go_region_held3 (fun w' => w'.cell? ⟨w.heap.size + 1, 0, none⟩ = some (.int .i64 e) ∧ w'.cell? ⟨w.heap.size + 1 + 1, 0, none⟩ = some (.int .i64 g)) (first | exact ⟨q1, q2⟩ | go_keep) (fail)
      all_goals
        go_wp2_with fail
        exact bodyPost_ret (v := .tuple #[.int .i64 e, .int .i64 g]) (by simp [results, Try.results90, go_sem]) rfl ⟨by rw [HZ.out], below_drewN HB.out 1⟩
set_option maxRecDepth 100000 in
set_option maxHeartbeats 8000000 in
theorem with_max (x0 x1 x2 x3 x4 e g : Int) (B : Nat) (w : World) (h : Sh 92 B (e, g) w) : Calls Try.prog 109 #[.agg #[.int .i64 x0, .int .i64 x1, .int .i64 x2, .int .i64 x3, .int .i64 x4], .pointer (some ⟨B + 1, 0, none⟩), .pointer (some ⟨B + 1 + 1, 0, none⟩), .pointer (some ⟨B, 0, none⟩)] w (Two (stp maxI (e, g) (x0, x1, x2, x3, x4)) w) := by
  have HX := Lib.hid (Bx.new w 67 #[.int .i64 x0, .int .i64 x1, .int .i64 x2, .int .i64 x3, .int .i64 x4])
  have HB := Lib.hid ((Below.refl w.heap.size w).alloc (Nat.le_refl _) (.cells #[.int .i64 x0, .int .i64 x1, .int .i64 x2, .int .i64 x3, .int .i64 x4] 67))
  have HS := Lib.hid (h.alloc (.cells #[.int .i64 x0, .int .i64 x1, .int .i64 x2, .int .i64 x3, .int .i64 x4] 67))
  clear h
  by_cases h2 : x2 < 0
  · have HF := Lib.hid (stp_off (f := maxI) (e := e) (g := g) (x0 := x0) (x1 := x1) (x3 := x3) (x4 := x4) h2)
    go_enter Try.func109, Try.ntmps109
    go_wp2_with fail
    generalize w.alloc (.cells #[.int .i64 x0, .int .i64 x1, .int .i64 x2, .int .i64 x3, .int .i64 x4] 67) = V at HX HB HS ⊢
    go_region_held3 (fun w' => (w'.cell? ⟨B, 0, none⟩ = some (.func (.func 92) #[] #[]) ∧ w'.cell? ⟨B + 1, 0, none⟩ = some (.int .i64 e) ∧ w'.cell? ⟨B + 1 + 1, 0, none⟩ = some (.int .i64 g)) ∧ (w'.cell? ⟨w.heap.size, 0, none⟩ = some (.int .i64 x0) ∧ w'.cell? ⟨w.heap.size, 1, none⟩ = some (.int .i64 x1) ∧ w'.cell? ⟨w.heap.size, 2, none⟩ = some (.int .i64 x2) ∧ w'.cell? ⟨w.heap.size, 3, none⟩ = some (.int .i64 x3) ∧ w'.cell? ⟨w.heap.size, 4, none⟩ = some (.int .i64 x4))) (first | exact ⟨Sh.cells HS2.out, bxc HX2.out⟩ | exact ⟨Sh.cells HS.out.drew, bxc HX.out.drew1⟩ | go_keep) (first
      | (go_at_call 92; (with_reducible refine (max_any _ _ _).mono ?_); rintro en w2 ⟨rfl, rfl⟩; have HS2 := Lib.hid (HS.out.drew.alloc (.cells #[.int .i64 x1] 3)); have HX2 := Lib.hid (HX.out.drew1.alloc (.cells #[.int .i64 x1] 3)); have HB2 := Lib.hid ((below_drewN HB.out 1).alloc (Nat.le_trans HB.out.size (Nat.le_refl _)) (.cells #[.int .i64 x1] 3))))
    all_goals
      go_wp2_with fail
      exact bodyPost_ret (v := .tuple #[.int .i64 e, .int .i64 (maxI g x1)]) (by simp [results, Try.results109, go_sem]) rfl ⟨by rw [HF.out], HB2.out⟩
  · by_cases h3 : e < 0
    · have HF := Lib.hid (stp_new (f := maxI) (e := e) (g := g) (x0 := x0) (x1 := x1) (x3 := x3) (x4 := x4) h2 h3)
      obtain ⟨c0, c1, c2⟩ := Sh.cells HS.out
      go_enter Try.func109, Try.ntmps109
      go_wp2_with fail
      generalize w.alloc (.cells #[.int .i64 x0, .int .i64 x1, .int .i64 x2, .int .i64 x3, .int .i64 x4] 67) = V at HX HB HS c0 c1 c2 ⊢
      go_region_held3 (fun w' => (w'.cell? ⟨B, 0, none⟩ = some (.func (.func 92) #[] #[]) ∧ w'.cell? ⟨B + 1, 0, none⟩ = some (.int .i64 e) ∧ w'.cell? ⟨B + 1 + 1, 0, none⟩ = some (.int .i64 g)) ∧ (w'.cell? ⟨w.heap.size, 0, none⟩ = some (.int .i64 x0) ∧ w'.cell? ⟨w.heap.size, 1, none⟩ = some (.int .i64 x1) ∧ w'.cell? ⟨w.heap.size, 2, none⟩ = some (.int .i64 x2) ∧ w'.cell? ⟨w.heap.size, 3, none⟩ = some (.int .i64 x3) ∧ w'.cell? ⟨w.heap.size, 4, none⟩ = some (.int .i64 x4))) (first | exact ⟨Sh.cells HS2.out, bxc HX2.out⟩ | exact ⟨Sh.cells HS.out.drew, bxc HX.out.drew1⟩ | go_keep) (fail)
      all_goals
        go_wp2_with fail
        exact bodyPost_ret (v := .tuple #[.int .i64 x2, .int .i64 g]) (by simp [results, Try.results109, go_sem]) rfl ⟨by rw [HF.out], below_drewN HB.out 1⟩
    · have HF := Lib.hid (stp_old (f := maxI) (e := e) (g := g) (x0 := x0) (x1 := x1) (x3 := x3) (x4 := x4) h2 h3)
      obtain ⟨c0, c1, c2⟩ := Sh.cells HS.out
      go_enter Try.func109, Try.ntmps109
      go_wp2_with fail
      generalize w.alloc (.cells #[.int .i64 x0, .int .i64 x1, .int .i64 x2, .int .i64 x3, .int .i64 x4] 67) = V at HX HB HS c0 c1 c2 ⊢
      go_region_held3 (fun w' => (w'.cell? ⟨B, 0, none⟩ = some (.func (.func 92) #[] #[]) ∧ w'.cell? ⟨B + 1, 0, none⟩ = some (.int .i64 e) ∧ w'.cell? ⟨B + 1 + 1, 0, none⟩ = some (.int .i64 g)) ∧ (w'.cell? ⟨w.heap.size, 0, none⟩ = some (.int .i64 x0) ∧ w'.cell? ⟨w.heap.size, 1, none⟩ = some (.int .i64 x1) ∧ w'.cell? ⟨w.heap.size, 2, none⟩ = some (.int .i64 x2) ∧ w'.cell? ⟨w.heap.size, 3, none⟩ = some (.int .i64 x3) ∧ w'.cell? ⟨w.heap.size, 4, none⟩ = some (.int .i64 x4))) (first | exact ⟨Sh.cells HS2.out, bxc HX2.out⟩ | exact ⟨Sh.cells HS.out.drew, bxc HX.out.drew1⟩ | go_keep) (first
        | (go_at_call 92; (with_reducible refine (max_any _ _ _).mono ?_); rintro en w2 ⟨rfl, rfl⟩; have HS2 := Lib.hid (HS.out.drew.alloc (.cells #[.int .i64 x2] 3)); have HX2 := Lib.hid (HX.out.drew1.alloc (.cells #[.int .i64 x2] 3)); have HB2 := Lib.hid ((below_drewN HB.out 1).alloc (Nat.le_trans HB.out.size (Nat.le_refl _)) (.cells #[.int .i64 x2] 3))))
      all_goals
        go_wp2_with fail
        exact bodyPost_ret (v := .tuple #[.int .i64 (maxI e x2), .int .i64 g]) (by simp [results, Try.results109, go_sem]) rfl ⟨by rw [HF.out], HB2.out⟩
set_option maxRecDepth 100000 in
set_option maxHeartbeats 8000000 in
theorem fold_max (p : Option Addr) (n c : Nat) (xs : List I5) (id : Int) (w : World) (hr : RdS E w p n xs) : Calls Try.prog 90 #[.slice p n c, .int .i64 id, .func (.func 92) #[] #[]] w (Two (ans maxI id xs) w) := by
  have hL := hr.len
  have hle := hr.le
  have HV : Hid (Below w.heap.size w (((w.alloc (.cells #[.func (.func 92) #[] #[]] 96)).alloc (.cells #[.int .i64 (-1)] 3)).alloc (.cells #[.int .i64 (-1)] 3))) := Lib.hid ((((Below.refl w.heap.size w).alloc (Nat.le_refl _) _).alloc (by simp) _).alloc (by simp; omega) _)
  have HS0 : Hid (Sh 92 w.heap.size (-1, -1) (((w.alloc (.cells #[.func (.func 92) #[] #[]] 96)).alloc (.cells #[.int .i64 (-1)] 3)).alloc (.cells #[.int .i64 (-1)] 3))) := Lib.hid (by
    have h1 := ((Bx.new w 96 #[.func (.func 92) #[] #[]]).alloc (.cells #[.int .i64 (-1)] 3)).alloc (.cells #[.int .i64 (-1)] 3)
    have h2 := (Bx.new (w.alloc (.cells #[.func (.func 92) #[] #[]] 96)) 3 #[.int .i64 (-1)]).alloc (.cells #[.int .i64 (-1)] 3)
    have h3 := Bx.new ((w.alloc (.cells #[.func (.func 92) #[] #[]] 96)).alloc (.cells #[.int .i64 (-1)] 3)) 3 #[.int .i64 (-1)]
    rw [World.size_alloc] at h2
    rw [World.size_alloc, World.size_alloc] at h3
    exact ⟨h1, h2, h3⟩)
  have HR := Lib.hid hr
  have H0 : Hid (ans maxI id (xs.take 0) = (-1, -1)) := Lib.hid (by simp [ans])
  clear hr
  go_enter Try.func90, Try.ntmps90
  go_wp2_with fail
  generalize ((w.alloc (.cells #[.func (.func 92) #[] #[]] 96)).alloc (.cells #[.int .i64 (-1)] 3)).alloc (.cells #[.int .i64 (-1)] 3) = V at HV HS0 ⊢
  go_loopw [15] (fun i wr => ∃ (k : Nat) (s : Int × Int), k ≤ n ∧ i = .int .i64 k ∧ Hid (ans maxI id (xs.take k) = s) ∧ Hid (Sh 92 w.heap.size s wr) ∧ Hid (Below w.heap.size w wr)) (fun i _ => n - (intOf i).toNat)
  case atStart => exact ⟨0, _, Nat.zero_le _, rfl, H0, HS0, HV⟩
  case round =>
    obtain ⟨k, ⟨e, g⟩, hk, rfl, HA, HS, HB⟩ := hrel
    have hsz := HB.out.size
    by_cases hlt : k < n
    · obtain ⟨b, o, rfl, hb, hat⟩ := rd_at (HR.out.below HB.out) hlt
      have hkx : k < xs.length := by omega
      generalize hy : xs.getD k SlStatus.zero = y at hat
      obtain ⟨y0, y1, y2, y3, y4⟩ := y
      obtain ⟨c0, c1, c2, c3, c4⟩ := hat
      by_cases he : y0 = id
      · subst he
        obtain ⟨⟨e', g'⟩, hs'⟩ : ∃ s', stp maxI (e, g) (y0, y1, y2, y3, y4) = s' := ⟨_, rfl⟩
        have HI := Lib.hid ((ans_yes hkx hy rfl HA.out).trans hs')
        have HST := Lib.hid hs'
        clear hy hkx hs' hL
        go_wp2_with fail
        refine (with_max y0 y1 y2 y3 y4 e g w.heap.size _ HS.out).mono ?_
        rintro en w2 ⟨rfl, hb2⟩
        rw [HST.out]
        have HS2 := Lib.hid (HS.out.below hb2)
        have HB2 := Lib.hid (below_on HB.out hb2)
        obtain ⟨_, q1, q2⟩ := Sh.cells HS2.out
        have f1 := HS2.out.2.1.free 0
        have f2 := HS2.out.2.2.free 0
        clear hb2 c0 c1 c2 c3 c4
        go_wp2_with fail
        go_roundw
        case rel => exact ⟨k + 1, (e', g'), by omega, by go_num, HI, Lib.hid (HS2.out.set e' g'), Lib.hid ((HB2.out.setCell (p := ⟨w.heap.size + 1, 0, none⟩) (by simp) _).setCell (p := ⟨w.heap.size + 1 + 1, 0, none⟩) (by simp; omega) _)⟩
        case measure => simp [intOf]; omega
      · have HI := Lib.hid (ans_no (f := maxI) hkx hy he HA.out)
        have hne : (y0 == id) = false := by simpa using he
        clear hy hkx hL
        go_wp2_with fail
        go_roundw
        case rel => exact ⟨k + 1, (e, g), by omega, by go_num, HI, HS, HB⟩
        case measure => simp [intOf]; omega
    · obtain rfl : k = n := by omega
      have hT : xs.take k = xs := List.take_of_length_le (by omega)
      have hZ := HA.out
      rw [hT] at hZ
      have HZ := Lib.hid hZ
      clear hT hZ
      obtain ⟨_, q1, q2⟩ := Sh.cells HS.out
      go_wp2_with fail
      go_region_held3 (fun w' => w'.cell? ⟨w.heap.size + 1, 0, none⟩ = some (.int .i64 e) ∧ w'.cell? ⟨w.heap.size + 1 + 1, 0, none⟩ = some (.int .i64 g)) (first | exact ⟨q1, q2⟩ | go_keep) (fail)
      all_goals
        go_wp2_with fail
        exact bodyPost_ret (v := .tuple #[.int .i64 e, .int .i64 g]) (by simp [results, Try.results90, go_sem]) rfl ⟨by rw [HZ.out], below_drewN HB.out 1⟩
set_option maxRecDepth 100000 in
set_option maxHeartbeats 4000000 in
theorem goodU_any (p : Option Addr) (n c : Nat) (xs : List I5) (id : Int) (w : World) (hr : RdS E w p n xs) : Calls Try.prog 67 #[.slice p n c, .int .i64 id] w (Val (.int .i64 (goodU xs id)) w) := by
  have HR := Lib.hid hr
  obtain ⟨⟨e, g⟩, ha⟩ : ∃ s, ans minI id xs = s := ⟨_, rfl⟩
  have HA := Lib.hid ha
  clear hr
  by_cases he : e < 0
  all_goals
    first | have HG := Lib.hid (goodU_off ha he) | have HG := Lib.hid (goodU_on ha he)
    clear ha
    go_enter Try.func67, Try.ntmps67
    go_wp2_with fail
    refine (fold_min p n c xs id _ HR.out).mono ?_
    rintro en w1 ⟨rfl, hb⟩
    rw [HA.out]
    have HB := Lib.hid hb
    clear hb
    go_wp2_with fail
    first
      | (go_ret; exact ⟨by rw [HG.out]; rfl, HB.out⟩)
      | (refine (max_any _ _ _).mono ?_; rintro en w2 ⟨rfl, rfl⟩; go_wp2_with fail; go_ret; exact ⟨by rw [HG.out]; rfl, HB.out.alloc HB.out.size _⟩)
set_option maxRecDepth 100000 in
set_option maxHeartbeats 4000000 in
theorem badF_any (p : Option Addr) (n c : Nat) (xs : List I5) (id : Int) (w : World) (hr : RdS E w p n xs) : Calls Try.prog 68 #[.slice p n c, .int .i64 id] w (Val (.int .i64 (badF xs id)) w) := by
  have HR := Lib.hid hr
  obtain ⟨⟨e, g⟩, ha⟩ : ∃ s, ans maxI id xs = s := ⟨_, rfl⟩
  have HA := Lib.hid ha
  clear hr
  by_cases he : e < 0
  all_goals
    first | have HG := Lib.hid (badF_off ha he) | have HG := Lib.hid (badF_on ha he)
    clear ha
    go_enter Try.func68, Try.ntmps68
    go_wp2_with fail
    refine (fold_max p n c xs id _ HR.out).mono ?_
    rintro en w1 ⟨rfl, hb⟩
    rw [HA.out]
    have HB := Lib.hid hb
    clear hb
    go_wp2_with fail
    first
      | (go_ret; exact ⟨by rw [HG.out]; rfl, HB.out⟩)
      | (refine (max_any _ _ _).mono ?_; rintro en w2 ⟨rfl, rfl⟩; go_wp2_with fail; go_ret; exact ⟨by rw [HG.out]; rfl, HB.out.alloc HB.out.size _⟩)
set_option maxRecDepth 100000 in
set_option maxHeartbeats 8000000 in
theorem spec_goodU_any (p : Option Addr) (n c : Nat) (xs : List I5) (id : Int) (w : World) (hr : RdS E w p n xs) : Calls Try.prog 37 #[.slice p n c, .int .i64 id] w (Val (.int .i64 (goodU xs id)) w) := by
  have HR := Lib.hid hr
  have hL := hr.len
  have hle := hr.le
  clear hr
  go_enter Try.func37, Try.ntmps37
  go_wp2_with fail
  go_loop [5, 6, 7] (fun a b i => ∃ (k : Nat) (e g : Int), k ≤ n ∧ a = .int .i64 e ∧ b = .int .i64 g ∧ i = .int .i64 k ∧ Hid (-1 ≤ e) ∧ Hid (ans minI id (xs.take k) = (e, g))) (fun _ _ i => n - (intOf i).toNat)
  case atStart => exact ⟨0, -1, -1, Nat.zero_le _, rfl, rfl, rfl, Lib.hid (by omega), Lib.hid (by simp [ans])⟩
  case round =>
    obtain ⟨k, e, g, hk, rfl, rfl, rfl, HE, HA⟩ := hrel
    by_cases hlt : k < n
    · obtain ⟨b, o, rfl, hb, hat⟩ := rd_at HR.out hlt
      have hkx : k < xs.length := by omega
      generalize hy : xs.getD k SlStatus.zero = y at hat
      obtain ⟨y0, y1, y2, y3, y4⟩ := y
      obtain ⟨c0, c1, c2, c3, c4⟩ := hat
      by_cases he : y0 = id
      · subst he
        have HI := Lib.hid (ans_yes (f := minI) hkx hy rfl HA.out)
        have he1 := HE.out
        clear hy hkx hL
        by_cases h2 : y2 < 0
        · go_wp2_with fail
          refine (spec_max_any _ _ _).mono ?_
          rintro en w2 ⟨rfl, rfl⟩
          go_wp2_with fail
          go_round
          case rel => exact ⟨k + 1, e, (maxI g y1), by omega, rfl, rfl, by go_num, Lib.hid (HE.out), Lib.hid (HI.out.trans (stp_off h2))⟩
          case measure => simp [intOf]; omega
        · by_cases h3 : e < 0
          · go_wp2_with fail
            go_round
            case rel => exact ⟨k + 1, y2, g, by omega, rfl, rfl, by go_num, Lib.hid (by omega), Lib.hid (HI.out.trans (stp_new h2 h3))⟩
            case measure => simp [intOf]; omega
          · by_cases h4 : y2 < e
            · go_wp2_with fail
              go_round
              case rel => exact ⟨k + 1, y2, g, by omega, rfl, rfl, by go_num, Lib.hid (by omega), Lib.hid (HI.out.trans ((stp_old h2 h3).trans (by rw [minI_lt h4])))⟩
              case measure => simp [intOf]; omega
            · go_wp2_with fail
              go_round
              case rel => exact ⟨k + 1, e, g, by omega, rfl, rfl, by go_num, Lib.hid (HE.out), Lib.hid (HI.out.trans ((stp_old h2 h3).trans (by rw [minI_ge h4])))⟩
              case measure => simp [intOf]; omega
      · have HI := Lib.hid (ans_no (f := minI) hkx hy he HA.out)
        have hne : (y0 == id) = false := by simpa using he
        have hnf : (y0 != id) = true := by simpa using he
        clear hy hkx hL
        go_wp2_with fail
        go_round
        case rel => exact ⟨k + 1, e, g, by omega, rfl, rfl, by go_num, HE, HI⟩
        case measure => simp [intOf]; omega
    · obtain rfl : k = n := by omega
      have hT : xs.take k = xs := List.take_of_length_le (by omega)
      have hZ := HA.out
      rw [hT] at hZ
      clear hT
      by_cases he : e < 0
      all_goals
        first | have HG := Lib.hid (goodU_off hZ he) | have HG := Lib.hid (goodU_on hZ he)
        clear hZ
        go_wp2_with fail
        first
          | (go_ret; exact ⟨by rw [HG.out]; rfl, Below.refl _ _⟩)
          | (refine (spec_max_any _ _ _).mono ?_; rintro en w2 ⟨rfl, rfl⟩; go_wp2_with fail; go_ret; exact ⟨by rw [HG.out]; rfl, Below.refl _ _⟩)
set_option maxRecDepth 100000 in
set_option maxHeartbeats 8000000 in
theorem spec_badF_any (p : Option Addr) (n c : Nat) (xs : List I5) (id : Int) (w : World) (hr : RdS E w p n xs) : Calls Try.prog 48 #[.slice p n c, .int .i64 id] w (Val (.int .i64 (badF xs id)) w) := by
  have HR := Lib.hid hr
  have hL := hr.len
  have hle := hr.le
  clear hr
  go_enter Try.func48, Try.ntmps48
  go_wp2_with fail
  go_loop [5, 6, 7] (fun a b i => ∃ (k : Nat) (e g : Int), k ≤ n ∧ a = .int .i64 e ∧ b = .int .i64 g ∧ i = .int .i64 k ∧ Hid (-1 ≤ e) ∧ Hid (ans maxI id (xs.take k) = (e, g))) (fun _ _ i => n - (intOf i).toNat)
  case atStart => exact ⟨0, -1, -1, Nat.zero_le _, rfl, rfl, rfl, Lib.hid (by omega), Lib.hid (by simp [ans])⟩
  case round =>
    obtain ⟨k, e, g, hk, rfl, rfl, rfl, HE, HA⟩ := hrel
    by_cases hlt : k < n
    · obtain ⟨b, o, rfl, hb, hat⟩ := rd_at HR.out hlt
      have hkx : k < xs.length := by omega
      generalize hy : xs.getD k SlStatus.zero = y at hat
      obtain ⟨y0, y1, y2, y3, y4⟩ := y
      obtain ⟨c0, c1, c2, c3, c4⟩ := hat
      by_cases he : y0 = id
      · subst he
        have HI := Lib.hid (ans_yes (f := maxI) hkx hy rfl HA.out)
        have he1 := HE.out
        clear hy hkx hL
        by_cases h2 : y2 < 0
        · go_wp2_with fail
          refine (spec_max_any _ _ _).mono ?_
          rintro en w2 ⟨rfl, rfl⟩
          go_wp2_with fail
          go_round
          case rel => exact ⟨k + 1, e, (maxI g y1), by omega, rfl, rfl, by go_num, Lib.hid (HE.out), Lib.hid (HI.out.trans (stp_off h2))⟩
          case measure => simp [intOf]; omega
        · by_cases h4 : e < 0
          · have hm : maxI e y2 = y2 := maxI_lt (by omega)
            have HMX := Lib.hid hm
            clear hm
            go_wp2_with fail
            refine (spec_max_any _ _ _).mono ?_
            rintro en w2 ⟨rfl, rfl⟩
            go_wp2_with fail
            go_round
            case rel => exact ⟨k + 1, (maxI e y2), g, by omega, rfl, rfl, by go_num, Lib.hid (by rw [HMX.out]; omega), Lib.hid (HI.out.trans (by rw [HMX.out]; exact stp_new (by omega) h4))⟩
            case measure => simp [intOf]; omega
          · go_wp2_with fail
            refine (spec_max_any _ _ _).mono ?_
            rintro en w2 ⟨rfl, rfl⟩
            go_wp2_with fail
            go_round
            case rel => exact ⟨k + 1, (maxI e y2), g, by omega, rfl, rfl, by go_num, Lib.hid (by unfold maxI; split <;> omega), Lib.hid (HI.out.trans (stp_old (by omega) (by omega)))⟩
            case measure => simp [intOf]; omega
      · have HI := Lib.hid (ans_no (f := maxI) hkx hy he HA.out)
        have hne : (y0 == id) = false := by simpa using he
        have hnf : (y0 != id) = true := by simpa using he
        clear hy hkx hL
        go_wp2_with fail
        go_round
        case rel => exact ⟨k + 1, e, g, by omega, rfl, rfl, by go_num, HE, HI⟩
        case measure => simp [intOf]; omega
    · obtain rfl : k = n := by omega
      have hT : xs.take k = xs := List.take_of_length_le (by omega)
      have hZ := HA.out
      rw [hT] at hZ
      clear hT
      by_cases he : e < 0
      all_goals
        first | have HG := Lib.hid (badF_off hZ he) | have HG := Lib.hid (badF_on hZ he)
        clear hZ
        go_wp2_with fail
        first
          | (go_ret; exact ⟨by rw [HG.out]; rfl, Below.refl _ _⟩)
          | (refine (spec_max_any _ _ _).mono ?_; rintro en w2 ⟨rfl, rfl⟩; go_wp2_with fail; go_ret; exact ⟨by rw [HG.out]; rfl, Below.refl _ _⟩)
end Go.Proofs.Ytlgkgccmilapbaa.Gu
