/- The walk of the law FnExactMeetSpans. -/
import Derived.Test.YtamlmpigllidoabSlSpan
import Derived.Test.YtamlmpigllidoabSp
import Derived.Deep.RegionHeld3
import Derived.OpenShut
namespace Go.Proofs.Ytamlmpigllidoab.fnExactMeetSpans
open Go.ChangeShapes Go.WideShapes Go.ChangeAt Go.RowKit Sl St Jn Sps SlSpan
/-- what lay before stands, and these blocks -/
def K (l : List (Nat × TypeId × Array Value)) (W w : World) : Prop := Below W.heap.size W w ∧ ∀ e ∈ l, Bx w e.1 e.2.1 e.2.2
theorem K.below {l : List (Nat × TypeId × Array Value)} {W w w' : World} (h : K l W w) (hb : Below w.heap.size w w') : K l W w' := ⟨below_on h.1 hb, fun e he => (h.2 e he).below hb⟩
theorem K.alloc {l : List (Nat × TypeId × Array Value)} {W w : World} (h : K l W w) (o : Obj) : K l W (w.alloc o) := h.below ((Below.refl _ _).alloc (Nat.le_refl _) _)
theorem K.drew {l : List (Nat × TypeId × Array Value)} {W w : World} (h : K l W w) : K l W w.drew := h.below (below_drewN (Below.refl _ _) 1)
theorem K.new {l : List (Nat × TypeId × Array Value)} {W w : World} (h : K l W w) (T : TypeId) (cs : Array Value) : K (l ++ [(w.heap.size, T, cs)]) W (w.alloc (.cells cs T)) :=
  ⟨(h.alloc _).1, fun e he => by
    rcases List.mem_append.1 he with he | he
    · exact (h.alloc _).2 e he
    · rw [List.mem_singleton] at he
      subst he
      exact Bx.new _ _ _⟩
theorem K.fresh {l : List (Nat × TypeId × Array Value)} {W w : World} (h : K l W w) : ∀ e ∈ l, e.1 ≠ w.heap.size := fun e he => Nat.ne_of_lt (h.2 e he).lt
theorem K.newG {l : List (Nat × TypeId × Array Value)} {W w : World} (h : K l W w) (g : Nat) (hg : g = w.heap.size) (T : TypeId) (cs : Array Value) : K (l ++ [(g, T, cs)]) W (w.alloc (.cells cs T)) := by
  subst hg
  exact h.new T cs
theorem K.freshG {l : List (Nat × TypeId × Array Value)} {W w : World} (h : K l W w) (g : Nat) (hg : g = w.heap.size) : ∀ e ∈ l, e.1 ≠ g := by
  subst hg
  exact h.fresh
theorem K.sizeG {l : List (Nat × TypeId × Array Value)} {W w : World} (h : K l W w) (g : Nat) (hg : g = w.heap.size) : W.heap.size ≤ g := by
  subst hg
  exact h.1.size
theorem K.set2 {l : List (Nat × TypeId × Array Value)} {W w : World} {g : Nat} {T : TypeId} {a b : Value} (h : K (l ++ [(g, T, #[a, b])]) W w) (hn : ∀ e ∈ l, e.1 ≠ g) (hg : W.heap.size ≤ g) {u v : Value} : K (l ++ [(g, T, #[u, v])]) W ((w.setCell ⟨g, 0, none⟩ u).setCell ⟨g, 1, none⟩ v) :=
  ⟨(h.1.setCell (p := ⟨g, 0, none⟩) hg _).setCell (p := ⟨g, 1, none⟩) hg _, fun e he => by
    rcases List.mem_append.1 he with he | he
    · exact ((h.2 e (List.mem_append.2 (Or.inl he))).far (q := ⟨g, 0, none⟩) (hn e he) u).far (q := ⟨g, 1, none⟩) (hn e he) v
    · rw [List.mem_singleton] at he
      subst he
      exact ((h.2 _ (List.mem_append.2 (Or.inr (List.mem_singleton.2 rfl)))).set_ 0 u).set_ 1 v⟩
theorem K.s4 {l : List (Nat × TypeId × Array Value)} {W w : World} {g g' : Nat} {T : TypeId} {a b c d : Value} (h : K ((g, T, #[a, b]) :: (g', T, #[c, d]) :: l) W w) : w.cell? ⟨g, 0, none⟩ = some a ∧ w.cell? ⟨g, 1, none⟩ = some b ∧ w.cell? ⟨g', 0, none⟩ = some c ∧ w.cell? ⟨g', 1, none⟩ = some d :=
  ⟨(h.2 _ (.head _)).cell rfl, (h.2 _ (.head _)).cell rfl, (h.2 _ (.tail _ (.head _))).cell rfl, (h.2 _ (.tail _ (.head _))).cell rfl⟩
theorem K.last {l : List (Nat × TypeId × Array Value)} {W w : World} {e : Nat × TypeId × Array Value} (h : K (l ++ [e]) W w) : Bx w e.1 e.2.1 e.2.2 := h.2 _ (List.mem_append.2 (Or.inr (List.mem_singleton.2 rfl)))
theorem K.q4 {l : List (Nat × TypeId × Array Value)} {W w : World} {e e' : Nat × TypeId × Array Value} {g : Nat} {T : TypeId} {a b : Value} (h : K (e :: e' :: (g, T, #[a, b]) :: l) W w) : w.cell? ⟨g, 0, none⟩ = some a ∧ w.cell? ⟨g, 1, none⟩ = some b ∧ w.frozen? ⟨g, 0, none⟩ = false ∧ w.frozen? ⟨g, 1, none⟩ = false := Bx.two (h.2 _ (.tail _ (.tail _ (.head _))))
theorem K.q5 {l : List (Nat × TypeId × Array Value)} {W w : World} {e e' e'' : Nat × TypeId × Array Value} {g : Nat} {T : TypeId} {a b : Value} (h : K (e :: e' :: e'' :: (g, T, #[a, b]) :: l) W w) : w.cell? ⟨g, 0, none⟩ = some a ∧ w.cell? ⟨g, 1, none⟩ = some b ∧ w.frozen? ⟨g, 0, none⟩ = false ∧ w.frozen? ⟨g, 1, none⟩ = false := Bx.two (h.2 _ (.tail _ (.tail _ (.tail _ (.head _)))))
set_option maxRecDepth 100000 in
set_option maxHeartbeats 16000000 in
theorem walk {H : Type} {enc : TypeId × Value → H} (W : World) (base : Nat)
    (v0 : Value) (d0 : DataW H) (p0 : List MemPlace) (h0 : DataW.Trod enc Try.prog W 0 (fun _ => true) true 25 v0 d0 p0) (k0 : Value.okWide Try.prog W .any base 25 v0)
    (v1 : Value) (d1 : DataW H) (p1 : List MemPlace) (h1 : DataW.Trod enc Try.prog W 0 (fun _ => true) true 25 v1 d1 p1) (k1 : Value.okWide Try.prog W .any base 25 v1)
    (_hsz : (DataW.weightsEach Try.prog [25, 25] [d0, d1]).all (· ≤ reachBytes) = true) :
    Calls Try.prog 6 #[v0, v1] W fun e w' => e = .returned (.bool true) ∧ Below W.heap.size W w' := by
  obtain ⟨x0, y0, rfl, _, _⟩ := SlSpan.open_val h0 k0
  clear h0 k0
  obtain ⟨x1, y1, rfl, _, _⟩ := SlSpan.open_val h1 k1
  clear h1 k1 _hsz
  have H0 : Hid (K ((W.heap.size, 25, #[.int .i64 x0, .int .i64 y0]) :: (W.heap.size + 1, 25, #[.int .i64 x1, .int .i64 y1]) :: []) W ((W.alloc (.cells #[.int .i64 x0, .int .i64 y0] 25)).alloc (.cells #[.int .i64 x1, .int .i64 y1] 25))) := Lib.hid (by
    have h := ((show K [] W W from ⟨Below.refl _ _, fun e he => absurd he (by simp)⟩).new 25 #[.int .i64 x0, .int .i64 y0]).new 25 #[.int .i64 x1, .int .i64 y1]
    rw [World.size_alloc] at h
    exact h)
  obtain ⟨⟨sa, sb⟩, hs⟩ : ∃ s, meetR (x0, y0) (x1, y1) = s := ⟨_, rfl⟩
  have HS := Lib.hid hs
  obtain ⟨β, hβ⟩ : ∃ β, meets (x0, y0) (x1, y1) = β := ⟨_, rfl⟩
  have HE := Lib.hid hβ
  clear hs hβ
  go_enter Try.func6, Try.ntmps6
  obtain ⟨c0, c1, e0, e1⟩ := H0.out.s4
  go_wp2_with fail
  go_region_held3 (fun w' => w'.cell? ⟨W.heap.size, 0, none⟩ = some (.int .i64 x0) ∧ w'.cell? ⟨W.heap.size, 1, none⟩ = some (.int .i64 y0) ∧ w'.cell? ⟨W.heap.size + 1, 0, none⟩ = some (.int .i64 x1) ∧ w'.cell? ⟨W.heap.size + 1, 1, none⟩ = some (.int .i64 y1)) (first | exact H3.out.s4 | exact H2.out.s4 | exact H1.out.s4 | exact (H3.out.alloc _).s4 | exact (H2.out.alloc _).s4 | exact (H1.out.alloc _).s4 | exact (H0.out.drew.alloc _).s4 | exact (H3.out.set2 HN.out HW.out).s4 | go_keep) (first
    | (go_at_call 15; (with_reducible refine (val_any x0 y0 _).mono ?_); rintro e w1 ⟨rfl, hb⟩; have H1 := Lib.hid (H0.out.drew.below hb); clear hb)
    | (go_at_call 15; (with_reducible refine (val_any x0 y0 _).mono ?_); rintro e w1 ⟨rfl, hb⟩; have H1 := Lib.hid ((H0.out.drew.newG (W.heap.size + 2) (by simp) 27 #[.int .i64 0, .int .i64 0]).below hb); have HN := Lib.hid (H0.out.drew.freshG (W.heap.size + 2) (by simp)); have HW := Lib.hid (H0.out.drew.sizeG (W.heap.size + 2) (by simp)); clear hb)
    | (go_at_call 15; (with_reducible refine (val_any x1 y1 _).mono ?_); rintro e w2 ⟨rfl, hb⟩; have H2 := Lib.hid (H1.out.below hb); clear hb)
    | (go_at_call 15; (with_reducible refine (val_any x1 y1 _).mono ?_); rintro e w2 ⟨rfl, hb⟩; have H2 := Lib.hid ((H1.out.newG w1.heap.size (by simp) 27 #[.int .i64 0, .int .i64 0]).below hb); have HN := Lib.hid (H1.out.freshG w1.heap.size (by simp)); have HW := Lib.hid (H1.out.sizeG w1.heap.size (by simp)); clear hb)
    | (go_at_call 20; (with_reducible refine (spec_meet_any x0 y0 x1 y1 _).mono ?_); rintro e w3 ⟨rfl, hb⟩; rw [HS.out, HE.out]; have H3 := Lib.hid (H2.out.below hb); obtain ⟨q0, q1, q2, q3⟩ := H3.out.q4; clear hb)
    | (go_at_call 20; (with_reducible refine (spec_meet_any x0 y0 x1 y1 _).mono ?_); rintro e w3 ⟨rfl, hb⟩; rw [HS.out, HE.out]; have H3 := Lib.hid (H2.out.below hb); clear hb)
    | (go_at_call 20; (with_reducible refine (spec_meet_any x0 y0 x1 y1 _).mono ?_); rintro e w3 ⟨rfl, hb⟩; rw [HS.out, HE.out]; have H3 := Lib.hid ((H2.out.newG w2.heap.size (by simp) 27 #[.int .i64 0, .int .i64 0]).below hb); have HN := Lib.hid (H2.out.freshG w2.heap.size (by simp)); have HW := Lib.hid (H2.out.sizeG w2.heap.size (by simp)); obtain ⟨q0, q1, q2, q3⟩ := H3.out.q4; clear hb))
  all_goals
    clear c0 c1 e0 e1
    go_wp2_with fail
    first | (have H4 := Lib.hid (H3.out.set2 (g := w2.heap.size) HN.out HW.out (u := .int .i64 sa) (v := .int .i64 sb)); generalize ((w3.setCell ⟨w2.heap.size, 0, none⟩ (.int .i64 sa)).setCell ⟨w2.heap.size, 1, none⟩ (.int .i64 sb)) = wz at H4 ⊢; generalize w2.heap.size = gz at H4 ⊢) | (have H4 := Lib.hid (H3.out.set2 (g := w1.heap.size) HN.out HW.out (u := .int .i64 sa) (v := .int .i64 sb)); generalize ((w3.setCell ⟨w1.heap.size, 0, none⟩ (.int .i64 sa)).setCell ⟨w1.heap.size, 1, none⟩ (.int .i64 sb)) = wz at H4 ⊢; generalize w1.heap.size = gz at H4 ⊢) | (have H4 := Lib.hid (H3.out.set2 (g := (W.heap.size + 2)) HN.out HW.out (u := .int .i64 sa) (v := .int .i64 sb)); generalize ((w3.setCell ⟨(W.heap.size + 2), 0, none⟩ (.int .i64 sa)).setCell ⟨(W.heap.size + 2), 1, none⟩ (.int .i64 sb)) = wz at H4 ⊢; generalize (W.heap.size + 2) = gz at H4 ⊢) | (have H4 := Lib.hid (H3.out.newG w3.heap.size rfl 27 #[.int .i64 sa, .int .i64 sb]); generalize (w3.alloc (.cells #[.int .i64 sa, .int .i64 sb] 27)) = wz at H4 ⊢; generalize w3.heap.size = gz at H4 ⊢)
    (try clear HN HW)
    (try clear q0 q1 q2 q3)
    clear H1 H2 H3
    obtain ⟨c0, c1, e0, e1⟩ := H4.out.s4
    go_region_held3 (fun w' => w'.cell? ⟨W.heap.size, 0, none⟩ = some (.int .i64 x0) ∧ w'.cell? ⟨W.heap.size, 1, none⟩ = some (.int .i64 y0) ∧ w'.cell? ⟨W.heap.size + 1, 0, none⟩ = some (.int .i64 x1) ∧ w'.cell? ⟨W.heap.size + 1, 1, none⟩ = some (.int .i64 y1)) (first | exact H7.out.s4 | exact H6.out.s4 | exact H5.out.s4 | exact (H7.out.alloc _).s4 | exact (H6.out.alloc _).s4 | exact (H5.out.alloc _).s4 | exact (H4.out.drew.alloc _).s4 | exact (H7.out.set2 HN.out HW.out).s4 | go_keep) (first
    | (go_at_call 15; (with_reducible refine (val_any x0 y0 _).mono ?_); rintro e w5 ⟨rfl, hb⟩; have H5 := Lib.hid (H4.out.drew.below hb); clear hb)
    | (go_at_call 15; (with_reducible refine (val_any x0 y0 _).mono ?_); rintro e w5 ⟨rfl, hb⟩; have H5 := Lib.hid ((H4.out.drew.newG wz.heap.size (by simp) 27 #[.int .i64 0, .int .i64 0]).below hb); have HN := Lib.hid (H4.out.drew.freshG wz.heap.size (by simp)); have HW := Lib.hid (H4.out.drew.sizeG wz.heap.size (by simp)); clear hb)
    | (go_at_call 15; (with_reducible refine (val_any x1 y1 _).mono ?_); rintro e w6 ⟨rfl, hb⟩; have H6 := Lib.hid (H5.out.below hb); clear hb)
    | (go_at_call 15; (with_reducible refine (val_any x1 y1 _).mono ?_); rintro e w6 ⟨rfl, hb⟩; have H6 := Lib.hid ((H5.out.newG w5.heap.size (by simp) 27 #[.int .i64 0, .int .i64 0]).below hb); have HN := Lib.hid (H5.out.freshG w5.heap.size (by simp)); have HW := Lib.hid (H5.out.sizeG w5.heap.size (by simp)); clear hb)
    | (go_at_call 21; (with_reducible refine (meet_any x0 y0 x1 y1 _).mono ?_); rintro e w7 ⟨rfl, hb⟩; rw [HS.out, HE.out]; have H7 := Lib.hid (H6.out.below hb); obtain ⟨q0, q1, q2, q3⟩ := H7.out.q5; clear hb)
    | (go_at_call 21; (with_reducible refine (meet_any x0 y0 x1 y1 _).mono ?_); rintro e w7 ⟨rfl, hb⟩; rw [HS.out, HE.out]; have H7 := Lib.hid (H6.out.below hb); clear hb)
    | (go_at_call 21; (with_reducible refine (meet_any x0 y0 x1 y1 _).mono ?_); rintro e w7 ⟨rfl, hb⟩; rw [HS.out, HE.out]; have H7 := Lib.hid ((H6.out.newG w6.heap.size (by simp) 27 #[.int .i64 0, .int .i64 0]).below hb); have HN := Lib.hid (H6.out.freshG w6.heap.size (by simp)); have HW := Lib.hid (H6.out.sizeG w6.heap.size (by simp)); obtain ⟨q0, q1, q2, q3⟩ := H7.out.q5; clear hb))
    all_goals
      clear c0 c1 e0 e1
      first | (have H8 := Lib.hid (H7.out.set2 (g := w6.heap.size) HN.out HW.out (u := .int .i64 sa) (v := .int .i64 sb)); generalize ((w7.setCell ⟨w6.heap.size, 0, none⟩ (.int .i64 sa)).setCell ⟨w6.heap.size, 1, none⟩ (.int .i64 sb)) = wu at H8 ⊢; generalize w6.heap.size = gu at H8 ⊢) | (have H8 := Lib.hid (H7.out.set2 (g := w5.heap.size) HN.out HW.out (u := .int .i64 sa) (v := .int .i64 sb)); generalize ((w7.setCell ⟨w5.heap.size, 0, none⟩ (.int .i64 sa)).setCell ⟨w5.heap.size, 1, none⟩ (.int .i64 sb)) = wu at H8 ⊢; generalize w5.heap.size = gu at H8 ⊢) | (have H8 := Lib.hid (H7.out.set2 (g := wz.heap.size) HN.out HW.out (u := .int .i64 sa) (v := .int .i64 sb)); generalize ((w7.setCell ⟨wz.heap.size, 0, none⟩ (.int .i64 sa)).setCell ⟨wz.heap.size, 1, none⟩ (.int .i64 sb)) = wu at H8 ⊢; generalize wz.heap.size = gu at H8 ⊢) | (have H8 := Lib.hid (H7.out.newG w7.heap.size rfl 27 #[.int .i64 sa, .int .i64 sb]); generalize (w7.alloc (.cells #[.int .i64 sa, .int .i64 sb] 27)) = wu at H8 ⊢; generalize w7.heap.size = gu at H8 ⊢)
      (try clear HN HW)
      (try clear q0 q1 q2 q3)
      clear H4 H5 H6 H7
      obtain ⟨z0, z1, _, _⟩ := H8.out.q4
      obtain ⟨u0, u1, _, _⟩ := H8.out.q5
      go_wp2_with fail
      refine (same_any _ _ _).mono ?_
      rintro e w9 ⟨rfl, hb⟩
      have HBF := Lib.hid (below_on H8.out.1 hb)
      clear hb z0 z1 u0 u1 H8
      go_wp2_with fail
      go_ret
      exact ⟨rfl, HBF.out⟩
end Go.Proofs.Ytamlmpigllidoab.fnExactMeetSpans
