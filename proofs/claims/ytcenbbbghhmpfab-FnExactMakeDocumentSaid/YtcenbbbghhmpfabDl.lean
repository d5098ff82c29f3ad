/- A document copied by the reference: two appends to new slices, in any order. -/
import Derived.Test.YtcenbbbghhmpfabDr
namespace Go.Proofs.Ytcenbbbghhmpfab.Dl
open Go.ChangeShapes Go.WideShapes Go.ChangeAt Go.RowKit Sl St Dm Dk SlDoc Mk Dt Dr

/-! ### ints as elements -/
def EI : En Int := ⟨fun x => [.int .i64 x], 1, fun _ => rfl, fun x v h => by simp only [List.mem_cons, List.not_mem_nil, or_false] at h; subst h; rfl, by decide⟩
theorem fl_EI (zs : List Int) : fl EI zs = zs.map (Value.int .i64) := by
  induction zs with
  | nil => rfl
  | cons z zs ih => rw [List.map_cons, ← ih]; rfl
theorem ow_in {T : TypeId} {w : World} {lo hi n c : Nat} {p : Option Addr} {zs : List Int} (h : Ow .i64 T w lo hi p n c zs) : OwS EI T w lo hi p n c zs :=
  ⟨by rw [fl_EI]; exact h.1, h.len, h.2.2.1, h.2.2.2⟩
theorem ow_out {T : TypeId} {w : World} {lo hi n c : Nat} {p : Option Addr} {zs : List Int} (h : OwS EI T w lo hi p n c zs) (ha : allK .i64 zs) : Ow .i64 T w lo hi p n c zs :=
  ⟨by have h1 := h.1; rw [fl_EI] at h1; exact h1, ha, h.2.2.1, h.2.2.2⟩
theorem rd_in {w : World} {n : Nat} {p : Option Addr} {zs : List Int} (h : Rd .i64 w p n zs) : RdS EI w p n zs := by
  refine ⟨h.len, ?_, fun hpos => ?_⟩
  · have := h.le
    unfold maxLen
    omega
  · obtain ⟨b, o, e, hb, _⟩ := h.at_ hpos
    refine ⟨b, o, e, hb, fun i x hx j v hv => ?_⟩
    have hi : i < n := by rw [← h.len]; exact (List.getElem?_eq_some_iff.1 hx).1
    have hj : j = 0 := by
      have := (List.getElem?_eq_some_iff.1 hv).1
      have h2 : (EI.of x).length = 1 := rfl
      omega
    subst hj
    obtain ⟨b', o', e', _, hc⟩ := h.at_ hi
    rw [e] at e'
    simp only [Option.some.injEq, Addr.mk.injEq, and_true] at e'
    obtain ⟨rfl, rfl⟩ := e'
    rw [List.getD_eq_getElem?_getD, hx] at hc
    have hv' : v = .int .i64 x := by
      have h3 : (EI.of x)[0]? = some (.int .i64 x) := rfl
      rw [h3] at hv
      exact (Option.some.inj hv).symm
    subst hv'
    rw [show EI.C = 1 from rfl, Nat.mul_one, Nat.add_zero]
    exact hc
theorem emptySG (w : World) (g lo : Nat) (hg : g = w.heap.size) (h : lo ≤ w.heap.size) : OwS SlStr.E 9 (w.alloc (.cells #[] 9)) lo (w.alloc (.cells #[] 9)).heap.size (some ⟨g, 0, none⟩) 0 0 [] := by
  subst hg
  exact emptyS w lo h
theorem emptyIG (w : World) (g lo : Nat) (hg : g = w.heap.size) (h : lo ≤ w.heap.size) : OwS EI 3 (w.alloc (.cells #[] 3)) lo (w.alloc (.cells #[] 3)).heap.size (some ⟨g, 0, none⟩) 0 0 [] := by
  subst hg
  exact ow_in (emptyI w lo h)
set_option maxRecDepth 100000 in
set_option maxHeartbeats 8000000 in
theorem l6copy_any (t : Int) (p : Option Addr) (n c : Nat) (q : Option Addr) (m d : Nat) (parts : List ByteArray) (salts : List Int) (w : World) (hr : RdS SlStr.E w p n parts) (hs : Rd .i64 w q m salts) (hn : n ≤ 1048576) (hm : m ≤ 1048576) :
    Calls Try.prog 83 #[.agg #[.int .i64 t, .slice p n c, .slice q m d]] w (GivesD (t, parts, salts) w) := by
  obtain ⟨i0, hi, hz0, hz1, hz2⟩ := info_parts SlStr.info
  obtain ⟨j0, ji, jz0, jz1, jz2⟩ := info_parts SlI.info
  obtain ⟨b0, b1, bb, bs⟩ := cbx_at t p n c q m d w
  have HAll := Lib.hid hs.all
  go_enter Try.func83, Try.ntmps83
  go_wp2_with fail
  rw [cbx_def]
  have HX := Lib.hid b0
  have HR := Lib.hid b1
  have HB := Lib.hid bb
  have HP := Lib.hid (hr.below HB.out)
  have HQA : Hid (∀ V', Below w.heap.size w V' → RdS EI V' q m salts) := Lib.hid fun V' hb => (rd_in hs).below hb
  clear hr hs b0 b1 bb
  generalize cbx t p n c q m d w = V at HX HR HB bs HP ⊢
  go_region_held3 (fun w' => w'.cell? ⟨w.heap.size, 0, none⟩ = some (.int .i64 t) ∧ w'.cell? ⟨w.heap.size, 1, none⟩ = some (.slice p n c) ∧ w'.cell? ⟨w.heap.size, 2, none⟩ = some (.slice q m d)) (first | exact bx3 HX4.out | exact bx3 (HX3.out.alloc _) | exact bx3 HX3.out | exact bx3 ((HX.out.alloc _).alloc _).drew1 | exact bx3 (HX.out.alloc _).drew1 | exact bx3 HX.out.drew1 | go_keep) (first
    | (refine step_appS (E := SlStr.E) (by rfl) (.tmp 5) (.tmp 7) 24 (by rfl) i0 _ 16 Try.underlying24 hi hz0 hz1 hz2 (by rfl) (by rfl) (emptySG V (w.heap.size + 2) V.heap.size bs.symm (Nat.le_refl _)).drew1 p n c parts (by rfl) (HP.out.alloc _).drew1 (by first | (simp; done) | (simp; omega)) (by omega) (by omega) ?_; intro p3 c3 w3 how3 hg3; have hgb := grown_pre (below_drewN (box1 V (.cells #[] 9)) 1) hg3; have HB3 := Lib.hid (HB.out.grown hgb HB.out.size (fun g e => by cases e; show w.heap.size ≤ w.heap.size + 2; omega)); have hs3 := hgb.size; have HX3 := Lib.hid (HX.out.grown hgb (by simp [Value.ownBlock])); have HR3 := Lib.hid (HR.out.grown hgb (by simp [Value.ownBlock])); rw [Nat.zero_add, List.nil_append] at how3; have HO3 := Lib.hid how3; have HQ3 := Lib.hid (HQA.out _ HB3.out); clear how3 hg3 hgb)
    | (refine step_appS (E := SlStr.E) (by rfl) (.tmp 5) (.tmp 7) 24 (by rfl) i0 _ 16 Try.underlying24 hi hz0 hz1 hz2 (by rfl) (by rfl) ((emptySG V (w.heap.size + 2) V.heap.size bs.symm (Nat.le_refl _)).alloc _).drew1 p n c parts (by rfl) ((HP.out.alloc _).alloc _).drew1 (by first | (simp; done) | (simp; omega)) (by omega) (by omega) ?_; intro p3 c3 w3 how3 hg3; have hgb := grown_pre (below_drewN ((box1 V (.cells #[] 9)).alloc (by simp) (.cells #[] 3)) 1) hg3; have HB3 := Lib.hid (HB.out.grown hgb HB.out.size (fun g e => by cases e; show w.heap.size ≤ w.heap.size + 2; omega)); have hs3 := hgb.size; have HX3 := Lib.hid (HX.out.grown hgb (by simp [Value.ownBlock])); have HR3 := Lib.hid (HR.out.grown hgb (by simp [Value.ownBlock])); rw [Nat.zero_add, List.nil_append] at how3; have HO3 := Lib.hid how3; have HQ3 := Lib.hid (HQA.out _ HB3.out); have HI3 := Lib.hid (ows_kept (emptyIG (V.alloc (.cells #[] 9)) (w.heap.size + 3) V.heap.size (by rw [World.size_alloc, bs]) (by simp)).drew1 hg3 (Or.inr (by simp [Value.ownBlock]))); clear how3 hg3 hgb)
    | (refine step_appS (E := SlStr.E) (by rfl) (.tmp 5) (.tmp 7) 24 (by rfl) i0 _ 16 Try.underlying24 hi hz0 hz1 hz2 (by rfl) (by rfl) (emptySG (V.alloc (.cells #[] 3)) (w.heap.size + 3) V.heap.size (by rw [World.size_alloc, bs]) (by simp)).drew1 p n c parts (by rfl) ((HP.out.alloc _).alloc _).drew1 (by first | (simp; done) | (simp; omega)) (by omega) (by omega) ?_; intro p3 c3 w3 how3 hg3; have hgb := grown_pre (below_drewN ((box1 V (.cells #[] 3)).alloc (by simp) (.cells #[] 9)) 1) hg3; have HB3 := Lib.hid (HB.out.grown hgb HB.out.size (fun g e => by cases e; show w.heap.size ≤ w.heap.size + 3; omega)); have hs3 := hgb.size; have HX3 := Lib.hid (HX.out.grown hgb (by simp [Value.ownBlock])); have HR3 := Lib.hid (HR.out.grown hgb (by simp [Value.ownBlock])); rw [Nat.zero_add, List.nil_append] at how3; have HO3 := Lib.hid how3; have HQ3 := Lib.hid (HQA.out _ HB3.out); have HI3 := Lib.hid (ows_kept (((emptyIG V (w.heap.size + 2) V.heap.size bs.symm (Nat.le_refl _)).alloc (.cells #[] 9))).drew1 hg3 (Or.inr (by simp [Value.ownBlock]))); clear how3 hg3 hgb)
    | (refine step_appS (E := EI) (by rfl) (.tmp 9) (.tmp 11) 25 (by rfl) j0 _ 8 Try.underlying25 ji jz0 jz1 jz2 (by rfl) (by rfl) (emptyIG w3 w3.heap.size V.heap.size rfl (by omega)) q m d salts (by rfl) (HQ3.out.alloc _) (by first | omega | (simp; omega)) (by omega) (by omega) ?_; intro p4 c4 w4 how4 hg4; have hgb := grown_pre (box1 w3 (.cells #[] 3)) hg4; have HB4 := Lib.hid (HB3.out.grown hgb HB3.out.size (fun g e => by cases e; show w.heap.size ≤ w3.heap.size; omega)); have hs4 := hgb.size; have HX4 := Lib.hid (HX3.out.grown hgb (by simp [Value.ownBlock]; try omega)); have HR4 := Lib.hid (HR3.out.grown hgb (by simp [Value.ownBlock]; try omega)); have HO4 := Lib.hid (ows_kept (HO3.out.alloc (.cells #[] 3)) hg4 (own_ne (HO3.out.alloc (.cells #[] 3)).1 (emptyIG w3 w3.heap.size V.heap.size rfl (by omega)).1 (by decide))); rw [Nat.zero_add, List.nil_append] at how4; have HQ4 := Lib.hid how4; clear how4 hg4 hgb; have f0 := HR4.out.free 0; have f1 := HR4.out.free 1; have f2 := HR4.out.free 2; obtain ⟨z0, z1, z2⟩ := bx3 HR4.out)
    | (refine step_appS (E := EI) (by rfl) (.tmp 9) (.tmp 11) 25 (by rfl) j0 _ 8 Try.underlying25 ji jz0 jz1 jz2 (by rfl) (by rfl) HI3.out q m d salts (by rfl) HQ3.out (by first | omega | (simp; omega)) (by omega) (by omega) ?_; intro p4 c4 w4 how4 hg4; have hgb := hg4; have HB4 := Lib.hid (HB3.out.grown hgb HB3.out.size (fun g e => by cases e; first | (show w.heap.size ≤ w.heap.size + 2; omega) | (show w.heap.size ≤ w.heap.size + 3; omega))); have hs4 := hgb.size; have HX4 := Lib.hid (HX3.out.grown hgb (by simp [Value.ownBlock]; try omega)); have HR4 := Lib.hid (HR3.out.grown hgb (by simp [Value.ownBlock]; try omega)); have HO4 := Lib.hid (ows_kept HO3.out hg4 (own_ne HO3.out.1 HI3.out.1 (by decide))); rw [Nat.zero_add, List.nil_append] at how4; have HQ4 := Lib.hid how4; clear how4 hg4 hgb; have f0 := HR4.out.free 0; have f1 := HR4.out.free 1; have f2 := HR4.out.free 2; obtain ⟨z0, z1, z2⟩ := bx3 HR4.out))
  all_goals
    have hl4 := HR4.out.lt
    obtain ⟨r, ho2, hb2⟩ := gives_at (D := (t, parts, salts)) HR4.out HB4.out (by omega) (show OwD w4 V.heap.size w4.heap.size p3 n c3 p4 m c4 parts salts from ⟨by omega, HO4.out.wide (Nat.le_refl _) (by omega) (Nat.le_refl _), ow_out HQ4.out HAll.out⟩) (by omega) (by omega)
    have HF := Lib.hid ho2
    have HFB := Lib.hid hb2
    obtain ⟨r0, r1, r2⟩ := r
    clear ho2 hb2 z0 z1 z2 f0 f1 f2
    go_wp2_with fail
    exact bodyPost_ret (v := .agg #[.int .i64 t, .slice p3 n c3, .slice p4 m c4]) (by simp [results, Try.results83, go_sem, r0, r1, r2]) rfl ⟨_, _, _, _, _, _, rfl, HF.out, HFB.out⟩
end Go.Proofs.Ytcenbbbghhmpfab.Dl
