/- Stamps of several authorities, in the program and in the reference. -/
import Derived.Test.YtbjocgnogcnedaaKStampM
import Derived.Test.YtbjocgnogcnedaaKStampS
import Derived.Test.YtbjocgnogcnedaaMin
import Derived.Deep.RegionHeld3
import Derived.LoopTactic
namespace Go.Proofs.Ytbjocgnogcnedaa.Sta
open Go.ChangeShapes Go.WideShapes Go.ChangeAt Go.RowKit Go.Shelf Sl St Fnd Kn Kr Ki Km Ko SlStamp Ti KStamp
def mk (xs : List I5) (us : List I3) (ids tms : List Int) (sq dg : Int) (i : Nat) : I5 × Bool := mkd xs us (ids.getD i 0, sq, tms.getD i 0, dg, 0)
def sta (xs : List I5) (us : List I3) (ids tms : List Int) (sq dg : Int) (k : Nat) : List I5 := (List.range k).filterMap fun i => if (mk xs us ids tms sq dg i).2 = true then some (mk xs us ids tms sq dg i).1 else none
theorem sta_no {xs : List I5} {us : List I3} {ids tms : List Int} {sq dg : Int} {k : Nat} {y : I5} (h : mkd xs us (ids.getD k 0, sq, tms.getD k 0, dg, 0) = (y, false)) : sta xs us ids tms sq dg (k + 1) = sta xs us ids tms sq dg k := by
  have h2 : mk xs us ids tms sq dg k = (y, false) := h
  unfold sta
  rw [List.range_succ, List.filterMap_append]
  simp [h2]
theorem sta_yes {xs : List I5} {us : List I3} {ids tms : List Int} {sq dg : Int} {k : Nat} {y : I5} (h : mkd xs us (ids.getD k 0, sq, tms.getD k 0, dg, 0) = (y, true)) : sta xs us ids tms sq dg (k + 1) = sta xs us ids tms sq dg k ++ [y] := by
  have h2 : mk xs us ids tms sq dg k = (y, true) := h
  unfold sta
  rw [List.range_succ, List.filterMap_append]
  simp [h2]
theorem sta_len (xs : List I5) (us : List I3) (ids tms : List Int) (sq dg : Int) (k : Nat) : (sta xs us ids tms sq dg k).length ≤ k := by
  have h := List.length_filterMap_le (fun i => if (mk xs us ids tms sq dg i).2 = true then some (mk xs us ids tms sq dg i).1 else none) (List.range k)
  rw [List.length_range] at h
  exact h
def SA (xs : List I5) (us : List I3) (ids tms : List Int) (sq dg : Int) (k : Nat) (p : Option Addr) (m c : Nat) (w wr : World) : Prop := OwS SlStamp.E 67 wr w.heap.size wr.heap.size p m c (sta xs us ids tms sq dg k) ∧ Below w.heap.size w wr
theorem SA.len {xs : List I5} {us : List I3} {ids tms : List Int} {sq dg : Int} {k : Nat} {p : Option Addr} {m c : Nat} {w wr : World} (h : SA xs us ids tms sq dg k p m c w wr) : m ≤ k := by
  have h1 := h.1.len
  have h2 := sta_len xs us ids tms sq dg k
  omega
theorem SA.next {xs : List I5} {us : List I3} {ids tms : List Int} {sq dg : Int} {k : Nat} {p : Option Addr} {m c : Nat} {w wr w1 : World} (h : SA xs us ids tms sq dg k p m c w wr) (hb : Below wr.heap.size wr w1) (hi : sta xs us ids tms sq dg (k + 1) = sta xs us ids tms sq dg k) : SA xs us ids tms sq dg (k + 1) p m c w w1 := ⟨by rw [hi]; exact (h.1.below hb).wide (Nat.le_refl _) hb.size (Nat.le_refl _), below_on h.2 hb⟩
theorem one_s (w : World) (y0 y1 y2 y3 y4 : Int) : RdS SlStamp.E (w.alloc (.cells #[.int .i64 y0, .int .i64 y1, .int .i64 y2, .int .i64 y3, .int .i64 y4] 67)) (some ⟨w.heap.size, 0, none⟩) 1 [(y0, y1, y2, y3, y4)] := (lit_own SlStamp.E 67 w 0 [(y0, y1, y2, y3, y4)] #[.int .i64 y0, .int .i64 y1, .int .i64 y2, .int .i64 y3, .int .i64 y4] 1 (by rw [fl_one]; rfl) rfl (by unfold maxLen; omega) (Nat.zero_le _)).rd
theorem setN {w : World} {g : Nat} {T : TypeId} {c0 c1 c2 c3 c4 : Value} (h : Bx w g T #[c0, c1, c2, c3, c4]) (u0 u1 u2 u3 u4 : Value) : Bx (((((w.setCell ⟨g, 0, none⟩ u0).setCell ⟨g, 1, none⟩ u1).setCell ⟨g, 2, none⟩ u2).setCell ⟨g, 3, none⟩ u3).setCell ⟨g, 4, none⟩ u4) g T #[u0, u1, u2, u3, u4] := by
  have k := (((((h.set_ 0 u0).set_ 1 u1).set_ 2 u2).set_ 3 u3).set_ 4 u4)
  simp only [List.setIfInBounds_toArray, List.set_cons_zero, List.set_cons_succ] at k
  exact k
theorem belN {A w : World} {B g : Nat} (h : Below B A w) (hg : B ≤ g) (u0 u1 u2 u3 u4 : Value) : Below B A (((((w.setCell ⟨g, 0, none⟩ u0).setCell ⟨g, 1, none⟩ u1).setCell ⟨g, 2, none⟩ u2).setCell ⟨g, 3, none⟩ u3).setCell ⟨g, 4, none⟩ u4) := (((((h.setCell (p := ⟨g, 0, none⟩) hg _).setCell (p := ⟨g, 1, none⟩) hg _).setCell (p := ⟨g, 2, none⟩) hg _).setCell (p := ⟨g, 3, none⟩) hg _).setCell (p := ⟨g, 4, none⟩) hg _)
theorem drewB {W w : World} {B : Nat} (h : Below B W w) : Below B W w.drew := below_drewN h 1
theorem z0 : -9223372036854775808 ≤ (0 : Int) ∧ (0 : Int) ≤ 9223372036854775807 := ⟨by omega, by omega⟩
set_option maxRecDepth 100000 in
set_option maxHeartbeats 16000000 in
theorem all_any (p : Option Addr) (n c : Nat) (xs : List I5) (hR : ∀ x ∈ xs, SlKey.InR x) (q : Option Addr) (m c' : Nat) (us : List I3) (hA : ∀ a ∈ us, SlAuthority.InR a) (p2 : Option Addr) (n2 c2 : Nat) (ids : List Int) (sq : Int) (p3 : Option Addr) (n3 c3 : Nat) (tms : List Int) (dg : Int) (g1 : -9223372036854775808 ≤ sq ∧ sq ≤ 9223372036854775807) (g2 : -9223372036854775808 ≤ dg ∧ dg ≤ 9223372036854775807) (w : World) (hr : RdS SlKey.E w p n xs) (hs : RdS SlAuthority.E w q m us) (hi : Rd .i64 w p2 n2 ids) (ht : Rd .i64 w p3 n3 tms) (hn2 : n2 ≤ 10000000) : Calls Try.prog 18 #[.slice p n c, .slice q m c', .slice p2 n2 c2, .int .i64 sq, .slice p3 n3 c3, .int .i64 dg] w (SlStamp.Makes (sta xs us ids tms sq dg (min n2 n3)) w) := by
  obtain ⟨i0, hi0, hz0, hz1, hz2⟩ := info_parts SlStamp.info
  obtain ⟨N, hN⟩ : ∃ N, min n2 n3 = N := ⟨_, rfl⟩
  rw [hN]
  have l2 : N ≤ n2 := by omega
  have l3 : N ≤ n3 := by omega
  have HNm : Hid (Ints.minI (n2 : Int) (n3 : Int) = (N : Int)) := Lib.hid (by unfold Ints.minI; split <;> omega)
  have HR := Lib.hid hr
  have HS := Lib.hid hs
  have HI := Lib.hid hi
  have HT := Lib.hid ht
  have G1 := Lib.hid g1
  have G2 := Lib.hid g2
  have hL : SA xs us ids tms sq dg 0 (some ⟨w.heap.size, 0, none⟩) 0 0 w (w.alloc (.cells #[] 67)) := ⟨lit_own SlStamp.E 67 w w.heap.size [] #[] 0 rfl rfl (by unfold maxLen; omega) (Nat.le_refl _), Ki.box1 _ _⟩
  have HM : Hid (SA xs us ids tms sq dg 0 (some ⟨w.heap.size, 0, none⟩) 0 0 w ((w.alloc (.cells #[] 67)).alloc (.cells #[.int .i64 (n3 : Int)] 3))) := Lib.hid ⟨(hL.1.below (Ki.box1 _ _)).wide (Nat.le_refl _) (by simp) (Nat.le_refl _), below_on hL.2 (Ki.box1 _ _)⟩
  clear hr hs hi ht g1 g2 hL
  go_enter Try.func18, Try.ntmps18
  go_wp2_with fail
  refine (Ints.min_any _ _ _).mono ?_
  rintro e w1 ⟨rfl, rfl⟩
  rw [HNm.out]
  go_wp2_with fail
  go_loopw [13, 23] (fun v i wr => ∃ (k m2 d2 : Nat) (r2 : Option Addr), k ≤ N ∧ i = .int .i64 k ∧ v = .slice r2 m2 d2 ∧ Hid (SA xs us ids tms sq dg k r2 m2 d2 w wr)) (fun _ i _ => N - (intOf i).toNat)
  case atStart => exact ⟨0, _, _, _, Nat.zero_le _, rfl, rfl, HM⟩
  case round =>
    obtain ⟨k, m2, d2, r2, hk, rfl, rfl, HK⟩ := hrel
    have hml := HK.out.len
    by_cases hlt : k < N
    · skip
      obtain ⟨b2, o2, rfl, hb2, e2⟩ := (HI.out.below HK.out.2).at_ (i := k) (by omega)
      obtain ⟨b3, o3, rfl, hb3, e3⟩ := (HT.out.below HK.out.2).at_ (i := k) (by omega)
      have r2i := int_range HI.out.all k
      have r3i := int_range HT.out.all k
      have HZn := Lib.hid (fun (y : I5) (h : mkd xs us (ids.getD k 0, sq, tms.getD k 0, dg, 0) = (y, false)) => sta_no h)
      have HZy := Lib.hid (fun (y : I5) (h : mkd xs us (ids.getD k 0, sq, tms.getD k 0, dg, 0) = (y, true)) => sta_yes h)
      generalize ids.getD k 0 = iv at e2 r2i HZn HZy
      generalize tms.getD k 0 = tv at e3 r3i HZn HZy
      have RI := Lib.hid r2i
      have RT := Lib.hid r3i
      clear r2i r3i
      rcases hM : mkd xs us (iv, sq, tv, dg, 0) with ⟨⟨y0, y1, y2, y3, y4⟩, bM⟩
      have HMd := Lib.hid hM
      have E2 := Lib.hid e2
      have E3 := Lib.hid e3
      clear e2 e3
      have i1 : (0 : Int) ≤ (k : Int) := by omega
      have i2 : (k : Int) < (n2 : Int) := by omega
      have i3 : (k : Int) < (n3 : Int) := by omega
      have HKB : Hid (Below w.heap.size w wr) := Lib.hid HK.out.2
      have HBr : Hid (Below wr.heap.size wr wr) := Lib.hid (Below.refl _ _)
      cases bM
      · have HIn := Lib.hid (HZn.out _ hM)
        clear HZn HZy hM
        go_wp2_with fail
        have HBu := HBr
        replace HBr := Lib.hid (drewB HBr.out)
        go_region_held3 (fun w' => w'.cell? ⟨b2, o2 + k, none⟩ = some (.int .i64 iv) ∧ w'.cell? ⟨b3, o3 + k, none⟩ = some (.int .i64 tv)) (first | with_reducible exact ⟨((HBr.out).cell (p := ⟨b2, o2 + k, none⟩) hb2).trans E2.out, ((HBr.out).cell (p := ⟨b3, o3 + k, none⟩) hb3).trans E3.out⟩ | with_reducible exact ⟨((HBr.out.alloc HBr.out.size _).cell (p := ⟨b2, o2 + k, none⟩) hb2).trans E2.out, ((HBr.out.alloc HBr.out.size _).cell (p := ⟨b3, o3 + k, none⟩) hb3).trans E3.out⟩ | with_reducible exact ⟨((drewB (HBu.out.alloc HBu.out.size _)).cell (p := ⟨b2, o2 + k, none⟩) hb2).trans E2.out, ((drewB (HBu.out.alloc HBu.out.size _)).cell (p := ⟨b3, o3 + k, none⟩) hb3).trans E3.out⟩ | with_reducible exact ⟨((belN HBr.out (Nat.le_refl _) _ _ _ _ _).cell (p := ⟨b2, o2 + k, none⟩) hb2).trans E2.out, ((belN HBr.out (Nat.le_refl _) _ _ _ _ _).cell (p := ⟨b3, o3 + k, none⟩) hb3).trans E3.out⟩ | fail) (first | (go_at_call 40; (with_reducible refine (KStampM.make_any p n c xs hR q m c' us hA iv sq tv dg 0 RI.out G1.out RT.out G2.out z0 y0 y1 y2 y3 y4 false HMd.out _ (HR.out.below (below_on HKB.out HBr.out)) (HS.out.below (below_on HKB.out HBr.out))).mono ?_); rintro e w2 ⟨rfl, hb⟩; replace HBr := Lib.hid (below_on HBr.out hb); clear hb) | (go_at_call 40; have HZ := Lib.hid (Bx.new wr 67 #[.int .i64 0, .int .i64 0, .int .i64 0, .int .i64 0, .int .i64 0]).drew1; replace HBr := Lib.hid (drewB (HBu.out.alloc HBu.out.size (.cells #[.int .i64 0, .int .i64 0, .int .i64 0, .int .i64 0, .int .i64 0] 67))); (with_reducible refine (KStampM.make_any p n c xs hR q m c' us hA iv sq tv dg 0 RI.out G1.out RT.out G2.out z0 y0 y1 y2 y3 y4 false HMd.out _ (HR.out.below (below_on HKB.out HBr.out)) (HS.out.below (below_on HKB.out HBr.out))).mono ?_); rintro e w2 ⟨rfl, hb⟩; replace HZ := Lib.hid (HZ.out.below hb); replace HBr := Lib.hid (below_on HBr.out hb); obtain ⟨q0, q1, q2, q3, q4⟩ := SlStamp.bxc HZ.out; have fz0 := HZ.out.free 0; have fz1 := HZ.out.free 1; have fz2 := HZ.out.free 2; have fz3 := HZ.out.free 3; have fz4 := HZ.out.free 4; clear hb) | fail)
        all_goals
          clear HBu
          first | (replace HZ : Hid (Bx (((((w2.setCell ⟨wr.heap.size, 0, none⟩ (.int .i64 y0)).setCell ⟨wr.heap.size, 1, none⟩ (.int .i64 y1)).setCell ⟨wr.heap.size, 2, none⟩ (.int .i64 y2)).setCell ⟨wr.heap.size, 3, none⟩ (.int .i64 y3)).setCell ⟨wr.heap.size, 4, none⟩ (.int .i64 y4)) wr.heap.size 67 #[.int .i64 y0, .int .i64 y1, .int .i64 y2, .int .i64 y3, .int .i64 y4]) := Lib.hid (setN HZ.out _ _ _ _ _); replace HBr := Lib.hid (belN HBr.out (Nat.le_refl wr.heap.size) (.int .i64 y0) (.int .i64 y1) (.int .i64 y2) (.int .i64 y3) (.int .i64 y4)); generalize (((((w2.setCell ⟨wr.heap.size, 0, none⟩ (.int .i64 y0)).setCell ⟨wr.heap.size, 1, none⟩ (.int .i64 y1)).setCell ⟨wr.heap.size, 2, none⟩ (.int .i64 y2)).setCell ⟨wr.heap.size, 3, none⟩ (.int .i64 y3)).setCell ⟨wr.heap.size, 4, none⟩ (.int .i64 y4)) = wz at HZ HBr ⊢; obtain ⟨gz, hgz⟩ : ∃ g, wr.heap.size = g := ⟨_, rfl⟩; have HZ2 : Hid (Bx wz gz 67 #[.int .i64 y0, .int .i64 y1, .int .i64 y2, .int .i64 y3, .int .i64 y4]) := Lib.hid (by rw [← hgz]; exact HZ.out); rw [hgz]; clear q0 fz0 q1 fz1 q2 fz2 q3 fz3 q4 fz4 HZ hgz; have HZ := HZ2; clear HZ2) | (have HZ := Lib.hid (Bx.new w2 67 #[.int .i64 y0, .int .i64 y1, .int .i64 y2, .int .i64 y3, .int .i64 y4]); replace HBr := Lib.hid (HBr.out.alloc HBr.out.size (.cells #[.int .i64 y0, .int .i64 y1, .int .i64 y2, .int .i64 y3, .int .i64 y4] 67)); generalize w2.alloc (.cells #[.int .i64 y0, .int .i64 y1, .int .i64 y2, .int .i64 y3, .int .i64 y4] 67) = wz at HZ HBr ⊢; generalize w2.heap.size = gz at HZ ⊢)
          have HK1 := Lib.hid (HK.out.next HBr.out HIn.out)
          clear HBr HZ
          go_wp2_with fail
          go_roundw
          case rel => exact ⟨k + 1, _, _, _, by omega, by go_num, rfl, HK1⟩
          case measure => simp [intOf]; omega
      · have HIn := Lib.hid (HZy.out _ hM)
        clear HZn HZy hM
        go_wp2_with fail
        have HBu := HBr
        replace HBr := Lib.hid (drewB HBr.out)
        go_region_held3 (fun w' => w'.cell? ⟨b2, o2 + k, none⟩ = some (.int .i64 iv) ∧ w'.cell? ⟨b3, o3 + k, none⟩ = some (.int .i64 tv)) (first | with_reducible exact ⟨((HBr.out).cell (p := ⟨b2, o2 + k, none⟩) hb2).trans E2.out, ((HBr.out).cell (p := ⟨b3, o3 + k, none⟩) hb3).trans E3.out⟩ | with_reducible exact ⟨((HBr.out.alloc HBr.out.size _).cell (p := ⟨b2, o2 + k, none⟩) hb2).trans E2.out, ((HBr.out.alloc HBr.out.size _).cell (p := ⟨b3, o3 + k, none⟩) hb3).trans E3.out⟩ | with_reducible exact ⟨((drewB (HBu.out.alloc HBu.out.size _)).cell (p := ⟨b2, o2 + k, none⟩) hb2).trans E2.out, ((drewB (HBu.out.alloc HBu.out.size _)).cell (p := ⟨b3, o3 + k, none⟩) hb3).trans E3.out⟩ | with_reducible exact ⟨((belN HBr.out (Nat.le_refl _) _ _ _ _ _).cell (p := ⟨b2, o2 + k, none⟩) hb2).trans E2.out, ((belN HBr.out (Nat.le_refl _) _ _ _ _ _).cell (p := ⟨b3, o3 + k, none⟩) hb3).trans E3.out⟩ | fail) (first | (go_at_call 40; (with_reducible refine (KStampM.make_any p n c xs hR q m c' us hA iv sq tv dg 0 RI.out G1.out RT.out G2.out z0 y0 y1 y2 y3 y4 true HMd.out _ (HR.out.below (below_on HKB.out HBr.out)) (HS.out.below (below_on HKB.out HBr.out))).mono ?_); rintro e w2 ⟨rfl, hb⟩; replace HBr := Lib.hid (below_on HBr.out hb); clear hb) | (go_at_call 40; have HZ := Lib.hid (Bx.new wr 67 #[.int .i64 0, .int .i64 0, .int .i64 0, .int .i64 0, .int .i64 0]).drew1; replace HBr := Lib.hid (drewB (HBu.out.alloc HBu.out.size (.cells #[.int .i64 0, .int .i64 0, .int .i64 0, .int .i64 0, .int .i64 0] 67))); (with_reducible refine (KStampM.make_any p n c xs hR q m c' us hA iv sq tv dg 0 RI.out G1.out RT.out G2.out z0 y0 y1 y2 y3 y4 true HMd.out _ (HR.out.below (below_on HKB.out HBr.out)) (HS.out.below (below_on HKB.out HBr.out))).mono ?_); rintro e w2 ⟨rfl, hb⟩; replace HZ := Lib.hid (HZ.out.below hb); replace HBr := Lib.hid (below_on HBr.out hb); obtain ⟨q0, q1, q2, q3, q4⟩ := SlStamp.bxc HZ.out; have fz0 := HZ.out.free 0; have fz1 := HZ.out.free 1; have fz2 := HZ.out.free 2; have fz3 := HZ.out.free 3; have fz4 := HZ.out.free 4; clear hb) | fail)
        all_goals
          clear HBu
          first | (replace HZ : Hid (Bx (((((w2.setCell ⟨wr.heap.size, 0, none⟩ (.int .i64 y0)).setCell ⟨wr.heap.size, 1, none⟩ (.int .i64 y1)).setCell ⟨wr.heap.size, 2, none⟩ (.int .i64 y2)).setCell ⟨wr.heap.size, 3, none⟩ (.int .i64 y3)).setCell ⟨wr.heap.size, 4, none⟩ (.int .i64 y4)) wr.heap.size 67 #[.int .i64 y0, .int .i64 y1, .int .i64 y2, .int .i64 y3, .int .i64 y4]) := Lib.hid (setN HZ.out _ _ _ _ _); replace HBr := Lib.hid (belN HBr.out (Nat.le_refl wr.heap.size) (.int .i64 y0) (.int .i64 y1) (.int .i64 y2) (.int .i64 y3) (.int .i64 y4)); generalize (((((w2.setCell ⟨wr.heap.size, 0, none⟩ (.int .i64 y0)).setCell ⟨wr.heap.size, 1, none⟩ (.int .i64 y1)).setCell ⟨wr.heap.size, 2, none⟩ (.int .i64 y2)).setCell ⟨wr.heap.size, 3, none⟩ (.int .i64 y3)).setCell ⟨wr.heap.size, 4, none⟩ (.int .i64 y4)) = wz at HZ HBr ⊢; obtain ⟨gz, hgz⟩ : ∃ g, wr.heap.size = g := ⟨_, rfl⟩; have HZ2 : Hid (Bx wz gz 67 #[.int .i64 y0, .int .i64 y1, .int .i64 y2, .int .i64 y3, .int .i64 y4]) := Lib.hid (by rw [← hgz]; exact HZ.out); rw [hgz]; clear q0 fz0 q1 fz1 q2 fz2 q3 fz3 q4 fz4 HZ hgz; have HZ := HZ2; clear HZ2) | (have HZ := Lib.hid (Bx.new w2 67 #[.int .i64 y0, .int .i64 y1, .int .i64 y2, .int .i64 y3, .int .i64 y4]); replace HBr := Lib.hid (HBr.out.alloc HBr.out.size (.cells #[.int .i64 y0, .int .i64 y1, .int .i64 y2, .int .i64 y3, .int .i64 y4] 67)); generalize w2.alloc (.cells #[.int .i64 y0, .int .i64 y1, .int .i64 y2, .int .i64 y3, .int .i64 y4] 67) = wz at HZ HBr ⊢; generalize w2.heap.size = gz at HZ ⊢)
          have HO1 := Lib.hid ((HK.out.1.below HBr.out).wide (Nat.le_refl _) HBr.out.size (Nat.le_refl _))
          have HB1 := Lib.hid (below_on HK.out.2 HBr.out)
          have hsz := HB1.out.size
          have HLit := Lib.hid (one_s wz y0 y1 y2 y3 y4)
          obtain ⟨d0, d1, d2_, d3, d4⟩ := SlStamp.bxc HZ.out
          clear HBr
          go_wp2_with (at_builtin; refine wpList_appS rfl (.tmp 44) (.tmp 46) 43 rfl i0 _ 40 Try.underlying43 hi0 hz0 hz1 hz2 rfl rfl (HO1.out.alloc _) (some ⟨wz.heap.size, 0, none⟩) 1 1 [(y0, y1, y2, y3, y4)] rfl HLit.out (Nat.le_trans hsz (by simp)) (by omega) (by omega) ?_; intro p4 c4 w4 how2 hg2; rw [← HIn.out] at how2; have HK2 : Hid (SA xs us ids tms sq dg (k + 1) p4 (m2 + 1) c4 w w4) := Lib.hid ⟨how2.wide (Nat.le_refl _) (Nat.le_refl _) (Nat.le_refl _), below_rowS (HB1.out.alloc hsz _) (HO1.out.alloc _) hg2 (Nat.le_refl _)⟩; clear how2 hg2)
          go_roundw
          case rel => exact ⟨k + 1, _, _, _, by omega, by go_num, rfl, HK2⟩
          case measure => simp [intOf]; omega
    · obtain rfl : k = N := by omega
      go_wp2_with fail
      go_ret
      exact ⟨_, _, _, rfl, HK.out.1, HK.out.2⟩
set_option maxRecDepth 100000 in
set_option maxHeartbeats 16000000 in
theorem spec_all_any (p : Option Addr) (n c : Nat) (xs : List I5) (hR : ∀ x ∈ xs, SlKey.InR x) (q : Option Addr) (m c' : Nat) (us : List I3) (p2 : Option Addr) (n2 c2 : Nat) (ids : List Int) (sq : Int) (p3 : Option Addr) (n3 c3 : Nat) (tms : List Int) (dg : Int) (g1 : -9223372036854775808 ≤ sq ∧ sq ≤ 9223372036854775807) (g2 : -9223372036854775808 ≤ dg ∧ dg ≤ 9223372036854775807) (w : World) (hr : RdS SlKey.E w p n xs) (hs : RdS SlAuthority.E w q m us) (hi : Rd .i64 w p2 n2 ids) (ht : Rd .i64 w p3 n3 tms) (hn2 : n2 ≤ 10000000) : Calls Try.prog 15 #[.slice p n c, .slice q m c', .slice p2 n2 c2, .int .i64 sq, .slice p3 n3 c3, .int .i64 dg] w (SlStamp.Makes (sta xs us ids tms sq dg (min n2 n3)) w) := by
  obtain ⟨i0, hi0, hz0, hz1, hz2⟩ := info_parts SlStamp.info
  obtain ⟨N, hN⟩ : ∃ N, min n2 n3 = N := ⟨_, rfl⟩
  rw [hN]
  have l2 : N ≤ n2 := by omega
  have l3 : N ≤ n3 := by omega
  have HR := Lib.hid hr
  have HS := Lib.hid hs
  have HI := Lib.hid hi
  have HT := Lib.hid ht
  have G1 := Lib.hid g1
  have G2 := Lib.hid g2
  have hL : SA xs us ids tms sq dg 0 (some ⟨w.heap.size, 0, none⟩) 0 0 w (w.alloc (.cells #[] 67)) := ⟨lit_own SlStamp.E 67 w w.heap.size [] #[] 0 rfl rfl (by unfold maxLen; omega) (Nat.le_refl _), Ki.box1 _ _⟩
  have HM := Lib.hid hL
  clear hr hs hi ht g1 g2 hL
  go_enter Try.func15, Try.ntmps15
  go_wp2_with fail
  go_loopw [13, 14] (fun v i wr => ∃ (k m2 d2 : Nat) (r2 : Option Addr), k ≤ N ∧ i = .int .i64 k ∧ v = .slice r2 m2 d2 ∧ Hid (SA xs us ids tms sq dg k r2 m2 d2 w wr)) (fun _ i _ => N - (intOf i).toNat)
  case atStart => exact ⟨0, _, _, _, Nat.zero_le _, rfl, rfl, HM⟩
  case round =>
    obtain ⟨k, m2, d2, r2, hk, rfl, rfl, HK⟩ := hrel
    have hml := HK.out.len
    by_cases hlt : k < N
    · skip
      obtain ⟨b2, o2, rfl, hb2, e2⟩ := (HI.out.below HK.out.2).at_ (i := k) (by omega)
      obtain ⟨b3, o3, rfl, hb3, e3⟩ := (HT.out.below HK.out.2).at_ (i := k) (by omega)
      have r2i := int_range HI.out.all k
      have r3i := int_range HT.out.all k
      have HZn := Lib.hid (fun (y : I5) (h : mkd xs us (ids.getD k 0, sq, tms.getD k 0, dg, 0) = (y, false)) => sta_no h)
      have HZy := Lib.hid (fun (y : I5) (h : mkd xs us (ids.getD k 0, sq, tms.getD k 0, dg, 0) = (y, true)) => sta_yes h)
      generalize ids.getD k 0 = iv at e2 r2i HZn HZy
      generalize tms.getD k 0 = tv at e3 r3i HZn HZy
      have RI := Lib.hid r2i
      have RT := Lib.hid r3i
      clear r2i r3i
      rcases hM : mkd xs us (iv, sq, tv, dg, 0) with ⟨⟨y0, y1, y2, y3, y4⟩, bM⟩
      have HMd := Lib.hid hM
      have E2 := Lib.hid e2
      have E3 := Lib.hid e3
      clear e2 e3
      have i1 : (0 : Int) ≤ (k : Int) := by omega
      have i2 : (k : Int) < (n2 : Int) := by omega
      have i3 : (k : Int) < (n3 : Int) := by omega
      have HKB : Hid (Below w.heap.size w wr) := Lib.hid HK.out.2
      have HBr : Hid (Below wr.heap.size wr wr) := Lib.hid (Below.refl _ _)
      cases bM
      · have HIn := Lib.hid (HZn.out _ hM)
        clear HZn HZy hM
        go_wp2_with fail
        have HBu := HBr
        replace HBr := Lib.hid (drewB HBr.out)
        go_region_held3 (fun w' => w'.cell? ⟨b2, o2 + k, none⟩ = some (.int .i64 iv) ∧ w'.cell? ⟨b3, o3 + k, none⟩ = some (.int .i64 tv)) (first | with_reducible exact ⟨((HBr.out).cell (p := ⟨b2, o2 + k, none⟩) hb2).trans E2.out, ((HBr.out).cell (p := ⟨b3, o3 + k, none⟩) hb3).trans E3.out⟩ | with_reducible exact ⟨((HBr.out.alloc HBr.out.size _).cell (p := ⟨b2, o2 + k, none⟩) hb2).trans E2.out, ((HBr.out.alloc HBr.out.size _).cell (p := ⟨b3, o3 + k, none⟩) hb3).trans E3.out⟩ | with_reducible exact ⟨((drewB (HBu.out.alloc HBu.out.size _)).cell (p := ⟨b2, o2 + k, none⟩) hb2).trans E2.out, ((drewB (HBu.out.alloc HBu.out.size _)).cell (p := ⟨b3, o3 + k, none⟩) hb3).trans E3.out⟩ | with_reducible exact ⟨((belN HBr.out (Nat.le_refl _) _ _ _ _ _).cell (p := ⟨b2, o2 + k, none⟩) hb2).trans E2.out, ((belN HBr.out (Nat.le_refl _) _ _ _ _ _).cell (p := ⟨b3, o3 + k, none⟩) hb3).trans E3.out⟩ | fail) (first | (go_at_call 37; (with_reducible refine (KStampS.spec_make_any p n c xs hR q m c' us iv sq tv dg 0 RI.out G1.out RT.out G2.out z0 y0 y1 y2 y3 y4 false HMd.out _ (HR.out.below (below_on HKB.out HBr.out)) (HS.out.below (below_on HKB.out HBr.out))).mono ?_); rintro e w2 ⟨rfl, hb⟩; replace HBr := Lib.hid (below_on HBr.out hb); clear hb) | (go_at_call 37; have HZ := Lib.hid (Bx.new wr 67 #[.int .i64 0, .int .i64 0, .int .i64 0, .int .i64 0, .int .i64 0]).drew1; replace HBr := Lib.hid (drewB (HBu.out.alloc HBu.out.size (.cells #[.int .i64 0, .int .i64 0, .int .i64 0, .int .i64 0, .int .i64 0] 67))); (with_reducible refine (KStampS.spec_make_any p n c xs hR q m c' us iv sq tv dg 0 RI.out G1.out RT.out G2.out z0 y0 y1 y2 y3 y4 false HMd.out _ (HR.out.below (below_on HKB.out HBr.out)) (HS.out.below (below_on HKB.out HBr.out))).mono ?_); rintro e w2 ⟨rfl, hb⟩; replace HZ := Lib.hid (HZ.out.below hb); replace HBr := Lib.hid (below_on HBr.out hb); obtain ⟨q0, q1, q2, q3, q4⟩ := SlStamp.bxc HZ.out; have fz0 := HZ.out.free 0; have fz1 := HZ.out.free 1; have fz2 := HZ.out.free 2; have fz3 := HZ.out.free 3; have fz4 := HZ.out.free 4; clear hb) | fail)
        all_goals
          clear HBu
          first | (replace HZ : Hid (Bx (((((w2.setCell ⟨wr.heap.size, 0, none⟩ (.int .i64 y0)).setCell ⟨wr.heap.size, 1, none⟩ (.int .i64 y1)).setCell ⟨wr.heap.size, 2, none⟩ (.int .i64 y2)).setCell ⟨wr.heap.size, 3, none⟩ (.int .i64 y3)).setCell ⟨wr.heap.size, 4, none⟩ (.int .i64 y4)) wr.heap.size 67 #[.int .i64 y0, .int .i64 y1, .int .i64 y2, .int .i64 y3, .int .i64 y4]) := Lib.hid (setN HZ.out _ _ _ _ _); replace HBr := Lib.hid (belN HBr.out (Nat.le_refl wr.heap.size) (.int .i64 y0) (.int .i64 y1) (.int .i64 y2) (.int .i64 y3) (.int .i64 y4)); generalize (((((w2.setCell ⟨wr.heap.size, 0, none⟩ (.int .i64 y0)).setCell ⟨wr.heap.size, 1, none⟩ (.int .i64 y1)).setCell ⟨wr.heap.size, 2, none⟩ (.int .i64 y2)).setCell ⟨wr.heap.size, 3, none⟩ (.int .i64 y3)).setCell ⟨wr.heap.size, 4, none⟩ (.int .i64 y4)) = wz at HZ HBr ⊢; obtain ⟨gz, hgz⟩ : ∃ g, wr.heap.size = g := ⟨_, rfl⟩; have HZ2 : Hid (Bx wz gz 67 #[.int .i64 y0, .int .i64 y1, .int .i64 y2, .int .i64 y3, .int .i64 y4]) := Lib.hid (by rw [← hgz]; exact HZ.out); rw [hgz]; clear q0 fz0 q1 fz1 q2 fz2 q3 fz3 q4 fz4 HZ hgz; have HZ := HZ2; clear HZ2) | (have HZ := Lib.hid (Bx.new w2 67 #[.int .i64 y0, .int .i64 y1, .int .i64 y2, .int .i64 y3, .int .i64 y4]); replace HBr := Lib.hid (HBr.out.alloc HBr.out.size (.cells #[.int .i64 y0, .int .i64 y1, .int .i64 y2, .int .i64 y3, .int .i64 y4] 67)); generalize w2.alloc (.cells #[.int .i64 y0, .int .i64 y1, .int .i64 y2, .int .i64 y3, .int .i64 y4] 67) = wz at HZ HBr ⊢; generalize w2.heap.size = gz at HZ ⊢)
          have HK1 := Lib.hid (HK.out.next HBr.out HIn.out)
          clear HBr HZ
          go_wp2_with fail
          go_roundw
          case rel => exact ⟨k + 1, _, _, _, by omega, by go_num, rfl, HK1⟩
          case measure => simp [intOf]; omega
      · have HIn := Lib.hid (HZy.out _ hM)
        clear HZn HZy hM
        go_wp2_with fail
        have HBu := HBr
        replace HBr := Lib.hid (drewB HBr.out)
        go_region_held3 (fun w' => w'.cell? ⟨b2, o2 + k, none⟩ = some (.int .i64 iv) ∧ w'.cell? ⟨b3, o3 + k, none⟩ = some (.int .i64 tv)) (first | with_reducible exact ⟨((HBr.out).cell (p := ⟨b2, o2 + k, none⟩) hb2).trans E2.out, ((HBr.out).cell (p := ⟨b3, o3 + k, none⟩) hb3).trans E3.out⟩ | with_reducible exact ⟨((HBr.out.alloc HBr.out.size _).cell (p := ⟨b2, o2 + k, none⟩) hb2).trans E2.out, ((HBr.out.alloc HBr.out.size _).cell (p := ⟨b3, o3 + k, none⟩) hb3).trans E3.out⟩ | with_reducible exact ⟨((drewB (HBu.out.alloc HBu.out.size _)).cell (p := ⟨b2, o2 + k, none⟩) hb2).trans E2.out, ((drewB (HBu.out.alloc HBu.out.size _)).cell (p := ⟨b3, o3 + k, none⟩) hb3).trans E3.out⟩ | with_reducible exact ⟨((belN HBr.out (Nat.le_refl _) _ _ _ _ _).cell (p := ⟨b2, o2 + k, none⟩) hb2).trans E2.out, ((belN HBr.out (Nat.le_refl _) _ _ _ _ _).cell (p := ⟨b3, o3 + k, none⟩) hb3).trans E3.out⟩ | fail) (first | (go_at_call 37; (with_reducible refine (KStampS.spec_make_any p n c xs hR q m c' us iv sq tv dg 0 RI.out G1.out RT.out G2.out z0 y0 y1 y2 y3 y4 true HMd.out _ (HR.out.below (below_on HKB.out HBr.out)) (HS.out.below (below_on HKB.out HBr.out))).mono ?_); rintro e w2 ⟨rfl, hb⟩; replace HBr := Lib.hid (below_on HBr.out hb); clear hb) | (go_at_call 37; have HZ := Lib.hid (Bx.new wr 67 #[.int .i64 0, .int .i64 0, .int .i64 0, .int .i64 0, .int .i64 0]).drew1; replace HBr := Lib.hid (drewB (HBu.out.alloc HBu.out.size (.cells #[.int .i64 0, .int .i64 0, .int .i64 0, .int .i64 0, .int .i64 0] 67))); (with_reducible refine (KStampS.spec_make_any p n c xs hR q m c' us iv sq tv dg 0 RI.out G1.out RT.out G2.out z0 y0 y1 y2 y3 y4 true HMd.out _ (HR.out.below (below_on HKB.out HBr.out)) (HS.out.below (below_on HKB.out HBr.out))).mono ?_); rintro e w2 ⟨rfl, hb⟩; replace HZ := Lib.hid (HZ.out.below hb); replace HBr := Lib.hid (below_on HBr.out hb); obtain ⟨q0, q1, q2, q3, q4⟩ := SlStamp.bxc HZ.out; have fz0 := HZ.out.free 0; have fz1 := HZ.out.free 1; have fz2 := HZ.out.free 2; have fz3 := HZ.out.free 3; have fz4 := HZ.out.free 4; clear hb) | fail)
        all_goals
          clear HBu
          first | (replace HZ : Hid (Bx (((((w2.setCell ⟨wr.heap.size, 0, none⟩ (.int .i64 y0)).setCell ⟨wr.heap.size, 1, none⟩ (.int .i64 y1)).setCell ⟨wr.heap.size, 2, none⟩ (.int .i64 y2)).setCell ⟨wr.heap.size, 3, none⟩ (.int .i64 y3)).setCell ⟨wr.heap.size, 4, none⟩ (.int .i64 y4)) wr.heap.size 67 #[.int .i64 y0, .int .i64 y1, .int .i64 y2, .int .i64 y3, .int .i64 y4]) := Lib.hid (setN HZ.out _ _ _ _ _); replace HBr := Lib.hid (belN HBr.out (Nat.le_refl wr.heap.size) (.int .i64 y0) (.int .i64 y1) (.int .i64 y2) (.int .i64 y3) (.int .i64 y4)); generalize (((((w2.setCell ⟨wr.heap.size, 0, none⟩ (.int .i64 y0)).setCell ⟨wr.heap.size, 1, none⟩ (.int .i64 y1)).setCell ⟨wr.heap.size, 2, none⟩ (.int .i64 y2)).setCell ⟨wr.heap.size, 3, none⟩ (.int .i64 y3)).setCell ⟨wr.heap.size, 4, none⟩ (.int .i64 y4)) = wz at HZ HBr ⊢; obtain ⟨gz, hgz⟩ : ∃ g, wr.heap.size = g := ⟨_, rfl⟩; have HZ2 : Hid (Bx wz gz 67 #[.int .i64 y0, .int .i64 y1, .int .i64 y2, .int .i64 y3, .int .i64 y4]) := Lib.hid (by rw [← hgz]; exact HZ.out); rw [hgz]; clear q0 fz0 q1 fz1 q2 fz2 q3 fz3 q4 fz4 HZ hgz; have HZ := HZ2; clear HZ2) | (have HZ := Lib.hid (Bx.new w2 67 #[.int .i64 y0, .int .i64 y1, .int .i64 y2, .int .i64 y3, .int .i64 y4]); replace HBr := Lib.hid (HBr.out.alloc HBr.out.size (.cells #[.int .i64 y0, .int .i64 y1, .int .i64 y2, .int .i64 y3, .int .i64 y4] 67)); generalize w2.alloc (.cells #[.int .i64 y0, .int .i64 y1, .int .i64 y2, .int .i64 y3, .int .i64 y4] 67) = wz at HZ HBr ⊢; generalize w2.heap.size = gz at HZ ⊢)
          have HO1 := Lib.hid ((HK.out.1.below HBr.out).wide (Nat.le_refl _) HBr.out.size (Nat.le_refl _))
          have HB1 := Lib.hid (below_on HK.out.2 HBr.out)
          have hsz := HB1.out.size
          have HLit := Lib.hid (one_s wz y0 y1 y2 y3 y4)
          obtain ⟨d0, d1, d2_, d3, d4⟩ := SlStamp.bxc HZ.out
          clear HBr
          go_wp2_with (at_builtin; refine wpList_appS rfl (.tmp 48) (.tmp 50) 43 rfl i0 _ 40 Try.underlying43 hi0 hz0 hz1 hz2 rfl rfl (HO1.out.alloc _) (some ⟨wz.heap.size, 0, none⟩) 1 1 [(y0, y1, y2, y3, y4)] rfl HLit.out (Nat.le_trans hsz (by simp)) (by omega) (by omega) ?_; intro p4 c4 w4 how2 hg2; rw [← HIn.out] at how2; have HK2 : Hid (SA xs us ids tms sq dg (k + 1) p4 (m2 + 1) c4 w w4) := Lib.hid ⟨how2.wide (Nat.le_refl _) (Nat.le_refl _) (Nat.le_refl _), below_rowS (HB1.out.alloc hsz _) (HO1.out.alloc _) hg2 (Nat.le_refl _)⟩; clear how2 hg2)
          go_roundw
          case rel => exact ⟨k + 1, _, _, _, by omega, by go_num, rfl, HK2⟩
          case measure => simp [intOf]; omega
    · obtain rfl : k = N := by omega
      by_cases hq : k < n2
      · have hq3 : ¬ (k : Int) < (n3 : Int) := by omega
        go_wp2_with fail
        go_ret
        exact ⟨_, _, _, rfl, HK.out.1, HK.out.2⟩
      · have hq2 : ¬ (k : Int) < (n2 : Int) := by omega
        go_wp2_with fail
        go_ret
        exact ⟨_, _, _, rfl, HK.out.1, HK.out.2⟩
end Go.Proofs.Ytbjocgnogcnedaa.Sta
