/- The least of some numbers; the next time at which an item has to be renewed: of no program, and in the reference. The next time at which an item has to be renewed, in the program. -/
import Derived.Test.YtmfnpgeifkcjkaaNr
import Derived.Test.YtmfnpgeifkcjkaaDpArchive
import Derived.Test.YtmfnpgeifkcjkaaMin
import Derived.LoopTactic
import Derived.Outline
import Derived.Deep.Cut
namespace Go.Proofs.Ytmfnpgeifkcjkaa.Nd
open Go.ChangeShapes Go.WideShapes Go.ChangeAt Go.RowKit Sl St Ed Dz Fnd Fm0 Nr1
def chain (x : DpItem.A) : List DpRenewal.A := x.2.2.2.2.2
def endI (ks : List I5) (us : List I3) (ms : List Mn.Me) (x : DpItem.A) : Int := lastEnd ks us ms (chain x)
def dueT (ks : List I5) (us : List I3) (ms : List Mn.Me) (xs : List DpItem.A) : Int := (xs.map (endI ks us ms)).foldl Ints.minI 10001
theorem fold_next {β γ : Type} {f : β → γ → β} {z : β} {xs : List γ} {k : Nat} {x : γ} (h : xs[k]? = some x) : (xs.take (k + 1)).foldl f z = f ((xs.take k).foldl f z) x := by
  rw [List.take_add_one, h]
  simp
theorem map_next {β γ : Type} {f : β → γ} {xs : List β} {k : Nat} {x : β} (h : xs[k]? = some x) : (xs.take (k + 1)).map f = (xs.take k).map f ++ [f x] := by
  rw [List.take_add_one, h]
  simp
theorem wt_chain {xs : List DpItem.A} {k : Nat} {x0 x1 : Int} {d : DpDocument.A} {g : Int × Int × Int × Int × Int × Int × Int × Int × Int} {l14 : List DpPiece.A} {l15 : List DpRenewal.A} (h : xs[k]? = some (x0, x1, d, g, (l14, l15))) (hm : wts DpItem.E xs ≤ 1048576) : wts DpRenewal.E l15 ≤ 1048576 := by
  have h1 := wts_at (E := DpItem.E) h
  obtain ⟨d0, d1, d2⟩ := d
  obtain ⟨g0, g1, g2, g3, g4, g5, g6, g7, g8⟩ := g
  rw [DpItem.wt_eq, DpStrand.wt_eq] at h1
  omega
set_option maxRecDepth 100000 in
set_option maxHeartbeats 4000000 in
theorem extreme_any (z : Int) (p : Option Addr) (n c : Nat) (xs : List Int) (w : World) (hr : Rd .i64 w p n xs) : Calls Try.prog 98 #[.func (.func 99) #[] #[], .int .i64 z, .slice p n c] w (Dz.Val (.int .i64 (xs.foldl Ints.minI z)) w) := by
  have hle := hr.le
  have HL := Lib.hid hr.len
  have HR := Lib.hid hr
  clear hr
  go_enter Try.func98, Try.ntmps98
  go_wp2_with fail
  go_loopw [7, 9, 13] (fun v _ i wr => ∃ (k : Nat) (y : Int), k ≤ n ∧ i = .int .i64 k ∧ v = .int .i64 y ∧ Hid (y = (xs.take k).foldl Ints.minI z) ∧ Hid (Below w.heap.size w wr)) (fun _ _ i _ => n - (intOf i).toNat)
  case atStart => exact ⟨0, z, Nat.zero_le _, rfl, rfl, Lib.hid rfl, Lib.hid (Below.refl _ _)⟩
  case round =>
    obtain ⟨k, y, hk, rfl, rfl, HY, HB⟩ := hrel
    by_cases hlt : k < n
    · obtain ⟨b, o, rfl, hb, hc⟩ := HR.out.2.2.2 (by omega)
      have hx := (HB.out.cell (p := ⟨b, o + k, none⟩) hb).trans (hc k hlt)
      have hxk : xs[k]? = some (xs.getD k 0) := idx 0 (by rw [HL.out]; exact hlt)
      generalize xs.getD k 0 = x at hx hxk
      have HX := Lib.hid hxk
      clear hc hxk hb
      by_cases hlx : x < y
      · have HY2 : Hid (x = (xs.take (k + 1)).foldl Ints.minI z) := Lib.hid (by rw [fold_next HX.out, ← HY.out, Ints.minI_lt hlx])
        go_wp2
        go_roundw
        case rel => exact ⟨k + 1, x, by omega, by go_num, rfl, HY2, HB⟩
        case measure => simp [intOf]; omega
      · have HY2 : Hid (y = (xs.take (k + 1)).foldl Ints.minI z) := Lib.hid (by rw [fold_next HX.out, ← HY.out, Ints.minI_ge hlx])
        go_wp2
        go_roundw
        case rel => exact ⟨k + 1, y, by omega, by go_num, rfl, HY2, HB⟩
        case measure => simp [intOf]; omega
    · obtain rfl : k = n := by omega
      have HV : Hid (y = xs.foldl Ints.minI z) := Lib.hid (by rw [HY.out, List.take_of_length_le (by rw [HL.out]; exact Nat.le_refl _)])
      go_wp2
      go_ret
      exact Dz.val_of (by rw [← HV.out]; first | done | rfl) HB.out
theorem least_any (z : Int) (p : Option Addr) (n c : Nat) (xs : List Int) (w : World) (hr : Rd .i64 w p n xs) : Calls Try.prog 73 #[.int .i64 z, .slice p n c] w (Dz.Val (.int .i64 (xs.foldl Ints.minI z)) w) := by
  go_enter Try.func73, Try.ntmps73
  go_wp2_with fail
  refine (extreme_any z p n c xs _ hr).mono ?_
  rintro e w1 ⟨rfl, hb⟩
  go_wp2_with fail
  go_ret
  exact Dz.val_of rfl hb
set_option maxRecDepth 100000 in
set_option maxHeartbeats 8000000 in
theorem spec_due_any (ks : List I5) (pk : Option Addr) (nk ck : Nat) (us : List I3) (pa : Option Addr) (na ca : Nat) (ms : List Mn.Me) (pm : Option Addr) (nm cm : Nat) (f3 now : Int) (a0 : Int) (l1 : List DpItem.A) (p1 : Option Addr) (n1 c1 : Nat) {SK SA SM S1 : Nat → Prop} (w : World) (hk : RdD (flat SlKey.E SlKey.InR) SK w pk nk ks) (ha : RdD (flat SlAuthority.E SlAuthority.InR) SA w pa na us) (hm : RdD (flat SlMethod.E SlMethod.InR) SM w pm nm ms) (h1 : RdD DpItem.E S1 w p1 n1 l1) (hw : n1 + wts DpItem.E l1 ≤ 1048576) : Calls Try.prog 35 #[.agg #[.slice pk nk ck, .slice pa na ca, .slice pm nm cm, .int .i64 f3, .int .i64 now], .agg #[.int .i64 a0, .slice p1 n1 c1]] w (Dz.Val (.int .i64 (dueT ks us ms l1)) w) := by
  have hb : Below w.heap.size w ((w.alloc (.cells #[.slice pk nk ck, .slice pa na ca, .slice pm nm cm, .int .i64 f3, .int .i64 now] 55)).alloc (.cells #[.int .i64 a0, .slice p1 n1 c1] 93)) := (box1 w _).alloc (by simp) _
  have bx1 := (Bx.new w 55 #[.slice pk nk ck, .slice pa na ca, .slice pm nm cm, .int .i64 f3, .int .i64 now]).alloc (.cells #[.int .i64 a0, .slice p1 n1 c1] 93)
  have bx2 := Bx.new (w.alloc (.cells #[.slice pk nk ck, .slice pa na ca, .slice pm nm cm, .int .i64 f3, .int .i64 now] 55)) 93 #[.int .i64 a0, .slice p1 n1 c1]
  rw [World.size_alloc] at bx2
  have HBV := Lib.hid hb
  have HG := Lib.hid bx1
  have HX := Lib.hid bx2
  have HK := Lib.hid (hk.below hb)
  have HA := Lib.hid (ha.below hb)
  have HM := Lib.hid (hm.below hb)
  have H1 := Lib.hid (h1.below hb)
  have hle := h1.le
  have HL := Lib.hid h1.len
  have hn : n1 ≤ 1048576 := by omega
  have HWT : Hid (wts DpItem.E l1 ≤ 1048576) := Lib.hid (by omega)
  clear hb bx1 bx2 hk ha hm h1 hw
  go_enter Try.func35, Try.ntmps35
  go_wp2_with fail
  generalize ((w.alloc (.cells #[.slice pk nk ck, .slice pa na ca, .slice pm nm cm, .int .i64 f3, .int .i64 now] 55)).alloc (.cells #[.int .i64 a0, .slice p1 n1 c1] 93)) = V at HBV HG HX HK HA HM H1 ⊢
  go_loopw [5, 6] (fun v i wr => ∃ (k : Nat) (y : Int), k ≤ n1 ∧ i = .int .i64 k ∧ v = .int .i64 y ∧ Hid (y = ((l1.take k).map (endI ks us ms)).foldl Ints.minI 10001) ∧ Hid (Below V.heap.size V wr)) (fun _ i _ => n1 - (intOf i).toNat)
  case atStart => exact ⟨0, 10001, Nat.zero_le _, rfl, rfl, Lib.hid rfl, Lib.hid (Below.refl _ _)⟩
  case round =>
    obtain ⟨k, y, hk, rfl, rfl, HY, HB⟩ := hrel
    obtain ⟨s0, s1⟩ := DpArchive.bxc (HX.out.below HB.out)
    by_cases hlt : k < n1
    · skip
      obtain ⟨b, o, x_e, cs_e, rfl, _, hbwe, hxe, hce, hrde⟩ := H1.out.at_ hlt
      obtain ⟨xe0, xe1, ⟨xe2, le3, le4⟩, ⟨xe5, xe6, xe7, xe8, xe9, xe10, xe11, xe12, xe13⟩, ⟨le14, le15⟩⟩ := x_e
      obtain ⟨pe3, ne3, ce3, pe4, ne4, ce4, pe14, ne14, ce14, pe15, ne15, ce15, rfl, be0, be1, be2, he3, he4, be5, he14, he15⟩ := DpItem.ex hrde
      have hcce : ∀ jj v, [.int .i64 xe0, .int .i64 xe1, .int .i64 xe2, .slice pe3 ne3 ce3, .slice pe4 ne4 ce4, .int .i64 xe5, .int .i64 xe6, .int .i64 xe7, .int .i64 xe8, .int .i64 xe9, .int .i64 xe10, .int .i64 xe11, .int .i64 xe12, .int .i64 xe13, .slice pe14 ne14 ce14, .slice pe15 ne15 ce15][jj]? = some v → wr.cell? ⟨b, o + k * 16 + jj, none⟩ = some v := fun jj v hv => (HB.out.cell (p := ⟨b, o + k * 16 + jj, none⟩) hbwe).trans (hce jj v hv)
      have HXe := Lib.hid hxe
      have HCe := Lib.hid hcce
      have He3 := Lib.hid (he3.below HB.out)
      have hne3 := he3.le
      have He4 := Lib.hid (he4.below HB.out)
      have hne4 := he4.le
      have He14 := Lib.hid (he14.below HB.out)
      have hne14 := he14.le
      have He15 := Lib.hid (he15.below HB.out)
      have hne15 := he15.le
      have Gbe0 := Lib.hid be0
      have Gbe1 := Lib.hid be1
      have Gbe2 := Lib.hid be2
      have Gbe5 := Lib.hid be5
      obtain ⟨u0, u1, u2, u3, u4, u5, u6, u7, u8, u9, u10, u11, u12, u13, u14, u15⟩ := DpItem.at_cells hcce
      clear hcce hce hxe hrde be0 be1 be2 he3 he4 be5 he14 he15
      have i1 : (0 : Int) ≤ (k : Int) := by omega
      have i2 : (k : Int) < (n1 : Int) := by omega
      have HWC := Lib.hid (wt_chain HXe.out HWT.out)
      obtain ⟨E, hE⟩ : ∃ z, lastEnd ks us ms le15 = z := ⟨_, rfl⟩
      have HE := Lib.hid hE
      have HY2 : Hid (Ints.minI y E = ((l1.take (k + 1)).map (endI ks us ms)).foldl Ints.minI 10001) := Lib.hid (by rw [map_next HXe.out, List.foldl_append, ← HY.out, ← hE]; rfl)
      clear hE u0 u1 u2 u3 u4 u5 u6 u7 u8 u9 u10 u11 u12 u13 u14 u15
      go_wp2_with fail
      clear s0 s1
      have HC : Hid (∀ w', Qt.Keeps (wr) w' → w'.cell? ⟨w.heap.size, 0, none⟩ = some (.slice pk nk ck) ∧ w'.cell? ⟨w.heap.size, 1, none⟩ = some (.slice pa na ca) ∧ w'.cell? ⟨w.heap.size, 2, none⟩ = some (.slice pm nm cm) ∧ w'.cell? ⟨w.heap.size, 3, none⟩ = some (.int .i64 f3) ∧ w'.cell? ⟨w.heap.size, 4, none⟩ = some (.int .i64 now) ∧ w'.cell? ⟨w.heap.size + 1, 1, none⟩ = some (.slice (some ⟨b, o, none⟩) n1 c1) ∧ w'.cell? ⟨b, o + k * 16, none⟩ = some (.int .i64 xe0) ∧ w'.cell? ⟨b, o + k * 16 + 1, none⟩ = some (.int .i64 xe1) ∧ w'.cell? ⟨b, o + k * 16 + 2, none⟩ = some (.int .i64 xe2) ∧ w'.cell? ⟨b, o + k * 16 + 3, none⟩ = some (.slice pe3 ne3 ce3) ∧ w'.cell? ⟨b, o + k * 16 + 4, none⟩ = some (.slice pe4 ne4 ce4) ∧ w'.cell? ⟨b, o + k * 16 + 5, none⟩ = some (.int .i64 xe5) ∧ w'.cell? ⟨b, o + k * 16 + 6, none⟩ = some (.int .i64 xe6) ∧ w'.cell? ⟨b, o + k * 16 + 7, none⟩ = some (.int .i64 xe7) ∧ w'.cell? ⟨b, o + k * 16 + 8, none⟩ = some (.int .i64 xe8) ∧ w'.cell? ⟨b, o + k * 16 + 9, none⟩ = some (.int .i64 xe9) ∧ w'.cell? ⟨b, o + k * 16 + 10, none⟩ = some (.int .i64 xe10) ∧ w'.cell? ⟨b, o + k * 16 + 11, none⟩ = some (.int .i64 xe11) ∧ w'.cell? ⟨b, o + k * 16 + 12, none⟩ = some (.int .i64 xe12) ∧ w'.cell? ⟨b, o + k * 16 + 13, none⟩ = some (.int .i64 xe13) ∧ w'.cell? ⟨b, o + k * 16 + 14, none⟩ = some (.slice pe14 ne14 ce14) ∧ w'.cell? ⟨b, o + k * 16 + 15, none⟩ = some (.slice pe15 ne15 ce15)) := Lib.hid fun w' hw => let g := DpFrame.bxc (HG.out.below (below_on HB.out hw)); let u := DpItem.at_cells (w := w') (b := b) (q := o + k * 16) fun t v hv => (hw.cell (p := ⟨b, o + k * 16 + t, none⟩) (Nat.lt_of_lt_of_le hbwe HB.out.size)).trans (HCe.out t v hv); ⟨g.1, g.2.1, g.2.2.1, g.2.2.2.1, g.2.2.2.2, (DpArchive.bxc (HX.out.below (below_on HB.out hw))).2, u⟩
      refine Qt.region (Qt.Keeps (wr)) (by kernel_rfl) (by kernel_rfl) (Qt.Keeps.drew _) ?_
      repeat (first
        | go_big_quiet_skip
        | (go_big_quiet_want
           refine Qt.val (v := ?_) (fun w hw => ?_) ?_
           rotate_left
           · obtain ⟨g0, g1, g2, g3, g4, s1, u0, u1, u2, u3, u4, u5, u6, u7, u8, u9, u10, u11, u12, u13, u14, u15⟩ := HC.out w hw
             go_simp
             rfl
           simp only [Act.put, List.setIfInBounds_toArray, List.set_cons_zero, List.set_cons_succ]
           go_big_quiet_on)
        | (go_big_quiet_want
           refine Qt.call (v := .int .i64 E) (f := 63) (args := #[.agg #[.slice pk nk ck, .slice pa na ca, .slice pm nm cm, .int .i64 f3, .int .i64 now], .agg #[.int .i64 xe0, .int .i64 xe1, .int .i64 xe2, .slice pe3 ne3 ce3, .slice pe4 ne4 ce4, .int .i64 xe5, .int .i64 xe6, .int .i64 xe7, .int .i64 xe8, .int .i64 xe9, .int .i64 xe10, .int .i64 xe11, .int .i64 xe12, .int .i64 xe13, .slice pe14 ne14 ce14, .slice pe15 ne15 ce15]]) (fun w hw => ?_) (fun w hw => ?_) ?_
           · go_simp
           · refine (Nr2.spec_last_any ks _ _ _ us _ _ _ ms _ _ _ f3 now _ _ _ _ _ _ _ _ _ _ _ _ _ _ _ _ _ _ _ _ _ le15 _ _ _ _ (HK.out.below (below_on HB.out hw)) (HA.out.below (below_on HB.out hw)) (HM.out.below (below_on HB.out hw)) (He15.out.below hw) HWC.out).mono ?_
             rintro e w1 ⟨rfl, hb1⟩
             rw [HE.out]
             exact ⟨rfl, hw.then hb1⟩
           simp only [Act.put, List.setIfInBounds_toArray, List.set_cons_zero, List.set_cons_succ]
           go_big_quiet_on)
        | (go_big_quiet_want
           refine Qt.call (v := .int .i64 (Ints.minI y E)) (f := 44) (args := #[.int .i64 y, .int .i64 E]) (fun w hw => ?_) (fun w hw => ?_) ?_
           · go_simp
           · refine (Ints.spec_min_any y E _).mono ?_
             rintro e w1 ⟨rfl, rfl⟩
             exact ⟨rfl, hw⟩
           simp only [Act.put, List.setIfInBounds_toArray, List.set_cons_zero, List.set_cons_succ]
           go_big_quiet_on))
      refine wpQuiet_nil ?_
      intro w5 hw5
      have HB5 := Lib.hid (below_on HB.out hw5)
      clear hw5
      generalize Ints.minI y E = y2 at HY2 ⊢
      go_wp2_with fail
      go_roundw
      case rel => exact ⟨k + 1, y2, by omega, by go_num, rfl, HY2, HB5⟩
      case measure => simp [intOf]; omega
    · obtain rfl : k = n1 := by omega
      have HV : Hid (y = dueT ks us ms l1) := Lib.hid (by rw [HY.out, List.take_of_length_le (by rw [HL.out]; exact Nat.le_refl _)]; rfl)
      go_wp2_with fail
      go_ret
      exact Dz.val_of (by rw [← HV.out]; first | done | rfl) (below_on HBV.out HB.out)
end Go.Proofs.Ytmfnpgeifkcjkaa.Nd

namespace Go.Proofs.Ytmfnpgeifkcjkaa.Ne
open Go.ChangeShapes Go.WideShapes Go.ChangeAt Go.RowKit Sl St Ed Dz Fnd Fm0 Nr1 Nd
def Way (f : DpItem.A → Int) (l1 : List DpItem.A) (k : Nat) (p : Option Addr) (m c : Nat) (V wr : World) : Prop := Ow .i64 3 wr V.heap.size wr.heap.size p m c ((l1.take k).map f) ∧ Below V.heap.size V wr
theorem lit1 (V : World) (x : Int) (hx : InI x) : Rd .i64 (V.alloc (.cells #[.int .i64 x] 3)) (some ⟨V.heap.size, 0, none⟩) 1 [x] := (litN_own 3 V V.heap.size [x] (allK_cons hx (allK_nil _)) (Nat.le_refl _) (by simp)).rd
theorem end_in {ks : List I5} {us : List I3} {ms : List Mn.Me} (hM : ∀ m ∈ ms, SlMethod.InR m) (r : Int) (xs : List I5) : InI (firstM ks us (ends ms) r xs) := by
  have hends : ∀ i, InI (ends ms i) := fun i => by
    unfold ends
    split
    · exact ⟨by decide, by decide⟩
    · by_cases hk : (Mn.fnd ms i).toNat < ms.length
      · exact (hM _ (getD_mem Mn.z4 hk)).2.2.1
      · rw [List.getD_eq_getElem?_getD, List.getElem?_eq_none (by omega)]
        exact ⟨by decide, by decide⟩
  have hmin : ∀ a b : Int, InI a → InI b → InI (Ints.minI a b) := fun a b ha hb => by unfold Ints.minI; split <;> assumption
  have hfold : ∀ (l : List I5) (z : Int), InI z → InI (l.foldl (stpM ks us (ends ms)) z) := fun l => by
    induction l with
    | nil => exact fun z hz => hz
    | cons x l ih => exact fun z hz => ih _ (hmin _ _ hz (hends _))
  unfold firstM
  split
  · exact ⟨by decide, by decide⟩
  · exact hfold _ _ (hends _)
set_option maxRecDepth 100000 in
set_option maxHeartbeats 8000000 in
theorem due_any (ks : List I5) (pk : Option Addr) (nk ck : Nat) (us : List I3) (pa : Option Addr) (na ca : Nat) (ms : List Mn.Me) (pm : Option Addr) (nm cm : Nat) (f3 now : Int) (a0 : Int) (l1 : List DpItem.A) (p1 : Option Addr) (n1 c1 : Nat) {SK SA SM S1 : Nat → Prop} (w : World) (hk : RdD (flat SlKey.E SlKey.InR) SK w pk nk ks) (ha : RdD (flat SlAuthority.E SlAuthority.InR) SA w pa na us) (hm : RdD (flat SlMethod.E SlMethod.InR) SM w pm nm ms) (h1 : RdD DpItem.E S1 w p1 n1 l1) (hw : n1 + wts DpItem.E l1 ≤ 1048576) : Calls Try.prog 37 #[.agg #[.slice pk nk ck, .slice pa na ca, .slice pm nm cm, .int .i64 f3, .int .i64 now], .agg #[.int .i64 a0, .slice p1 n1 c1]] w (Dz.Val (.int .i64 (dueT ks us ms l1)) w) := by
  have hb : Below w.heap.size w ((w.alloc (.cells #[.slice pk nk ck, .slice pa na ca, .slice pm nm cm, .int .i64 f3, .int .i64 now] 55)).alloc (.cells #[.int .i64 a0, .slice p1 n1 c1] 93)) := (box1 w _).alloc (by simp) _
  have bx1 := (Bx.new w 55 #[.slice pk nk ck, .slice pa na ca, .slice pm nm cm, .int .i64 f3, .int .i64 now]).alloc (.cells #[.int .i64 a0, .slice p1 n1 c1] 93)
  have bx2 := Bx.new (w.alloc (.cells #[.slice pk nk ck, .slice pa na ca, .slice pm nm cm, .int .i64 f3, .int .i64 now] 55)) 93 #[.int .i64 a0, .slice p1 n1 c1]
  rw [World.size_alloc] at bx2
  have HBV := Lib.hid hb
  have HG := Lib.hid bx1
  have HX := Lib.hid bx2
  have HK := Lib.hid (hk.below hb)
  have HA := Lib.hid (ha.below hb)
  have HM := Lib.hid (hm.below hb)
  have H1 := Lib.hid (h1.below hb)
  have hle := h1.le
  have HL := Lib.hid h1.len
  have hn : n1 ≤ 1048576 := by omega
  have HWT : Hid (wts DpItem.E l1 ≤ 1048576) := Lib.hid (by omega)
  clear hb bx1 bx2 hk ha hm h1 hw
  obtain ⟨i0, hi, hz0, hz1, hz2⟩ := info_parts SlI.info
  obtain ⟨s0, s1⟩ := DpArchive.bxc HX.out
  have hlb := box1 ((w.alloc (.cells #[.slice pk nk ck, .slice pa na ca, .slice pm nm cm, .int .i64 f3, .int .i64 now] 55)).alloc (.cells #[.int .i64 a0, .slice p1 n1 c1] 93)) (.cells #[] 3)
  have hwy : Way (endI ks us ms) l1 0 (some ⟨(((w.alloc (.cells #[.slice pk nk ck, .slice pa na ca, .slice pm nm cm, .int .i64 f3, .int .i64 now] 55)).alloc (.cells #[.int .i64 a0, .slice p1 n1 c1] 93))).heap.size, 0, none⟩) 0 0 ((w.alloc (.cells #[.slice pk nk ck, .slice pa na ca, .slice pm nm cm, .int .i64 f3, .int .i64 now] 55)).alloc (.cells #[.int .i64 a0, .slice p1 n1 c1] 93)) ((((w.alloc (.cells #[.slice pk nk ck, .slice pa na ca, .slice pm nm cm, .int .i64 f3, .int .i64 now] 55)).alloc (.cells #[.int .i64 a0, .slice p1 n1 c1] 93))).alloc (.cells #[] 3)) := ⟨litN_own 3 ((w.alloc (.cells #[.slice pk nk ck, .slice pa na ca, .slice pm nm cm, .int .i64 f3, .int .i64 now] 55)).alloc (.cells #[.int .i64 a0, .slice p1 n1 c1] 93)) _ [] (allK_nil _) (Nat.le_refl _) (by simp), hlb⟩
  rw [World.size_alloc, World.size_alloc] at hwy
  have HWY := Lib.hid hwy
  clear hwy
  obtain ⟨r0, r1⟩ := DpArchive.bxc (HX.out.below hlb)
  clear hlb
  go_enter Try.func37, Try.ntmps37
  go_wp2_with fail
  clear s0 s1 r0 r1
  generalize ((w.alloc (.cells #[.slice pk nk ck, .slice pa na ca, .slice pm nm cm, .int .i64 f3, .int .i64 now] 55)).alloc (.cells #[.int .i64 a0, .slice p1 n1 c1] 93)) = V at HBV HG HX HK HA HM H1 HWY ⊢
  go_loopw [5, 15] (fun v i wr => ∃ (k m c' : Nat) (p' : Option Addr), k ≤ n1 ∧ i = .int .i64 k ∧ v = .slice p' m c' ∧ m ≤ k ∧ Hid (Way (endI ks us ms) l1 k p' m c' V wr)) (fun _ i _ => n1 - (intOf i).toNat)
  case atStart => exact ⟨0, _, _, _, Nat.zero_le _, rfl, rfl, Nat.le_refl _, HWY⟩
  case round =>
    obtain ⟨k, m, c', p', hk, rfl, rfl, hmk, HQ⟩ := hrel
    by_cases hlt : k < n1
    · have HB := Lib.hid HQ.out.2
      obtain ⟨b, o, x_e, cs_e, rfl, _, hbwe, hxe, hce, hrde⟩ := H1.out.at_ hlt
      obtain ⟨xe0, xe1, ⟨xe2, le3, le4⟩, ⟨xe5, xe6, xe7, xe8, xe9, xe10, xe11, xe12, xe13⟩, ⟨le14, le15⟩⟩ := x_e
      obtain ⟨pe3, ne3, ce3, pe4, ne4, ce4, pe14, ne14, ce14, pe15, ne15, ce15, rfl, be0, be1, be2, he3, he4, be5, he14, he15⟩ := DpItem.ex hrde
      have hcce : ∀ jj v, [.int .i64 xe0, .int .i64 xe1, .int .i64 xe2, .slice pe3 ne3 ce3, .slice pe4 ne4 ce4, .int .i64 xe5, .int .i64 xe6, .int .i64 xe7, .int .i64 xe8, .int .i64 xe9, .int .i64 xe10, .int .i64 xe11, .int .i64 xe12, .int .i64 xe13, .slice pe14 ne14 ce14, .slice pe15 ne15 ce15][jj]? = some v → wr.cell? ⟨b, o + k * 16 + jj, none⟩ = some v := fun jj v hv => (HB.out.cell (p := ⟨b, o + k * 16 + jj, none⟩) hbwe).trans (hce jj v hv)
      have HXe := Lib.hid hxe
      have HCe := Lib.hid hcce
      have He3 := Lib.hid (he3.below HB.out)
      have hne3 := he3.le
      have He4 := Lib.hid (he4.below HB.out)
      have hne4 := he4.le
      have He14 := Lib.hid (he14.below HB.out)
      have hne14 := he14.le
      have He15 := Lib.hid (he15.below HB.out)
      have hne15 := he15.le
      have Gbe0 := Lib.hid be0
      have Gbe1 := Lib.hid be1
      have Gbe2 := Lib.hid be2
      have Gbe5 := Lib.hid be5
      obtain ⟨u0, u1, u2, u3, u4, u5, u6, u7, u8, u9, u10, u11, u12, u13, u14, u15⟩ := DpItem.at_cells hcce
      clear hcce hce hxe hrde be0 be1 be2 he3 he4 be5 he14 he15
      have HWC := Lib.hid (wt_chain HXe.out HWT.out)
      cases ne15 with
      | zero =>
        have HMN : Hid ((l1.take (k + 1)).map (endI ks us ms) = (l1.take k).map (endI ks us ms) ++ [0]) := Lib.hid (by rw [map_next HXe.out]; congr 2; exact end_nil He15.out.len)
        have HEI : Hid (InI 0) := Lib.hid ⟨by decide, by decide⟩
        have HZ := Lib.hid (Bx.new wr 80 #[.int .i64 xe0, .int .i64 xe1, .int .i64 xe2, .slice pe3 ne3 ce3, .slice pe4 ne4 ce4, .int .i64 xe5, .int .i64 xe6, .int .i64 xe7, .int .i64 xe8, .int .i64 xe9, .int .i64 xe10, .int .i64 xe11, .int .i64 xe12, .int .i64 xe13, .slice pe14 ne14 ce14, .slice pe15 0 ce15])
        have hbx := box1 wr (.cells #[.int .i64 xe0, .int .i64 xe1, .int .i64 xe2, .slice pe3 ne3 ce3, .slice pe4 ne4 ce4, .int .i64 xe5, .int .i64 xe6, .int .i64 xe7, .int .i64 xe8, .int .i64 xe9, .int .i64 xe10, .int .i64 xe11, .int .i64 xe12, .int .i64 xe13, .slice pe14 ne14 ce14, .slice pe15 0 ce15] 80)
        have HB2 := Lib.hid (below_on HB.out hbx)
        have HO2 := Lib.hid (HQ.out.1.below hbx)
        clear hbx
        go_upto_region 6 with (fail)
        generalize wr.alloc (.cells #[.int .i64 xe0, .int .i64 xe1, .int .i64 xe2, .slice pe3 ne3 ce3, .slice pe4 ne4 ce4, .int .i64 xe5, .int .i64 xe6, .int .i64 xe7, .int .i64 xe8, .int .i64 xe9, .int .i64 xe10, .int .i64 xe11, .int .i64 xe12, .int .i64 xe13, .slice pe14 ne14 ce14, .slice pe15 0 ce15] 80) = W2 at HZ HB2 HO2 ⊢
        clear u0 u1 u2 u3 u4 u5 u6 u7 u8 u9 u10 u11 u12 u13 u14 u15
        obtain ⟨z0, z1, z2, z3, z4, z5, z6, z7, z8, z9, z10, z11, z12, z13, z14, z15⟩ := DpItem.bxc HZ.out
        as_aux_lemma =>
          go_wp2_with fail
          refine (last_none _ _ _ _ _ _ _ _ _ _ _ _ _ _ _ _ _ _ _ _ _ _ _ W2).mono ?_
          rintro e w3 ⟨rfl, hb⟩
          clear HZ z0 z1 z2 z3 z4 z5 z6 z7 z8 z9 z10 z11 z12 z13 z14 z15
          have hbx := box1 w3 (.cells #[.int .i64 0, .int .i64 0, .int .i64 0, .slice none 0 0, .slice none 0 0] 43)
          have HB3 := Lib.hid (below_on (below_on HB2.out hb) hbx)
          have HO3 := Lib.hid ((HO2.out.below hb).below hbx)
          clear hb hbx
          go_upto_region 9 with (fail)
          generalize w3.alloc (.cells #[.int .i64 0, .int .i64 0, .int .i64 0, .slice none 0 0, .slice none 0 0] 43) = W4 at HB3 HO3 ⊢
          as_aux_lemma =>
            have HLit := Lib.hid (lit1 W4 (0) HEI.out)
            have hsz := HB3.out.size
            go_wp2_with (at_builtin; refine wpList_appR rfl (.tmp 28) (.tmp 30) 60 rfl i0 _ 8 Try.underlying60 hi hz0 hz1 hz2 rfl rfl (HO3.out.alloc _) _ _ _ _ rfl HLit.out (Nat.le_trans HB3.out.size (by simp)) (by omega) (by omega) ?_; intro p2 c2 w6 how2 hg2; rw [← HMN.out] at how2; have HK2 : Hid (Way (endI ks us ms) l1 (k + 1) p2 (m + 1) c2 V w6) := Lib.hid ⟨how2, (HB3.out.alloc HB3.out.size _).trans ((HO3.out.alloc _).below_row hg2 (Nat.le_trans HB3.out.size (by simp)))⟩; clear how2 hg2)
            go_roundw
            case rel => exact ⟨k + 1, _, _, _, by omega, by go_num, rfl, by omega, HK2⟩
            case measure => simp [intOf]; omega
      | succ j =>
        obtain ⟨bb, oo, y0, y1, y2, k3, q3, m3, d3, k4, q4, m4, d4, rfl, hbb, hx, hcc, hy1, h3, h4, hm4⟩ := getAt He15.out HWC.out
        have hj := He15.out.le
        obtain ⟨E, hE⟩ : ∃ z, firstM ks us (ends ms) y1 k4 = z := ⟨_, rfl⟩
        have HE := Lib.hid hE
        have HMN : Hid ((l1.take (k + 1)).map (endI ks us ms) = (l1.take k).map (endI ks us ms) ++ [E]) := Lib.hid (by rw [map_next HXe.out]; congr 2; rw [← hE]; exact end_at He15.out.len hx)
        have HEI : Hid (InI E) := Lib.hid (by rw [← hE]; exact end_in HM.out.allP _ _)
        clear hx hE
        have HZ := Lib.hid (Bx.new wr 80 #[.int .i64 xe0, .int .i64 xe1, .int .i64 xe2, .slice pe3 ne3 ce3, .slice pe4 ne4 ce4, .int .i64 xe5, .int .i64 xe6, .int .i64 xe7, .int .i64 xe8, .int .i64 xe9, .int .i64 xe10, .int .i64 xe11, .int .i64 xe12, .int .i64 xe13, .slice pe14 ne14 ce14, .slice (some ⟨bb, oo, none⟩) (j + 1) ce15])
        have hbx := box1 wr (.cells #[.int .i64 xe0, .int .i64 xe1, .int .i64 xe2, .slice pe3 ne3 ce3, .slice pe4 ne4 ce4, .int .i64 xe5, .int .i64 xe6, .int .i64 xe7, .int .i64 xe8, .int .i64 xe9, .int .i64 xe10, .int .i64 xe11, .int .i64 xe12, .int .i64 xe13, .slice pe14 ne14 ce14, .slice (some ⟨bb, oo, none⟩) (j + 1) ce15] 80)
        have HB2 := Lib.hid (below_on HB.out hbx)
        have HO2 := Lib.hid (HQ.out.1.below hbx)
        have HC2 : Hid (∀ t v, [.int .i64 y0, .int .i64 y1, .int .i64 y2, .slice q3 m3 d3, .slice q4 m4 d4][t]? = some v → (wr.alloc (.cells #[.int .i64 xe0, .int .i64 xe1, .int .i64 xe2, .slice pe3 ne3 ce3, .slice pe4 ne4 ce4, .int .i64 xe5, .int .i64 xe6, .int .i64 xe7, .int .i64 xe8, .int .i64 xe9, .int .i64 xe10, .int .i64 xe11, .int .i64 xe12, .int .i64 xe13, .slice pe14 ne14 ce14, .slice (some ⟨bb, oo, none⟩) (j + 1) ce15] 80)).cell? ⟨bb, oo + j * 5 + t, none⟩ = some v) := Lib.hid fun t v hv => (hbx.cell (p := ⟨bb, oo + j * 5 + t, none⟩) hbb).trans (hcc t v hv)
        have HBB : Hid (bb < (wr.alloc (.cells #[.int .i64 xe0, .int .i64 xe1, .int .i64 xe2, .slice pe3 ne3 ce3, .slice pe4 ne4 ce4, .int .i64 xe5, .int .i64 xe6, .int .i64 xe7, .int .i64 xe8, .int .i64 xe9, .int .i64 xe10, .int .i64 xe11, .int .i64 xe12, .int .i64 xe13, .slice pe14 ne14 ce14, .slice (some ⟨bb, oo, none⟩) (j + 1) ce15] 80)).heap.size) := Lib.hid (Nat.lt_of_lt_of_le hbb hbx.size)
        have HR3 := Lib.hid (h3.below hbx)
        have HR4 := Lib.hid (h4.below hbx)
        have HY1 := Lib.hid hy1
        clear hcc hbb h3 h4 hy1
        clear hbx
        go_upto_region 6 with (fail)
        generalize wr.alloc (.cells #[.int .i64 xe0, .int .i64 xe1, .int .i64 xe2, .slice pe3 ne3 ce3, .slice pe4 ne4 ce4, .int .i64 xe5, .int .i64 xe6, .int .i64 xe7, .int .i64 xe8, .int .i64 xe9, .int .i64 xe10, .int .i64 xe11, .int .i64 xe12, .int .i64 xe13, .slice pe14 ne14 ce14, .slice (some ⟨bb, oo, none⟩) (j + 1) ce15] 80) = W2 at HZ HB2 HO2 HC2 HBB HR3 HR4 ⊢
        clear u0 u1 u2 u3 u4 u5 u6 u7 u8 u9 u10 u11 u12 u13 u14 u15
        obtain ⟨z0, z1, z2, z3, z4, z5, z6, z7, z8, z9, z10, z11, z12, z13, z14, z15⟩ := DpItem.bxc HZ.out
        as_aux_lemma =>
          go_wp2_with fail
          refine (last_some _ _ _ _ _ _ _ _ _ _ _ _ _ _ _ _ _ _ _ _ _ bb oo j _ y0 y1 y2 q3 m3 d3 q4 m4 d4 W2 hj HBB.out HC2.out).mono ?_
          rintro e w3 ⟨rfl, hb⟩
          clear HZ z0 z1 z2 z3 z4 z5 z6 z7 z8 z9 z10 z11 z12 z13 z14 z15
          have HR := Lib.hid (Bx.new w3 43 #[.int .i64 y0, .int .i64 y1, .int .i64 y2, .slice q3 m3 d3, .slice q4 m4 d4])
          have hbx := box1 w3 (.cells #[.int .i64 y0, .int .i64 y1, .int .i64 y2, .slice q3 m3 d3, .slice q4 m4 d4] 43)
          have HB3 := Lib.hid (below_on (below_on HB2.out hb) hbx)
          have HO3 := Lib.hid ((HO2.out.below hb).below hbx)
          have HS3 := Lib.hid ((HR3.out.below hb).below hbx)
          have HS4 := Lib.hid ((HR4.out.below hb).below hbx)
          clear hb hbx
          go_upto_region 8 with (fail)
          generalize w3.alloc (.cells #[.int .i64 y0, .int .i64 y1, .int .i64 y2, .slice q3 m3 d3, .slice q4 m4 d4] 43) = W4 at HR HB3 HO3 HS3 HS4 ⊢
          obtain ⟨g0, g1, g2, g3, g4⟩ := DpFrame.bxc (HG.out.below HB3.out)
          obtain ⟨r0, r1, r2, r3, r4⟩ := DpRenewal.bxc HR.out
          as_aux_lemma =>
            go_wp2_with fail
            refine (Fm2E.ends_any ks _ _ _ us _ _ _ ms _ _ _ f3 now y0 y1 y2 k3 _ _ _ k4 _ _ _ HY1.out _ (HK.out.below HB3.out) (HA.out.below HB3.out) (HM.out.below HB3.out) HS3.out HS4.out hm4).mono ?_
            rintro e w5 ⟨rfl, hb⟩
            rw [HE.out]
            have HB5 := Lib.hid (below_on HB3.out hb)
            have HO5 := Lib.hid (HO3.out.below hb)
            clear hb g0 g1 g2 g3 g4 r0 r1 r2 r3 r4
            have HLit := Lib.hid (lit1 w5 (E) HEI.out)
            have hsz := HB5.out.size
            go_wp2_with (at_builtin; refine wpList_appR rfl (.tmp 28) (.tmp 30) 60 rfl i0 _ 8 Try.underlying60 hi hz0 hz1 hz2 rfl rfl (HO5.out.alloc _) _ _ _ _ rfl HLit.out (Nat.le_trans HB5.out.size (by simp)) (by omega) (by omega) ?_; intro p2 c2 w6 how2 hg2; rw [← HMN.out] at how2; have HK2 : Hid (Way (endI ks us ms) l1 (k + 1) p2 (m + 1) c2 V w6) := Lib.hid ⟨how2, (HB5.out.alloc HB5.out.size _).trans ((HO5.out.alloc _).below_row hg2 (Nat.le_trans HB5.out.size (by simp)))⟩; clear how2 hg2)
            go_roundw
            case rel => exact ⟨k + 1, _, _, _, by omega, by go_num, rfl, by omega, HK2⟩
            case measure => simp [intOf]; omega
    · obtain rfl : k = n1 := by omega
      have HV : Hid (((l1.take k).map (endI ks us ms)).foldl Ints.minI 10001 = dueT ks us ms l1) := Lib.hid (by rw [List.take_of_length_le (by rw [HL.out]; exact Nat.le_refl _)]; rfl)
      go_wp2_with fail
      refine (least_any 10001 _ _ _ _ _ HQ.out.1.rd).mono ?_
      rintro e w6 ⟨rfl, hb⟩
      rw [HV.out]
      have HB6 := Lib.hid (below_on HQ.out.2 hb)
      clear hb
      go_wp2_with fail
      go_ret
      exact Dz.val_of rfl (below_on HBV.out HB6.out)
end Go.Proofs.Ytmfnpgeifkcjkaa.Ne
