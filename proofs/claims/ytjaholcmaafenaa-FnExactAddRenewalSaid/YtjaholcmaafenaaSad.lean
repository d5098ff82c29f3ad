/- A piece or a renewal added to a strand, in the reference. -/
import Derived.Test.YtjaholcmaafenaaAdd
import Derived.Test.YtjaholcmaafenaaScA
import Derived.Test.YtjaholcmaafenaaIs2
import Derived.Deep.RegionLaw
import Derived.LoopTactic
import Derived.Outline
import Derived.Deep.RegionHeld3
import Derived.OpenShut
import Derived.KernelRfl
namespace Go.Proofs.Ytjaholcmaafenaa.Sad
open Go.ChangeShapes Go.WideShapes Go.ChangeAt Go.RowKit Sl St Ed Ek Lf Gr Is1 Adp
set_option maxRecDepth 100000 in
set_option maxHeartbeats 8000000 in
theorem addPiece_any (l0 : List DpPiece.A) (p0 : Option Addr) (n0 c0 : Nat) (l1 : List DpRenewal.A) (p1 : Option Addr) (n1 c1 : Nat) (xy0 : Int) (ly1 : List Int) (py1 : Option Addr) (ny1 cy1 : Nat) (xy2 : Int) {S0 S1 Sy1 : Nat → Prop} (b : Bool) (r0 : List DpPiece.A) (r1 : List DpRenewal.A) (w : World) (h0 : RdD DpPiece.E S0 w p0 n0 l0) (h1 : RdD DpRenewal.E S1 w p1 n1 l1) (by0 : InI xy0) (hy1 : RdD int Sy1 w py1 ny1 ly1) (by2 : InI xy2) (hw : DpStrand.E.wt (l0, l1) + DpPiece.E.wt (xy0, ly1, xy2) ≤ 1048576) (hr : addP l0 l1 (xy0, ly1, xy2) = ((r0, r1), b)) : Calls Try.prog 51 #[.agg #[.slice p0 n0 c0, .slice p1 n1 c1], .agg #[.int .i64 xy0, .slice py1 ny1 cy1, .int .i64 xy2]] w fun e w' => ∃ (a0 : Option Addr) (x0 d0 : Nat) (a1 : Option Addr) (x1 d1 : Nat), e = .returned (.tuple #[.agg #[.slice a0 x0 d0, .slice a1 x1 d1], .bool b]) ∧ RdD DpPiece.E (fun b => w.heap.size ≤ b) w' a0 x0 r0 ∧ RdD DpRenewal.E (fun b => w.heap.size ≤ b) w' a1 x1 r1 ∧ Below w.heap.size w w' := by
  obtain ⟨i0, hi, hz0, hz1, hz2⟩ := info_parts DpPiece.info
  obtain ⟨hS, hI⟩ := addP_is hr h0.len h1.len
  have hn : n0 ≤ 2000000 := by have h2 := h0.len; rw [DpStrand.wt_eq] at hw; omega
  have hW2 : DpStrand.E.wt (l0, l1) ≤ 2000000 := by omega
  have zy1 : ny1 ≤ 2000000 := by have h2 := hy1.len; rw [DpPiece.wt_eq] at hw; omega
  have H0 := Lib.hid h0
  have H1 := Lib.hid h1
  have HIS := Lib.hid hS
  have HIF := Lib.hid hI
  have HW2 := Lib.hid hW2
  have Gby0 := Lib.hid by0
  have Ghy1 := Lib.hid hy1
  have Gby2 := Lib.hid by2
  clear h0 h1 hS hI hW2 hw hr by0 hy1 by2
  obtain ⟨V, hV⟩ : ∃ z, (((w.alloc (.cells #[.slice p0 n0 c0, .slice p1 n1 c1] 36)).alloc (.cells #[.int .i64 xy0, .slice py1 ny1 cy1, .int .i64 xy2] 97)).alloc (.cells #[.slice none 0 0, .slice none 0 0] 36)) = z := ⟨_, rfl⟩
  have HX : Hid (Bx V w.heap.size 36 #[.slice p0 n0 c0, .slice p1 n1 c1]) := Lib.hid (by rw [← hV]; exact ((Bx.new w 36 #[.slice p0 n0 c0, .slice p1 n1 c1]).alloc _).alloc _)
  have HY : Hid (Bx V (w.heap.size + 1) 97 #[.int .i64 xy0, .slice py1 ny1 cy1, .int .i64 xy2]) := Lib.hid (by have h := (Bx.new (w.alloc (.cells #[.slice p0 n0 c0, .slice p1 n1 c1] 36)) 97 #[.int .i64 xy0, .slice py1 ny1 cy1, .int .i64 xy2]).alloc (.cells #[.slice none 0 0, .slice none 0 0] 36); rw [World.size_alloc, hV] at h; exact h)
  have HR : Hid (Bx V (w.heap.size + 1 + 1) 36 #[.slice none 0 0, .slice none 0 0]) := Lib.hid (by have h := Bx.new ((w.alloc (.cells #[.slice p0 n0 c0, .slice p1 n1 c1] 36)).alloc (.cells #[.int .i64 xy0, .slice py1 ny1 cy1, .int .i64 xy2] 97)) 36 #[.slice none 0 0, .slice none 0 0]; rw [World.size_alloc, World.size_alloc, hV] at h; exact h)
  have HB : Hid (Below w.heap.size w V) := Lib.hid (by rw [← hV]; exact (((Below.refl w.heap.size w).alloc (Nat.le_refl _) _).alloc (by simp) _).alloc (by simp; omega) _)
  have HSZ : Hid (V.heap.size = w.heap.size + 3) := Lib.hid (by rw [← hV]; simp)
  obtain ⟨u0, u1⟩ := DpStrand.bxc HX.out
  go_enter Try.func51, Try.ntmps51
  go_wp2_with fail
  clear hV
  refine (Sc3.copy_any l0 _ _ _ l1 _ _ _ _ (H0.out.below HB.out) (H1.out.below HB.out) HW2.out).mono ?_
  rintro e w1 ⟨q0, d0, q1, d1, mid, rfl, hg0, hg1, hm0, hm1, hb⟩
  have HS2 : Hid (w.heap.size + 3 ≤ mid ∧ mid ≤ w1.heap.size) := Lib.hid ⟨by have h := HSZ.out; omega, hm1⟩
  have HX2 : Hid (Bx (w1.alloc (.cells #[.slice q0 n0 d0, .slice q1 n1 d1] 36)) w.heap.size 36 #[.slice p0 n0 c0, .slice p1 n1 c1]) := Lib.hid ((HX.out.below hb).alloc _)
  have HY2 : Hid (Bx (w1.alloc (.cells #[.slice q0 n0 d0, .slice q1 n1 d1] 36)) (w.heap.size + 1) 97 #[.int .i64 xy0, .slice py1 ny1 cy1, .int .i64 xy2]) := Lib.hid ((HY.out.below hb).alloc _)
  have HR2 : Hid (Bx (w1.alloc (.cells #[.slice q0 n0 d0, .slice q1 n1 d1] 36)) (w.heap.size + 1 + 1) 36 #[.slice none 0 0, .slice none 0 0]) := Lib.hid ((HR.out.below hb).alloc _)
  have HB2 : Hid (Below w.heap.size w (w1.alloc (.cells #[.slice q0 n0 d0, .slice q1 n1 d1] 36))) := Lib.hid ((below_on HB.out hb).alloc (below_on HB.out hb).size _)
  have HO2 : Hid (Bx (w1.alloc (.cells #[.slice q0 n0 d0, .slice q1 n1 d1] 36)) w1.heap.size 36 #[.slice q0 n0 d0, .slice q1 n1 d1]) := Lib.hid (Bx.new w1 36 _)
  have HGp2 : Hid (Gd DpPiece.E 97 (w.heap.size + 3) mid q0 n0 d0 l0 (w1.alloc (.cells #[.slice q0 n0 d0, .slice q1 n1 d1] 36))) := Lib.hid ((hg0.wide (by have h := HSZ.out; omega) (Nat.le_refl _) hm1).alloc _)
  have HGr2 : Hid (Gd DpRenewal.E 110 mid w1.heap.size q1 n1 d1 l1 (w1.alloc (.cells #[.slice q0 n0 d0, .slice q1 n1 d1] 36))) := Lib.hid (hg1.alloc _)
  clear u0 u1 hg0 hg1 hm0 hm1 hb
  go_wp2_with fail
  generalize (w1.alloc (.cells #[.slice q0 n0 d0, .slice q1 n1 d1] 36)) = V2 at HX2 HY2 HR2 HB2 HO2 HGp2 HGr2 ⊢
  generalize w1.heap.size = g at HO2 HGr2 HS2 ⊢
  have o_ := HO2.out.cell (j := 0) rfl
  obtain ⟨y0_, y1_, y2_⟩ := DpPiece.bxc HY2.out
  have HBd : Hid (Below w.heap.size w V2.drew) := Lib.hid (below_drewN HB2.out 1)
  go_region_law (first
    | (go_simp; go_at_call 104; refine (Sc1.copy_any xy0 ly1 _ _ _ xy2 _ (Ghy1.out.below HBd.out) zy1).mono ?_; rintro e w2 ⟨qy1, dy1, rfl, ho1, hk1, hb⟩; have hb1 : Below V2.heap.size V2 w2 := (below_drewN (Below.refl _ _) 1).trans hb; have hb2 := hb1.trans ((Dz.box1 w2 (.cells #[.int .i64 xy0, .slice qy1 ny1 dy1, .int .i64 xy2] 97)).mono hb1.size); have hcx : DpPiece.E.rd (fun b => V2.heap.size ≤ b) (w2.alloc (.cells #[.int .i64 xy0, .slice qy1 ny1 dy1, .int .i64 xy2] 97)) [.int .i64 xy0, .slice qy1 ny1 dy1, .int .i64 xy2] (xy0, ly1, xy2) := DpPiece.mk Gby0.out (ho1.alloc _) Gby2.out hk1; obtain ⟨cx, hcxe, hcx2⟩ : ∃ cx : Raw DpPiece.E.C, cx.1 = [.int .i64 xy0, .slice qy1 ny1 dy1, .int .i64 xy2] ∧ DpPiece.E.rd (fun b => V2.heap.size ≤ b) (w2.alloc (.cells #[.int .i64 xy0, .slice qy1 ny1 dy1, .int .i64 xy2] 97)) cx.1 (xy0, ly1, xy2) := ⟨⟨[.int .i64 xy0, .slice qy1 ny1 dy1, .int .i64 xy2], DpPiece.E.len hcx, DpPiece.E.one hcx⟩, rfl, hcx⟩; obtain ⟨clr, hcl, hnext⟩ := HGp2.out.nextR hb2 hcx2; have HCL := Lib.hid hcl; have HNX := Lib.hid hnext; have HBB := Lib.hid (below_on HB2.out hb2); have HXX := Lib.hid (HX2.out.below hb2); have HRR := Lib.hid (HR2.out.below hb2); have HOO := Lib.hid (HO2.out.below hb2); have HGG := Lib.hid (HGr2.out.below hb2); have HLit : Hid (RdS (raw DpPiece.E) (w2.alloc (.cells #[.int .i64 xy0, .slice qy1 ny1 dy1, .int .i64 xy2] 97)) (some ⟨w2.heap.size, 0, none⟩) 1 [cx]) := Lib.hid (lit_own (raw DpPiece.E) 97 w2 w2.heap.size [cx] #[.int .i64 xy0, .slice qy1 ny1 dy1, .int .i64 xy2] 1 (by rw [fl_one]; exact hcxe.symm) rfl (by unfold maxLen; omega) (Nat.le_refl _)).rd; have o2_ := (HO2.out.below hb1).cell (j := 0) rfl; have o3_ := HOO.out.cell (j := 0) rfl; clear hcl hnext hcx hcx2 hcxe ho1 hk1 hb hb1 hb2)
    | (refine step_lieS (E := raw DpPiece.E) rfl (.tmp 10) (.tmp 13) 33 rfl i0 _ 40 Try.underlying33 hi hz0 hz1 hz2 rfl rfl HCL.out ⟨w2.heap.size, 0, none⟩ _ cx rfl HLit.out (by have h1 := HOO.out.lt; have h2 := HS2.out; omega) (by omega) (by omega) ?_; intro g9 c9 w9 how9 hg9 hat9; have hfr : ∀ g', (Value.slice q0 n0 d0).ownBlock = some g' → w.heap.size + 3 ≤ g' ∧ g' < g := fun g' e => (by have h := HCL.out.far g' e; have h2 := HS2.out; omega); have HG9 := Lib.hid (HNX.out g9 c9 w9 how9 hg9 hat9); have HO9 := Lib.hid (HOO.out.grown hg9 (fun e => by have h := hfr _ e.symm; omega)); have HX9 := Lib.hid (HXX.out.grown hg9 (fun e => by have h := hfr _ e.symm; omega)); have HR9 := Lib.hid (HRR.out.grown hg9 (fun e => by have h := hfr _ e.symm; omega)); have HGo9 := Lib.hid (HGG.out.kept hg9 (fun g' e => by have h := HCL.out.far g' e; have h2 := HS2.out; omega)); have HB9 := Lib.hid (HBB.out.grown hg9 HBB.out.size (fun g' e => by have h := hfr g' e; omega)); have o9_ := HO9.out.cell (j := 0) rfl; have f9_ := HO9.out.free 0; clear how9 hg9 hat9 hfr))
  all_goals
    have ho10 := HO9.out.set_ 0 (.slice (some ⟨g9, 0, none⟩) (n0 + 1) c9)
    simp only [List.setIfInBounds_toArray, List.set_cons_zero] at ho10
    have HO10 := Lib.hid ho10
    have hW := HS2.out
    have HX10 := Lib.hid (HX9.out.far (q := ⟨g, 0, none⟩) (by show w.heap.size ≠ g; omega) (.slice (some ⟨g9, 0, none⟩) (n0 + 1) c9))
    have HR10 := Lib.hid (HR9.out.far (q := ⟨g, 0, none⟩) (by show w.heap.size + 1 + 1 ≠ g; omega) (.slice (some ⟨g9, 0, none⟩) (n0 + 1) c9))
    have HB10 := Lib.hid (HB9.out.setCell (p := ⟨g, 0, none⟩) (by show w.heap.size ≤ g; omega) (.slice (some ⟨g9, 0, none⟩) (n0 + 1) c9))
    have hgl : g < V2.heap.size := HO2.out.lt
    have HRow := Lib.hid ((HG9.out.far (q := ⟨g, 0, none⟩) (by show ¬ ((_ ≤ g ∧ g < _) ∨ V2.heap.size ≤ g); omega) (.slice (some ⟨g9, 0, none⟩) (n0 + 1) c9)).mono (S' := fun b => w.heap.size + 3 ≤ b) fun b hb => by omega)
    have HOth := Lib.hid (((HGo9.out.far (q := ⟨g, 0, none⟩) (Or.inr (by show _ ≤ g; omega)) (.slice (some ⟨g9, 0, none⟩) (n0 + 1) c9)).rd).mono (S' := fun b => w.heap.size + 3 ≤ b) fun b hb => by omega)
    have hs3 : w.heap.size + 3 ≤ (w9.setCell ⟨g, 0, none⟩ (.slice (some ⟨g9, 0, none⟩) (n0 + 1) c9)).heap.size := by have h := HR10.out.lt; have h2 := HO10.out.lt; omega
    clear ho10
    obtain ⟨e0, e1⟩ := DpStrand.bxc HO10.out
    go_wp2_with fail
    generalize (w9.setCell ⟨g, 0, none⟩ (.slice (some ⟨g9, 0, none⟩) (n0 + 1) c9)) = w10 at HO10 HX10 HR10 HB10 HRow HOth hs3 e0 e1 ⊢
    refine (Is2.spec_strand_any (l0 ++ [(xy0, ly1, xy2)]) _ _ _ l1 _ _ _ _ HRow.out HOth.out).mono ?_
    rintro e w3 ⟨rfl, hb⟩
    rw [HIS.out]
    have HX3 := Lib.hid (HX10.out.below hb)
    have HO3 := Lib.hid (HO10.out.below hb)
    have HR3 := Lib.hid (HR10.out.below hb)
    have HB3 := Lib.hid (below_on HB10.out hb)
    have HRow3 := Lib.hid (HRow.out.below hb)
    have HOth3 := Lib.hid (HOth.out.below hb)
    have hs4 : w.heap.size + 3 ≤ w3.heap.size := Nat.le_trans hs3 hb.size
    clear e0 e1 hb
    obtain ⟨u0, u1⟩ := DpStrand.bxc HX3.out
    obtain ⟨v0, v1⟩ := DpStrand.bxc HO3.out
    obtain ⟨t0, t1⟩ := DpStrand.bxc HR3.out
    have s0 := HR3.out.free 0
    have s1 := HR3.out.free 1
    cases b
    · obtain ⟨rfl, rfl⟩ := Prod.mk.inj HIF.out
      go_wp2_with fail
      refine (Sc3.copy_any l0 _ _ _ l1 _ _ _ _ (H0.out.below HB3.out) (H1.out.below HB3.out) HW2.out).mono ?_
      rintro e w4 ⟨a0, f0, a1, f1, mid2, rfl, hg0, hg1, hm0, hm1, hb⟩
      have HA0 := Lib.hid (hg0.rd.mono (S' := fun b => w.heap.size + 3 ≤ b) fun b hb => by omega)
      have HA1 := Lib.hid (hg1.rd.mono (S' := fun b => w.heap.size + 3 ≤ b) fun b hb => by omega)
      have HR4 := Lib.hid (HR3.out.below hb)
      have HB4 := Lib.hid (below_on HB3.out hb)
      clear u0 u1 v0 v1 t0 t1 s0 s1 hg0 hg1 hb
      obtain ⟨t0, t1⟩ := DpStrand.bxc HR4.out
      have s0 := HR4.out.free 0
      have s1 := HR4.out.free 1
      go_wp2_with fail
      exact bodyPost_ret (v := .tuple #[.agg #[.slice a0 n0 f0, .slice a1 n1 f1], .bool false]) (by simp [results, Try.results51, go_sem, t0, t1]) rfl ⟨a0, n0, f0, a1, n1, f1, rfl, ((HA0.out.far (q := ⟨w.heap.size + 1 + 1, 0, none⟩) (by show ¬ w.heap.size + 3 ≤ w.heap.size + 1 + 1; omega) (.slice a0 n0 f0)).far (q := ⟨w.heap.size + 1 + 1, 1, none⟩) (by show ¬ w.heap.size + 3 ≤ w.heap.size + 1 + 1; omega) (.slice a1 n1 f1)).mono fun b hb => by omega, ((HA1.out.far (q := ⟨w.heap.size + 1 + 1, 0, none⟩) (by show ¬ w.heap.size + 3 ≤ w.heap.size + 1 + 1; omega) (.slice a0 n0 f0)).far (q := ⟨w.heap.size + 1 + 1, 1, none⟩) (by show ¬ w.heap.size + 3 ≤ w.heap.size + 1 + 1; omega) (.slice a1 n1 f1)).mono fun b hb => by omega, ((HB4.out.setCell (p := ⟨w.heap.size + 1 + 1, 0, none⟩) (by show w.heap.size ≤ w.heap.size + 1 + 1; omega) (.slice a0 n0 f0)).setCell (p := ⟨w.heap.size + 1 + 1, 1, none⟩) (by show w.heap.size ≤ w.heap.size + 1 + 1; omega) (.slice a1 n1 f1))⟩
    · obtain ⟨rfl, rfl⟩ := Prod.mk.inj HIF.out
      go_wp2_with fail
      exact bodyPost_ret (v := .tuple #[.agg #[.slice (some ⟨g9, 0, none⟩) (n0 + 1) c9, .slice q1 n1 d1], .bool true]) (by simp [results, Try.results51, go_sem, t0, t1]) rfl ⟨_, _, _, _, _, _, rfl, ((HRow3.out.far (q := ⟨w.heap.size + 1 + 1, 0, none⟩) (by show ¬ w.heap.size + 3 ≤ w.heap.size + 1 + 1; omega) (.slice (some ⟨g9, 0, none⟩) (n0 + 1) c9)).far (q := ⟨w.heap.size + 1 + 1, 1, none⟩) (by show ¬ w.heap.size + 3 ≤ w.heap.size + 1 + 1; omega) (.slice q1 n1 d1)).mono fun b hb => by omega, ((HOth3.out.far (q := ⟨w.heap.size + 1 + 1, 0, none⟩) (by show ¬ w.heap.size + 3 ≤ w.heap.size + 1 + 1; omega) (.slice (some ⟨g9, 0, none⟩) (n0 + 1) c9)).far (q := ⟨w.heap.size + 1 + 1, 1, none⟩) (by show ¬ w.heap.size + 3 ≤ w.heap.size + 1 + 1; omega) (.slice q1 n1 d1)).mono fun b hb => by omega, ((HB3.out.setCell (p := ⟨w.heap.size + 1 + 1, 0, none⟩) (by show w.heap.size ≤ w.heap.size + 1 + 1; omega) (.slice (some ⟨g9, 0, none⟩) (n0 + 1) c9)).setCell (p := ⟨w.heap.size + 1 + 1, 1, none⟩) (by show w.heap.size ≤ w.heap.size + 1 + 1; omega) (.slice q1 n1 d1))⟩
set_option maxRecDepth 100000 in
set_option maxHeartbeats 8000000 in
theorem addRenewal_any (l0 : List DpPiece.A) (p0 : Option Addr) (n0 c0 : Nat) (l1 : List DpRenewal.A) (p1 : Option Addr) (n1 c1 : Nat) (xy0 : Int) (xy1 : Int) (xy2 : Int) (ly3 : List (Int × Bool)) (py3 : Option Addr) (ny3 cy3 : Nat) (ly4 : List (Int × Int × Int × Int × Int)) (py4 : Option Addr) (ny4 cy4 : Nat) {S0 S1 Sy3 Sy4 : Nat → Prop} (b : Bool) (r0 : List DpPiece.A) (r1 : List DpRenewal.A) (w : World) (h0 : RdD DpPiece.E S0 w p0 n0 l0) (h1 : RdD DpRenewal.E S1 w p1 n1 l1) (by0 : InI xy0) (by1 : InI xy1) (by2 : InI xy2) (hy3 : RdD (flat SlStep.E SlStep.InR) Sy3 w py3 ny3 ly3) (hy4 : RdD (flat SlStamp.E SlStamp.InR) Sy4 w py4 ny4 ly4) (hw : DpStrand.E.wt (l0, l1) + DpRenewal.E.wt (xy0, xy1, xy2, ly3, ly4) ≤ 1048576) (hr : addR l0 l1 (xy0, xy1, xy2, ly3, ly4) = ((r0, r1), b)) : Calls Try.prog 58 #[.agg #[.slice p0 n0 c0, .slice p1 n1 c1], .agg #[.int .i64 xy0, .int .i64 xy1, .int .i64 xy2, .slice py3 ny3 cy3, .slice py4 ny4 cy4]] w fun e w' => ∃ (a0 : Option Addr) (x0 d0 : Nat) (a1 : Option Addr) (x1 d1 : Nat), e = .returned (.tuple #[.agg #[.slice a0 x0 d0, .slice a1 x1 d1], .bool b]) ∧ RdD DpPiece.E (fun b => w.heap.size ≤ b) w' a0 x0 r0 ∧ RdD DpRenewal.E (fun b => w.heap.size ≤ b) w' a1 x1 r1 ∧ Below w.heap.size w w' := by
  obtain ⟨i0, hi, hz0, hz1, hz2⟩ := info_parts DpRenewal.info
  obtain ⟨hS, hI⟩ := addR_is hr h0.len h1.len
  have hn : n1 ≤ 2000000 := by have h2 := h1.len; rw [DpStrand.wt_eq] at hw; omega
  have hW2 : DpStrand.E.wt (l0, l1) ≤ 2000000 := by omega
  have zy3 : ny3 ≤ 2000000 := by have h2 := hy3.len; rw [DpRenewal.wt_eq] at hw; omega
  have zy4 : ny4 ≤ 2000000 := by have h2 := hy4.len; rw [DpRenewal.wt_eq] at hw; omega
  have H0 := Lib.hid h0
  have H1 := Lib.hid h1
  have HIS := Lib.hid hS
  have HIF := Lib.hid hI
  have HW2 := Lib.hid hW2
  have Gby0 := Lib.hid by0
  have Gby1 := Lib.hid by1
  have Gby2 := Lib.hid by2
  have Ghy3 := Lib.hid hy3
  have Ghy4 := Lib.hid hy4
  clear h0 h1 hS hI hW2 hw hr by0 by1 by2 hy3 hy4
  obtain ⟨V, hV⟩ : ∃ z, (((w.alloc (.cells #[.slice p0 n0 c0, .slice p1 n1 c1] 36)).alloc (.cells #[.int .i64 xy0, .int .i64 xy1, .int .i64 xy2, .slice py3 ny3 cy3, .slice py4 ny4 cy4] 110)).alloc (.cells #[.slice none 0 0, .slice none 0 0] 36)) = z := ⟨_, rfl⟩
  have HX : Hid (Bx V w.heap.size 36 #[.slice p0 n0 c0, .slice p1 n1 c1]) := Lib.hid (by rw [← hV]; exact ((Bx.new w 36 #[.slice p0 n0 c0, .slice p1 n1 c1]).alloc _).alloc _)
  have HY : Hid (Bx V (w.heap.size + 1) 110 #[.int .i64 xy0, .int .i64 xy1, .int .i64 xy2, .slice py3 ny3 cy3, .slice py4 ny4 cy4]) := Lib.hid (by have h := (Bx.new (w.alloc (.cells #[.slice p0 n0 c0, .slice p1 n1 c1] 36)) 110 #[.int .i64 xy0, .int .i64 xy1, .int .i64 xy2, .slice py3 ny3 cy3, .slice py4 ny4 cy4]).alloc (.cells #[.slice none 0 0, .slice none 0 0] 36); rw [World.size_alloc, hV] at h; exact h)
  have HR : Hid (Bx V (w.heap.size + 1 + 1) 36 #[.slice none 0 0, .slice none 0 0]) := Lib.hid (by have h := Bx.new ((w.alloc (.cells #[.slice p0 n0 c0, .slice p1 n1 c1] 36)).alloc (.cells #[.int .i64 xy0, .int .i64 xy1, .int .i64 xy2, .slice py3 ny3 cy3, .slice py4 ny4 cy4] 110)) 36 #[.slice none 0 0, .slice none 0 0]; rw [World.size_alloc, World.size_alloc, hV] at h; exact h)
  have HB : Hid (Below w.heap.size w V) := Lib.hid (by rw [← hV]; exact (((Below.refl w.heap.size w).alloc (Nat.le_refl _) _).alloc (by simp) _).alloc (by simp; omega) _)
  have HSZ : Hid (V.heap.size = w.heap.size + 3) := Lib.hid (by rw [← hV]; simp)
  obtain ⟨u0, u1⟩ := DpStrand.bxc HX.out
  go_enter Try.func58, Try.ntmps58
  go_wp2_with fail
  clear hV
  refine (Sc3.copy_any l0 _ _ _ l1 _ _ _ _ (H0.out.below HB.out) (H1.out.below HB.out) HW2.out).mono ?_
  rintro e w1 ⟨q0, d0, q1, d1, mid, rfl, hg0, hg1, hm0, hm1, hb⟩
  have HS2 : Hid (w.heap.size + 3 ≤ mid ∧ mid ≤ w1.heap.size) := Lib.hid ⟨by have h := HSZ.out; omega, hm1⟩
  have HX2 : Hid (Bx (w1.alloc (.cells #[.slice q0 n0 d0, .slice q1 n1 d1] 36)) w.heap.size 36 #[.slice p0 n0 c0, .slice p1 n1 c1]) := Lib.hid ((HX.out.below hb).alloc _)
  have HY2 : Hid (Bx (w1.alloc (.cells #[.slice q0 n0 d0, .slice q1 n1 d1] 36)) (w.heap.size + 1) 110 #[.int .i64 xy0, .int .i64 xy1, .int .i64 xy2, .slice py3 ny3 cy3, .slice py4 ny4 cy4]) := Lib.hid ((HY.out.below hb).alloc _)
  have HR2 : Hid (Bx (w1.alloc (.cells #[.slice q0 n0 d0, .slice q1 n1 d1] 36)) (w.heap.size + 1 + 1) 36 #[.slice none 0 0, .slice none 0 0]) := Lib.hid ((HR.out.below hb).alloc _)
  have HB2 : Hid (Below w.heap.size w (w1.alloc (.cells #[.slice q0 n0 d0, .slice q1 n1 d1] 36))) := Lib.hid ((below_on HB.out hb).alloc (below_on HB.out hb).size _)
  have HO2 : Hid (Bx (w1.alloc (.cells #[.slice q0 n0 d0, .slice q1 n1 d1] 36)) w1.heap.size 36 #[.slice q0 n0 d0, .slice q1 n1 d1]) := Lib.hid (Bx.new w1 36 _)
  have HGp2 : Hid (Gd DpPiece.E 97 (w.heap.size + 3) mid q0 n0 d0 l0 (w1.alloc (.cells #[.slice q0 n0 d0, .slice q1 n1 d1] 36))) := Lib.hid ((hg0.wide (by have h := HSZ.out; omega) (Nat.le_refl _) hm1).alloc _)
  have HGr2 : Hid (Gd DpRenewal.E 110 mid w1.heap.size q1 n1 d1 l1 (w1.alloc (.cells #[.slice q0 n0 d0, .slice q1 n1 d1] 36))) := Lib.hid (hg1.alloc _)
  clear u0 u1 hg0 hg1 hm0 hm1 hb
  go_wp2_with fail
  generalize (w1.alloc (.cells #[.slice q0 n0 d0, .slice q1 n1 d1] 36)) = V2 at HX2 HY2 HR2 HB2 HO2 HGp2 HGr2 ⊢
  generalize w1.heap.size = g at HO2 HGr2 HS2 ⊢
  have o_ := HO2.out.cell (j := 1) rfl
  obtain ⟨y0_, y1_, y2_, y3_, y4_⟩ := DpRenewal.bxc HY2.out
  have HBd : Hid (Below w.heap.size w V2.drew) := Lib.hid (below_drewN HB2.out 1)
  go_region_law (first
    | (go_simp; go_at_call 112; refine (Sc2.copy_any xy0 xy1 xy2 ly3 _ _ _ ly4 _ _ _ _ (Ghy3.out.below HBd.out) (Ghy4.out.below HBd.out) zy3 zy4).mono ?_; rintro e w2 ⟨qy3, dy3, qy4, dy4, rfl, ho3, ho4, hk3, hk4, hb⟩; have hb1 : Below V2.heap.size V2 w2 := (below_drewN (Below.refl _ _) 1).trans hb; have hb2 := hb1.trans ((Dz.box1 w2 (.cells #[.int .i64 xy0, .int .i64 xy1, .int .i64 xy2, .slice qy3 ny3 dy3, .slice qy4 ny4 dy4] 110)).mono hb1.size); have hcx : DpRenewal.E.rd (fun b => V2.heap.size ≤ b) (w2.alloc (.cells #[.int .i64 xy0, .int .i64 xy1, .int .i64 xy2, .slice qy3 ny3 dy3, .slice qy4 ny4 dy4] 110)) [.int .i64 xy0, .int .i64 xy1, .int .i64 xy2, .slice qy3 ny3 dy3, .slice qy4 ny4 dy4] (xy0, xy1, xy2, ly3, ly4) := DpRenewal.mk Gby0.out Gby1.out Gby2.out (ho3.alloc _) (ho4.alloc _) hk3 hk4; obtain ⟨cx, hcxe, hcx2⟩ : ∃ cx : Raw DpRenewal.E.C, cx.1 = [.int .i64 xy0, .int .i64 xy1, .int .i64 xy2, .slice qy3 ny3 dy3, .slice qy4 ny4 dy4] ∧ DpRenewal.E.rd (fun b => V2.heap.size ≤ b) (w2.alloc (.cells #[.int .i64 xy0, .int .i64 xy1, .int .i64 xy2, .slice qy3 ny3 dy3, .slice qy4 ny4 dy4] 110)) cx.1 (xy0, xy1, xy2, ly3, ly4) := ⟨⟨[.int .i64 xy0, .int .i64 xy1, .int .i64 xy2, .slice qy3 ny3 dy3, .slice qy4 ny4 dy4], DpRenewal.E.len hcx, DpRenewal.E.one hcx⟩, rfl, hcx⟩; obtain ⟨clr, hcl, hnext⟩ := HGr2.out.nextR hb2 hcx2; have HCL := Lib.hid hcl; have HNX := Lib.hid hnext; have HBB := Lib.hid (below_on HB2.out hb2); have HXX := Lib.hid (HX2.out.below hb2); have HRR := Lib.hid (HR2.out.below hb2); have HOO := Lib.hid (HO2.out.below hb2); have HGG := Lib.hid (HGp2.out.below hb2); have HLit : Hid (RdS (raw DpRenewal.E) (w2.alloc (.cells #[.int .i64 xy0, .int .i64 xy1, .int .i64 xy2, .slice qy3 ny3 dy3, .slice qy4 ny4 dy4] 110)) (some ⟨w2.heap.size, 0, none⟩) 1 [cx]) := Lib.hid (lit_own (raw DpRenewal.E) 110 w2 w2.heap.size [cx] #[.int .i64 xy0, .int .i64 xy1, .int .i64 xy2, .slice qy3 ny3 dy3, .slice qy4 ny4 dy4] 1 (by rw [fl_one]; exact hcxe.symm) rfl (by unfold maxLen; omega) (Nat.le_refl _)).rd; have o2_ := (HO2.out.below hb1).cell (j := 1) rfl; have o3_ := HOO.out.cell (j := 1) rfl; clear hcl hnext hcx hcx2 hcxe ho3 ho4 hk3 hk4 hb hb1 hb2)
    | (refine step_lieS (E := raw DpRenewal.E) rfl (.tmp 10) (.tmp 13) 34 rfl i0 _ 72 Try.underlying34 hi hz0 hz1 hz2 rfl rfl HCL.out ⟨w2.heap.size, 0, none⟩ _ cx rfl HLit.out (by have h1 := HOO.out.lt; have h2 := HS2.out; omega) (by omega) (by omega) ?_; intro g9 c9 w9 how9 hg9 hat9; have hfr : ∀ g', (Value.slice q1 n1 d1).ownBlock = some g' → w.heap.size + 3 ≤ g' ∧ g' < g := fun g' e => (by have h := HCL.out.far g' e; have h2 := HS2.out; omega); have HG9 := Lib.hid (HNX.out g9 c9 w9 how9 hg9 hat9); have HO9 := Lib.hid (HOO.out.grown hg9 (fun e => by have h := hfr _ e.symm; omega)); have HX9 := Lib.hid (HXX.out.grown hg9 (fun e => by have h := hfr _ e.symm; omega)); have HR9 := Lib.hid (HRR.out.grown hg9 (fun e => by have h := hfr _ e.symm; omega)); have HGo9 := Lib.hid (HGG.out.kept hg9 (fun g' e => by have h := HCL.out.far g' e; have h2 := HS2.out; omega)); have HB9 := Lib.hid (HBB.out.grown hg9 HBB.out.size (fun g' e => by have h := hfr g' e; omega)); have o9_ := HO9.out.cell (j := 1) rfl; have f9_ := HO9.out.free 1; clear how9 hg9 hat9 hfr))
  all_goals
    have ho10 := HO9.out.set_ 1 (.slice (some ⟨g9, 0, none⟩) (n1 + 1) c9)
    simp only [List.setIfInBounds_toArray, List.set_cons_succ, List.set_cons_zero] at ho10
    have HO10 := Lib.hid ho10
    have hW := HS2.out
    have HX10 := Lib.hid (HX9.out.far (q := ⟨g, 1, none⟩) (by show w.heap.size ≠ g; omega) (.slice (some ⟨g9, 0, none⟩) (n1 + 1) c9))
    have HR10 := Lib.hid (HR9.out.far (q := ⟨g, 1, none⟩) (by show w.heap.size + 1 + 1 ≠ g; omega) (.slice (some ⟨g9, 0, none⟩) (n1 + 1) c9))
    have HB10 := Lib.hid (HB9.out.setCell (p := ⟨g, 1, none⟩) (by show w.heap.size ≤ g; omega) (.slice (some ⟨g9, 0, none⟩) (n1 + 1) c9))
    have hgl : g < V2.heap.size := HO2.out.lt
    have HRow := Lib.hid ((HG9.out.far (q := ⟨g, 1, none⟩) (by show ¬ ((_ ≤ g ∧ g < _) ∨ V2.heap.size ≤ g); omega) (.slice (some ⟨g9, 0, none⟩) (n1 + 1) c9)).mono (S' := fun b => w.heap.size + 3 ≤ b) fun b hb => by omega)
    have HOth := Lib.hid (((HGo9.out.far (q := ⟨g, 1, none⟩) (Or.inr (by show _ ≤ g; omega)) (.slice (some ⟨g9, 0, none⟩) (n1 + 1) c9)).rd).mono (S' := fun b => w.heap.size + 3 ≤ b) fun b hb => by omega)
    have hs3 : w.heap.size + 3 ≤ (w9.setCell ⟨g, 1, none⟩ (.slice (some ⟨g9, 0, none⟩) (n1 + 1) c9)).heap.size := by have h := HR10.out.lt; have h2 := HO10.out.lt; omega
    clear ho10
    obtain ⟨e0, e1⟩ := DpStrand.bxc HO10.out
    go_wp2_with fail
    generalize (w9.setCell ⟨g, 1, none⟩ (.slice (some ⟨g9, 0, none⟩) (n1 + 1) c9)) = w10 at HO10 HX10 HR10 HB10 HRow HOth hs3 e0 e1 ⊢
    refine (Is2.spec_strand_any l0 _ _ _ (l1 ++ [(xy0, xy1, xy2, ly3, ly4)]) _ _ _ _ HOth.out HRow.out).mono ?_
    rintro e w3 ⟨rfl, hb⟩
    rw [HIS.out]
    have HX3 := Lib.hid (HX10.out.below hb)
    have HO3 := Lib.hid (HO10.out.below hb)
    have HR3 := Lib.hid (HR10.out.below hb)
    have HB3 := Lib.hid (below_on HB10.out hb)
    have HRow3 := Lib.hid (HRow.out.below hb)
    have HOth3 := Lib.hid (HOth.out.below hb)
    have hs4 : w.heap.size + 3 ≤ w3.heap.size := Nat.le_trans hs3 hb.size
    clear e0 e1 hb
    obtain ⟨u0, u1⟩ := DpStrand.bxc HX3.out
    obtain ⟨v0, v1⟩ := DpStrand.bxc HO3.out
    obtain ⟨t0, t1⟩ := DpStrand.bxc HR3.out
    have s0 := HR3.out.free 0
    have s1 := HR3.out.free 1
    cases b
    · obtain ⟨rfl, rfl⟩ := Prod.mk.inj HIF.out
      go_wp2_with fail
      refine (Sc3.copy_any l0 _ _ _ l1 _ _ _ _ (H0.out.below HB3.out) (H1.out.below HB3.out) HW2.out).mono ?_
      rintro e w4 ⟨a0, f0, a1, f1, mid2, rfl, hg0, hg1, hm0, hm1, hb⟩
      have HA0 := Lib.hid (hg0.rd.mono (S' := fun b => w.heap.size + 3 ≤ b) fun b hb => by omega)
      have HA1 := Lib.hid (hg1.rd.mono (S' := fun b => w.heap.size + 3 ≤ b) fun b hb => by omega)
      have HR4 := Lib.hid (HR3.out.below hb)
      have HB4 := Lib.hid (below_on HB3.out hb)
      clear u0 u1 v0 v1 t0 t1 s0 s1 hg0 hg1 hb
      obtain ⟨t0, t1⟩ := DpStrand.bxc HR4.out
      have s0 := HR4.out.free 0
      have s1 := HR4.out.free 1
      go_wp2_with fail
      exact bodyPost_ret (v := .tuple #[.agg #[.slice a0 n0 f0, .slice a1 n1 f1], .bool false]) (by simp [results, Try.results58, go_sem, t0, t1]) rfl ⟨a0, n0, f0, a1, n1, f1, rfl, ((HA0.out.far (q := ⟨w.heap.size + 1 + 1, 0, none⟩) (by show ¬ w.heap.size + 3 ≤ w.heap.size + 1 + 1; omega) (.slice a0 n0 f0)).far (q := ⟨w.heap.size + 1 + 1, 1, none⟩) (by show ¬ w.heap.size + 3 ≤ w.heap.size + 1 + 1; omega) (.slice a1 n1 f1)).mono fun b hb => by omega, ((HA1.out.far (q := ⟨w.heap.size + 1 + 1, 0, none⟩) (by show ¬ w.heap.size + 3 ≤ w.heap.size + 1 + 1; omega) (.slice a0 n0 f0)).far (q := ⟨w.heap.size + 1 + 1, 1, none⟩) (by show ¬ w.heap.size + 3 ≤ w.heap.size + 1 + 1; omega) (.slice a1 n1 f1)).mono fun b hb => by omega, ((HB4.out.setCell (p := ⟨w.heap.size + 1 + 1, 0, none⟩) (by show w.heap.size ≤ w.heap.size + 1 + 1; omega) (.slice a0 n0 f0)).setCell (p := ⟨w.heap.size + 1 + 1, 1, none⟩) (by show w.heap.size ≤ w.heap.size + 1 + 1; omega) (.slice a1 n1 f1))⟩
    · obtain ⟨rfl, rfl⟩ := Prod.mk.inj HIF.out
      go_wp2_with fail
      exact bodyPost_ret (v := .tuple #[.agg #[.slice q0 n0 d0, .slice (some ⟨g9, 0, none⟩) (n1 + 1) c9], .bool true]) (by simp [results, Try.results58, go_sem, t0, t1]) rfl ⟨_, _, _, _, _, _, rfl, ((HOth3.out.far (q := ⟨w.heap.size + 1 + 1, 0, none⟩) (by show ¬ w.heap.size + 3 ≤ w.heap.size + 1 + 1; omega) (.slice q0 n0 d0)).far (q := ⟨w.heap.size + 1 + 1, 1, none⟩) (by show ¬ w.heap.size + 3 ≤ w.heap.size + 1 + 1; omega) (.slice (some ⟨g9, 0, none⟩) (n1 + 1) c9)).mono fun b hb => by omega, ((HRow3.out.far (q := ⟨w.heap.size + 1 + 1, 0, none⟩) (by show ¬ w.heap.size + 3 ≤ w.heap.size + 1 + 1; omega) (.slice q0 n0 d0)).far (q := ⟨w.heap.size + 1 + 1, 1, none⟩) (by show ¬ w.heap.size + 3 ≤ w.heap.size + 1 + 1; omega) (.slice (some ⟨g9, 0, none⟩) (n1 + 1) c9)).mono fun b hb => by omega, ((HB3.out.setCell (p := ⟨w.heap.size + 1 + 1, 0, none⟩) (by show w.heap.size ≤ w.heap.size + 1 + 1; omega) (.slice q0 n0 d0)).setCell (p := ⟨w.heap.size + 1 + 1, 1, none⟩) (by show w.heap.size ≤ w.heap.size + 1 + 1; omega) (.slice (some ⟨g9, 0, none⟩) (n1 + 1) c9))⟩
end Go.Proofs.Ytjaholcmaafenaa.Sad
