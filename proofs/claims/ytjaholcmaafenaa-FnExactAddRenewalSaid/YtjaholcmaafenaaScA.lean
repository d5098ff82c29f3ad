/- The reference's copies of pieces. The reference's copies of renewals. The reference's copies of strands. -/
import Derived.Test.YtjaholcmaafenaaGr
import Derived.Test.YtjaholcmaafenaaDpPiece
import Derived.Test.YtjaholcmaafenaaSr
import Derived.LoopTactic
import Derived.Outline
import Derived.Deep.RegionHeld3
import Derived.OpenShut
import Derived.KernelRfl
import Derived.Test.YtjaholcmaafenaaDpRenewal
import Derived.Test.YtjaholcmaafenaaDpStrand
import Derived.Deep.RegionLaw
namespace Go.Proofs.Ytjaholcmaafenaa.Sc1
open Go.ChangeShapes Go.WideShapes Go.ChangeAt Go.RowKit Sl St Ed Ek Lf Gr
set_option maxRecDepth 100000 in
set_option maxHeartbeats 4000000 in
theorem copy_any (x0 : Int) (l1 : List Int) (p1 : Option Addr) (n1 c1 : Nat) (x2 : Int) {S : Nat → Prop} (w : World) (h1 : RdD int S w p1 n1 l1) (hn : n1 ≤ 2000000) : Calls Try.prog 104 #[.agg #[.int .i64 x0, .slice p1 n1 c1, .int .i64 x2]] w fun e w' => ∃ (q1 : Option Addr) (d1 : Nat), e = .returned (.agg #[.int .i64 x0, .slice q1 n1 d1, .int .i64 x2]) ∧ RdD int (fun b => w.heap.size ≤ b) w' q1 n1 l1 ∧ n1 ≤ d1 ∧ Below w.heap.size w w' := by
  obtain ⟨i0, hi, hz0, hz1, hz2⟩ := info_parts SlI.info
  have HP := Lib.hid h1.ints
  clear h1
  have b0 := (Bx.new w 97 #[.int .i64 x0, .slice p1 n1 c1, .int .i64 x2]).alloc (.cells #[.int .i64 0, .slice none 0 0, .int .i64 0] 97)
  have b1 := Bx.new (w.alloc (.cells #[.int .i64 x0, .slice p1 n1 c1, .int .i64 x2] 97)) 97 #[.int .i64 0, .slice none 0 0, .int .i64 0]
  rw [World.size_alloc] at b1
  have HX := Lib.hid b0
  have HR := Lib.hid b1
  have HB : Hid (Below w.heap.size w ((w.alloc (.cells #[.int .i64 x0, .slice p1 n1 c1, .int .i64 x2] 97)).alloc (.cells #[.int .i64 0, .slice none 0 0, .int .i64 0] 97))) := Lib.hid (((Below.refl w.heap.size w).alloc (Nat.le_refl _) _).alloc (by simp) _)
  have HSZ : Hid (((w.alloc (.cells #[.int .i64 x0, .slice p1 n1 c1, .int .i64 x2] 97)).alloc (.cells #[.int .i64 0, .slice none 0 0, .int .i64 0] 97)).heap.size = w.heap.size + 2) := Lib.hid (by simp)
  clear b0 b1
  go_enter Try.func104, Try.ntmps104
  go_wp2_with fail
  generalize ((w.alloc (.cells #[.int .i64 x0, .slice p1 n1 c1, .int .i64 x2] 97)).alloc (.cells #[.int .i64 0, .slice none 0 0, .int .i64 0] 97)) = V at HX HR HB HSZ ⊢
  have HO : Hid (Ow .i64 3 (V.alloc (.cells #[] 3)).drew V.heap.size (V.alloc (.cells #[] 3)).drew.heap.size (some ⟨V.heap.size, 0, none⟩) 0 0 []) := Lib.hid ((litN_own 3 V V.heap.size [] (allK_nil _) (Nat.le_refl _) (by simp)).drewN 1)
  have HBE : Hid (Below V.heap.size V (V.alloc (.cells #[] 3)).drew) := Lib.hid (below_drewN (Dz.box1 V _) 1)
  have HPE := Lib.hid ((HP.out.below HB.out).below HBE.out)
  have HX0 := Lib.hid HX.out.drew1
  have HXE := Lib.hid (HX.out.below HBE.out)
  have HRE := Lib.hid (HR.out.below HBE.out)
  obtain ⟨a0, a1, a2⟩ := DpPiece.bxc HX.out
  go_region_held3 (fun w' => w'.cell? ⟨w.heap.size, 0, none⟩ = some (.int .i64 x0) ∧ w'.cell? ⟨w.heap.size, 1, none⟩ = some (.slice p1 n1 c1) ∧ w'.cell? ⟨w.heap.size, 2, none⟩ = some (.int .i64 x2)) (first | with_reducible exact DpPiece.bxc HX0.out | with_reducible exact DpPiece.bxc HXE.out | with_reducible exact DpPiece.bxc HX1.out | go_keep) (first
    | (refine step_appR (by rfl) (.tmp 5) (.tmp 7) 27 (by rfl) i0 _ 8 Try.underlying27 hi hz0 hz1 hz2 (by rfl) (by rfl) HO.out _ _ _ _ (by rfl) HPE.out (by have h := HBE.out.size; exact h) (by omega) (by omega) ?_; intro q1 d1 w1 how1 hg1; rw [Nat.zero_add, List.nil_append] at how1; have HO1 := Lib.hid how1; have hv : Below V.heap.size V w1 := HBE.out.trans (HO.out.below_row hg1 HBE.out.size); have HX1 := Lib.hid (HX.out.below hv); have HR1 := Lib.hid (HR.out.below hv); have HB1 := Lib.hid (below_on HB.out hv); clear how1 hg1 hv; have s0 := HR1.out.free 0; have s1 := HR1.out.free 1; have s2 := HR1.out.free 2; obtain ⟨r0, r1, r2⟩ := DpPiece.bxc HR1.out)
    | fail)
  all_goals
    have hV := HSZ.out
    have HF := Lib.hid (RdD.ofOw HO1.out)
    go_wp2_with fail
    exact bodyPost_ret (v := .agg #[.int .i64 x0, .slice q1 n1 d1, .int .i64 x2]) (by simp [results, Try.results104, go_sem, r0, r1, r2]) rfl ⟨q1, d1, rfl, (((HF.out.far (q := ⟨w.heap.size + 1, 0, none⟩) (by show ¬ V.heap.size ≤ w.heap.size + 1; omega) (.int .i64 x0)).far (q := ⟨w.heap.size + 1, 1, none⟩) (by show ¬ V.heap.size ≤ w.heap.size + 1; omega) (.slice q1 n1 d1)).far (q := ⟨w.heap.size + 1, 2, none⟩) (by show ¬ V.heap.size ≤ w.heap.size + 1; omega) (.int .i64 x2)).mono fun b hb => by omega, cap_ow HO1.out, ((HB1.out.setCell (p := ⟨w.heap.size + 1, 0, none⟩) (by show w.heap.size ≤ w.heap.size + 1; omega) (.int .i64 x0)).setCell (p := ⟨w.heap.size + 1, 1, none⟩) (by show w.heap.size ≤ w.heap.size + 1; omega) (.slice q1 n1 d1)).setCell (p := ⟨w.heap.size + 1, 2, none⟩) (by show w.heap.size ≤ w.heap.size + 1; omega) (.int .i64 x2)⟩
set_option maxRecDepth 100000 in
set_option maxHeartbeats 8000000 in
theorem all_any (p : Option Addr) (n c : Nat) (xs : List DpPiece.A) {S : Nat → Prop} (w : World) (hr : RdD DpPiece.E S w p n xs) (hm : n + wts DpPiece.E xs ≤ 2000000) : Calls Try.prog 124 #[.slice p n c] w fun e w' => ∃ (q : Option Addr) (d : Nat), e = .returned (.slice q n d) ∧ Gd DpPiece.E 97 w.heap.size w'.heap.size q n d xs w' ∧ Below w.heap.size w w' := by
  obtain ⟨i0, hi, hz0, hz1, hz2⟩ := info_parts DpPiece.info
  have HR := Lib.hid hr
  have HL := Lib.hid hr.len
  have HMM := Lib.hid hm
  have hn : n ≤ 2000000 := by omega
  have HG0 : Hid (Gd DpPiece.E 97 w.heap.size (w.alloc (.cells #[] 97)).heap.size (some ⟨w.heap.size, 0, none⟩) 0 0 (xs.take 0) (w.alloc (.cells #[] 97))) := Lib.hid ((Gd.start DpPiece.E 97 w).wide (Nat.le_refl _) (by simp) (Nat.le_refl _))
  have HB0 := Lib.hid (Dz.box1 w (.cells #[] 97))
  clear hr hm
  go_enter Try.func124, Try.ntmps124
  go_wp2_with fail
  generalize w.alloc (.cells #[] 97) = V at HG0 HB0 ⊢
  go_loopw [3, 4] (fun v i wr => ∃ (k d : Nat) (q : Option Addr), k ≤ n ∧ i = .int .i64 k ∧ v = .slice q k d ∧ Hid (Gd DpPiece.E 97 w.heap.size wr.heap.size q k d (xs.take k) wr) ∧ Hid (Below w.heap.size w wr)) (fun _ i _ => n - (intOf i).toNat)
  case atStart => exact ⟨0, 0, _, Nat.zero_le _, rfl, rfl, HG0, HB0⟩
  case round =>
    obtain ⟨k, d, q, hk, rfl, rfl, HG, HB⟩ := hrel
    by_cases hlt : k < n
    · obtain ⟨b, o, x_, cs_, rfl, _, hbw, hx, hc, hrd⟩ := HR.out.at_ hlt
      have HW : Hid (DpPiece.E.wt x_ ≤ 2000000) := Lib.hid (by have h1 := wts_at (E := DpPiece.E) hx; have h2 := HMM.out; omega)
      have HTK : Hid (xs.take (k + 1) = xs.take k ++ [x_]) := Lib.hid (by rw [List.take_add_one, hx]; rfl)
      obtain ⟨x0, l1, x2⟩ := x_
      obtain ⟨p1, n1, c1, rfl, b0, h1, b2⟩ := DpPiece.ex hrd
      have hcc : ∀ jj v, [.int .i64 x0, .slice p1 n1 c1, .int .i64 x2][jj]? = some v → wr.cell? ⟨b, o + k * 3 + jj, none⟩ = some v := fun jj v hv => (HB.out.cell (p := ⟨b, o + k * 3 + jj, none⟩) hbw).trans (hc jj v hv)
      have z1 : n1 ≤ 2000000 := by have h := HW.out; have h2 := h1.len; rw [DpPiece.wt_eq] at h; omega
      have H1 := Lib.hid h1
      have Gb0 := Lib.hid b0
      have Gb2 := Lib.hid b2
      obtain ⟨u0, u1, u2⟩ := DpPiece.at_cells hcc
      have i1 : (0 : Int) ≤ (k : Int) := by omega
      have i2 : (k : Int) < (n : Int) := by omega
      clear hcc hc hx hrd b0 h1 b2
      go_wp2_with fail
      refine (copy_any x0 l1 _ _ _ x2 _ (H1.out.below HB.out) z1).mono ?_
      rintro e w1 ⟨q1, d1, rfl, ho, hk1, hb⟩
      let cx : Raw DpPiece.E.C := ⟨[.int .i64 x0, .slice q1 n1 d1, .int .i64 x2], rfl, by intro u hu; simp only [List.mem_cons, List.not_mem_nil, or_false] at hu; rcases hu with rfl | rfl | rfl <;> rfl⟩
      have hb2 := hb.trans ((Dz.box1 w1 (.cells #[.int .i64 x0, .slice q1 n1 d1, .int .i64 x2] 97)).mono hb.size)
      have hcx : DpPiece.E.rd (fun b => wr.heap.size ≤ b) (w1.alloc (.cells #[.int .i64 x0, .slice q1 n1 d1, .int .i64 x2] 97)) cx.1 (x0, l1, x2) := DpPiece.mk Gb0.out (ho.alloc _) Gb2.out hk1
      obtain ⟨cl, hcl, hnext⟩ := HG.out.next HB.out.size hb2 hcx
      have HCL := Lib.hid hcl
      have HNX := Lib.hid hnext
      have HBB := Lib.hid (below_on HB.out hb2)
      have HLit : Hid (RdS (raw DpPiece.E) (w1.alloc (.cells #[.int .i64 x0, .slice q1 n1 d1, .int .i64 x2] 97)) (some ⟨w1.heap.size, 0, none⟩) 1 [cx]) := Lib.hid (lit_own (raw DpPiece.E) 97 w1 w1.heap.size [cx] #[.int .i64 x0, .slice q1 n1 d1, .int .i64 x2] 1 (by rw [fl_one]; rfl) rfl (by unfold maxLen; omega) (Nat.le_refl _)).rd
      clear hcl hnext hcx ho hk1 hb hb2 u0 u1 u2
      go_wp2_with (at_builtin; refine wpList_lieS (E := raw DpPiece.E) rfl (.tmp 12) (.tmp 18) 33 rfl i0 _ 40 Try.underlying33 hi hz0 hz1 hz2 rfl rfl HCL.out ⟨w1.heap.size, 0, none⟩ _ cx rfl HLit.out HBB.out.size (by omega) (by omega) ?_; intro g9 c9 w9 how9 hg9 hat9; have HG9 := Lib.hid (HNX.out g9 c9 w9 how9 hg9 hat9); rw [← HTK.out] at HG9; have HB9 := Lib.hid (HBB.out.grown hg9 HBB.out.size (fun g e => (HCL.out.far g e).1)); clear how9 hg9 hat9)
      go_roundw
      case rel => exact ⟨k + 1, c9, some ⟨g9, 0, none⟩, by omega, by go_num, rfl, HG9, HB9⟩
      case measure => simp [intOf]; omega
    · obtain rfl : k = n := by omega
      have HE := HG.out
      rw [List.take_of_length_le (by rw [HL.out]; exact Nat.le_refl _)] at HE
      replace HE := Lib.hid HE
      go_wp2_with fail
      go_ret
      exact ⟨q, d, rfl, HE.out, HB.out⟩
end Go.Proofs.Ytjaholcmaafenaa.Sc1

namespace Go.Proofs.Ytjaholcmaafenaa.Sc2
open Go.ChangeShapes Go.WideShapes Go.ChangeAt Go.RowKit Sl St Ed Ek Lf Gr
set_option maxRecDepth 100000 in
set_option maxHeartbeats 8000000 in
theorem copy_any (x0 x1 x2 : Int) (l3 : List (Int × Bool)) (p3 : Option Addr) (n3 c3 : Nat) (l4 : List (Int × Int × Int × Int × Int)) (p4 : Option Addr) (n4 c4 : Nat) {S3 S4 : Nat → Prop} (w : World) (h3 : RdD (flat SlStep.E SlStep.InR) S3 w p3 n3 l3) (h4 : RdD (flat SlStamp.E SlStamp.InR) S4 w p4 n4 l4) (z3 : n3 ≤ 2000000) (z4 : n4 ≤ 2000000) : Calls Try.prog 112 #[.agg #[.int .i64 x0, .int .i64 x1, .int .i64 x2, .slice p3 n3 c3, .slice p4 n4 c4]] w fun e w' => ∃ (q3 : Option Addr) (d3 : Nat) (q4 : Option Addr) (d4 : Nat), e = .returned (.agg #[.int .i64 x0, .int .i64 x1, .int .i64 x2, .slice q3 n3 d3, .slice q4 n4 d4]) ∧ RdD (flat SlStep.E SlStep.InR) (fun b => w.heap.size ≤ b) w' q3 n3 l3 ∧ RdD (flat SlStamp.E SlStamp.InR) (fun b => w.heap.size ≤ b) w' q4 n4 l4 ∧ n3 ≤ d3 ∧ n4 ≤ d4 ∧ Below w.heap.size w w' := by
  obtain ⟨i3, hi3, ha0, ha1, ha2⟩ := info_parts SlStep.info
  obtain ⟨i4, hi4, hb0, hb1, hb2⟩ := info_parts SlStamp.info
  have HP3 := Lib.hid h3
  have HP4 := Lib.hid h4
  clear h3 h4
  obtain ⟨V, hV⟩ : ∃ z, ((w.alloc (.cells #[.int .i64 x0, .int .i64 x1, .int .i64 x2, .slice p3 n3 c3, .slice p4 n4 c4] 110)).alloc (.cells #[.int .i64 0, .int .i64 0, .int .i64 0, .slice none 0 0, .slice none 0 0] 110)) = z := ⟨_, rfl⟩
  have HX : Hid (Bx V w.heap.size 110 #[.int .i64 x0, .int .i64 x1, .int .i64 x2, .slice p3 n3 c3, .slice p4 n4 c4]) := Lib.hid (by rw [← hV]; exact (Bx.new w 110 #[.int .i64 x0, .int .i64 x1, .int .i64 x2, .slice p3 n3 c3, .slice p4 n4 c4]).alloc _)
  have HR : Hid (Bx V (w.heap.size + 1) 110 #[.int .i64 0, .int .i64 0, .int .i64 0, .slice none 0 0, .slice none 0 0]) := Lib.hid (by have h := Bx.new (w.alloc (.cells #[.int .i64 x0, .int .i64 x1, .int .i64 x2, .slice p3 n3 c3, .slice p4 n4 c4] 110)) 110 #[.int .i64 0, .int .i64 0, .int .i64 0, .slice none 0 0, .slice none 0 0]; rw [World.size_alloc, hV] at h; exact h)
  have HB : Hid (Below w.heap.size w V) := Lib.hid (by rw [← hV]; exact ((Below.refl w.heap.size w).alloc (Nat.le_refl _) _).alloc (by simp) _)
  have HSZ : Hid (V.heap.size = w.heap.size + 2) := Lib.hid (by rw [← hV]; simp)
  have HE3 : Hid (OwS SlStep.E 181 (V.alloc (.cells #[] 181)) V.heap.size (V.alloc (.cells #[] 181)).heap.size (some ⟨V.heap.size, 0, none⟩) 0 0 []) := Lib.hid (lit_own SlStep.E 181 V V.heap.size [] #[] 0 rfl rfl (Nat.zero_le _) (Nat.le_refl _))
  have HS3 := Lib.hid (((HP3.out.below HB.out).alloc (.cells #[] 181)).rdS)
  obtain ⟨a0, a1, a2, a3, a4⟩ := DpRenewal.bxc (HX.out.alloc (.cells #[] 181))
  go_enter Try.func112, Try.ntmps112
  go_wp2_with (at_builtin; first
    | (refine wpList_appS rfl (.tmp 3) (.tmp 5) 108 rfl i3 _ 16 Try.underlying108 hi3 ha0 ha1 ha2 rfl rfl HE3.out _ _ _ _ rfl HS3.out (by simp) (by omega) (by omega) ?_; intro q3 d3 w1 how1 hg1; rw [Nat.zero_add, List.nil_append] at how1; have HO3 := Lib.hid how1; have HX1 := Lib.hid ((HX.out.alloc (.cells #[] 181)).grown hg1 (fun e => by have h1 := HE3.out.far _ e.symm; have h2 := HSZ.out; omega)); have HR1 := Lib.hid ((HR.out.alloc (.cells #[] 181)).grown hg1 (fun e => by have h1 := HE3.out.far _ e.symm; have h2 := HSZ.out; omega)); have HB1 := Lib.hid (HB.out.trans (((Dz.box1 V (.cells #[] 181)).trans (HE3.out.below_row hg1 (by simp))).mono HB.out.size)); have HV1 : Hid (V.heap.size + 1 ≤ w1.heap.size) := Lib.hid (by have h := hg1.size; rw [World.size_alloc] at h; exact h); clear how1 hg1; obtain ⟨y0, y1, y2, y3, y4⟩ := DpRenewal.bxc HX1.out; have t3 := HX1.out.free 3; have HX1s := Lib.hid (HX1.out.set_ 3 (.slice q3 n3 d3)); have HB1s := Lib.hid (HB1.out.setCell (p := ⟨w.heap.size, 3, none⟩) (Nat.le_refl _) (.slice q3 n3 d3)); have hW_ : (w1.setCell ⟨w.heap.size, 3, none⟩ (.slice q3 n3 d3)).heap.size = w1.heap.size := (by simp [World.setCell]); have he4 := lit_own SlStamp.E 148 (w1.setCell ⟨w.heap.size, 3, none⟩ (.slice q3 n3 d3)) (w1.setCell ⟨w.heap.size, 3, none⟩ (.slice q3 n3 d3)).heap.size [] #[] 0 rfl rfl (Nat.zero_le _) (Nat.le_refl _); rw [hW_] at he4; have HE4 := Lib.hid he4; clear he4 hW_; have HS4 := Lib.hid (((HP4.out.below HB1s.out).alloc (.cells #[] 148)).rdS); have y4b := (HX1s.out.alloc (.cells #[] 148)).cell (j := 4) rfl)
    | (refine wpList_appS rfl (.tmp 8) (.tmp 10) 74 rfl i4 _ 40 Try.underlying74 hi4 hb0 hb1 hb2 rfl rfl HE4.out _ _ _ _ rfl HS4.out (by simp [World.setCell]) (by omega) (by omega) ?_; intro q4 d4 w2 how2 hg2; rw [Nat.zero_add, List.nil_append] at how2; have HO4 := Lib.hid how2; have HG2 := Lib.hid hg2; clear how2 hg2; have HF : ∀ b, b < w1.heap.size → some b ≠ (Value.slice (some ⟨w1.heap.size, 0, none⟩) 0 0).ownBlock := (fun b hlt e => by simp only [Value.ownBlock, Option.some.injEq] at e; omega); have hx2 := (HX1s.out.alloc (.cells #[] 148)).grown HG2.out (HF _ HX1.out.lt); simp only [List.setIfInBounds_toArray, List.set_cons_succ, List.set_cons_zero] at hx2; have HX2 := Lib.hid hx2; have HR2 := Lib.hid (((HR1.out.far (q := ⟨w.heap.size, 3, none⟩) (by show w.heap.size + 1 ≠ w.heap.size; omega) (.slice q3 n3 d3)).alloc (.cells #[] 148)).grown HG2.out (HF _ HR1.out.lt)); clear hx2; obtain ⟨v0, v1, v2, v3, v4⟩ := DpRenewal.bxc HX2.out; obtain ⟨r0, r1, r2, r3, r4⟩ := DpRenewal.bxc HR2.out; have s0 := HR2.out.free 0; have s1 := HR2.out.free 1; have s2 := HR2.out.free 2; have s3 := HR2.out.free 3; have s4 := HR2.out.free 4; have t4 := HX2.out.free 4; clear HF))
  have hVV := HSZ.out
  have hV1 := HV1.out
  have hW : (w1.setCell ⟨w.heap.size, 3, none⟩ (.slice q3 n3 d3)).heap.size = w1.heap.size := by simp [World.setCell]
  have HB2 : Hid (Below w.heap.size w w2) := Lib.hid (HB1s.out.trans (((Dz.box1 (w1.setCell ⟨w.heap.size, 3, none⟩ (.slice q3 n3 d3)) (.cells #[] 148)).trans (by rw [hW]; exact HE4.out.below_row HG2.out (by simp [World.setCell]))).mono HB1s.out.size))
  have k3 : RdD (flat SlStep.E SlStep.InR) (fun b => V.heap.size ≤ b ∧ b < w1.heap.size) w1 q3 n3 l3 := (RdD.ofOwS HO3.out HP3.out.allP).keep (Nat.le_refl _) fun b hb hlt => ⟨⟨hb, hlt⟩, rfl⟩
  have HQ3 : Hid (RdD (flat SlStep.E SlStep.InR) (fun b => V.heap.size ≤ b ∧ b < w1.heap.size) w2 q3 n3 l3) := Lib.hid (((k3.far (q := ⟨w.heap.size, 3, none⟩) (by show ¬ (V.heap.size ≤ w.heap.size ∧ w.heap.size < w1.heap.size); omega) (.slice q3 n3 d3)).alloc (.cells #[] 148)).grown HG2.out fun b hb _ e => by simp only [Value.ownBlock, Option.some.injEq] at e; omega)
  have HQ4 : Hid (RdD (flat SlStamp.E SlStamp.InR) (fun b => w1.heap.size ≤ b) w2 q4 n4 l4) := Lib.hid ((RdD.ofOwS HO4.out HP4.out.allP).mono fun b hb => by omega)
  have HK3 := Lib.hid (cap_owS HO3.out)
  have HK4 := Lib.hid (cap_owS HO4.out)
  clear k3
  go_wp2_with fail
  exact bodyPost_ret (v := .agg #[.int .i64 x0, .int .i64 x1, .int .i64 x2, .slice q3 n3 d3, .slice q4 n4 d4]) (by simp [results, Try.results112, go_sem, r0, r1, r2, r3, r4]) rfl ⟨q3, d3, q4, d4, rfl, ((((((HQ3.out.far (q := ⟨w.heap.size, 4, none⟩) (by show ¬ (V.heap.size ≤ w.heap.size ∧ w.heap.size < w1.heap.size); omega) (.slice q4 n4 d4)).far (q := ⟨w.heap.size + 1, 0, none⟩) (by show ¬ (V.heap.size ≤ w.heap.size + 1 ∧ w.heap.size + 1 < w1.heap.size); omega) (.int .i64 x0)).far (q := ⟨w.heap.size + 1, 1, none⟩) (by show ¬ (V.heap.size ≤ w.heap.size + 1 ∧ w.heap.size + 1 < w1.heap.size); omega) (.int .i64 x1)).far (q := ⟨w.heap.size + 1, 2, none⟩) (by show ¬ (V.heap.size ≤ w.heap.size + 1 ∧ w.heap.size + 1 < w1.heap.size); omega) (.int .i64 x2)).far (q := ⟨w.heap.size + 1, 3, none⟩) (by show ¬ (V.heap.size ≤ w.heap.size + 1 ∧ w.heap.size + 1 < w1.heap.size); omega) (.slice q3 n3 d3)).far (q := ⟨w.heap.size + 1, 4, none⟩) (by show ¬ (V.heap.size ≤ w.heap.size + 1 ∧ w.heap.size + 1 < w1.heap.size); omega) (.slice q4 n4 d4)).mono fun b hb => by omega, ((((((HQ4.out.far (q := ⟨w.heap.size, 4, none⟩) (by show ¬ w1.heap.size ≤ w.heap.size; omega) (.slice q4 n4 d4)).far (q := ⟨w.heap.size + 1, 0, none⟩) (by show ¬ w1.heap.size ≤ w.heap.size + 1; omega) (.int .i64 x0)).far (q := ⟨w.heap.size + 1, 1, none⟩) (by show ¬ w1.heap.size ≤ w.heap.size + 1; omega) (.int .i64 x1)).far (q := ⟨w.heap.size + 1, 2, none⟩) (by show ¬ w1.heap.size ≤ w.heap.size + 1; omega) (.int .i64 x2)).far (q := ⟨w.heap.size + 1, 3, none⟩) (by show ¬ w1.heap.size ≤ w.heap.size + 1; omega) (.slice q3 n3 d3)).far (q := ⟨w.heap.size + 1, 4, none⟩) (by show ¬ w1.heap.size ≤ w.heap.size + 1; omega) (.slice q4 n4 d4)).mono fun b hb => by omega, HK3.out, HK4.out, ((((((HB2.out.setCell (p := ⟨w.heap.size, 4, none⟩) (by show w.heap.size ≤ w.heap.size; omega) (.slice q4 n4 d4)).setCell (p := ⟨w.heap.size + 1, 0, none⟩) (by show w.heap.size ≤ w.heap.size + 1; omega) (.int .i64 x0)).setCell (p := ⟨w.heap.size + 1, 1, none⟩) (by show w.heap.size ≤ w.heap.size + 1; omega) (.int .i64 x1)).setCell (p := ⟨w.heap.size + 1, 2, none⟩) (by show w.heap.size ≤ w.heap.size + 1; omega) (.int .i64 x2)).setCell (p := ⟨w.heap.size + 1, 3, none⟩) (by show w.heap.size ≤ w.heap.size + 1; omega) (.slice q3 n3 d3)).setCell (p := ⟨w.heap.size + 1, 4, none⟩) (by show w.heap.size ≤ w.heap.size + 1; omega) (.slice q4 n4 d4))⟩
end Go.Proofs.Ytjaholcmaafenaa.Sc2

namespace Go.Proofs.Ytjaholcmaafenaa.Sc3
open Go.ChangeShapes Go.WideShapes Go.ChangeAt Go.RowKit Sl St Ed Ek Lf Gr
set_option maxRecDepth 100000 in
set_option maxHeartbeats 8000000 in
theorem copy_any (l0 : List DpPiece.A) (p0 : Option Addr) (n0 c0 : Nat) (l1 : List DpRenewal.A) (p1 : Option Addr) (n1 c1 : Nat) {S0 S1 : Nat → Prop} (w : World) (h0 : RdD DpPiece.E S0 w p0 n0 l0) (h1 : RdD DpRenewal.E S1 w p1 n1 l1) (hw : DpStrand.E.wt (l0, l1) ≤ 2000000) : Calls Try.prog 98 #[.agg #[.slice p0 n0 c0, .slice p1 n1 c1]] w fun e w' => ∃ (q0 : Option Addr) (d0 : Nat) (q1 : Option Addr) (d1 mid : Nat), e = .returned (.agg #[.slice q0 n0 d0, .slice q1 n1 d1]) ∧ Gd DpPiece.E 97 w.heap.size mid q0 n0 d0 l0 w' ∧ Gd DpRenewal.E 110 mid w'.heap.size q1 n1 d1 l1 w' ∧ w.heap.size ≤ mid ∧ mid ≤ w'.heap.size ∧ Below w.heap.size w w' := by
  obtain ⟨i0, hi, hz0, hz1, hz2⟩ := info_parts DpRenewal.info
  rw [DpStrand.wt_eq] at hw
  have z0 : n0 + wts DpPiece.E l0 ≤ 2000000 := by have := h0.len; omega
  have z1 : n1 + wts DpRenewal.E l1 ≤ 2000000 := by have := h1.len; omega
  have H0 := Lib.hid h0
  have H1 := Lib.hid h1
  have HL := Lib.hid h1.len
  have HMM := Lib.hid z1
  have hn1 : n1 ≤ 2000000 := by omega
  clear h0 h1 hw z1
  obtain ⟨V, hV⟩ : ∃ z, ((w.alloc (.cells #[.slice p0 n0 c0, .slice p1 n1 c1] 36)).alloc (.cells #[.slice none 0 0, .slice none 0 0] 36)) = z := ⟨_, rfl⟩
  have HX : Hid (Bx V w.heap.size 36 #[.slice p0 n0 c0, .slice p1 n1 c1]) := Lib.hid (by rw [← hV]; exact (Bx.new w 36 #[.slice p0 n0 c0, .slice p1 n1 c1]).alloc _)
  have HRs : Hid (Bx V (w.heap.size + 1) 36 #[.slice none 0 0, .slice none 0 0]) := Lib.hid (by have h := Bx.new (w.alloc (.cells #[.slice p0 n0 c0, .slice p1 n1 c1] 36)) 36 #[.slice none 0 0, .slice none 0 0]; rw [World.size_alloc, hV] at h; exact h)
  have HB : Hid (Below w.heap.size w V) := Lib.hid (by rw [← hV]; exact ((Below.refl w.heap.size w).alloc (Nat.le_refl _) _).alloc (by simp) _)
  have HSZ : Hid (V.heap.size = w.heap.size + 2) := Lib.hid (by rw [← hV]; simp)
  obtain ⟨a0, a1⟩ := DpStrand.bxc HX.out
  go_enter Try.func98, Try.ntmps98
  go_wp2_with fail
  clear hV
  refine (Sc1.all_any _ _ _ _ _ (H0.out.below HB.out) z0).mono ?_
  rintro e w1 ⟨q0, d0, rfl, hg, hb⟩
  have HP2 : Hid (Gd DpPiece.E 97 (w.heap.size + 2) w1.heap.size q0 n0 d0 l0 (w1.alloc (.cells #[.slice q0 n0 d0, .slice none 0 0] 36))) := Lib.hid ((hg.wide (by have := HSZ.out; omega) (Nat.le_refl _) (Nat.le_refl _)).alloc _)
  have HX2 : Hid (Bx (w1.alloc (.cells #[.slice q0 n0 d0, .slice none 0 0] 36)) w.heap.size 36 #[.slice p0 n0 c0, .slice p1 n1 c1]) := Lib.hid ((HX.out.below hb).alloc _)
  have HR2 : Hid (Bx (w1.alloc (.cells #[.slice q0 n0 d0, .slice none 0 0] 36)) (w.heap.size + 1) 36 #[.slice none 0 0, .slice none 0 0]) := Lib.hid ((HRs.out.below hb).alloc _)
  have HB2 : Hid (Below w.heap.size w (w1.alloc (.cells #[.slice q0 n0 d0, .slice none 0 0] 36))) := Lib.hid ((below_on HB.out hb).alloc (below_on HB.out hb).size _)
  have HO2 : Hid (Bx (w1.alloc (.cells #[.slice q0 n0 d0, .slice none 0 0] 36)) w1.heap.size 36 #[.slice q0 n0 d0, .slice none 0 0]) := Lib.hid (Bx.new w1 36 _)
  have HS2 : Hid ((w1.alloc (.cells #[.slice q0 n0 d0, .slice none 0 0] 36)).heap.size = w1.heap.size + 1 ∧ w.heap.size + 2 ≤ w1.heap.size) := Lib.hid ⟨by simp, by have h1 := hb.size; have h2 := HSZ.out; omega⟩
  clear a0 a1 hg hb
  go_wp2_with fail
  generalize (w1.alloc (.cells #[.slice q0 n0 d0, .slice none 0 0] 36)) = V2 at HP2 HX2 HR2 HB2 HO2 HS2 ⊢
  generalize w1.heap.size = g at HP2 HO2 HS2 ⊢
  have HG2 : Hid (Gd DpRenewal.E 110 (g + 1) (g + 1) none 0 0 (l1.take 0) V2) := Lib.hid (Gd.nothing _ _ _ _ (by have := HS2.out.1; omega))
  have HW : Hid (w.heap.size + 2 ≤ g) := Lib.hid HS2.out.2
  clear HX HRs HB HSZ HS2
  go_loopw [4] (fun i wr => ∃ (k d hh : Nat) (q : Option Addr), k ≤ n1 ∧ i = .int .i64 k ∧ Hid (Bx wr w.heap.size 36 #[.slice p0 n0 c0, .slice p1 n1 c1]) ∧ Hid (Bx wr (w.heap.size + 1) 36 #[.slice none 0 0, .slice none 0 0]) ∧ Hid (Bx wr g 36 #[.slice q0 n0 d0, .slice q k d]) ∧ Hid (Gd DpPiece.E 97 (w.heap.size + 2) g q0 n0 d0 l0 wr) ∧ Hid (Gd DpRenewal.E 110 (g + 1) hh q k d (l1.take k) wr) ∧ Hid (Below w.heap.size w wr)) (fun i _ => n1 - (intOf i).toNat)
  case atStart => exact ⟨0, 0, _, none, Nat.zero_le _, rfl, HX2, HR2, HO2, HP2, HG2, HB2⟩
  case round =>
    obtain ⟨k, d, hh, q, hk, rfl, HX, HRs, HO, HP, HG, HB⟩ := hrel
    have x1_ := HX.out.cell (j := 1) rfl
    by_cases hlt : k < n1
    · obtain ⟨b, o, x_, cs_, rfl, _, hbw, hx, hc, hrd⟩ := H1.out.at_ hlt
      have HWt : Hid (DpRenewal.E.wt x_ ≤ 2000000) := Lib.hid (by have h1 := wts_at (E := DpRenewal.E) hx; have h2 := HMM.out; omega)
      have HTK : Hid (l1.take (k + 1) = l1.take k ++ [x_]) := Lib.hid (by rw [List.take_add_one, hx]; rfl)
      obtain ⟨x0, x1, x2, l3, l4⟩ := x_
      obtain ⟨p3, n3, c3, p4, n4, c4, rfl, b0, b1, b2, h3, h4⟩ := DpRenewal.ex hrd
      have hcc : ∀ jj v, [.int .i64 x0, .int .i64 x1, .int .i64 x2, .slice p3 n3 c3, .slice p4 n4 c4][jj]? = some v → wr.cell? ⟨b, o + k * 5 + jj, none⟩ = some v := fun jj v hv => (HB.out.cell (p := ⟨b, o + k * 5 + jj, none⟩) hbw).trans (hc jj v hv)
      have z3 : n3 ≤ 2000000 := by have h := HWt.out; have h2 := h3.len; rw [DpRenewal.wt_eq] at h; omega
      have z4 : n4 ≤ 2000000 := by have h := HWt.out; have h2 := h4.len; rw [DpRenewal.wt_eq] at h; omega
      have H3 := Lib.hid h3
      have H4 := Lib.hid h4
      have Gb0 := Lib.hid b0
      have Gb1 := Lib.hid b1
      have Gb2 := Lib.hid b2
      obtain ⟨u0, u1, u2, u3, u4⟩ := DpRenewal.at_cells hcc
      have i1 : (0 : Int) ≤ (k : Int) := by omega
      have i2 : (k : Int) < (n1 : Int) := by omega
      have o1_ := HO.out.cell (j := 1) rfl
      have HBd : Hid (Below w.heap.size w wr.drew) := Lib.hid (below_drewN HB.out 1)
      clear hcc hc hx hrd b0 b1 b2 h3 h4 hbw
      go_wp2_with fail
      go_region_law (first
        | (go_simp; go_at_call 112; refine (Sc2.copy_any x0 x1 x2 l3 _ _ _ l4 _ _ _ _ (H3.out.below HBd.out) (H4.out.below HBd.out) z3 z4).mono ?_; rintro e w2 ⟨q3, d3, q4, d4, rfl, ho3, ho4, hk3, hk4, hb⟩; have hb1 : Below wr.heap.size wr w2 := (below_drewN (Below.refl _ _) 1).trans hb; have hb2 := hb1.trans ((Dz.box1 w2 (.cells #[.int .i64 x0, .int .i64 x1, .int .i64 x2, .slice q3 n3 d3, .slice q4 n4 d4] 110)).mono hb1.size); have hcx : DpRenewal.E.rd (fun b => wr.heap.size ≤ b) (w2.alloc (.cells #[.int .i64 x0, .int .i64 x1, .int .i64 x2, .slice q3 n3 d3, .slice q4 n4 d4] 110)) [.int .i64 x0, .int .i64 x1, .int .i64 x2, .slice q3 n3 d3, .slice q4 n4 d4] (x0, x1, x2, l3, l4) := DpRenewal.mk Gb0.out Gb1.out Gb2.out (ho3.alloc _) (ho4.alloc _) hk3 hk4; obtain ⟨cx, hcxe, hcx2⟩ : ∃ cx : Raw DpRenewal.E.C, cx.1 = [.int .i64 x0, .int .i64 x1, .int .i64 x2, .slice q3 n3 d3, .slice q4 n4 d4] ∧ DpRenewal.E.rd (fun b => wr.heap.size ≤ b) (w2.alloc (.cells #[.int .i64 x0, .int .i64 x1, .int .i64 x2, .slice q3 n3 d3, .slice q4 n4 d4] 110)) cx.1 (x0, x1, x2, l3, l4) := ⟨⟨[.int .i64 x0, .int .i64 x1, .int .i64 x2, .slice q3 n3 d3, .slice q4 n4 d4], DpRenewal.E.len hcx, DpRenewal.E.one hcx⟩, rfl, hcx⟩; obtain ⟨cl, hcl, hnext⟩ := HG.out.next (by have := HO.out.lt; omega) hb2 hcx2; have HCL := Lib.hid hcl; have HNX := Lib.hid hnext; have HBB := Lib.hid (below_on HB.out hb2); have HXX := Lib.hid (HX.out.below hb2); have HRR := Lib.hid (HRs.out.below hb2); have HOO := Lib.hid (HO.out.below hb2); have HPP := Lib.hid (HP.out.below hb2); have HLit : Hid (RdS (raw DpRenewal.E) (w2.alloc (.cells #[.int .i64 x0, .int .i64 x1, .int .i64 x2, .slice q3 n3 d3, .slice q4 n4 d4] 110)) (some ⟨w2.heap.size, 0, none⟩) 1 [cx]) := Lib.hid (lit_own (raw DpRenewal.E) 110 w2 w2.heap.size [cx] #[.int .i64 x0, .int .i64 x1, .int .i64 x2, .slice q3 n3 d3, .slice q4 n4 d4] 1 (by rw [fl_one]; exact hcxe.symm) rfl (by unfold maxLen; omega) (Nat.le_refl _)).rd; have o2_ := (HO.out.below hb1).cell (j := 1) rfl; have o3_ := HOO.out.cell (j := 1) rfl; clear hcl hnext hcx hcx2 hcxe ho3 ho4 hk3 hk4 hb hb1 hb2)
        | (refine step_lieS (E := raw DpRenewal.E) rfl (.tmp 17) (.tmp 24) 34 rfl i0 _ 72 Try.underlying34 hi hz0 hz1 hz2 rfl rfl HCL.out ⟨w2.heap.size, 0, none⟩ _ cx rfl HLit.out (by have h1 := HOO.out.lt; omega) (by omega) (by omega) ?_; intro g9 c9 w9 how9 hg9 hat9; have HG9 := Lib.hid (HNX.out g9 c9 w9 how9 hg9 hat9); have HO9 := Lib.hid (HOO.out.grown hg9 (fun e => by have h := HCL.out.far _ e.symm; omega)); have HX9 := Lib.hid (HXX.out.grown hg9 (fun e => by have h := HCL.out.far _ e.symm; have h2 := HW.out; omega)); have HR9 := Lib.hid (HRR.out.grown hg9 (fun e => by have h := HCL.out.far _ e.symm; have h2 := HW.out; omega)); have HP9 := Lib.hid (HPP.out.kept hg9 (fun g' e => by have h := HCL.out.far g' e; omega)); have HB9 := Lib.hid (HBB.out.grown hg9 HBB.out.size (fun g' e => by have h := HCL.out.far g' e; have h2 := HW.out; omega)); have o9_ := HO9.out.cell (j := 1) rfl; have f9_ := HO9.out.free 1; clear how9 hg9 hat9))
      all_goals
        have ho10 := HO9.out.set_ 1 (.slice (some ⟨g9, 0, none⟩) (k + 1) c9)
        simp only [List.setIfInBounds_toArray, List.set_cons_succ, List.set_cons_zero] at ho10
        have HO10 := Lib.hid ho10
        have HX10 := Lib.hid (HX9.out.far (q := ⟨g, 1, none⟩) (by show w.heap.size ≠ g; have h := HW.out; omega) (.slice (some ⟨g9, 0, none⟩) (k + 1) c9))
        have HR10 := Lib.hid (HR9.out.far (q := ⟨g, 1, none⟩) (by show w.heap.size + 1 ≠ g; have h := HW.out; omega) (.slice (some ⟨g9, 0, none⟩) (k + 1) c9))
        have HP10 := Lib.hid (HP9.out.far (q := ⟨g, 1, none⟩) (Or.inr (Nat.le_refl _)) (.slice (some ⟨g9, 0, none⟩) (k + 1) c9))
        have hG10 := HG9.out.far (q := ⟨g, 1, none⟩) (Or.inl (Nat.lt_succ_self _)) (.slice (some ⟨g9, 0, none⟩) (k + 1) c9)
        rw [← HTK.out] at hG10
        have HG10 := Lib.hid hG10
        have HB10 := Lib.hid (HB9.out.setCell (p := ⟨g, 1, none⟩) (by show w.heap.size ≤ g; have h := HW.out; omega) (.slice (some ⟨g9, 0, none⟩) (k + 1) c9))
        clear ho10 hG10
        go_wp2_with fail
        go_roundw
        case rel => exact ⟨k + 1, c9, _, some ⟨g9, 0, none⟩, by omega, by go_num, HX10, HR10, HO10, HP10, HG10, HB10⟩
        case measure => simp [intOf]; omega
    · obtain rfl : k = n1 := by omega
      have hG := HG.out
      rw [List.take_of_length_le (by rw [HL.out]; exact Nat.le_refl _)] at hG
      have HG_ := Lib.hid hG
      have HP_ := Lib.hid HP.out
      clear hG
      obtain ⟨v0, v1⟩ := DpStrand.bxc HO.out
      obtain ⟨r0, r1⟩ := DpStrand.bxc HRs.out
      have s0 := HRs.out.free 0
      have s1 := HRs.out.free 1
      have hW := HW.out
      have hgl := HO.out.lt
      go_wp2_with fail
      exact bodyPost_ret (v := .agg #[.slice q0 n0 d0, .slice q k d]) (by simp [results, Try.results98, go_sem, r0, r1]) rfl ⟨q0, d0, q, d, g, rfl, ((HP_.out.far (q := ⟨w.heap.size + 1, 0, none⟩) (Or.inl (by show w.heap.size + 1 < _; omega)) (.slice q0 n0 d0)).far (q := ⟨w.heap.size + 1, 1, none⟩) (Or.inl (by show w.heap.size + 1 < _; omega)) (.slice q k d)).wide (by omega) (Nat.le_refl _) (by simp [World.setCell]; omega), ((HG_.out.far (q := ⟨w.heap.size + 1, 0, none⟩) (Or.inl (by show w.heap.size + 1 < _; omega)) (.slice q0 n0 d0)).far (q := ⟨w.heap.size + 1, 1, none⟩) (Or.inl (by show w.heap.size + 1 < _; omega)) (.slice q k d)).wide (by omega) (by have h := HG_.out.hi_le; simpa [World.setCell] using h) (Nat.le_refl _), by omega, by simp [World.setCell]; omega, (HB.out.setCell (p := ⟨w.heap.size + 1, 0, none⟩) (by show w.heap.size ≤ w.heap.size + 1; omega) (.slice q0 n0 d0)).setCell (p := ⟨w.heap.size + 1, 1, none⟩) (by show w.heap.size ≤ w.heap.size + 1; omega) (.slice q k d)⟩
end Go.Proofs.Ytjaholcmaafenaa.Sc3
