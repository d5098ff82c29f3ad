/- Documents signed, in the program and in the reference. -/
import Derived.Test.YtbjocgnogcnedaaKSignature
import Derived.Test.YtbjocgnogcnedaaDd
import Derived.Test.YtbjocgnogcnedaaDs
import Derived.Test.YtbjocgnogcnedaaDpDocument
import Derived.Test.YtbjocgnogcnedaaEd
import Derived.Test.YtbjocgnogcnedaaDz
import Derived.Deep.RegionHeld3
namespace Go.Proofs.Ytbjocgnogcnedaa.Sdc
open Go.ChangeShapes Go.WideShapes Go.ChangeAt Go.RowKit Go.Shelf Sl St Fnd Kn Kr Ki Km Ko SlSignature Gi Ge Gs MSignature KSignature Ed Dz
theorem z0 : InI 0 := ⟨by omega, by omega⟩
theorem dig_inK (m : Int) (l : List Int) : inK .i64 (Dg.dig m l) := by have := Dg.dig_in m l; exact ⟨by omega, by omega⟩
theorem docD_inK (id : Int) (D : Int × List ByteArray × List Int) : inK .i64 (Dm.docD id D) := by
  unfold Dm.docD
  split
  · exact dig_inK _ _
  · exact ⟨by omega, by omega⟩
set_option maxRecDepth 100000 in
set_option maxHeartbeats 8000000 in
theorem doc_any (p : Option Addr) (n c : Nat) (xs : List I5) (x1 x2 x3 x4 : Int) (l4 : List ByteArray) (p4 : Option Addr) (n4 c4 : Nat) (l5 : List Int) (p5 : Option Addr) (n5 c5 : Nat) (x5 : Int) {S S4 S5 : Nat → Prop} (y0 y1 y2 y3 y4 y5 y6 y7 y8 : Int) (b : Bool) (w : World) (g1 : InI x1) (g2 : InI x2) (g3 : InI x3) (g5 : InI x5) (hM : mkd xs (x1, x2, x3, Dm.docD x3 (x4, l4, l5), x5, 0, 0, 0, 0) = ((y0, y1, y2, y3, y4, y5, y6, y7, y8), b)) (hr : RdD (flat SlKey.E SlKey.InR) S w p n xs) (h4 : RdD str S4 w p4 n4 l4) (h5 : RdD int S5 w p5 n5 l5) : Calls Try.prog 10 #[.slice p n c, .int .i64 x1, .int .i64 x2, .int .i64 x3, .agg #[.int .i64 x4, .slice p4 n4 c4, .slice p5 n5 c5], .int .i64 x5] w (Made (.agg #[.int .i64 y0, .int .i64 y1, .int .i64 y2, .int .i64 y3, .int .i64 y4, .int .i64 y5, .int .i64 y6, .int .i64 y7, .int .i64 y8]) b w) := by
  obtain ⟨d, hd⟩ : ∃ d, Dm.docD x3 (x4, l4, l5) = d := ⟨_, rfl⟩
  rw [hd] at hM
  have HD := Lib.hid hd
  have GD : Hid (InI d) := Lib.hid (by rw [← hd]; exact docD_inK _ _)
  have HMd := Lib.hid hM
  have G1 := Lib.hid g1
  have G2 := Lib.hid g2
  have G3 := Lib.hid g3
  have G5 := Lib.hid g5
  have HK := Lib.hid hr
  have H4 := Lib.hid h4
  have H5 := Lib.hid h5
  clear hd hM g1 g2 g3 g5 hr h4 h5
  have HX := Lib.hid ((Bx.new w 35 #[.int .i64 x4, .slice p4 n4 c4, .slice p5 n5 c5]).alloc (.cells #[.int .i64 0, .int .i64 0, .int .i64 0, .int .i64 0, .int .i64 0, .int .i64 0, .int .i64 0, .int .i64 0, .int .i64 0] 30))
  have HY : Hid (Bx ((w.alloc (.cells #[.int .i64 x4, .slice p4 n4 c4, .slice p5 n5 c5] 35)).alloc (.cells #[.int .i64 0, .int .i64 0, .int .i64 0, .int .i64 0, .int .i64 0, .int .i64 0, .int .i64 0, .int .i64 0, .int .i64 0] 30)) (w.heap.size + 1) 30 #[.int .i64 0, .int .i64 0, .int .i64 0, .int .i64 0, .int .i64 0, .int .i64 0, .int .i64 0, .int .i64 0, .int .i64 0]) := Lib.hid (by have h := Bx.new (w.alloc (.cells #[.int .i64 x4, .slice p4 n4 c4, .slice p5 n5 c5] 35)) 30 #[.int .i64 0, .int .i64 0, .int .i64 0, .int .i64 0, .int .i64 0, .int .i64 0, .int .i64 0, .int .i64 0, .int .i64 0]; rw [World.size_alloc] at h; exact h)
  have HB : Hid (Below w.heap.size w ((w.alloc (.cells #[.int .i64 x4, .slice p4 n4 c4, .slice p5 n5 c5] 35)).alloc (.cells #[.int .i64 0, .int .i64 0, .int .i64 0, .int .i64 0, .int .i64 0, .int .i64 0, .int .i64 0, .int .i64 0, .int .i64 0] 30))) := Lib.hid (((Below.refl _ _).alloc (Nat.le_refl _) _).alloc (by simp) _)
  obtain ⟨c0, c1, c2⟩ := DpDocument.bxc HX.out
  go_enter Try.func10, Try.ntmps10
  go_wp2_with fail
  refine (Dd.docD_any x3 x4 p4 n4 c4 p5 n5 c5 l4 l5 _ (RdD.strs SlStr.C_eq SlStr.of_eq (H4.out.below HB.out)).1 (H5.out.below HB.out).ints).mono ?_
  rintro e w1 ⟨rfl, hb⟩
  rw [HD.out]
  have HB1 := Lib.hid (below_on HB.out hb)
  have HY1 := Lib.hid (HY.out.below hb)
  clear hb c0 c1 c2 HX HY HB
  go_wp2_with fail
  refine (KSignature.make_any p n c xs HK.out.allP x1 x2 x3 d x5 0 0 0 0 G1.out G2.out G3.out GD.out G5.out z0 z0 z0 z0 y0 y1 y2 y3 y4 y5 y6 y7 y8 b HMd.out _ (HK.out.below HB1.out).rdS).mono ?_
  rintro e w2 ⟨rfl, hb⟩
  have HB2 := Lib.hid (below_on HB1.out hb)
  have HY2 := Lib.hid (HY1.out.below hb)
  clear hb
  obtain ⟨q0, q1, q2, q3, q4, q5, q6, q7, q8⟩ := SlSignature.bxc HY2.out
  have f0 := HY2.out.free 0
  have f1 := HY2.out.free 1
  have f2 := HY2.out.free 2
  have f3 := HY2.out.free 3
  have f4 := HY2.out.free 4
  have f5 := HY2.out.free 5
  have f6 := HY2.out.free 6
  have f7 := HY2.out.free 7
  have f8 := HY2.out.free 8
  go_wp2_with fail
  exact bodyPost_ret (v := .tuple #[.agg #[.int .i64 y0, .int .i64 y1, .int .i64 y2, .int .i64 y3, .int .i64 y4, .int .i64 y5, .int .i64 y6, .int .i64 y7, .int .i64 y8], .bool b]) (by simp [results, Try.results10, go_sem, q0, q1, q2, q3, q4, q5, q6, q7, q8]) rfl ⟨rfl, (((((((((HB2.out).setCell (p := ⟨w.heap.size + 1, 0, none⟩) (by simp) _).setCell (p := ⟨w.heap.size + 1, 1, none⟩) (by simp) _).setCell (p := ⟨w.heap.size + 1, 2, none⟩) (by simp) _).setCell (p := ⟨w.heap.size + 1, 3, none⟩) (by simp) _).setCell (p := ⟨w.heap.size + 1, 4, none⟩) (by simp) _).setCell (p := ⟨w.heap.size + 1, 5, none⟩) (by simp) _).setCell (p := ⟨w.heap.size + 1, 6, none⟩) (by simp) _).setCell (p := ⟨w.heap.size + 1, 7, none⟩) (by simp) _).setCell (p := ⟨w.heap.size + 1, 8, none⟩) (by simp) _⟩
set_option maxRecDepth 100000 in
set_option maxHeartbeats 8000000 in
theorem spec_doc_any (p : Option Addr) (n c : Nat) (xs : List I5) (x1 x2 x3 x4 : Int) (l4 : List ByteArray) (p4 : Option Addr) (n4 c4 : Nat) (l5 : List Int) (p5 : Option Addr) (n5 c5 : Nat) (x5 : Int) {S S4 S5 : Nat → Prop} (y0 y1 y2 y3 y4 y5 y6 y7 y8 : Int) (b : Bool) (w : World) (g1 : InI x1) (g2 : InI x2) (g3 : InI x3) (g5 : InI x5) (hM : mkd xs (x1, x2, x3, Dm.docD x3 (x4, l4, l5), x5, 0, 0, 0, 0) = ((y0, y1, y2, y3, y4, y5, y6, y7, y8), b)) (hr : RdD (flat SlKey.E SlKey.InR) S w p n xs) (h4 : RdD str S4 w p4 n4 l4) (h5 : RdD int S5 w p5 n5 l5) : Calls Try.prog 7 #[.slice p n c, .int .i64 x1, .int .i64 x2, .int .i64 x3, .agg #[.int .i64 x4, .slice p4 n4 c4, .slice p5 n5 c5], .int .i64 x5] w (Made (.agg #[.int .i64 y0, .int .i64 y1, .int .i64 y2, .int .i64 y3, .int .i64 y4, .int .i64 y5, .int .i64 y6, .int .i64 y7, .int .i64 y8]) b w) := by
  obtain ⟨d, hd⟩ : ∃ d, Dm.docD x3 (x4, l4, l5) = d := ⟨_, rfl⟩
  rw [hd] at hM
  have HD := Lib.hid hd
  have GD : Hid (InI d) := Lib.hid (by rw [← hd]; exact docD_inK _ _)
  have HMd := Lib.hid hM
  have G1 := Lib.hid g1
  have G2 := Lib.hid g2
  have G3 := Lib.hid g3
  have G5 := Lib.hid g5
  have HK := Lib.hid hr
  have H4 := Lib.hid h4
  have H5 := Lib.hid h5
  clear hd hM g1 g2 g3 g5 hr h4 h5
  have HX := Lib.hid ((Bx.new w 35 #[.int .i64 x4, .slice p4 n4 c4, .slice p5 n5 c5]).alloc (.cells #[.int .i64 0, .int .i64 0, .int .i64 0, .int .i64 0, .int .i64 0, .int .i64 0, .int .i64 0, .int .i64 0, .int .i64 0] 30))
  have HY : Hid (Bx ((w.alloc (.cells #[.int .i64 x4, .slice p4 n4 c4, .slice p5 n5 c5] 35)).alloc (.cells #[.int .i64 0, .int .i64 0, .int .i64 0, .int .i64 0, .int .i64 0, .int .i64 0, .int .i64 0, .int .i64 0, .int .i64 0] 30)) (w.heap.size + 1) 30 #[.int .i64 0, .int .i64 0, .int .i64 0, .int .i64 0, .int .i64 0, .int .i64 0, .int .i64 0, .int .i64 0, .int .i64 0]) := Lib.hid (by have h := Bx.new (w.alloc (.cells #[.int .i64 x4, .slice p4 n4 c4, .slice p5 n5 c5] 35)) 30 #[.int .i64 0, .int .i64 0, .int .i64 0, .int .i64 0, .int .i64 0, .int .i64 0, .int .i64 0, .int .i64 0, .int .i64 0]; rw [World.size_alloc] at h; exact h)
  have HB : Hid (Below w.heap.size w ((w.alloc (.cells #[.int .i64 x4, .slice p4 n4 c4, .slice p5 n5 c5] 35)).alloc (.cells #[.int .i64 0, .int .i64 0, .int .i64 0, .int .i64 0, .int .i64 0, .int .i64 0, .int .i64 0, .int .i64 0, .int .i64 0] 30))) := Lib.hid (((Below.refl _ _).alloc (Nat.le_refl _) _).alloc (by simp) _)
  obtain ⟨c0, c1, c2⟩ := DpDocument.bxc HX.out
  go_enter Try.func7, Try.ntmps7
  go_wp2_with fail
  refine (Ds.spec_docD_any x3 x4 p4 n4 c4 p5 n5 c5 l4 l5 _ (RdD.strs SlStr.C_eq SlStr.of_eq (H4.out.below HB.out)).1 (H5.out.below HB.out).ints G3.out).mono ?_
  rintro e w1 ⟨rfl, hb⟩
  rw [HD.out]
  have HB1 := Lib.hid (below_on HB.out hb)
  have HY1 := Lib.hid (HY.out.below hb)
  clear hb c0 c1 c2 HX HY HB
  go_wp2_with fail
  refine (KSignature.spec_make_any p n c xs HK.out.allP x1 x2 x3 d x5 0 0 0 0 G1.out G2.out G3.out GD.out G5.out z0 z0 z0 z0 y0 y1 y2 y3 y4 y5 y6 y7 y8 b HMd.out _ (HK.out.below HB1.out).rdS).mono ?_
  rintro e w2 ⟨rfl, hb⟩
  have HB2 := Lib.hid (below_on HB1.out hb)
  have HY2 := Lib.hid (HY1.out.below hb)
  clear hb
  obtain ⟨q0, q1, q2, q3, q4, q5, q6, q7, q8⟩ := SlSignature.bxc HY2.out
  have f0 := HY2.out.free 0
  have f1 := HY2.out.free 1
  have f2 := HY2.out.free 2
  have f3 := HY2.out.free 3
  have f4 := HY2.out.free 4
  have f5 := HY2.out.free 5
  have f6 := HY2.out.free 6
  have f7 := HY2.out.free 7
  have f8 := HY2.out.free 8
  go_wp2_with fail
  exact bodyPost_ret (v := .tuple #[.agg #[.int .i64 y0, .int .i64 y1, .int .i64 y2, .int .i64 y3, .int .i64 y4, .int .i64 y5, .int .i64 y6, .int .i64 y7, .int .i64 y8], .bool b]) (by simp [results, Try.results7, go_sem, q0, q1, q2, q3, q4, q5, q6, q7, q8]) rfl ⟨rfl, (((((((((HB2.out).setCell (p := ⟨w.heap.size + 1, 0, none⟩) (by simp) _).setCell (p := ⟨w.heap.size + 1, 1, none⟩) (by simp) _).setCell (p := ⟨w.heap.size + 1, 2, none⟩) (by simp) _).setCell (p := ⟨w.heap.size + 1, 3, none⟩) (by simp) _).setCell (p := ⟨w.heap.size + 1, 4, none⟩) (by simp) _).setCell (p := ⟨w.heap.size + 1, 5, none⟩) (by simp) _).setCell (p := ⟨w.heap.size + 1, 6, none⟩) (by simp) _).setCell (p := ⟨w.heap.size + 1, 7, none⟩) (by simp) _).setCell (p := ⟨w.heap.size + 1, 8, none⟩) (by simp) _⟩
end Go.Proofs.Ytbjocgnogcnedaa.Sdc
