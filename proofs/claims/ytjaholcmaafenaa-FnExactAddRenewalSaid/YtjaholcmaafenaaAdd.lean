/- A piece or a renewal added to a strand, in the program. -/
import Derived.Test.YtjaholcmaafenaaGr
import Derived.Test.YtjaholcmaafenaaCoStrand
import Derived.Test.YtjaholcmaafenaaIs1
import Derived.Deep.RegionLaw
import Derived.LoopTactic
import Derived.Outline
import Derived.Deep.RegionHeld3
import Derived.OpenShut
import Derived.KernelRfl
namespace Go.Proofs.Ytjaholcmaafenaa.Adp
open Go.ChangeShapes Go.WideShapes Go.ChangeAt Go.RowKit Sl St Ed Ek Lf Gr Is1
theorem wts_snoc {α : Type} {E : Ent α} (xs : List α) (x : α) : wts E (xs ++ [x]) = wts E xs + E.wt x := by simp [wts]
abbrev Sd := List DpPiece.A × List DpRenewal.A
noncomputable def addP (l0 : List DpPiece.A) (l1 : List DpRenewal.A) (y : DpPiece.A) : Sd × Bool := if isS (l0 ++ [y]) l1 (l0.length + 1) l1.length = true then ((l0 ++ [y], l1), true) else ((l0, l1), false)
noncomputable def addR (l0 : List DpPiece.A) (l1 : List DpRenewal.A) (y : DpRenewal.A) : Sd × Bool := if isS l0 (l1 ++ [y]) l0.length (l1.length + 1) = true then ((l0, l1 ++ [y]), true) else ((l0, l1), false)
theorem pick {s : Bool} {A B C : Sd} {b : Bool} (h : (if s = true then (A, true) else (B, false)) = (C, b)) : s = b ∧ (if b = true then A else B) = C := by
  cases s
  · cases h
    exact ⟨rfl, rfl⟩
  · cases h
    exact ⟨rfl, rfl⟩
theorem addP_is {l0 : List DpPiece.A} {l1 : List DpRenewal.A} {y : DpPiece.A} {r0 : List DpPiece.A} {r1 : List DpRenewal.A} {b : Bool} {n0 n1 : Nat} (h : addP l0 l1 y = ((r0, r1), b)) (h0 : l0.length = n0) (h1 : l1.length = n1) : isS (l0 ++ [y]) l1 (n0 + 1) n1 = b ∧ (if b = true then (l0 ++ [y], l1) else (l0, l1)) = (r0, r1) := by
  unfold addP at h
  rw [h0, h1] at h
  exact pick h
theorem addR_is {l0 : List DpPiece.A} {l1 : List DpRenewal.A} {y : DpRenewal.A} {r0 : List DpPiece.A} {r1 : List DpRenewal.A} {b : Bool} {n0 n1 : Nat} (h : addR l0 l1 y = ((r0, r1), b)) (h0 : l0.length = n0) (h1 : l1.length = n1) : isS l0 (l1 ++ [y]) n0 (n1 + 1) = b ∧ (if b = true then (l0, l1 ++ [y]) else (l0, l1)) = (r0, r1) := by
  unfold addR at h
  rw [h0, h1] at h
  exact pick h
set_option maxRecDepth 100000 in
set_option maxHeartbeats 8000000 in
theorem withLastPiece_any (p : Option Addr) (n c : Nat) (xs : List DpPiece.A) (x0 : Int) (l1 : List Int) (p1 : Option Addr) (n1 c1 : Nat) (x2 : Int) {S S1 : Nat → Prop} (w : World) (hr : RdD DpPiece.E S w p n xs) (hnc : n ≤ c) (b0 : InI x0) (h1 : RdD int S1 w p1 n1 l1) (b2 : InI x2) (k1 : n1 ≤ c1) (hn : n ≤ 2000000) : Calls Try.prog 107 #[.slice p n c, .agg #[.int .i64 x0, .slice p1 n1 c1, .int .i64 x2]] w fun e w' => ∃ (q : Option Addr) (d : Nat), e = .returned (.slice q (n + 1) d) ∧ RdD DpPiece.E (fun _ => True) w' q (n + 1) (xs ++ [(x0, l1, x2)]) ∧ n + 1 ≤ d ∧ Below w.heap.size w w' := by
  obtain ⟨i0, hi, hz0, hz1, hz2⟩ := info_parts DpPiece.info
  obtain ⟨cl, hcl, has⟩ := raw_of (RdD.mono hr fun _ _ => trivial : RdD DpPiece.E (fun _ => True) w p n xs)
  have hb2 : Below w.heap.size w ((w.alloc (.cells #[.int .i64 x0, .slice p1 n1 c1, .int .i64 x2] 97)).alloc (.cells #[.int .i64 x0, .slice p1 n1 c1, .int .i64 x2] 97)).drew := below_drewN ((Dz.box1 w _).alloc (by simp) _) 1
  have hcx : DpPiece.E.rd (fun _ => True) ((w.alloc (.cells #[.int .i64 x0, .slice p1 n1 c1, .int .i64 x2] 97)).alloc (.cells #[.int .i64 x0, .slice p1 n1 c1, .int .i64 x2] 97)).drew [.int .i64 x0, .slice p1 n1 c1, .int .i64 x2] (x0, l1, x2) := DpPiece.mk b0 ((h1.mono fun _ _ => trivial).below hb2) b2 k1
  obtain ⟨cx, hcxe, hcx2⟩ : ∃ cx : Raw DpPiece.E.C, cx.1 = [.int .i64 x0, .slice p1 n1 c1, .int .i64 x2] ∧ DpPiece.E.rd (fun _ => True) ((w.alloc (.cells #[.int .i64 x0, .slice p1 n1 c1, .int .i64 x2] 97)).alloc (.cells #[.int .i64 x0, .slice p1 n1 c1, .int .i64 x2] 97)).drew cx.1 (x0, l1, x2) := ⟨⟨[.int .i64 x0, .slice p1 n1 c1, .int .i64 x2], DpPiece.E.len hcx, DpPiece.E.one hcx⟩, rfl, hcx⟩
  have HAS := Lib.hid (as_app (As.keep has hb2.size fun b hs hlt => ⟨trivial, hb2.block b hlt⟩) hcx2)
  have HCL := Lib.hid (hcl.below hb2)
  have HLit : Hid (RdS (raw DpPiece.E) ((w.alloc (.cells #[.int .i64 x0, .slice p1 n1 c1, .int .i64 x2] 97)).alloc (.cells #[.int .i64 x0, .slice p1 n1 c1, .int .i64 x2] 97)).drew (some ⟨w.heap.size + 1, 0, none⟩) 1 [cx]) := Lib.hid (by have h := (lit_own (raw DpPiece.E) 97 (w.alloc (.cells #[.int .i64 x0, .slice p1 n1 c1, .int .i64 x2] 97)) (w.alloc (.cells #[.int .i64 x0, .slice p1 n1 c1, .int .i64 x2] 97)).heap.size [cx] #[.int .i64 x0, .slice p1 n1 c1, .int .i64 x2] 1 (by rw [fl_one]; exact hcxe.symm) rfl (by unfold maxLen; omega) (Nat.le_refl _)).rd.drew1; rw [World.size_alloc] at h; exact h)
  have HB := Lib.hid hb2
  have HX := Lib.hid (Bx.new w 97 #[.int .i64 x0, .slice p1 n1 c1, .int .i64 x2])
  clear hr has hcl hb2 hcx hcx2 hcxe b0 h1 b2
  go_enter Try.func107, Try.ntmps107
  obtain ⟨a0, a1, a2⟩ := DpPiece.bxc HX.out
  go_wp2_with fail
  go_region_law (refine step_growS (E := raw DpPiece.E) (by rfl) (.tmp 10) (.tmp 12) 33 (by rfl) i0 _ 40 Try.underlying33 hi hz0 hz1 hz2 (by rfl) (by rfl) HCL.out ⟨w.heap.size + 1, 0, none⟩ 1 _ [cx] (by rfl) HLit.out (by omega) (by omega) (by omega) ?_; intro p9 c9 w9 how9 hg9; have HR9 := Lib.hid (as_rd (S := fun _ => True) how9 (As.keep HAS.out hg9.size fun b hs hlt => ⟨trivial, hg9.block b hlt (fun e => by cases e)⟩) (fun _ _ _ => trivial)); have HC9 := Lib.hid (cap_owS how9); have HB9 := Lib.hid (HB.out.grown hg9 HB.out.size (fun _ e => by cases e)); clear how9 hg9)
  all_goals
    go_wp2_with fail
    go_ret
    exact ⟨_, _, rfl, HR9.out, HC9.out, HB9.out⟩
set_option maxRecDepth 100000 in
set_option maxHeartbeats 8000000 in
theorem withLastRenewal_any (p : Option Addr) (n c : Nat) (xs : List DpRenewal.A) (x0 : Int) (x1 : Int) (x2 : Int) (l3 : List (Int × Bool)) (p3 : Option Addr) (n3 c3 : Nat) (l4 : List (Int × Int × Int × Int × Int)) (p4 : Option Addr) (n4 c4 : Nat) {S S3 S4 : Nat → Prop} (w : World) (hr : RdD DpRenewal.E S w p n xs) (hnc : n ≤ c) (b0 : InI x0) (b1 : InI x1) (b2 : InI x2) (h3 : RdD (flat SlStep.E SlStep.InR) S3 w p3 n3 l3) (h4 : RdD (flat SlStamp.E SlStamp.InR) S4 w p4 n4 l4) (k3 : n3 ≤ c3) (k4 : n4 ≤ c4) (hn : n ≤ 2000000) : Calls Try.prog 115 #[.slice p n c, .agg #[.int .i64 x0, .int .i64 x1, .int .i64 x2, .slice p3 n3 c3, .slice p4 n4 c4]] w fun e w' => ∃ (q : Option Addr) (d : Nat), e = .returned (.slice q (n + 1) d) ∧ RdD DpRenewal.E (fun _ => True) w' q (n + 1) (xs ++ [(x0, x1, x2, l3, l4)]) ∧ n + 1 ≤ d ∧ Below w.heap.size w w' := by
  obtain ⟨i0, hi, hz0, hz1, hz2⟩ := info_parts DpRenewal.info
  obtain ⟨cl, hcl, has⟩ := raw_of (RdD.mono hr fun _ _ => trivial : RdD DpRenewal.E (fun _ => True) w p n xs)
  have hb2 : Below w.heap.size w ((w.alloc (.cells #[.int .i64 x0, .int .i64 x1, .int .i64 x2, .slice p3 n3 c3, .slice p4 n4 c4] 110)).alloc (.cells #[.int .i64 x0, .int .i64 x1, .int .i64 x2, .slice p3 n3 c3, .slice p4 n4 c4] 110)).drew := below_drewN ((Dz.box1 w _).alloc (by simp) _) 1
  have hcx : DpRenewal.E.rd (fun _ => True) ((w.alloc (.cells #[.int .i64 x0, .int .i64 x1, .int .i64 x2, .slice p3 n3 c3, .slice p4 n4 c4] 110)).alloc (.cells #[.int .i64 x0, .int .i64 x1, .int .i64 x2, .slice p3 n3 c3, .slice p4 n4 c4] 110)).drew [.int .i64 x0, .int .i64 x1, .int .i64 x2, .slice p3 n3 c3, .slice p4 n4 c4] (x0, x1, x2, l3, l4) := DpRenewal.mk b0 b1 b2 ((h3.mono fun _ _ => trivial).below hb2) ((h4.mono fun _ _ => trivial).below hb2) k3 k4
  obtain ⟨cx, hcxe, hcx2⟩ : ∃ cx : Raw DpRenewal.E.C, cx.1 = [.int .i64 x0, .int .i64 x1, .int .i64 x2, .slice p3 n3 c3, .slice p4 n4 c4] ∧ DpRenewal.E.rd (fun _ => True) ((w.alloc (.cells #[.int .i64 x0, .int .i64 x1, .int .i64 x2, .slice p3 n3 c3, .slice p4 n4 c4] 110)).alloc (.cells #[.int .i64 x0, .int .i64 x1, .int .i64 x2, .slice p3 n3 c3, .slice p4 n4 c4] 110)).drew cx.1 (x0, x1, x2, l3, l4) := ⟨⟨[.int .i64 x0, .int .i64 x1, .int .i64 x2, .slice p3 n3 c3, .slice p4 n4 c4], DpRenewal.E.len hcx, DpRenewal.E.one hcx⟩, rfl, hcx⟩
  have HAS := Lib.hid (as_app (As.keep has hb2.size fun b hs hlt => ⟨trivial, hb2.block b hlt⟩) hcx2)
  have HCL := Lib.hid (hcl.below hb2)
  have HLit : Hid (RdS (raw DpRenewal.E) ((w.alloc (.cells #[.int .i64 x0, .int .i64 x1, .int .i64 x2, .slice p3 n3 c3, .slice p4 n4 c4] 110)).alloc (.cells #[.int .i64 x0, .int .i64 x1, .int .i64 x2, .slice p3 n3 c3, .slice p4 n4 c4] 110)).drew (some ⟨w.heap.size + 1, 0, none⟩) 1 [cx]) := Lib.hid (by have h := (lit_own (raw DpRenewal.E) 110 (w.alloc (.cells #[.int .i64 x0, .int .i64 x1, .int .i64 x2, .slice p3 n3 c3, .slice p4 n4 c4] 110)) (w.alloc (.cells #[.int .i64 x0, .int .i64 x1, .int .i64 x2, .slice p3 n3 c3, .slice p4 n4 c4] 110)).heap.size [cx] #[.int .i64 x0, .int .i64 x1, .int .i64 x2, .slice p3 n3 c3, .slice p4 n4 c4] 1 (by rw [fl_one]; exact hcxe.symm) rfl (by unfold maxLen; omega) (Nat.le_refl _)).rd.drew1; rw [World.size_alloc] at h; exact h)
  have HB := Lib.hid hb2
  have HX := Lib.hid (Bx.new w 110 #[.int .i64 x0, .int .i64 x1, .int .i64 x2, .slice p3 n3 c3, .slice p4 n4 c4])
  clear hr has hcl hb2 hcx hcx2 hcxe b0 b1 b2 h3 h4
  go_enter Try.func115, Try.ntmps115
  obtain ⟨a0, a1, a2, a3, a4⟩ := DpRenewal.bxc HX.out
  go_wp2_with fail
  go_region_law (refine step_growS (E := raw DpRenewal.E) (by rfl) (.tmp 10) (.tmp 12) 34 (by rfl) i0 _ 72 Try.underlying34 hi hz0 hz1 hz2 (by rfl) (by rfl) HCL.out ⟨w.heap.size + 1, 0, none⟩ 1 _ [cx] (by rfl) HLit.out (by omega) (by omega) (by omega) ?_; intro p9 c9 w9 how9 hg9; have HR9 := Lib.hid (as_rd (S := fun _ => True) how9 (As.keep HAS.out hg9.size fun b hs hlt => ⟨trivial, hg9.block b hlt (fun e => by cases e)⟩) (fun _ _ _ => trivial)); have HC9 := Lib.hid (cap_owS how9); have HB9 := Lib.hid (HB.out.grown hg9 HB.out.size (fun _ e => by cases e)); clear how9 hg9)
  all_goals
    go_wp2_with fail
    go_ret
    exact ⟨_, _, rfl, HR9.out, HC9.out, HB9.out⟩
set_option maxRecDepth 100000 in
set_option maxHeartbeats 8000000 in
theorem copyIf_any (l0 : List DpPiece.A) (p0 : Option Addr) (n0 c0 : Nat) (l1 : List DpRenewal.A) (p1 : Option Addr) (n1 c1 : Nat) (k0 : List DpPiece.A) (q0 : Option Addr) (m0 e0 : Nat) (k1 : List DpRenewal.A) (q1 : Option Addr) (m1 e1 : Nat) {S0 S1 T0 T1 : Nat → Prop} (b : Bool) (r0 : List DpPiece.A) (r1 : List DpRenewal.A) (w : World) (h0 : RdD DpPiece.E S0 w p0 n0 l0) (h1 : RdD DpRenewal.E S1 w p1 n1 l1) (g0 : RdD DpPiece.E T0 w q0 m0 k0) (g1 : RdD DpRenewal.E T1 w q1 m1 k1) (hw : DpStrand.E.wt (l0, l1) ≤ 2000000) (hw2 : DpStrand.E.wt (k0, k1) ≤ 2000000) (hb : isS l0 l1 n0 n1 = b) (hr : (if b = true then (l0, l1) else (k0, k1)) = (r0, r1)) : Calls Try.prog 106 #[.agg #[.slice p0 n0 c0, .slice p1 n1 c1], .agg #[.slice q0 m0 e0, .slice q1 m1 e1]] w fun e w' => ∃ (a0 : Option Addr) (x0 d0 : Nat) (a1 : Option Addr) (x1 d1 mid : Nat), e = .returned (.tuple #[.agg #[.slice a0 x0 d0, .slice a1 x1 d1], .bool b]) ∧ OwnD DpPiece.E LdPiece.L w.heap.size mid w' a0 x0 r0 ∧ OwnD DpRenewal.E LdRenewal.L mid w'.heap.size w' a1 x1 r1 ∧ x0 ≤ d0 ∧ x1 ≤ d1 ∧ w.heap.size ≤ mid ∧ mid ≤ w'.heap.size ∧ Below w.heap.size w w' := by
  have H0 := Lib.hid h0
  have H1 := Lib.hid h1
  have G0 := Lib.hid g0
  have G1 := Lib.hid g1
  have HS := Lib.hid hb
  have HW := Lib.hid hw
  have HW2 := Lib.hid hw2
  have HRR := Lib.hid hr
  clear h0 h1 g0 g1 hb hw hw2 hr
  obtain ⟨V, hV⟩ : ∃ z, (((w.alloc (.cells #[.slice p0 n0 c0, .slice p1 n1 c1] 36)).alloc (.cells #[.slice q0 m0 e0, .slice q1 m1 e1] 36)).alloc (.cells #[.slice none 0 0, .slice none 0 0] 36)) = z := ⟨_, rfl⟩
  have HX : Hid (Bx V w.heap.size 36 #[.slice p0 n0 c0, .slice p1 n1 c1]) := Lib.hid (by rw [← hV]; exact ((Bx.new w 36 #[.slice p0 n0 c0, .slice p1 n1 c1]).alloc _).alloc _)
  have HY : Hid (Bx V (w.heap.size + 1) 36 #[.slice q0 m0 e0, .slice q1 m1 e1]) := Lib.hid (by have h := (Bx.new (w.alloc (.cells #[.slice p0 n0 c0, .slice p1 n1 c1] 36)) 36 #[.slice q0 m0 e0, .slice q1 m1 e1]).alloc (.cells #[.slice none 0 0, .slice none 0 0] 36); rw [World.size_alloc, hV] at h; exact h)
  have HR : Hid (Bx V (w.heap.size + 1 + 1) 36 #[.slice none 0 0, .slice none 0 0]) := Lib.hid (by have h := Bx.new ((w.alloc (.cells #[.slice p0 n0 c0, .slice p1 n1 c1] 36)).alloc (.cells #[.slice q0 m0 e0, .slice q1 m1 e1] 36)) 36 #[.slice none 0 0, .slice none 0 0]; rw [World.size_alloc, World.size_alloc, hV] at h; exact h)
  have HB : Hid (Below w.heap.size w V) := Lib.hid (by rw [← hV]; exact (((Below.refl w.heap.size w).alloc (Nat.le_refl _) _).alloc (by simp) _).alloc (by simp; omega) _)
  have HSZ : Hid (V.heap.size = w.heap.size + 3) := Lib.hid (by rw [← hV]; simp)
  obtain ⟨u0, u1⟩ := DpStrand.bxc HX.out
  go_enter Try.func106, Try.ntmps106
  go_wp2_with fail
  clear hV
  refine (strand_any l0 _ _ _ l1 _ _ _ _ (H0.out.below HB.out) (H1.out.below HB.out)).mono ?_
  rintro e w1 ⟨rfl, hb⟩
  rw [HS.out]
  have HX1 := Lib.hid (HX.out.below hb)
  have HY1 := Lib.hid (HY.out.below hb)
  have HR1 := Lib.hid (HR.out.below hb)
  have HB1 := Lib.hid (below_on HB.out hb)
  have hs1 : w.heap.size + 3 ≤ w1.heap.size := by have h := hb.size; have h2 := HSZ.out; omega
  clear u0 u1 hb
  obtain ⟨u0, u1⟩ := DpStrand.bxc HX1.out
  obtain ⟨v0, v1⟩ := DpStrand.bxc HY1.out
  cases b
  · obtain ⟨rfl, rfl⟩ := Prod.mk.inj HRR.out
    go_wp2_with fail
    refine (CoStrand.copy_any k0 _ _ _ k1 _ _ _ _ (G0.out.below HB1.out) (G1.out.below HB1.out) HW2.out).mono ?_
    rintro e w2 ⟨a0, d0, a1, d1, rfl, _, ⟨mid, hm0, hm1, ho0, ho1⟩, hk0, hk1, hb⟩
    have HO0 := Lib.hid ho0
    have HO1 := Lib.hid ho1
    have HR2 := Lib.hid (HR1.out.below hb)
    have HB2 := Lib.hid (below_on HB1.out hb)
    have HK := Lib.hid (And.intro hk0 hk1)
    clear ho0 ho1 hb u0 u1 v0 v1 hk0 hk1
    obtain ⟨t0, t1⟩ := DpStrand.bxc HR2.out
    have s0 := HR2.out.free 0
    have s1 := HR2.out.free 1
    go_wp2_with fail
    exact bodyPost_ret (v := .tuple #[.agg #[.slice a0 m0 d0, .slice a1 m1 d1], .bool false]) (by simp [results, Try.results106, go_sem, t0, t1]) rfl ⟨a0, m0, d0, a1, m1, d1, mid, rfl, ((HO0.out.far (q := ⟨w.heap.size + 1 + 1, 0, none⟩) (Or.inl (by show w.heap.size + 1 + 1 < _; omega)) (.slice a0 m0 d0)).far (q := ⟨w.heap.size + 1 + 1, 1, none⟩) (Or.inl (by show w.heap.size + 1 + 1 < _; omega)) (.slice a1 m1 d1)).wide (by omega) (Nat.le_refl _), ((HO1.out.far (q := ⟨w.heap.size + 1 + 1, 0, none⟩) (Or.inl (by show w.heap.size + 1 + 1 < _; omega)) (.slice a0 m0 d0)).far (q := ⟨w.heap.size + 1 + 1, 1, none⟩) (Or.inl (by show w.heap.size + 1 + 1 < _; omega)) (.slice a1 m1 d1)).wide (Nat.le_refl _) (by simp [World.setCell]), HK.out.1, HK.out.2, by omega, by simp [World.setCell]; omega, ((HB2.out.setCell (p := ⟨w.heap.size + 1 + 1, 0, none⟩) (by show w.heap.size ≤ w.heap.size + 1 + 1; omega) (.slice a0 m0 d0)).setCell (p := ⟨w.heap.size + 1 + 1, 1, none⟩) (by show w.heap.size ≤ w.heap.size + 1 + 1; omega) (.slice a1 m1 d1))⟩
  · obtain ⟨rfl, rfl⟩ := Prod.mk.inj HRR.out
    go_wp2_with fail
    refine (CoStrand.copy_any l0 _ _ _ l1 _ _ _ _ (H0.out.below HB1.out) (H1.out.below HB1.out) HW.out).mono ?_
    rintro e w2 ⟨a0, d0, a1, d1, rfl, _, ⟨mid, hm0, hm1, ho0, ho1⟩, hk0, hk1, hb⟩
    have HO0 := Lib.hid ho0
    have HO1 := Lib.hid ho1
    have HR2 := Lib.hid (HR1.out.below hb)
    have HB2 := Lib.hid (below_on HB1.out hb)
    have HK := Lib.hid (And.intro hk0 hk1)
    clear ho0 ho1 hb u0 u1 v0 v1 hk0 hk1
    obtain ⟨t0, t1⟩ := DpStrand.bxc HR2.out
    have s0 := HR2.out.free 0
    have s1 := HR2.out.free 1
    go_wp2_with fail
    exact bodyPost_ret (v := .tuple #[.agg #[.slice a0 n0 d0, .slice a1 n1 d1], .bool true]) (by simp [results, Try.results106, go_sem, t0, t1]) rfl ⟨a0, n0, d0, a1, n1, d1, mid, rfl, ((HO0.out.far (q := ⟨w.heap.size + 1 + 1, 0, none⟩) (Or.inl (by show w.heap.size + 1 + 1 < _; omega)) (.slice a0 n0 d0)).far (q := ⟨w.heap.size + 1 + 1, 1, none⟩) (Or.inl (by show w.heap.size + 1 + 1 < _; omega)) (.slice a1 n1 d1)).wide (by omega) (Nat.le_refl _), ((HO1.out.far (q := ⟨w.heap.size + 1 + 1, 0, none⟩) (Or.inl (by show w.heap.size + 1 + 1 < _; omega)) (.slice a0 n0 d0)).far (q := ⟨w.heap.size + 1 + 1, 1, none⟩) (Or.inl (by show w.heap.size + 1 + 1 < _; omega)) (.slice a1 n1 d1)).wide (Nat.le_refl _) (by simp [World.setCell]), HK.out.1, HK.out.2, by omega, by simp [World.setCell]; omega, ((HB2.out.setCell (p := ⟨w.heap.size + 1 + 1, 0, none⟩) (by show w.heap.size ≤ w.heap.size + 1 + 1; omega) (.slice a0 n0 d0)).setCell (p := ⟨w.heap.size + 1 + 1, 1, none⟩) (by show w.heap.size ≤ w.heap.size + 1 + 1; omega) (.slice a1 n1 d1))⟩
set_option maxRecDepth 100000 in
set_option maxHeartbeats 8000000 in
theorem addPiece_any (l0 : List DpPiece.A) (p0 : Option Addr) (n0 c0 : Nat) (l1 : List DpRenewal.A) (p1 : Option Addr) (n1 c1 : Nat) (xy0 : Int) (ly1 : List Int) (py1 : Option Addr) (ny1 cy1 : Nat) (xy2 : Int) {S0 S1 Sy1 : Nat → Prop} (b : Bool) (r0 : List DpPiece.A) (r1 : List DpRenewal.A) (w : World) (h0 : RdD DpPiece.E S0 w p0 n0 l0) (h1 : RdD DpRenewal.E S1 w p1 n1 l1) (by0 : InI xy0) (hy1 : RdD int Sy1 w py1 ny1 ly1) (by2 : InI xy2) (hk0 : n0 ≤ c0) (_hk1 : n1 ≤ c1) (ky1 : ny1 ≤ cy1) (hw : DpStrand.E.wt (l0, l1) + DpPiece.E.wt (xy0, ly1, xy2) ≤ 1048576) (hr : addP l0 l1 (xy0, ly1, xy2) = ((r0, r1), b)) : Calls Try.prog 53 #[.agg #[.slice p0 n0 c0, .slice p1 n1 c1], .agg #[.int .i64 xy0, .slice py1 ny1 cy1, .int .i64 xy2]] w fun e w' => ∃ (a0 : Option Addr) (x0 d0 : Nat) (a1 : Option Addr) (x1 d1 mid : Nat), e = .returned (.tuple #[.agg #[.slice a0 x0 d0, .slice a1 x1 d1], .bool b]) ∧ OwnD DpPiece.E LdPiece.L w.heap.size mid w' a0 x0 r0 ∧ OwnD DpRenewal.E LdRenewal.L mid w'.heap.size w' a1 x1 r1 ∧ x0 ≤ d0 ∧ x1 ≤ d1 ∧ w.heap.size ≤ mid ∧ mid ≤ w'.heap.size ∧ Below w.heap.size w w' := by
  obtain ⟨hS, hI⟩ := addP_is hr h0.len h1.len
  have hn : n0 ≤ 2000000 := by have h2 := h0.len; rw [DpStrand.wt_eq] at hw; omega
  have hWW : DpStrand.E.wt (l0 ++ [(xy0, ly1, xy2)], l1) ≤ 2000000 := by rw [DpStrand.wt_eq] at hw ⊢; rw [List.length_append, List.length_singleton, wts_snoc]; omega
  have hW2 : DpStrand.E.wt (l0, l1) ≤ 2000000 := by omega
  have H0 := Lib.hid h0
  have H1 := Lib.hid h1
  have HIS := Lib.hid hS
  have HIF := Lib.hid hI
  have HWW := Lib.hid hWW
  have HW2 := Lib.hid hW2
  have Gby0 := Lib.hid by0
  have Ghy1 := Lib.hid hy1
  have Gby2 := Lib.hid by2
  clear h0 h1 hS hI hWW hW2 hw hr by0 hy1 by2
  obtain ⟨V, hV⟩ : ∃ z, (((w.alloc (.cells #[.slice p0 n0 c0, .slice p1 n1 c1] 36)).alloc (.cells #[.int .i64 xy0, .slice py1 ny1 cy1, .int .i64 xy2] 97)).alloc (.cells #[.slice none 0 0, .slice none 0 0] 36)) = z := ⟨_, rfl⟩
  have HX : Hid (Bx V w.heap.size 36 #[.slice p0 n0 c0, .slice p1 n1 c1]) := Lib.hid (by rw [← hV]; exact ((Bx.new w 36 #[.slice p0 n0 c0, .slice p1 n1 c1]).alloc _).alloc _)
  have HY : Hid (Bx V (w.heap.size + 1) 97 #[.int .i64 xy0, .slice py1 ny1 cy1, .int .i64 xy2]) := Lib.hid (by have h := (Bx.new (w.alloc (.cells #[.slice p0 n0 c0, .slice p1 n1 c1] 36)) 97 #[.int .i64 xy0, .slice py1 ny1 cy1, .int .i64 xy2]).alloc (.cells #[.slice none 0 0, .slice none 0 0] 36); rw [World.size_alloc, hV] at h; exact h)
  have HR : Hid (Bx V (w.heap.size + 1 + 1) 36 #[.slice none 0 0, .slice none 0 0]) := Lib.hid (by have h := Bx.new ((w.alloc (.cells #[.slice p0 n0 c0, .slice p1 n1 c1] 36)).alloc (.cells #[.int .i64 xy0, .slice py1 ny1 cy1, .int .i64 xy2] 97)) 36 #[.slice none 0 0, .slice none 0 0]; rw [World.size_alloc, World.size_alloc, hV] at h; exact h)
  have HB : Hid (Below w.heap.size w V) := Lib.hid (by rw [← hV]; exact (((Below.refl w.heap.size w).alloc (Nat.le_refl _) _).alloc (by simp) _).alloc (by simp; omega) _)
  have HSZ : Hid (V.heap.size = w.heap.size + 3) := Lib.hid (by rw [← hV]; simp)
  replace HX := Lib.hid HX.out.drew1
  replace HY := Lib.hid HY.out.drew1
  replace HR := Lib.hid HR.out.drew1
  replace HB : Hid (Below w.heap.size w V.drew) := Lib.hid (below_drewN HB.out 1)
  obtain ⟨u0, u1⟩ := DpStrand.bxc HX.out
  obtain ⟨v0, v1, v2⟩ := DpPiece.bxc HY.out
  go_enter Try.func53, Try.ntmps53
  go_wp2_with fail
  clear hV
  go_region_held3 (fun w' => (w'.cell? ⟨w.heap.size, 0, none⟩ = some (.slice p0 n0 c0) ∧ w'.cell? ⟨w.heap.size, 1, none⟩ = some (.slice p1 n1 c1)) ∧ w'.cell? ⟨w.heap.size + 1, 0, none⟩ = some (.int .i64 xy0) ∧ w'.cell? ⟨w.heap.size + 1, 1, none⟩ = some (.slice py1 ny1 cy1) ∧ w'.cell? ⟨w.heap.size + 1, 2, none⟩ = some (.int .i64 xy2)) (first | with_reducible exact ⟨DpStrand.bxc HX.out, DpPiece.bxc HY.out⟩ | with_reducible exact ⟨DpStrand.bxc HX1.out, DpPiece.bxc HY1.out⟩ | with_reducible exact ⟨DpStrand.bxc HX2.out, DpPiece.bxc HY2.out⟩ | with_reducible exact ⟨DpStrand.bxc HX3.out, DpPiece.bxc HY3.out⟩ | go_keep) (first
    | (go_at_call 107; (with_reducible refine (withLastPiece_any _ _ _ _ _ _ _ _ _ _ _ (H0.out.below HB.out) hk0 Gby0.out (Ghy1.out.below HB.out) Gby2.out ky1 hn).mono ?_); rintro e w1 ⟨q9, d9, rfl, hq, _, hb⟩; have HQ := Lib.hid hq; have HX1 := Lib.hid (HX.out.below hb); have HY1 := Lib.hid (HY.out.below hb); have HR1 := Lib.hid (HR.out.below hb); have HB1 := Lib.hid (below_on HB.out hb); have hs1 := hb.size; clear hq hb)
    | (go_at_call 106; (with_reducible refine (copyIf_any (l0 ++ [(xy0, ly1, xy2)]) _ _ _ l1 _ _ _ l0 _ _ _ l1 _ _ _ b r0 r1 _ HQ.out (H1.out.below HB1.out) (H0.out.below HB1.out) (H1.out.below HB1.out) HWW.out HW2.out HIS.out HIF.out).mono ?_); rintro e w2 ⟨a0, x0, d0, a1, x1, d1, mid, rfl, ho0, ho1, hk0_, hk1_, hm0, hm1, hb⟩; have HO0 := Lib.hid ho0; have HO1 := Lib.hid ho1; have HK := Lib.hid (And.intro hk0_ hk1_); have HX2 := Lib.hid (HX1.out.below hb); have HY2 := Lib.hid (HY1.out.below hb); have HR2 := Lib.hid (HR1.out.below hb); have HB2 := Lib.hid (below_on HB1.out hb); obtain ⟨t0, t1⟩ := DpStrand.bxc HR2.out; have s0 := HR2.out.free 0; have s1 := HR2.out.free 1; have HX3 := Lib.hid ((HX2.out.far (q := ⟨w.heap.size + 1 + 1, 0, none⟩) (by show w.heap.size ≠ w.heap.size + 1 + 1; omega) (.slice a0 x0 d0)).far (q := ⟨w.heap.size + 1 + 1, 1, none⟩) (by show w.heap.size ≠ w.heap.size + 1 + 1; omega) (.slice a1 x1 d1)); have HY3 := Lib.hid ((HY2.out.far (q := ⟨w.heap.size + 1 + 1, 0, none⟩) (by show w.heap.size + 1 ≠ w.heap.size + 1 + 1; omega) (.slice a0 x0 d0)).far (q := ⟨w.heap.size + 1 + 1, 1, none⟩) (by show w.heap.size + 1 ≠ w.heap.size + 1 + 1; omega) (.slice a1 x1 d1)); clear ho0 ho1 hk0_ hk1_ hb)
    | fail)
  all_goals
    have hV3 : w.heap.size + 3 ≤ w1.heap.size := by have h : V.heap.size ≤ w1.heap.size := hs1; have h2 := HSZ.out; omega
    go_wp2_with fail
    exact bodyPost_ret (v := .tuple #[.agg #[.slice a0 x0 d0, .slice a1 x1 d1], .bool b]) (by simp [results, Try.results53, go_sem, t0, t1]) rfl ⟨a0, x0, d0, a1, x1, d1, mid, rfl, ((HO0.out.far (q := ⟨w.heap.size + 1 + 1, 0, none⟩) (Or.inl (by show w.heap.size + 1 + 1 < _; omega)) (.slice a0 x0 d0)).far (q := ⟨w.heap.size + 1 + 1, 1, none⟩) (Or.inl (by show w.heap.size + 1 + 1 < _; omega)) (.slice a1 x1 d1)).wide (by omega) (Nat.le_refl _), ((HO1.out.far (q := ⟨w.heap.size + 1 + 1, 0, none⟩) (Or.inl (by show w.heap.size + 1 + 1 < _; omega)) (.slice a0 x0 d0)).far (q := ⟨w.heap.size + 1 + 1, 1, none⟩) (Or.inl (by show w.heap.size + 1 + 1 < _; omega)) (.slice a1 x1 d1)).wide (Nat.le_refl _) (by simp [World.setCell]), HK.out.1, HK.out.2, by omega, by simp [World.setCell]; omega, ((HB2.out.setCell (p := ⟨w.heap.size + 1 + 1, 0, none⟩) (by show w.heap.size ≤ w.heap.size + 1 + 1; omega) (.slice a0 x0 d0)).setCell (p := ⟨w.heap.size + 1 + 1, 1, none⟩) (by show w.heap.size ≤ w.heap.size + 1 + 1; omega) (.slice a1 x1 d1))⟩
set_option maxRecDepth 100000 in
set_option maxHeartbeats 8000000 in
theorem addRenewal_any (l0 : List DpPiece.A) (p0 : Option Addr) (n0 c0 : Nat) (l1 : List DpRenewal.A) (p1 : Option Addr) (n1 c1 : Nat) (xy0 : Int) (xy1 : Int) (xy2 : Int) (ly3 : List (Int × Bool)) (py3 : Option Addr) (ny3 cy3 : Nat) (ly4 : List (Int × Int × Int × Int × Int)) (py4 : Option Addr) (ny4 cy4 : Nat) {S0 S1 Sy3 Sy4 : Nat → Prop} (b : Bool) (r0 : List DpPiece.A) (r1 : List DpRenewal.A) (w : World) (h0 : RdD DpPiece.E S0 w p0 n0 l0) (h1 : RdD DpRenewal.E S1 w p1 n1 l1) (by0 : InI xy0) (by1 : InI xy1) (by2 : InI xy2) (hy3 : RdD (flat SlStep.E SlStep.InR) Sy3 w py3 ny3 ly3) (hy4 : RdD (flat SlStamp.E SlStamp.InR) Sy4 w py4 ny4 ly4) (_hk0 : n0 ≤ c0) (hk1 : n1 ≤ c1) (ky3 : ny3 ≤ cy3) (ky4 : ny4 ≤ cy4) (hw : DpStrand.E.wt (l0, l1) + DpRenewal.E.wt (xy0, xy1, xy2, ly3, ly4) ≤ 1048576) (hr : addR l0 l1 (xy0, xy1, xy2, ly3, ly4) = ((r0, r1), b)) : Calls Try.prog 60 #[.agg #[.slice p0 n0 c0, .slice p1 n1 c1], .agg #[.int .i64 xy0, .int .i64 xy1, .int .i64 xy2, .slice py3 ny3 cy3, .slice py4 ny4 cy4]] w fun e w' => ∃ (a0 : Option Addr) (x0 d0 : Nat) (a1 : Option Addr) (x1 d1 mid : Nat), e = .returned (.tuple #[.agg #[.slice a0 x0 d0, .slice a1 x1 d1], .bool b]) ∧ OwnD DpPiece.E LdPiece.L w.heap.size mid w' a0 x0 r0 ∧ OwnD DpRenewal.E LdRenewal.L mid w'.heap.size w' a1 x1 r1 ∧ x0 ≤ d0 ∧ x1 ≤ d1 ∧ w.heap.size ≤ mid ∧ mid ≤ w'.heap.size ∧ Below w.heap.size w w' := by
  obtain ⟨hS, hI⟩ := addR_is hr h0.len h1.len
  have hn : n1 ≤ 2000000 := by have h2 := h1.len; rw [DpStrand.wt_eq] at hw; omega
  have hWW : DpStrand.E.wt (l0, l1 ++ [(xy0, xy1, xy2, ly3, ly4)]) ≤ 2000000 := by rw [DpStrand.wt_eq] at hw ⊢; rw [List.length_append, List.length_singleton, wts_snoc]; omega
  have hW2 : DpStrand.E.wt (l0, l1) ≤ 2000000 := by omega
  have H0 := Lib.hid h0
  have H1 := Lib.hid h1
  have HIS := Lib.hid hS
  have HIF := Lib.hid hI
  have HWW := Lib.hid hWW
  have HW2 := Lib.hid hW2
  have Gby0 := Lib.hid by0
  have Gby1 := Lib.hid by1
  have Gby2 := Lib.hid by2
  have Ghy3 := Lib.hid hy3
  have Ghy4 := Lib.hid hy4
  clear h0 h1 hS hI hWW hW2 hw hr by0 by1 by2 hy3 hy4
  obtain ⟨V, hV⟩ : ∃ z, (((w.alloc (.cells #[.slice p0 n0 c0, .slice p1 n1 c1] 36)).alloc (.cells #[.int .i64 xy0, .int .i64 xy1, .int .i64 xy2, .slice py3 ny3 cy3, .slice py4 ny4 cy4] 110)).alloc (.cells #[.slice none 0 0, .slice none 0 0] 36)) = z := ⟨_, rfl⟩
  have HX : Hid (Bx V w.heap.size 36 #[.slice p0 n0 c0, .slice p1 n1 c1]) := Lib.hid (by rw [← hV]; exact ((Bx.new w 36 #[.slice p0 n0 c0, .slice p1 n1 c1]).alloc _).alloc _)
  have HY : Hid (Bx V (w.heap.size + 1) 110 #[.int .i64 xy0, .int .i64 xy1, .int .i64 xy2, .slice py3 ny3 cy3, .slice py4 ny4 cy4]) := Lib.hid (by have h := (Bx.new (w.alloc (.cells #[.slice p0 n0 c0, .slice p1 n1 c1] 36)) 110 #[.int .i64 xy0, .int .i64 xy1, .int .i64 xy2, .slice py3 ny3 cy3, .slice py4 ny4 cy4]).alloc (.cells #[.slice none 0 0, .slice none 0 0] 36); rw [World.size_alloc, hV] at h; exact h)
  have HR : Hid (Bx V (w.heap.size + 1 + 1) 36 #[.slice none 0 0, .slice none 0 0]) := Lib.hid (by have h := Bx.new ((w.alloc (.cells #[.slice p0 n0 c0, .slice p1 n1 c1] 36)).alloc (.cells #[.int .i64 xy0, .int .i64 xy1, .int .i64 xy2, .slice py3 ny3 cy3, .slice py4 ny4 cy4] 110)) 36 #[.slice none 0 0, .slice none 0 0]; rw [World.size_alloc, World.size_alloc, hV] at h; exact h)
  have HB : Hid (Below w.heap.size w V) := Lib.hid (by rw [← hV]; exact (((Below.refl w.heap.size w).alloc (Nat.le_refl _) _).alloc (by simp) _).alloc (by simp; omega) _)
  have HSZ : Hid (V.heap.size = w.heap.size + 3) := Lib.hid (by rw [← hV]; simp)
  replace HX := Lib.hid HX.out.drew1
  replace HY := Lib.hid HY.out.drew1
  replace HR := Lib.hid HR.out.drew1
  replace HB : Hid (Below w.heap.size w V.drew) := Lib.hid (below_drewN HB.out 1)
  obtain ⟨u0, u1⟩ := DpStrand.bxc HX.out
  obtain ⟨v0, v1, v2, v3, v4⟩ := DpRenewal.bxc HY.out
  go_enter Try.func60, Try.ntmps60
  go_wp2_with fail
  clear hV
  go_region_held3 (fun w' => (w'.cell? ⟨w.heap.size, 0, none⟩ = some (.slice p0 n0 c0) ∧ w'.cell? ⟨w.heap.size, 1, none⟩ = some (.slice p1 n1 c1)) ∧ w'.cell? ⟨w.heap.size + 1, 0, none⟩ = some (.int .i64 xy0) ∧ w'.cell? ⟨w.heap.size + 1, 1, none⟩ = some (.int .i64 xy1) ∧ w'.cell? ⟨w.heap.size + 1, 2, none⟩ = some (.int .i64 xy2) ∧ w'.cell? ⟨w.heap.size + 1, 3, none⟩ = some (.slice py3 ny3 cy3) ∧ w'.cell? ⟨w.heap.size + 1, 4, none⟩ = some (.slice py4 ny4 cy4)) (first | with_reducible exact ⟨DpStrand.bxc HX.out, DpRenewal.bxc HY.out⟩ | with_reducible exact ⟨DpStrand.bxc HX1.out, DpRenewal.bxc HY1.out⟩ | with_reducible exact ⟨DpStrand.bxc HX2.out, DpRenewal.bxc HY2.out⟩ | with_reducible exact ⟨DpStrand.bxc HX3.out, DpRenewal.bxc HY3.out⟩ | go_keep) (first
    | (go_at_call 115; (with_reducible refine (withLastRenewal_any _ _ _ _ _ _ _ _ _ _ _ _ _ _ _ _ (H1.out.below HB.out) hk1 Gby0.out Gby1.out Gby2.out (Ghy3.out.below HB.out) (Ghy4.out.below HB.out) ky3 ky4 hn).mono ?_); rintro e w1 ⟨q9, d9, rfl, hq, _, hb⟩; have HQ := Lib.hid hq; have HX1 := Lib.hid (HX.out.below hb); have HY1 := Lib.hid (HY.out.below hb); have HR1 := Lib.hid (HR.out.below hb); have HB1 := Lib.hid (below_on HB.out hb); have hs1 := hb.size; clear hq hb)
    | (go_at_call 106; (with_reducible refine (copyIf_any l0 _ _ _ (l1 ++ [(xy0, xy1, xy2, ly3, ly4)]) _ _ _ l0 _ _ _ l1 _ _ _ b r0 r1 _ (H0.out.below HB1.out) HQ.out (H0.out.below HB1.out) (H1.out.below HB1.out) HWW.out HW2.out HIS.out HIF.out).mono ?_); rintro e w2 ⟨a0, x0, d0, a1, x1, d1, mid, rfl, ho0, ho1, hk0_, hk1_, hm0, hm1, hb⟩; have HO0 := Lib.hid ho0; have HO1 := Lib.hid ho1; have HK := Lib.hid (And.intro hk0_ hk1_); have HX2 := Lib.hid (HX1.out.below hb); have HY2 := Lib.hid (HY1.out.below hb); have HR2 := Lib.hid (HR1.out.below hb); have HB2 := Lib.hid (below_on HB1.out hb); obtain ⟨t0, t1⟩ := DpStrand.bxc HR2.out; have s0 := HR2.out.free 0; have s1 := HR2.out.free 1; have HX3 := Lib.hid ((HX2.out.far (q := ⟨w.heap.size + 1 + 1, 0, none⟩) (by show w.heap.size ≠ w.heap.size + 1 + 1; omega) (.slice a0 x0 d0)).far (q := ⟨w.heap.size + 1 + 1, 1, none⟩) (by show w.heap.size ≠ w.heap.size + 1 + 1; omega) (.slice a1 x1 d1)); have HY3 := Lib.hid ((HY2.out.far (q := ⟨w.heap.size + 1 + 1, 0, none⟩) (by show w.heap.size + 1 ≠ w.heap.size + 1 + 1; omega) (.slice a0 x0 d0)).far (q := ⟨w.heap.size + 1 + 1, 1, none⟩) (by show w.heap.size + 1 ≠ w.heap.size + 1 + 1; omega) (.slice a1 x1 d1)); clear ho0 ho1 hk0_ hk1_ hb)
    | fail)
  all_goals
    have hV3 : w.heap.size + 3 ≤ w1.heap.size := by have h : V.heap.size ≤ w1.heap.size := hs1; have h2 := HSZ.out; omega
    go_wp2_with fail
    exact bodyPost_ret (v := .tuple #[.agg #[.slice a0 x0 d0, .slice a1 x1 d1], .bool b]) (by simp [results, Try.results60, go_sem, t0, t1]) rfl ⟨a0, x0, d0, a1, x1, d1, mid, rfl, ((HO0.out.far (q := ⟨w.heap.size + 1 + 1, 0, none⟩) (Or.inl (by show w.heap.size + 1 + 1 < _; omega)) (.slice a0 x0 d0)).far (q := ⟨w.heap.size + 1 + 1, 1, none⟩) (Or.inl (by show w.heap.size + 1 + 1 < _; omega)) (.slice a1 x1 d1)).wide (by omega) (Nat.le_refl _), ((HO1.out.far (q := ⟨w.heap.size + 1 + 1, 0, none⟩) (Or.inl (by show w.heap.size + 1 + 1 < _; omega)) (.slice a0 x0 d0)).far (q := ⟨w.heap.size + 1 + 1, 1, none⟩) (Or.inl (by show w.heap.size + 1 + 1 < _; omega)) (.slice a1 x1 d1)).wide (Nat.le_refl _) (by simp [World.setCell]), HK.out.1, HK.out.2, by omega, by simp [World.setCell]; omega, ((HB2.out.setCell (p := ⟨w.heap.size + 1 + 1, 0, none⟩) (by show w.heap.size ≤ w.heap.size + 1 + 1; omega) (.slice a0 x0 d0)).setCell (p := ⟨w.heap.size + 1 + 1, 1, none⟩) (by show w.heap.size ≤ w.heap.size + 1 + 1; omega) (.slice a1 x1 d1))⟩
end Go.Proofs.Ytjaholcmaafenaa.Adp
