/- FalseAuthorities: the authorities that lie or whose key is stolen: in the program and in the reference. -/
import Derived.Test.YtpjckbdljbpliaaGreatIst
import Derived.Test.YtpjckbdljbpliaaGreatHx
import Derived.Test.YtpjckbdljbpliaaGreatDpWorld
import Derived.Test.YtpjckbdljbpliaaGreatEsA
import Derived.Test.YtpjckbdljbpliaaGreatSr
import Derived.Test.YtpjckbdljbpliaaGreatQt
import Derived.Laws.EntriesVeiled
import Derived.ScopeJumps
import Derived.WalkMore
import Derived.LoopTactic
import Derived.Outline
namespace Go.Proofs.YtpjckbdljbpliaaGreat.Fal
open Go.ChangeShapes Go.WideShapes Go.ChangeAt Go.RowKit Sl St Ed Dz Fnd
def fal (l0 : List I5) (l2 : List (Int × Int × Int × Int)) (x4 : Int) (l9 : List Int) (a : I3) : Bool := Hx.hasI l9 a.1 || Ist.stolen l0 l2 x4 a.2.1
def fals (l0 : List I5) (l2 : List (Int × Int × Int × Int)) (x4 : Int) (l9 : List Int) (us : List I3) : List Int := (us.filter (fal l0 l2 x4 l9)).map fun a => a.1
section
variable {l0 : List I5} {l2 : List (Int × Int × Int × Int)} {x4 : Int} {l9 : List Int} {us : List I3} {k : Nat} {x : I3}
theorem fals_len (l0 : List I5) (l2 : List (Int × Int × Int × Int)) (x4 : Int) (l9 : List Int) (us : List I3) : (fals l0 l2 x4 l9 us).length ≤ us.length := by
  unfold fals
  rw [List.length_map]
  exact List.length_filter_le _ _
theorem take_next (h : us[k]? = some x) : us.take (k + 1) = us.take k ++ [x] := by
  rw [List.take_add_one, h]
  rfl
theorem fals_no (h : us[k]? = some x) (hb : fal l0 l2 x4 l9 x = false) : fals l0 l2 x4 l9 (us.take (k + 1)) = fals l0 l2 x4 l9 (us.take k) := by
  rw [take_next h]
  unfold fals
  simp [List.filter_append, hb]
theorem fals_yes (h : us[k]? = some x) (hb : fal l0 l2 x4 l9 x = true) : fals l0 l2 x4 l9 (us.take (k + 1)) = fals l0 l2 x4 l9 (us.take k) ++ [x.1] := by
  rw [take_next h]
  unfold fals
  simp [List.filter_append, hb]
end
theorem bel2 {w V : World} {B : Nat} (h : Below B w V) (hB : B ≤ w.heap.size) (x : Obj) : Below B w (V.alloc x) := h.alloc (Nat.le_trans hB h.size) _
theorem lit1 (V : World) (x : Int) (hx : InI x) : Rd .i64 (V.alloc (.cells #[.int .i64 x] 3)) (some ⟨V.heap.size, 0, none⟩) 1 [x] := (litN_own 3 V V.heap.size [x] (fun y hy => by rw [List.mem_singleton] at hy; rw [hy]; exact hx) (Nat.le_refl _) (by simp)).rd
set_option maxRecDepth 100000 in
set_option maxHeartbeats 4000000 in
theorem lying_any (p0 : Option Addr) (n0 c0 : Nat) (p1 : Option Addr) (n1 c1 : Nat) (p2 : Option Addr) (n2 c2 : Nat) (x3 x4 : Int) (p5 : Option Addr) (n5 c5 : Nat) (p6 : Option Addr) (n6 c6 : Nat) (p7 : Option Addr) (n7 c7 : Nat) (p8 : Option Addr) (n8 c8 : Nat) (l9 : List Int) (p9 : Option Addr) (n9 c9 : Nat) (x10 : Int) (p11 : Option Addr) (n11 c11 : Nat) (a0 a1 a2 : Int) {S9 : Nat → Prop} (w : World) (h9 : RdD int S9 w p9 n9 l9) : Calls Tryz.prog 73 #[.agg #[.slice p0 n0 c0, .slice p1 n1 c1, .slice p2 n2 c2, .int .i64 x3, .int .i64 x4, .slice p5 n5 c5, .slice p6 n6 c6, .slice p7 n7 c7, .slice p8 n8 c8, .slice p9 n9 c9, .int .i64 x10, .slice p11 n11 c11], .agg #[.int .i64 a0, .int .i64 a1, .int .i64 a2]] w (Val (.bool (Hx.hasI l9 a0)) w) := by
  have HB := Lib.hid (bel2 (Dz.box1 w (.cells #[.slice p0 n0 c0, .slice p1 n1 c1, .slice p2 n2 c2, .int .i64 x3, .int .i64 x4, .slice p5 n5 c5, .slice p6 n6 c6, .slice p7 n7 c7, .slice p8 n8 c8, .slice p9 n9 c9, .int .i64 x10, .slice p11 n11 c11] 60)) (Nat.le_refl _) (.cells #[.int .i64 a0, .int .i64 a1, .int .i64 a2] 96))
  have hx := Bx.new (w.alloc (.cells #[.slice p0 n0 c0, .slice p1 n1 c1, .slice p2 n2 c2, .int .i64 x3, .int .i64 x4, .slice p5 n5 c5, .slice p6 n6 c6, .slice p7 n7 c7, .slice p8 n8 c8, .slice p9 n9 c9, .int .i64 x10, .slice p11 n11 c11] 60)) 96 #[.int .i64 a0, .int .i64 a1, .int .i64 a2]
  rw [World.size_alloc] at hx
  have HX := Lib.hid hx
  have HY := Lib.hid ((Bx.new w 60 #[.slice p0 n0 c0, .slice p1 n1 c1, .slice p2 n2 c2, .int .i64 x3, .int .i64 x4, .slice p5 n5 c5, .slice p6 n6 c6, .slice p7 n7 c7, .slice p8 n8 c8, .slice p9 n9 c9, .int .i64 x10, .slice p11 n11 c11]).alloc (.cells #[.int .i64 a0, .int .i64 a1, .int .i64 a2] 96))
  have H9 := Lib.hid (h9.below HB.out)
  clear hx h9
  obtain ⟨k0, k1, k2, k3, k4, k5, k6, k7, k8, k9, k10, k11⟩ := DpWorld.bxc HY.out
  obtain ⟨v0, v1, v2⟩ := SlAuthority.bxc HX.out
  go_enter Tryz.func73, Tryz.ntmps73
  go_wp2_with fail
  refine (Hx.contains_any _ _ _ l9 a0 _ H9.out.ints).mono ?_
  rintro e w1 ⟨rfl, rfl⟩
  go_wp2_with fail
  go_ret
  exact val_of rfl HB.out
set_option maxRecDepth 100000 in
set_option maxHeartbeats 4000000 in
theorem key_any (l0 : List I5) (p0 : Option Addr) (n0 c0 : Nat) (p1 : Option Addr) (n1 c1 : Nat) (l2 : List (Int × Int × Int × Int)) (p2 : Option Addr) (n2 c2 : Nat) (x3 x4 : Int) (p5 : Option Addr) (n5 c5 : Nat) (p6 : Option Addr) (n6 c6 : Nat) (p7 : Option Addr) (n7 c7 : Nat) (p8 : Option Addr) (n8 c8 : Nat) (p9 : Option Addr) (n9 c9 : Nat) (x10 : Int) (p11 : Option Addr) (n11 c11 : Nat) (a0 a1 a2 : Int) {S0 S2 : Nat → Prop} (w : World) (h0 : RdD (flat SlKey.E SlKey.InR) S0 w p0 n0 l0) (h2 : RdD (flat SlMethod.E SlMethod.InR) S2 w p2 n2 l2) : Calls Tryz.prog 74 #[.agg #[.slice p0 n0 c0, .slice p1 n1 c1, .slice p2 n2 c2, .int .i64 x3, .int .i64 x4, .slice p5 n5 c5, .slice p6 n6 c6, .slice p7 n7 c7, .slice p8 n8 c8, .slice p9 n9 c9, .int .i64 x10, .slice p11 n11 c11], .agg #[.int .i64 a0, .int .i64 a1, .int .i64 a2]] w (Val (.bool (Ist.stolen l0 l2 x4 a1)) w) := by
  have HB := Lib.hid (bel2 (Dz.box1 w (.cells #[.slice p0 n0 c0, .slice p1 n1 c1, .slice p2 n2 c2, .int .i64 x3, .int .i64 x4, .slice p5 n5 c5, .slice p6 n6 c6, .slice p7 n7 c7, .slice p8 n8 c8, .slice p9 n9 c9, .int .i64 x10, .slice p11 n11 c11] 60)) (Nat.le_refl _) (.cells #[.int .i64 a0, .int .i64 a1, .int .i64 a2] 96))
  have hx := Bx.new (w.alloc (.cells #[.slice p0 n0 c0, .slice p1 n1 c1, .slice p2 n2 c2, .int .i64 x3, .int .i64 x4, .slice p5 n5 c5, .slice p6 n6 c6, .slice p7 n7 c7, .slice p8 n8 c8, .slice p9 n9 c9, .int .i64 x10, .slice p11 n11 c11] 60)) 96 #[.int .i64 a0, .int .i64 a1, .int .i64 a2]
  rw [World.size_alloc] at hx
  have HX := Lib.hid hx
  have HY := Lib.hid ((Bx.new w 60 #[.slice p0 n0 c0, .slice p1 n1 c1, .slice p2 n2 c2, .int .i64 x3, .int .i64 x4, .slice p5 n5 c5, .slice p6 n6 c6, .slice p7 n7 c7, .slice p8 n8 c8, .slice p9 n9 c9, .int .i64 x10, .slice p11 n11 c11]).alloc (.cells #[.int .i64 a0, .int .i64 a1, .int .i64 a2] 96))
  have H0 := Lib.hid (h0.below HB.out)
  have H2 := Lib.hid (h2.below HB.out)
  clear hx h0 h2
  obtain ⟨k0, k1, k2, k3, k4, k5, k6, k7, k8, k9, k10, k11⟩ := DpWorld.bxc HY.out
  obtain ⟨v0, v1, v2⟩ := SlAuthority.bxc HX.out
  go_enter Tryz.func74, Tryz.ntmps74
  go_wp2_with fail
  refine (Ist.stolen_any l0 _ _ _ _ _ _ l2 _ _ _ x3 x4 a1 _ H0.out H2.out).mono ?_
  rintro e w1 ⟨rfl, hb⟩
  replace HB := Lib.hid (below_on HB.out hb)
  clear hb
  go_wp2_with fail
  go_ret
  exact val_of rfl HB.out
set_option maxRecDepth 100000 in
set_option maxHeartbeats 8000000 in
theorem false_any (l0 : List I5) (p0 : Option Addr) (n0 c0 : Nat) (p1 : Option Addr) (n1 c1 : Nat) (l2 : List (Int × Int × Int × Int)) (p2 : Option Addr) (n2 c2 : Nat) (x3 x4 : Int) (p5 : Option Addr) (n5 c5 : Nat) (p6 : Option Addr) (n6 c6 : Nat) (p7 : Option Addr) (n7 c7 : Nat) (p8 : Option Addr) (n8 c8 : Nat) (l9 : List Int) (p9 : Option Addr) (n9 c9 : Nat) (x10 : Int) (p11 : Option Addr) (n11 c11 : Nat) (a0 a1 a2 : Int) {S0 S2 S9 : Nat → Prop} (w : World) (h0 : RdD (flat SlKey.E SlKey.InR) S0 w p0 n0 l0) (h2 : RdD (flat SlMethod.E SlMethod.InR) S2 w p2 n2 l2) (h9 : RdD int S9 w p9 n9 l9) : Calls Tryz.prog 50 #[.agg #[.slice p0 n0 c0, .slice p1 n1 c1, .slice p2 n2 c2, .int .i64 x3, .int .i64 x4, .slice p5 n5 c5, .slice p6 n6 c6, .slice p7 n7 c7, .slice p8 n8 c8, .slice p9 n9 c9, .int .i64 x10, .slice p11 n11 c11], .agg #[.int .i64 a0, .int .i64 a1, .int .i64 a2]] w (Val (.bool (fal l0 l2 x4 l9 (a0, a1, a2))) w) := by
  have hb := bel2 (bel2 (Dz.box1 w (.cells #[.slice p0 n0 c0, .slice p1 n1 c1, .slice p2 n2 c2, .int .i64 x3, .int .i64 x4, .slice p5 n5 c5, .slice p6 n6 c6, .slice p7 n7 c7, .slice p8 n8 c8, .slice p9 n9 c9, .int .i64 x10, .slice p11 n11 c11] 60)) (Nat.le_refl _) (.cells #[.int .i64 a0, .int .i64 a1, .int .i64 a2] 96)) (Nat.le_refl _) (.cells #[.func (.func 73) #[] #[], .func (.func 74) #[] #[]] 146)
  have hx := (Bx.new (w.alloc (.cells #[.slice p0 n0 c0, .slice p1 n1 c1, .slice p2 n2 c2, .int .i64 x3, .int .i64 x4, .slice p5 n5 c5, .slice p6 n6 c6, .slice p7 n7 c7, .slice p8 n8 c8, .slice p9 n9 c9, .int .i64 x10, .slice p11 n11 c11] 60)) 96 #[.int .i64 a0, .int .i64 a1, .int .i64 a2]).alloc (.cells #[.func (.func 73) #[] #[], .func (.func 74) #[] #[]] 146)
  have hf := Bx.new ((w.alloc (.cells #[.slice p0 n0 c0, .slice p1 n1 c1, .slice p2 n2 c2, .int .i64 x3, .int .i64 x4, .slice p5 n5 c5, .slice p6 n6 c6, .slice p7 n7 c7, .slice p8 n8 c8, .slice p9 n9 c9, .int .i64 x10, .slice p11 n11 c11] 60)).alloc (.cells #[.int .i64 a0, .int .i64 a1, .int .i64 a2] 96)) 146 #[.func (.func 73) #[] #[], .func (.func 74) #[] #[]]
  rw [World.size_alloc] at hx
  rw [World.size_alloc, World.size_alloc] at hf
  have HB := Lib.hid hb
  have HX := Lib.hid hx
  have HF := Lib.hid hf
  have HY := Lib.hid (((Bx.new w 60 #[.slice p0 n0 c0, .slice p1 n1 c1, .slice p2 n2 c2, .int .i64 x3, .int .i64 x4, .slice p5 n5 c5, .slice p6 n6 c6, .slice p7 n7 c7, .slice p8 n8 c8, .slice p9 n9 c9, .int .i64 x10, .slice p11 n11 c11]).alloc (.cells #[.int .i64 a0, .int .i64 a1, .int .i64 a2] 96)).alloc (.cells #[.func (.func 73) #[] #[], .func (.func 74) #[] #[]] 146))
  have H0 := Lib.hid (h0.below hb)
  have H2 := Lib.hid (h2.below hb)
  have H9 := Lib.hid (h9.below hb)
  clear hb hx hf h0 h2 h9
  obtain ⟨β, hβ⟩ : ∃ z, Hx.hasI l9 a0 = z := ⟨_, rfl⟩
  obtain ⟨γ, hγ⟩ : ∃ z, Ist.stolen l0 l2 x4 a1 = z := ⟨_, rfl⟩
  have HS : Hid (fal l0 l2 x4 l9 (a0, a1, a2) = (β || γ)) := Lib.hid (by unfold fal; rw [hβ, hγ])
  have HBt := Lib.hid hβ
  have HGt := Lib.hid hγ
  clear hβ hγ
  go_enter Tryz.func50, Tryz.ntmps50
  go_wp2_with fail
  refine wp_scope_jumps 0 (fun a' w' => ∃ (k : Nat) (u7 u8 u9 u10 u11 u12 u13 u14 u15 u16 u17 u18 u19 u20 u21 u22 : Value), a' = { tmps := #[.agg #[.slice p0 n0 c0, .slice p1 n1 c1, .slice p2 n2 c2, .int .i64 x3, .int .i64 x4, .slice p5 n5 c5, .slice p6 n6 c6, .slice p7 n7 c7, .slice p8 n8 c8, .slice p9 n9 c9, .int .i64 x10, .slice p11 n11 c11], .agg #[.int .i64 a0, .int .i64 a1, .int .i64 a2], .pointer (some ⟨w.heap.size, 0, none⟩), .pointer (some ⟨w.heap.size + 1, 0, none⟩), .bool false, .pointer (some ⟨w.heap.size + 1 + 1, 0, none⟩), .int .i64 k, u7, u8, u9, u10, u11, u12, u13, u14, u15, u16, u17, u18, u19, u20, u21, u22], defers := [] } ∧ 1 ≤ k ∧ k ≤ 2 ∧ Hid (β = false ∧ (1 < k → γ = false)) ∧ Hid (Below (((w.alloc (.cells #[.slice p0 n0 c0, .slice p1 n1 c1, .slice p2 n2 c2, .int .i64 x3, .int .i64 x4, .slice p5 n5 c5, .slice p6 n6 c6, .slice p7 n7 c7, .slice p8 n8 c8, .slice p9 n9 c9, .int .i64 x10, .slice p11 n11 c11] 60)).alloc (.cells #[.int .i64 a0, .int .i64 a1, .int .i64 a2] 96)).alloc (.cells #[.func (.func 73) #[] #[], .func (.func 74) #[] #[]] 146)).heap.size (((w.alloc (.cells #[.slice p0 n0 c0, .slice p1 n1 c1, .slice p2 n2 c2, .int .i64 x3, .int .i64 x4, .slice p5 n5 c5, .slice p6 n6 c6, .slice p7 n7 c7, .slice p8 n8 c8, .slice p9 n9 c9, .int .i64 x10, .slice p11 n11 c11] 60)).alloc (.cells #[.int .i64 a0, .int .i64 a1, .int .i64 a2] 96)).alloc (.cells #[.func (.func 73) #[] #[], .func (.func 74) #[] #[]] 146)) w')) (fun a' _ => 3 - (intOf (a'.tmps.getD 6 undef)).toNat) rfl ?_ ?_
  · go_wp2_with fail
    generalize hV : (((w.alloc (.cells #[.slice p0 n0 c0, .slice p1 n1 c1, .slice p2 n2 c2, .int .i64 x3, .int .i64 x4, .slice p5 n5 c5, .slice p6 n6 c6, .slice p7 n7 c7, .slice p8 n8 c8, .slice p9 n9 c9, .int .i64 x10, .slice p11 n11 c11] 60)).alloc (.cells #[.int .i64 a0, .int .i64 a1, .int .i64 a2] 96)).alloc (.cells #[.func (.func 73) #[] #[], .func (.func 74) #[] #[]] 146)) = V at HB HX HF HY H0 H2 H9 ⊢
    have HV := Lib.hid hV
    clear hV
    go_step3
    have HBr := Lib.hid (Below.refl V.heap.size V)
    go_wp2_with fail
    have HC : Hid (∀ w', Qt.Keeps (V) w' → w'.cell? ⟨w.heap.size, 0, none⟩ = some (.slice p0 n0 c0) ∧ w'.cell? ⟨w.heap.size, 1, none⟩ = some (.slice p1 n1 c1) ∧ w'.cell? ⟨w.heap.size, 2, none⟩ = some (.slice p2 n2 c2) ∧ w'.cell? ⟨w.heap.size, 3, none⟩ = some (.int .i64 x3) ∧ w'.cell? ⟨w.heap.size, 4, none⟩ = some (.int .i64 x4) ∧ w'.cell? ⟨w.heap.size, 5, none⟩ = some (.slice p5 n5 c5) ∧ w'.cell? ⟨w.heap.size, 6, none⟩ = some (.slice p6 n6 c6) ∧ w'.cell? ⟨w.heap.size, 7, none⟩ = some (.slice p7 n7 c7) ∧ w'.cell? ⟨w.heap.size, 8, none⟩ = some (.slice p8 n8 c8) ∧ w'.cell? ⟨w.heap.size, 9, none⟩ = some (.slice p9 n9 c9) ∧ w'.cell? ⟨w.heap.size, 10, none⟩ = some (.int .i64 x10) ∧ w'.cell? ⟨w.heap.size, 11, none⟩ = some (.slice p11 n11 c11) ∧ w'.cell? ⟨w.heap.size + 1, 0, none⟩ = some (.int .i64 a0) ∧ w'.cell? ⟨w.heap.size + 1, 1, none⟩ = some (.int .i64 a1) ∧ w'.cell? ⟨w.heap.size + 1, 2, none⟩ = some (.int .i64 a2) ∧ w'.cell? ⟨w.heap.size + 1 + 1, 0, none⟩ = some (.func (.func 73) #[] #[]) ∧ w'.cell? ⟨w.heap.size + 1 + 1, 1, none⟩ = some (.func (.func 74) #[] #[])) := Lib.hid fun w' hw => let g := DpWorld.bxc (HY.out.below (below_on HBr.out hw)); let h := SlAuthority.bxc (HX.out.below (below_on HBr.out hw)); let f := HF.out.below (below_on HBr.out hw); ⟨g.1, g.2.1, g.2.2.1, g.2.2.2.1, g.2.2.2.2.1, g.2.2.2.2.2.1, g.2.2.2.2.2.2.1, g.2.2.2.2.2.2.2.1, g.2.2.2.2.2.2.2.2.1, g.2.2.2.2.2.2.2.2.2.1, g.2.2.2.2.2.2.2.2.2.2.1, g.2.2.2.2.2.2.2.2.2.2.2, h.1, h.2.1, h.2.2, f.cell rfl, f.cell rfl⟩
    refine Qt.region (Qt.Keeps (V)) (by kernel_rfl) (by kernel_rfl) (Qt.Keeps.drew _) ?_
    repeat (first
      | go_big_quiet_skip
      | (go_big_quiet_want
         refine Qt.val (v := ?_) (fun w hw => ?_) ?_
         rotate_left
         · obtain ⟨k0, k1, k2, k3, k4, k5, k6, k7, k8, k9, k10, k11, v0, v1, v2, q0, q1⟩ := HC.out w hw
           go_simp
           rfl
         simp only [Act.put, List.setIfInBounds_toArray, List.set_cons_zero, List.set_cons_succ]
         go_big_quiet_on)
      | (go_big_quiet_want
         refine Qt.call (v := .bool β) (f := 73) (args := #[.agg #[.slice p0 n0 c0, .slice p1 n1 c1, .slice p2 n2 c2, .int .i64 x3, .int .i64 x4, .slice p5 n5 c5, .slice p6 n6 c6, .slice p7 n7 c7, .slice p8 n8 c8, .slice p9 n9 c9, .int .i64 x10, .slice p11 n11 c11], .agg #[.int .i64 a0, .int .i64 a1, .int .i64 a2]]) (fun w hw => ?_) (fun w hw => ?_) ?_
         · go_simp
         · refine (lying_any _ _ _ _ _ _ _ _ _ x3 x4 _ _ _ _ _ _ _ _ _ _ _ _ l9 _ _ _ x10 _ _ _ a0 a1 a2 _ (H9.out.below (below_on HBr.out hw))).mono ?_
           rintro e w1 ⟨rfl, hb1⟩
           rw [HBt.out]
           exact ⟨rfl, hw.then hb1⟩
         simp only [Act.put, List.setIfInBounds_toArray, List.set_cons_zero, List.set_cons_succ]
         go_big_quiet_on))
    refine wpQuiet_nil ?_
    intro w1 hw1
    have HB1 := Lib.hid (below_on HBr.out hw1)
    clear hw1
    cases β
    · go_wp2_with fail
      go_step3
      exact ⟨rfl, ⟨1, _, _, _, _, _, _, _, _, _, _, _, _, _, _, _, _, rfl, by omega, by omega, Lib.hid ⟨rfl, fun h => absurd h (by omega)⟩, by first | exact HB1 | (rw [HV.out]; exact HB1)⟩⟩
    · have HRt : Hid (fal l0 l2 x4 l9 (a0, a1, a2) = true) := Lib.hid (by rw [HS.out]; simp)
      go_wp2_with fail
      simp only [Exit.jump]
      go_ret
      exact val_of (by rw [HRt.out]; first | done | rfl) (below_on HB.out HB1.out)
  · rintro a' wr ⟨k, u7, u8, u9, u10, u11, u12, u13, u14, u15, u16, u17, u18, u19, u20, u21, u22, rfl, hk1, hk2, HP, HBr⟩
    generalize hV : (((w.alloc (.cells #[.slice p0 n0 c0, .slice p1 n1 c1, .slice p2 n2 c2, .int .i64 x3, .int .i64 x4, .slice p5 n5 c5, .slice p6 n6 c6, .slice p7 n7 c7, .slice p8 n8 c8, .slice p9 n9 c9, .int .i64 x10, .slice p11 n11 c11] 60)).alloc (.cells #[.int .i64 a0, .int .i64 a1, .int .i64 a2] 96)).alloc (.cells #[.func (.func 73) #[] #[], .func (.func 74) #[] #[]] 146)) = V at HB HX HF HY H0 H2 H9 HBr ⊢
    have HV := Lib.hid hV
    clear hV
    rcases (show k = 1 ∨ k = 2 by omega) with rfl | rfl
    · skip
      go_wp2_with fail
      have HC : Hid (∀ w', Qt.Keeps (wr) w' → w'.cell? ⟨w.heap.size, 0, none⟩ = some (.slice p0 n0 c0) ∧ w'.cell? ⟨w.heap.size, 1, none⟩ = some (.slice p1 n1 c1) ∧ w'.cell? ⟨w.heap.size, 2, none⟩ = some (.slice p2 n2 c2) ∧ w'.cell? ⟨w.heap.size, 3, none⟩ = some (.int .i64 x3) ∧ w'.cell? ⟨w.heap.size, 4, none⟩ = some (.int .i64 x4) ∧ w'.cell? ⟨w.heap.size, 5, none⟩ = some (.slice p5 n5 c5) ∧ w'.cell? ⟨w.heap.size, 6, none⟩ = some (.slice p6 n6 c6) ∧ w'.cell? ⟨w.heap.size, 7, none⟩ = some (.slice p7 n7 c7) ∧ w'.cell? ⟨w.heap.size, 8, none⟩ = some (.slice p8 n8 c8) ∧ w'.cell? ⟨w.heap.size, 9, none⟩ = some (.slice p9 n9 c9) ∧ w'.cell? ⟨w.heap.size, 10, none⟩ = some (.int .i64 x10) ∧ w'.cell? ⟨w.heap.size, 11, none⟩ = some (.slice p11 n11 c11) ∧ w'.cell? ⟨w.heap.size + 1, 0, none⟩ = some (.int .i64 a0) ∧ w'.cell? ⟨w.heap.size + 1, 1, none⟩ = some (.int .i64 a1) ∧ w'.cell? ⟨w.heap.size + 1, 2, none⟩ = some (.int .i64 a2) ∧ w'.cell? ⟨w.heap.size + 1 + 1, 0, none⟩ = some (.func (.func 73) #[] #[]) ∧ w'.cell? ⟨w.heap.size + 1 + 1, 1, none⟩ = some (.func (.func 74) #[] #[])) := Lib.hid fun w' hw => let g := DpWorld.bxc (HY.out.below (below_on HBr.out hw)); let h := SlAuthority.bxc (HX.out.below (below_on HBr.out hw)); let f := HF.out.below (below_on HBr.out hw); ⟨g.1, g.2.1, g.2.2.1, g.2.2.2.1, g.2.2.2.2.1, g.2.2.2.2.2.1, g.2.2.2.2.2.2.1, g.2.2.2.2.2.2.2.1, g.2.2.2.2.2.2.2.2.1, g.2.2.2.2.2.2.2.2.2.1, g.2.2.2.2.2.2.2.2.2.2.1, g.2.2.2.2.2.2.2.2.2.2.2, h.1, h.2.1, h.2.2, f.cell rfl, f.cell rfl⟩
      refine Qt.region (Qt.Keeps (wr)) (by kernel_rfl) (by kernel_rfl) (Qt.Keeps.drew _) ?_
      repeat (first
        | go_big_quiet_skip
        | (go_big_quiet_want
           refine Qt.val (v := ?_) (fun w hw => ?_) ?_
           rotate_left
           · obtain ⟨k0, k1, k2, k3, k4, k5, k6, k7, k8, k9, k10, k11, v0, v1, v2, q0, q1⟩ := HC.out w hw
             go_simp
             rfl
           simp only [Act.put, List.setIfInBounds_toArray, List.set_cons_zero, List.set_cons_succ]
           go_big_quiet_on)
        | (go_big_quiet_want
           refine Qt.call (v := .bool γ) (f := 74) (args := #[.agg #[.slice p0 n0 c0, .slice p1 n1 c1, .slice p2 n2 c2, .int .i64 x3, .int .i64 x4, .slice p5 n5 c5, .slice p6 n6 c6, .slice p7 n7 c7, .slice p8 n8 c8, .slice p9 n9 c9, .int .i64 x10, .slice p11 n11 c11], .agg #[.int .i64 a0, .int .i64 a1, .int .i64 a2]]) (fun w hw => ?_) (fun w hw => ?_) ?_
           · go_simp
           · refine (key_any l0 _ _ _ _ _ _ l2 _ _ _ x3 x4 _ _ _ _ _ _ _ _ _ _ _ _ _ _ _ x10 _ _ _ a0 a1 a2 _ (H0.out.below (below_on HBr.out hw)) (H2.out.below (below_on HBr.out hw))).mono ?_
             rintro e w1 ⟨rfl, hb1⟩
             rw [HGt.out]
             exact ⟨rfl, hw.then hb1⟩
           simp only [Act.put, List.setIfInBounds_toArray, List.set_cons_zero, List.set_cons_succ]
           go_big_quiet_on))
      refine wpQuiet_nil ?_
      intro w1 hw1
      have HB1 := Lib.hid (below_on HBr.out hw1)
      clear hw1
      cases γ
      · go_wp2_with fail
        go_step3
        exact ⟨rfl, ⟨2, _, _, _, _, _, _, _, _, _, _, _, _, _, _, _, _, rfl, by omega, by omega, Lib.hid ⟨HP.out.1, fun h => rfl⟩, by first | exact HB1 | (rw [HV.out]; exact HB1)⟩, by simp [intOf]⟩
      · have HRt : Hid (fal l0 l2 x4 l9 (a0, a1, a2) = true) := Lib.hid (by rw [HS.out]; simp)
        go_wp2_with fail
        simp only [Exit.jump]
        go_ret
        exact val_of (by rw [HRt.out]; first | done | rfl) (below_on HB.out HB1.out)
    · have hg := HP.out.2 (by omega)
      have HR : Hid (fal l0 l2 x4 l9 (a0, a1, a2) = false) := Lib.hid (by rw [HS.out, HP.out.1, hg]; rfl)
      clear hg
      go_wp2_with fail
      have HC : Hid (∀ w', Qt.Keeps (wr) w' → w'.cell? ⟨w.heap.size, 0, none⟩ = some (.slice p0 n0 c0) ∧ w'.cell? ⟨w.heap.size, 1, none⟩ = some (.slice p1 n1 c1) ∧ w'.cell? ⟨w.heap.size, 2, none⟩ = some (.slice p2 n2 c2) ∧ w'.cell? ⟨w.heap.size, 3, none⟩ = some (.int .i64 x3) ∧ w'.cell? ⟨w.heap.size, 4, none⟩ = some (.int .i64 x4) ∧ w'.cell? ⟨w.heap.size, 5, none⟩ = some (.slice p5 n5 c5) ∧ w'.cell? ⟨w.heap.size, 6, none⟩ = some (.slice p6 n6 c6) ∧ w'.cell? ⟨w.heap.size, 7, none⟩ = some (.slice p7 n7 c7) ∧ w'.cell? ⟨w.heap.size, 8, none⟩ = some (.slice p8 n8 c8) ∧ w'.cell? ⟨w.heap.size, 9, none⟩ = some (.slice p9 n9 c9) ∧ w'.cell? ⟨w.heap.size, 10, none⟩ = some (.int .i64 x10) ∧ w'.cell? ⟨w.heap.size, 11, none⟩ = some (.slice p11 n11 c11) ∧ w'.cell? ⟨w.heap.size + 1, 0, none⟩ = some (.int .i64 a0) ∧ w'.cell? ⟨w.heap.size + 1, 1, none⟩ = some (.int .i64 a1) ∧ w'.cell? ⟨w.heap.size + 1, 2, none⟩ = some (.int .i64 a2) ∧ w'.cell? ⟨w.heap.size + 1 + 1, 0, none⟩ = some (.func (.func 73) #[] #[]) ∧ w'.cell? ⟨w.heap.size + 1 + 1, 1, none⟩ = some (.func (.func 74) #[] #[])) := Lib.hid fun w' hw => let g := DpWorld.bxc (HY.out.below (below_on HBr.out hw)); let h := SlAuthority.bxc (HX.out.below (below_on HBr.out hw)); let f := HF.out.below (below_on HBr.out hw); ⟨g.1, g.2.1, g.2.2.1, g.2.2.2.1, g.2.2.2.2.1, g.2.2.2.2.2.1, g.2.2.2.2.2.2.1, g.2.2.2.2.2.2.2.1, g.2.2.2.2.2.2.2.2.1, g.2.2.2.2.2.2.2.2.2.1, g.2.2.2.2.2.2.2.2.2.2.1, g.2.2.2.2.2.2.2.2.2.2.2, h.1, h.2.1, h.2.2, f.cell rfl, f.cell rfl⟩
      refine Qt.region (Qt.Keeps (wr)) (by kernel_rfl) (by kernel_rfl) (Qt.Keeps.drew _) ?_
      repeat (first
        | go_big_quiet_skip
        | (go_big_quiet_want
           refine Qt.val (v := ?_) (fun w hw => ?_) ?_
           rotate_left
           · obtain ⟨k0, k1, k2, k3, k4, k5, k6, k7, k8, k9, k10, k11, v0, v1, v2, q0, q1⟩ := HC.out w hw
             go_simp
             rfl
           simp only [Act.put, List.setIfInBounds_toArray, List.set_cons_zero, List.set_cons_succ]
           go_big_quiet_on))
      refine wpQuiet_nil ?_
      intro w1 hw1
      have HB1 := Lib.hid (below_on HBr.out hw1)
      clear hw1
      go_wp2_with fail
      simp only [Exit.jump]
      go_ret
      exact val_of (by rw [HR.out]; first | done | rfl) (below_on HB.out HB1.out)
def RW (ids : List Int) (m : Nat) (q : Option Addr) (d : Nat) (F : Array Value) (w wr : World) : Prop := (Ow .i64 3 wr (w.heap.size + 1) wr.heap.size q m d ids ∧ Below w.heap.size w wr) ∧ Bx wr w.heap.size 60 F
theorem RW.on {ids : List Int} {m : Nat} {q : Option Addr} {d : Nat} {F : Array Value} {w wr w' : World} (h : RW ids m q d F w wr) (hb : Below wr.heap.size wr w') : RW ids m q d F w w' := ⟨⟨(h.1.1.below hb).wide (Nat.le_refl _) hb.size (Nat.le_refl _), below_on h.1.2 hb⟩, h.2.below hb⟩
theorem RW.start (F : Array Value) (w : World) : RW [] 0 (some ⟨w.heap.size + 1, 0, none⟩) 0 F w ((w.alloc (.cells F 60)).alloc (.cells #[] 3)) := by
  have h1 := litN_own 3 (w.alloc (.cells F 60)) (w.heap.size + 1) [] (allK_nil _) (by simp only [World.size_alloc]; omega) (by simp)
  simp only [World.size_alloc] at h1
  exact ⟨⟨h1.wide (Nat.le_refl _) (by simp only [World.size_alloc]; omega) (Nat.le_refl _), bel2 (Dz.box1 w _) (Nat.le_refl _) _⟩, (Bx.new w 60 F).alloc _⟩
set_option maxRecDepth 100000 in
set_option maxHeartbeats 16000000 in
theorem fals_any (l0 : List I5) (p0 : Option Addr) (n0 c0 : Nat) (us : List I3) (p1 : Option Addr) (n1 c1 : Nat) (l2 : List (Int × Int × Int × Int)) (p2 : Option Addr) (n2 c2 : Nat) (x3 x4 : Int) (p5 : Option Addr) (n5 c5 : Nat) (p6 : Option Addr) (n6 c6 : Nat) (p7 : Option Addr) (n7 c7 : Nat) (p8 : Option Addr) (n8 c8 : Nat) (l9 : List Int) (p9 : Option Addr) (n9 c9 : Nat) (x10 : Int) (p11 : Option Addr) (n11 c11 : Nat) {S0 S1 S2 S9 : Nat → Prop} (w : World) (h0 : RdD (flat SlKey.E SlKey.InR) S0 w p0 n0 l0) (h1 : RdD (flat SlAuthority.E SlAuthority.InR) S1 w p1 n1 us) (h2 : RdD (flat SlMethod.E SlMethod.InR) S2 w p2 n2 l2) (h9 : RdD int S9 w p9 n9 l9) (hn : n1 ≤ 1048576) : Calls Tryz.prog 21 #[.agg #[.slice p0 n0 c0, .slice p1 n1 c1, .slice p2 n2 c2, .int .i64 x3, .int .i64 x4, .slice p5 n5 c5, .slice p6 n6 c6, .slice p7 n7 c7, .slice p8 n8 c8, .slice p9 n9 c9, .int .i64 x10, .slice p11 n11 c11]] w fun e w' => ∃ q m d, e = .returned (.slice q m d) ∧ Ow .i64 3 w' w.heap.size w'.heap.size q m d (fals l0 l2 x4 l9 us) ∧ Below w.heap.size w w' := by
  obtain ⟨i0, hi0, hz0, hz1, hz2⟩ := info_parts SlI.info
  have HL := Lib.hid h1.len
  have HR := Lib.hid h1
  have H0 := Lib.hid h0
  have H2 := Lib.hid h2
  have H9 := Lib.hid h9
  have HK0 : Hid (RW (fals l0 l2 x4 l9 (us.take 0)) 0 (some ⟨w.heap.size + 1, 0, none⟩) 0 #[.slice p0 n0 c0, .slice p1 n1 c1, .slice p2 n2 c2, .int .i64 x3, .int .i64 x4, .slice p5 n5 c5, .slice p6 n6 c6, .slice p7 n7 c7, .slice p8 n8 c8, .slice p9 n9 c9, .int .i64 x10, .slice p11 n11 c11] w ((w.alloc (.cells #[.slice p0 n0 c0, .slice p1 n1 c1, .slice p2 n2 c2, .int .i64 x3, .int .i64 x4, .slice p5 n5 c5, .slice p6 n6 c6, .slice p7 n7 c7, .slice p8 n8 c8, .slice p9 n9 c9, .int .i64 x10, .slice p11 n11 c11] 60)).alloc (.cells #[] 3))) := Lib.hid (RW.start _ w)
  clear h0 h1 h2 h9
  obtain ⟨k0, k1, k2, k3, k4, k5, k6, k7, k8, k9, k10, k11⟩ := DpWorld.bxc HK0.out.2
  go_enter Tryz.func21, Tryz.ntmps21
  go_wp2_with fail
  generalize ((w.alloc (.cells #[.slice p0 n0 c0, .slice p1 n1 c1, .slice p2 n2 c2, .int .i64 x3, .int .i64 x4, .slice p5 n5 c5, .slice p6 n6 c6, .slice p7 n7 c7, .slice p8 n8 c8, .slice p9 n9 c9, .int .i64 x10, .slice p11 n11 c11] 60)).alloc (.cells #[] 3)) = V at HK0 k0 k1 k2 k3 k4 k5 k6 k7 k8 k9 k10 k11 ⊢
  clear k0 k1 k2 k3 k4 k5 k6 k7 k8 k9 k10 k11
  go_loopw [3, 11] (fun v i wr => ∃ (k m d : Nat) (q : Option Addr), k ≤ n1 ∧ i = .int .i64 k ∧ v = .slice q m d ∧ m ≤ k ∧ Hid (RW (fals l0 l2 x4 l9 (us.take k)) m q d #[.slice p0 n0 c0, .slice p1 n1 c1, .slice p2 n2 c2, .int .i64 x3, .int .i64 x4, .slice p5 n5 c5, .slice p6 n6 c6, .slice p7 n7 c7, .slice p8 n8 c8, .slice p9 n9 c9, .int .i64 x10, .slice p11 n11 c11] w wr)) (fun _ i _ => n1 - (intOf i).toNat)
  case atStart => exact ⟨0, 0, _, _, Nat.zero_le _, rfl, rfl, Nat.le_refl _, HK0⟩
  case round =>
    obtain ⟨k, m, d, q, hk, rfl, rfl, hmk, HK⟩ := hrel
    by_cases hlt : k < n1
    · obtain ⟨b, o, x, cs, rfl, _, hbw, hx, hc, hrd⟩ := HR.out.at_ hlt
      obtain ⟨a0, a1, a2⟩ := x
      obtain ⟨rfl, hin⟩ := hrd
      have HX := Lib.hid hx
      have HIN : Hid (InI a0) := Lib.hid hin.1
      have u0 : wr.cell? ⟨b, o + k * 3, none⟩ = some (.int .i64 a0) := (HK.out.1.2.cell (p := ⟨b, o + k * 3 + 0, none⟩) hbw).trans (hc 0 _ rfl)
      have u1 : wr.cell? ⟨b, o + k * 3 + 1, none⟩ = some (.int .i64 a1) := (HK.out.1.2.cell (p := ⟨b, o + k * 3 + 1, none⟩) hbw).trans (hc 1 _ rfl)
      have u2 : wr.cell? ⟨b, o + k * 3 + 2, none⟩ = some (.int .i64 a2) := (HK.out.1.2.cell (p := ⟨b, o + k * 3 + 2, none⟩) hbw).trans (hc 2 _ rfl)
      clear hx hc hin
      have i1 : (0 : Int) ≤ (k : Int) := by omega
      have i2 : (k : Int) < (n1 : Int) := by omega
      have HAB := Lib.hid (Bx.new wr 96 #[.int .i64 a0, .int .i64 a1, .int .i64 a2])
      have HK1 := Lib.hid (HK.out.on (Dz.box1 wr (.cells #[.int .i64 a0, .int .i64 a1, .int .i64 a2] 96)))
      skip
      obtain ⟨k0, k1, k2, k3, k4, k5, k6, k7, k8, k9, k10, k11⟩ := DpWorld.bxc HK1.out.2
      obtain ⟨v0, v1, v2⟩ := SlAuthority.bxc HAB.out
      obtain ⟨β, hβ⟩ : ∃ z, fal l0 l2 x4 l9 (a0, a1, a2) = z := ⟨_, rfl⟩
      have HS := Lib.hid hβ
      clear hβ
      go_wp2_with fail
      refine (false_any l0 _ _ _ _ _ _ l2 _ _ _ x3 x4 _ _ _ _ _ _ _ _ _ _ _ _ l9 _ _ _ x10 _ _ _ a0 a1 a2 _ (H0.out.below HK1.out.1.2) (H2.out.below HK1.out.1.2) (H9.out.below HK1.out.1.2)).mono ?_
      rintro e w1 ⟨rfl, hb⟩
      rw [HS.out]
      have HK2 := Lib.hid (HK1.out.on hb)
      have HA2 := Lib.hid (HAB.out.below hb)
      clear hb u0 u1 u2 k0 k1 k2 k3 k4 k5 k6 k7 k8 k9 k10 k11 v0 v1 v2
      obtain ⟨v0, v1, v2⟩ := SlAuthority.bxc HA2.out
      cases β
      · have HN := Lib.hid (fals_no HX.out HS.out)
        have HK3 : Hid (RW (fals l0 l2 x4 l9 (us.take (k + 1))) m q d #[.slice p0 n0 c0, .slice (some ⟨b, o, none⟩) n1 c1, .slice p2 n2 c2, .int .i64 x3, .int .i64 x4, .slice p5 n5 c5, .slice p6 n6 c6, .slice p7 n7 c7, .slice p8 n8 c8, .slice p9 n9 c9, .int .i64 x10, .slice p11 n11 c11] w w1) := Lib.hid (by rw [HN.out]; exact HK2.out)
        go_wp2_with fail
        go_roundw
        case rel => exact ⟨k + 1, m, d, q, by omega, by go_num, rfl, by omega, HK3⟩
        case measure => simp [intOf]; omega
      · have HN := Lib.hid (fals_yes HX.out HS.out)
        have hsz : w.heap.size + 1 ≤ w1.heap.size := HK2.out.2.lt
        have HLit := Lib.hid (lit1 w1 a0 HIN.out)
        have HZ : Hid (w.heap.size + 1 ≤ (w1.alloc (.cells #[.int .i64 a0] 3)).heap.size) := Lib.hid (by rw [World.size_alloc]; omega)
        clear hsz
        go_wp2_with (at_builtin; refine wpList_appR rfl (.tmp 18) (.tmp 21) 32 rfl i0 _ 8 Tryz.underlying32 hi0 hz0 hz1 hz2 rfl rfl (HK2.out.1.1.alloc _) _ _ _ _ rfl HLit.out HZ.out (by omega) (by omega) ?_; intro p_ c_ w_ how_ hg_; rw [← HN.out] at how_; have HK4 : Hid (RW (fals l0 l2 x4 l9 (us.take (k + 1))) (m + 1) p_ c_ #[.slice p0 n0 c0, .slice (some ⟨b, o, none⟩) n1 c1, .slice p2 n2 c2, .int .i64 x3, .int .i64 x4, .slice p5 n5 c5, .slice p6 n6 c6, .slice p7 n7 c7, .slice p8 n8 c8, .slice p9 n9 c9, .int .i64 x10, .slice p11 n11 c11] w w_) := Lib.hid ⟨⟨how_, (bel2 HK2.out.1.2 (Nat.le_refl _) _).grown hg_ (by have h1 := HK2.out.1.2.size; rw [World.size_alloc]; omega) (fun g e => by have := (HK2.out.1.1.alloc (.cells #[.int .i64 a0] 3)).far g e; omega)⟩, (HK2.out.2.alloc _).grown hg_ (fun e => by have := (HK2.out.1.1.alloc (.cells #[.int .i64 a0] 3)).far _ e.symm; omega)⟩; clear how_ hg_)
        go_roundw
        case rel => exact ⟨k + 1, m + 1, _, _, by omega, by go_num, rfl, by omega, HK4⟩
        case measure => simp [intOf]; omega
    · obtain rfl : k = n1 := by omega
      have HA : Hid (us.take k = us) := Lib.hid (List.take_of_length_le (by rw [HL.out]; exact Nat.le_refl _))
      skip
      go_wp2_with fail
      go_ret
      exact ⟨_, _, _, rfl, by have h := HK.out.1.1; rw [HA.out] at h; exact h.wide (by omega) (Nat.le_refl _) (Nat.le_refl _), HK.out.1.2⟩
set_option maxRecDepth 100000 in
set_option maxHeartbeats 16000000 in
theorem spec_fals_any (l0 : List I5) (p0 : Option Addr) (n0 c0 : Nat) (us : List I3) (p1 : Option Addr) (n1 c1 : Nat) (l2 : List (Int × Int × Int × Int)) (p2 : Option Addr) (n2 c2 : Nat) (x3 x4 : Int) (p5 : Option Addr) (n5 c5 : Nat) (p6 : Option Addr) (n6 c6 : Nat) (p7 : Option Addr) (n7 c7 : Nat) (p8 : Option Addr) (n8 c8 : Nat) (l9 : List Int) (p9 : Option Addr) (n9 c9 : Nat) (x10 : Int) (p11 : Option Addr) (n11 c11 : Nat) {S0 S1 S2 S9 : Nat → Prop} (w : World) (h0 : RdD (flat SlKey.E SlKey.InR) S0 w p0 n0 l0) (h1 : RdD (flat SlAuthority.E SlAuthority.InR) S1 w p1 n1 us) (h2 : RdD (flat SlMethod.E SlMethod.InR) S2 w p2 n2 l2) (h9 : RdD int S9 w p9 n9 l9) (hn : n1 ≤ 1048576) : Calls Tryz.prog 19 #[.agg #[.slice p0 n0 c0, .slice p1 n1 c1, .slice p2 n2 c2, .int .i64 x3, .int .i64 x4, .slice p5 n5 c5, .slice p6 n6 c6, .slice p7 n7 c7, .slice p8 n8 c8, .slice p9 n9 c9, .int .i64 x10, .slice p11 n11 c11]] w fun e w' => ∃ q m d, e = .returned (.slice q m d) ∧ Ow .i64 3 w' w.heap.size w'.heap.size q m d (fals l0 l2 x4 l9 us) ∧ Below w.heap.size w w' := by
  obtain ⟨i0, hi0, hz0, hz1, hz2⟩ := info_parts SlI.info
  have HL := Lib.hid h1.len
  have HR := Lib.hid h1
  have H0 := Lib.hid h0
  have H2 := Lib.hid h2
  have H9 := Lib.hid h9
  have HK0 : Hid (RW (fals l0 l2 x4 l9 (us.take 0)) 0 (some ⟨w.heap.size + 1, 0, none⟩) 0 #[.slice p0 n0 c0, .slice p1 n1 c1, .slice p2 n2 c2, .int .i64 x3, .int .i64 x4, .slice p5 n5 c5, .slice p6 n6 c6, .slice p7 n7 c7, .slice p8 n8 c8, .slice p9 n9 c9, .int .i64 x10, .slice p11 n11 c11] w ((w.alloc (.cells #[.slice p0 n0 c0, .slice p1 n1 c1, .slice p2 n2 c2, .int .i64 x3, .int .i64 x4, .slice p5 n5 c5, .slice p6 n6 c6, .slice p7 n7 c7, .slice p8 n8 c8, .slice p9 n9 c9, .int .i64 x10, .slice p11 n11 c11] 60)).alloc (.cells #[] 3))) := Lib.hid (RW.start _ w)
  clear h0 h1 h2 h9
  obtain ⟨k0, k1, k2, k3, k4, k5, k6, k7, k8, k9, k10, k11⟩ := DpWorld.bxc HK0.out.2
  go_enter Tryz.func19, Tryz.ntmps19
  go_wp2_with fail
  generalize ((w.alloc (.cells #[.slice p0 n0 c0, .slice p1 n1 c1, .slice p2 n2 c2, .int .i64 x3, .int .i64 x4, .slice p5 n5 c5, .slice p6 n6 c6, .slice p7 n7 c7, .slice p8 n8 c8, .slice p9 n9 c9, .int .i64 x10, .slice p11 n11 c11] 60)).alloc (.cells #[] 3)) = V at HK0 k0 k1 k2 k3 k4 k5 k6 k7 k8 k9 k10 k11 ⊢
  clear k0 k1 k2 k3 k4 k5 k6 k7 k8 k9 k10 k11
  go_loopw [3, 4] (fun v i wr => ∃ (k m d : Nat) (q : Option Addr), k ≤ n1 ∧ i = .int .i64 k ∧ v = .slice q m d ∧ m ≤ k ∧ Hid (RW (fals l0 l2 x4 l9 (us.take k)) m q d #[.slice p0 n0 c0, .slice p1 n1 c1, .slice p2 n2 c2, .int .i64 x3, .int .i64 x4, .slice p5 n5 c5, .slice p6 n6 c6, .slice p7 n7 c7, .slice p8 n8 c8, .slice p9 n9 c9, .int .i64 x10, .slice p11 n11 c11] w wr)) (fun _ i _ => n1 - (intOf i).toNat)
  case atStart => exact ⟨0, 0, _, _, Nat.zero_le _, rfl, rfl, Nat.le_refl _, HK0⟩
  case round =>
    obtain ⟨k, m, d, q, hk, rfl, rfl, hmk, HK⟩ := hrel
    by_cases hlt : k < n1
    · obtain ⟨b, o, x, cs, rfl, _, hbw, hx, hc, hrd⟩ := HR.out.at_ hlt
      obtain ⟨a0, a1, a2⟩ := x
      obtain ⟨rfl, hin⟩ := hrd
      have HX := Lib.hid hx
      have HIN : Hid (InI a0) := Lib.hid hin.1
      have u0 : wr.cell? ⟨b, o + k * 3, none⟩ = some (.int .i64 a0) := (HK.out.1.2.cell (p := ⟨b, o + k * 3 + 0, none⟩) hbw).trans (hc 0 _ rfl)
      have u1 : wr.cell? ⟨b, o + k * 3 + 1, none⟩ = some (.int .i64 a1) := (HK.out.1.2.cell (p := ⟨b, o + k * 3 + 1, none⟩) hbw).trans (hc 1 _ rfl)
      have u2 : wr.cell? ⟨b, o + k * 3 + 2, none⟩ = some (.int .i64 a2) := (HK.out.1.2.cell (p := ⟨b, o + k * 3 + 2, none⟩) hbw).trans (hc 2 _ rfl)
      clear hx hc hin
      have i1 : (0 : Int) ≤ (k : Int) := by omega
      have i2 : (k : Int) < (n1 : Int) := by omega
      have HAB := Lib.hid (Bx.new wr 96 #[.int .i64 a0, .int .i64 a1, .int .i64 a2])
      have HK1 := Lib.hid (HK.out.on (Dz.box1 wr (.cells #[.int .i64 a0, .int .i64 a1, .int .i64 a2] 96)))
      obtain ⟨z0, z1, z2, z3, z4, z5, z6, z7, z8, z9, z10, z11⟩ := DpWorld.bxc HK.out.2
      obtain ⟨k0, k1, k2, k3, k4, k5, k6, k7, k8, k9, k10, k11⟩ := DpWorld.bxc HK1.out.2
      obtain ⟨v0, v1, v2⟩ := SlAuthority.bxc HAB.out
      obtain ⟨β, hβ⟩ : ∃ z, Hx.hasI l9 a0 = z := ⟨_, rfl⟩
      have HBt := Lib.hid hβ
      clear hβ
      go_wp2_with fail
      generalize (wr.alloc (.cells #[.int .i64 a0, .int .i64 a1, .int .i64 a2] 96)) = W2 at HAB HK1 k0 k1 k2 k3 k4 k5 k6 k7 k8 k9 k10 k11 v0 v1 v2 ⊢
      clear u0 u1 u2 z0 z1 z2 z3 z4 z5 z6 z7 z8 z9 z10 z11
      refine (Hx.l7Has_any _ _ _ l9 a0 _ (H9.out.below HK1.out.1.2).ints).mono ?_
      rintro e w1 ⟨rfl, rfl⟩
      rw [HBt.out]
      cases β
      · obtain ⟨γ, hγ⟩ : ∃ z, Ist.stolen l0 l2 x4 a1 = z := ⟨_, rfl⟩
        have HGt := Lib.hid hγ
        have HS : Hid (fal l0 l2 x4 l9 (a0, a1, a2) = γ) := Lib.hid (by unfold fal; rw [HBt.out, hγ]; rfl)
        clear hγ
        go_wp2_with fail
        refine (Ist.spec_stolen_any l0 _ _ _ _ _ _ l2 _ _ _ x3 x4 a1 _ (H0.out.below HK1.out.1.2) (H2.out.below HK1.out.1.2)).mono ?_
        rintro e w3 ⟨rfl, hb⟩
        rw [HGt.out]
        have HK2 := Lib.hid (HK1.out.on hb)
        have HA2 := Lib.hid (HAB.out.below hb)
        clear hb k0 k1 k2 k3 k4 k5 k6 k7 k8 k9 k10 k11 v0 v1 v2
        obtain ⟨v0, v1, v2⟩ := SlAuthority.bxc HA2.out
        cases γ
        · have HN := Lib.hid (fals_no HX.out HS.out)
          have HK3 : Hid (RW (fals l0 l2 x4 l9 (us.take (k + 1))) m q d #[.slice p0 n0 c0, .slice (some ⟨b, o, none⟩) n1 c1, .slice p2 n2 c2, .int .i64 x3, .int .i64 x4, .slice p5 n5 c5, .slice p6 n6 c6, .slice p7 n7 c7, .slice p8 n8 c8, .slice p9 n9 c9, .int .i64 x10, .slice p11 n11 c11] w w3) := Lib.hid (by rw [HN.out]; exact HK2.out)
          go_wp2_with fail
          go_roundw
          case rel => exact ⟨k + 1, m, d, q, by omega, by go_num, rfl, by omega, HK3⟩
          case measure => simp [intOf]; omega
        · have HN := Lib.hid (fals_yes HX.out HS.out)
          have hsz : w.heap.size + 1 ≤ w3.heap.size := HK2.out.2.lt
          have HLit := Lib.hid (lit1 w3 a0 HIN.out)
          have HZ : Hid (w.heap.size + 1 ≤ (w3.alloc (.cells #[.int .i64 a0] 3)).heap.size) := Lib.hid (by rw [World.size_alloc]; omega)
          clear hsz
          go_wp2_with (at_builtin; refine wpList_appR rfl (.tmp 33) (.tmp 36) 32 rfl i0 _ 8 Tryz.underlying32 hi0 hz0 hz1 hz2 rfl rfl (HK2.out.1.1.alloc _) _ _ _ _ rfl HLit.out HZ.out (by omega) (by omega) ?_; intro p_ c_ w_ how_ hg_; rw [← HN.out] at how_; have HK4 : Hid (RW (fals l0 l2 x4 l9 (us.take (k + 1))) (m + 1) p_ c_ #[.slice p0 n0 c0, .slice (some ⟨b, o, none⟩) n1 c1, .slice p2 n2 c2, .int .i64 x3, .int .i64 x4, .slice p5 n5 c5, .slice p6 n6 c6, .slice p7 n7 c7, .slice p8 n8 c8, .slice p9 n9 c9, .int .i64 x10, .slice p11 n11 c11] w w_) := Lib.hid ⟨⟨how_, (bel2 HK2.out.1.2 (Nat.le_refl _) _).grown hg_ (by have h1 := HK2.out.1.2.size; rw [World.size_alloc]; omega) (fun g e => by have := (HK2.out.1.1.alloc (.cells #[.int .i64 a0] 3)).far g e; omega)⟩, (HK2.out.2.alloc _).grown hg_ (fun e => by have := (HK2.out.1.1.alloc (.cells #[.int .i64 a0] 3)).far _ e.symm; omega)⟩; clear how_ hg_)
          go_roundw
          case rel => exact ⟨k + 1, m + 1, _, _, by omega, by go_num, rfl, by omega, HK4⟩
          case measure => simp [intOf]; omega
      · have HS : Hid (fal l0 l2 x4 l9 (a0, a1, a2) = true) := Lib.hid (by unfold fal; rw [HBt.out]; rfl)
        skip
        have HN := Lib.hid (fals_yes HX.out HS.out)
        have hsz : w.heap.size + 1 ≤ W2.heap.size := HK1.out.2.lt
        have HLit := Lib.hid (lit1 W2 a0 HIN.out)
        have HZ : Hid (w.heap.size + 1 ≤ (W2.alloc (.cells #[.int .i64 a0] 3)).heap.size) := Lib.hid (by rw [World.size_alloc]; omega)
        clear hsz
        go_wp2_with (at_builtin; refine wpList_appR rfl (.tmp 33) (.tmp 36) 32 rfl i0 _ 8 Tryz.underlying32 hi0 hz0 hz1 hz2 rfl rfl (HK1.out.1.1.alloc _) _ _ _ _ rfl HLit.out HZ.out (by omega) (by omega) ?_; intro p_ c_ w_ how_ hg_; rw [← HN.out] at how_; have HK4 : Hid (RW (fals l0 l2 x4 l9 (us.take (k + 1))) (m + 1) p_ c_ #[.slice p0 n0 c0, .slice (some ⟨b, o, none⟩) n1 c1, .slice p2 n2 c2, .int .i64 x3, .int .i64 x4, .slice p5 n5 c5, .slice p6 n6 c6, .slice p7 n7 c7, .slice p8 n8 c8, .slice p9 n9 c9, .int .i64 x10, .slice p11 n11 c11] w w_) := Lib.hid ⟨⟨how_, (bel2 HK1.out.1.2 (Nat.le_refl _) _).grown hg_ (by have h1 := HK1.out.1.2.size; rw [World.size_alloc]; omega) (fun g e => by have := (HK1.out.1.1.alloc (.cells #[.int .i64 a0] 3)).far g e; omega)⟩, (HK1.out.2.alloc _).grown hg_ (fun e => by have := (HK1.out.1.1.alloc (.cells #[.int .i64 a0] 3)).far _ e.symm; omega)⟩; clear how_ hg_)
        go_roundw
        case rel => exact ⟨k + 1, m + 1, _, _, by omega, by go_num, rfl, by omega, HK4⟩
        case measure => simp [intOf]; omega
    · obtain rfl : k = n1 := by omega
      have HA : Hid (us.take k = us) := Lib.hid (List.take_of_length_le (by rw [HL.out]; exact Nat.le_refl _))
      obtain ⟨k0, k1, k2, k3, k4, k5, k6, k7, k8, k9, k10, k11⟩ := DpWorld.bxc HK.out.2
      go_wp2_with fail
      go_ret
      exact ⟨_, _, _, rfl, by have h := HK.out.1.1; rw [HA.out] at h; exact h.wide (by omega) (Nat.le_refl _) (Nat.le_refl _), HK.out.1.2⟩
end Go.Proofs.YtpjckbdljbpliaaGreat.Fal
