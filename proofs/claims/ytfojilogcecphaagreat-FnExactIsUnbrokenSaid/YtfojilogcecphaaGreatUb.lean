/- Whether no renewal is lost: in the program and in the reference. -/
import Derived.Test.YtfojilogcecphaaGreatKfA
import Derived.LoopTactic
import Derived.Outline
namespace Go.Proofs.YtfojilogcecphaaGreat.Ub
open Go.ChangeShapes Go.WideShapes Go.ChangeAt Go.RowKit Sl St Ed Dz Fnd Ks
def unb (n f : Nat) : Bool := decide (0 < n) && ((f : Int) == 0)
set_option maxRecDepth 100000 in
set_option maxHeartbeats 8000000 in
theorem unbroken_any (ks : List I5) (pk : Option Addr) (nk ck : Nat) (us : List I3) (pa : Option Addr) (na ca : Nat) (ms : List Mn.Me) (pm : Option Addr) (nm cm : Nat) (L now : Int) (l0 : List DpPiece.A) (p0 : Option Addr) (n0 c0 : Nat) (l1 : List DpRenewal.A) (p1 : Option Addr) (n1 c1 : Nat) (docs : List Int) (q : Option Addr) (d e : Nat) {SK SA SM S0 S1 T : Nat → Prop} (w : World) (hL : InI L) (hk : RdD (flat SlKey.E SlKey.InR) SK w pk nk ks) (ha : RdD (flat SlAuthority.E SlAuthority.InR) SA w pa na us) (hm : RdD (flat SlMethod.E SlMethod.InR) SM w pm nm ms) (h0 : RdD DpPiece.E S0 w p0 n0 l0) (h1 : RdD DpRenewal.E S1 w p1 n1 l1) (hd : RdD int T w q d docs) (hc0 : n0 ≤ c0) (hwt : DpStrand.E.wt (l0, l1) ≤ 1048576) : Calls Tryz.prog 19 #[.agg #[.slice pk nk ck, .slice pa na ca, .slice pm nm cm, .int .i64 L, .int .i64 now], .agg #[.slice p0 n0 c0, .slice p1 n1 c1], .slice q d e] w (Dz.Val (.bool (unb n1 (fk (pas ks us ms L now l0 l1 docs) n1))) w) := by
  have hb : Below w.heap.size w ((w.alloc (.cells #[.slice pk nk ck, .slice pa na ca, .slice pm nm cm, .int .i64 L, .int .i64 now] 39)).alloc (.cells #[.slice p0 n0 c0, .slice p1 n1 c1] 44)) := (Dz.box1 w _).alloc (by simp) _
  have bx1 := (Bx.new w 39 #[.slice pk nk ck, .slice pa na ca, .slice pm nm cm, .int .i64 L, .int .i64 now]).alloc (.cells #[.slice p0 n0 c0, .slice p1 n1 c1] 44)
  have bx2 := Bx.new (w.alloc (.cells #[.slice pk nk ck, .slice pa na ca, .slice pm nm cm, .int .i64 L, .int .i64 now] 39)) 44 #[.slice p0 n0 c0, .slice p1 n1 c1]
  rw [World.size_alloc] at bx2
  obtain ⟨f0, f1, f2, f3, f4⟩ := DpFrame.bxc bx1
  obtain ⟨s0, s1⟩ := DpStrand.bxc bx2
  obtain ⟨ff, hff⟩ : ∃ z, fk (pas ks us ms L now l0 l1 docs) n1 = z := ⟨_, rfl⟩
  rw [hff]
  obtain ⟨β, hβ⟩ : ∃ z, ((ff : Int) == 0) = z := ⟨_, rfl⟩
  by_cases hz : (0 : Int) < (n1 : Int)
  · have hS : unb n1 ff = β := by unfold unb; rw [hβ, decide_eq_true (by omega), Bool.true_and]
    rw [hS]
    clear hS
    go_enter Tryz.func19, Tryz.ntmps19
    go_wp2_with fail
    refine (Fk.first_any ks _ _ _ us _ _ _ ms _ _ _ L now l0 _ _ _ l1 _ _ _ docs _ _ _ ((w.alloc (.cells #[.slice pk nk ck, .slice pa na ca, .slice pm nm cm, .int .i64 L, .int .i64 now] 39)).alloc (.cells #[.slice p0 n0 c0, .slice p1 n1 c1] 44)) hL (hk.below hb) (ha.below hb) (hm.below hb) (h0.below hb) (h1.below hb) (hd.below hb) hc0 hwt).mono ?_
    rintro e w1 ⟨rfl, hb1⟩
    rw [hff]
    go_wp2_with fail
    go_ret
    exact Dz.val_of (by first | rfl | (rw [hβ]; first | done | rfl)) (below_on hb hb1)
  · have hS : unb n1 ff = false := by unfold unb; rw [decide_eq_false (by omega), Bool.false_and]
    rw [hS]
    clear hS
    go_enter Tryz.func19, Tryz.ntmps19
    go_wp2_with fail
    go_ret
    exact Dz.val_of (by first | done | rfl) hb
set_option maxRecDepth 100000 in
set_option maxHeartbeats 8000000 in
theorem spec_unbroken_any (ks : List I5) (pk : Option Addr) (nk ck : Nat) (us : List I3) (pa : Option Addr) (na ca : Nat) (ms : List Mn.Me) (pm : Option Addr) (nm cm : Nat) (L now : Int) (l0 : List DpPiece.A) (p0 : Option Addr) (n0 c0 : Nat) (l1 : List DpRenewal.A) (p1 : Option Addr) (n1 c1 : Nat) (docs : List Int) (q : Option Addr) (d e : Nat) {SK SA SM S0 S1 T : Nat → Prop} (w : World) (hL : InI L) (hk : RdD (flat SlKey.E SlKey.InR) SK w pk nk ks) (ha : RdD (flat SlAuthority.E SlAuthority.InR) SA w pa na us) (hm : RdD (flat SlMethod.E SlMethod.InR) SM w pm nm ms) (h0 : RdD DpPiece.E S0 w p0 n0 l0) (h1 : RdD DpRenewal.E S1 w p1 n1 l1) (hd : RdD int T w q d docs) (hc0 : n0 ≤ c0) (hwt : DpStrand.E.wt (l0, l1) ≤ 1048576) : Calls Tryz.prog 18 #[.agg #[.slice pk nk ck, .slice pa na ca, .slice pm nm cm, .int .i64 L, .int .i64 now], .agg #[.slice p0 n0 c0, .slice p1 n1 c1], .slice q d e] w (Dz.Val (.bool (unb n1 (fk (pas ks us ms L now l0 l1 docs) n1))) w) := by
  have hb : Below w.heap.size w ((w.alloc (.cells #[.slice pk nk ck, .slice pa na ca, .slice pm nm cm, .int .i64 L, .int .i64 now] 39)).alloc (.cells #[.slice p0 n0 c0, .slice p1 n1 c1] 44)) := (Dz.box1 w _).alloc (by simp) _
  have bx1 := (Bx.new w 39 #[.slice pk nk ck, .slice pa na ca, .slice pm nm cm, .int .i64 L, .int .i64 now]).alloc (.cells #[.slice p0 n0 c0, .slice p1 n1 c1] 44)
  have bx2 := Bx.new (w.alloc (.cells #[.slice pk nk ck, .slice pa na ca, .slice pm nm cm, .int .i64 L, .int .i64 now] 39)) 44 #[.slice p0 n0 c0, .slice p1 n1 c1]
  rw [World.size_alloc] at bx2
  obtain ⟨f0, f1, f2, f3, f4⟩ := DpFrame.bxc bx1
  obtain ⟨s0, s1⟩ := DpStrand.bxc bx2
  obtain ⟨ff, hff⟩ : ∃ z, fk (pas ks us ms L now l0 l1 docs) n1 = z := ⟨_, rfl⟩
  rw [hff]
  obtain ⟨β, hβ⟩ : ∃ z, ((ff : Int) == 0) = z := ⟨_, rfl⟩
  by_cases hz : (0 : Int) < (n1 : Int)
  · have hS : unb n1 ff = β := by unfold unb; rw [hβ, decide_eq_true (by omega), Bool.true_and]
    rw [hS]
    clear hS
    go_enter Tryz.func18, Tryz.ntmps18
    go_wp2_with fail
    refine (Fk2.spec_first_any ks _ _ _ us _ _ _ ms _ _ _ L now l0 _ _ _ l1 _ _ _ docs _ _ _ ((w.alloc (.cells #[.slice pk nk ck, .slice pa na ca, .slice pm nm cm, .int .i64 L, .int .i64 now] 39)).alloc (.cells #[.slice p0 n0 c0, .slice p1 n1 c1] 44)) hL (hk.below hb) (ha.below hb) (hm.below hb) (h0.below hb) (h1.below hb) (hd.below hb) hc0 hwt).mono ?_
    rintro e w1 ⟨rfl, hb1⟩
    rw [hff]
    go_wp2_with fail
    go_ret
    exact Dz.val_of (by first | rfl | (rw [hβ]; first | done | rfl)) (below_on hb hb1)
  · have hS : unb n1 ff = false := by unfold unb; rw [decide_eq_false (by omega), Bool.false_and]
    rw [hS]
    clear hS
    go_enter Tryz.func18, Tryz.ntmps18
    go_wp2_with fail
    go_ret
    exact Dz.val_of (by first | done | rfl) hb
end Go.Proofs.YtfojilogcecphaaGreat.Ub
