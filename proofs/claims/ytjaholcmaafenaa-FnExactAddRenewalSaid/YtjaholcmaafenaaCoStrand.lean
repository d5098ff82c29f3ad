/- Copies of the call's own, in the program. -/
import Derived.Test.YtjaholcmaafenaaLdStrand
import Derived.Test.YtjaholcmaafenaaCoPiece
import Derived.Test.YtjaholcmaafenaaCoRenewal
import Derived.Test.YtjaholcmaafenaaCps
import Derived.Lib.SliceRun
import Derived.OpenShut
import Derived.LoopTactic
import Derived.Outline
import Derived.Deep.RegionHeld3
import Derived.KernelRfl
namespace Go.Proofs.Ytjaholcmaafenaa.CoStrand
open Go.ChangeShapes Go.WideShapes Go.ChangeAt Go.RowKit Sl St Ed Ek Lf
theorem mkV {lo hi : Nat} {w : World} {l0 : List DpPiece.A} {p0 : Option Addr} {n0 c0 a0 e0 : Nat} {l1 : List DpRenewal.A} {p1 : Option Addr} {n1 c1 a1 e1 : Nat} (h0 : OwnD DpPiece.E LdPiece.L a0 e0 w p0 n0 l0) (h1 : OwnD DpRenewal.E LdRenewal.L a1 e1 w p1 n1 l1) (k0 : n0 ≤ c0) (k1 : n1 ≤ c1) (r0 : lo ≤ a0) (s0 : a0 ≤ e0) (r1 : e0 ≤ a1) (s1 : a1 ≤ e1) (rz : e1 ≤ hi) : OwnV DpStrand.E LdStrand.L lo hi w [.slice p0 n0 c0, .slice p1 n1 c1] (l0, l1) := by
  refine ⟨DpStrand.mk (RRd.wide h0.rr (by omega) (by omega)) (RRd.wide h1.rr (by omega) (by omega)) k0 k1, ?_⟩
  obtain ⟨fs0, f0, d0⟩ := h0.2
  obtain ⟨fs1, f1, d1⟩ := h1.2
  have hL : ∃ f, LdStrand.L.rd (Rg lo hi w) w [.slice p0 n0 c0, .slice p1 n1 c1] f ∧ ∀ b o, f b o = ((lvs p0 LdPiece.L.C fs0) ++ (lvs p1 LdRenewal.L.C fs1)) := ⟨_, ⟨[.slice p0 n0 c0], [.slice p1 n1 c1], _, _, rfl, ⟨p0, n0, c0, fs0, rfl, k0, RRd.wide f0 (by omega) (by omega), rfl⟩, ⟨p1, n1, c1, fs1, rfl, k1, RRd.wide f1 (by omega) (by omega), rfl⟩, rfl⟩, fun b o => by rfl⟩
  obtain ⟨f, hf, he⟩ := hL
  refine ⟨f, hf, fun b o hb => ?_⟩
  rw [he]
  exact (Tk.sl (hi := hi) (Tk.first (lo := lo) b o d0 (Inn.of LdPiece.lk.pl f0) r0) hb d1 (Inn.of LdRenewal.lk.pl f1) (by omega) (by omega) s1 (by omega)).nd
set_option maxRecDepth 100000 in
set_option maxHeartbeats 8000000 in
theorem copy_any (l0 : List DpPiece.A) (p0 : Option Addr) (n0 c0 : Nat) (l1 : List DpRenewal.A) (p1 : Option Addr) (n1 c1 : Nat) {S0 S1 : Nat → Prop} (w : World) (h0 : RdD DpPiece.E S0 w p0 n0 l0) (h1 : RdD DpRenewal.E S1 w p1 n1 l1) (hw : DpStrand.E.wt (l0, l1) ≤ 2000000) : Calls Try.prog 100 #[.agg #[.slice p0 n0 c0, .slice p1 n1 c1]] w fun e w' => ∃ (q0 : Option Addr) (d0 : Nat) (q1 : Option Addr) (d1 : Nat), e = .returned (.agg #[.slice q0 n0 d0, .slice q1 n1 d1]) ∧ OwnV DpStrand.E LdStrand.L w.heap.size w'.heap.size w' [.slice q0 n0 d0, .slice q1 n1 d1] (l0, l1) ∧ (∃ mid, w.heap.size ≤ mid ∧ mid ≤ w'.heap.size ∧ OwnD DpPiece.E LdPiece.L w.heap.size mid w' q0 n0 l0 ∧ OwnD DpRenewal.E LdRenewal.L mid w'.heap.size w' q1 n1 l1) ∧ n0 ≤ d0 ∧ n1 ≤ d1 ∧ Below w.heap.size w w' := by
  have hw2 := hw
  rw [DpStrand.wt_eq] at hw2
  have z0 : n0 + wts DpPiece.E l0 ≤ 2000000 := by have h2 := h0.len; omega
  have z1 : n1 + wts DpRenewal.E l1 ≤ 2000000 := by have h2 := h1.len; omega
  clear hw hw2
  have Gh0 := Lib.hid h0
  have Gh1 := Lib.hid h1
  clear h0 h1
  have b0 := (Bx.new w 36 #[.slice p0 n0 c0, .slice p1 n1 c1]).alloc (.cells #[.slice none 0 0, .slice none 0 0] 36)
  have b1 := Bx.new (w.alloc (.cells #[.slice p0 n0 c0, .slice p1 n1 c1] 36)) 36 #[.slice none 0 0, .slice none 0 0]
  rw [World.size_alloc] at b1
  have HX := Lib.hid b0
  have HR := Lib.hid b1
  have HB : Hid (Below w.heap.size w ((w.alloc (.cells #[.slice p0 n0 c0, .slice p1 n1 c1] 36)).alloc (.cells #[.slice none 0 0, .slice none 0 0] 36))) := Lib.hid (((Below.refl w.heap.size w).alloc (Nat.le_refl _) _).alloc (by simp) _)
  have HSZ : Hid (((w.alloc (.cells #[.slice p0 n0 c0, .slice p1 n1 c1] 36)).alloc (.cells #[.slice none 0 0, .slice none 0 0] 36)).heap.size = w.heap.size + 2) := Lib.hid (by simp)
  clear b0 b1
  go_enter Try.func100, Try.ntmps100
  replace HX := Lib.hid HX.out.drew1
  replace HR := Lib.hid HR.out.drew1
  replace HB : Hid (Below w.heap.size w ((w.alloc (.cells #[.slice p0 n0 c0, .slice p1 n1 c1] 36)).alloc (.cells #[.slice none 0 0, .slice none 0 0] 36)).drew) := Lib.hid (below_drewN HB.out 1)
  obtain ⟨a0, a1⟩ := DpStrand.bxc HX.out
  go_wp2_with fail
  generalize hV : ((w.alloc (.cells #[.slice p0 n0 c0, .slice p1 n1 c1] 36)).alloc (.cells #[.slice none 0 0, .slice none 0 0] 36)) = V at HX HR HB HSZ a0 a1 ⊢
  clear hV
  go_region_held3 (fun w' => w'.cell? ⟨w.heap.size, 0, none⟩ = some (.slice p0 n0 c0) ∧ w'.cell? ⟨w.heap.size, 1, none⟩ = some (.slice p1 n1 c1)) (first | exact DpStrand.bxc HX2.out | exact DpStrand.bxc HX1.out | exact DpStrand.bxc HX.out | go_keep) (first
    | (go_at_call 125; (with_reducible refine (CoPiece.eachK_any _ _ _ _ _ (Gh0.out.below HB.out) z0).mono ?_); rintro e w1 ⟨q0, d0, rfl, ho, hk, hb⟩; have HO1 := Lib.hid ho; have HK1 := Lib.hid hk; have HB1 := Lib.hid (below_on HB.out hb); have HX1 := Lib.hid (HX.out.below hb); have HR1 := Lib.hid (HR.out.below hb); have hs1 := hb.size; clear hb ho hk)
    | (go_at_call 127; (with_reducible refine (CoRenewal.eachK_any _ _ _ _ _ (Gh1.out.below HB1.out) z1).mono ?_); rintro e w2 ⟨q1, d1, rfl, ho, hk, hb⟩; have HO2 := Lib.hid ho; have HK2 := Lib.hid hk; have HB2 := Lib.hid (below_on HB1.out hb); have HR2 := Lib.hid (HR1.out.below hb); have HX2 := Lib.hid (HX1.out.below hb); have HO1a := Lib.hid (HO1.out.below hb); have hs2 := hb.size; clear hb ho hk; have s0 := HR2.out.free 0; have s1 := HR2.out.free 1; obtain ⟨r0, r1⟩ := DpStrand.bxc HR2.out))
  all_goals
    have hV := HSZ.out
    have hVd : V.drew.heap.size = w.heap.size + 2 := hV
    go_wp2_with fail
    have HG0 : OwnD DpPiece.E LdPiece.L w.heap.size w1.heap.size _ q0 n0 l0 := ((HO1a.out.far (q := ⟨w.heap.size + 1, 0, none⟩) (Or.inl (by show w.heap.size + 1 < _; omega)) (.slice q0 n0 d0)).far (q := ⟨w.heap.size + 1, 1, none⟩) (Or.inl (by show w.heap.size + 1 < _; omega)) (.slice q1 n1 d1)).wide (by omega) (Nat.le_refl _)
    have HG1 : OwnD DpRenewal.E LdRenewal.L w1.heap.size w2.heap.size _ q1 n1 l1 := ((HO2.out.far (q := ⟨w.heap.size + 1, 0, none⟩) (Or.inl (by show w.heap.size + 1 < _; omega)) (.slice q0 n0 d0)).far (q := ⟨w.heap.size + 1, 1, none⟩) (Or.inl (by show w.heap.size + 1 < _; omega)) (.slice q1 n1 d1))
    exact bodyPost_ret (v := .agg #[.slice q0 n0 d0, .slice q1 n1 d1]) (by simp [results, Try.results100, go_sem, r0, r1]) rfl ⟨q0, d0, q1, d1, rfl, mkV HG0 HG1 HK1.out HK2.out (Nat.le_refl _) (by omega) (Nat.le_refl _) hs2 (by simp [World.setCell]), ⟨w1.heap.size, by omega, by simp [World.setCell]; omega, HG0, HG1.wide (Nat.le_refl _) (by simp [World.setCell])⟩, HK1.out, HK2.out, ((HB2.out.setCell (p := ⟨w.heap.size + 1, 0, none⟩) (by show w.heap.size ≤ w.heap.size + 1; omega) (.slice q0 n0 d0)).setCell (p := ⟨w.heap.size + 1, 1, none⟩) (by show w.heap.size ≤ w.heap.size + 1; omega) (.slice q1 n1 d1))⟩
end Go.Proofs.Ytjaholcmaafenaa.CoStrand
