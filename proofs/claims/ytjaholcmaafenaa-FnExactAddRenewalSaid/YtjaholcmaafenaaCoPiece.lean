/- Copies of the call's own, in the program. -/
import Derived.Test.YtjaholcmaafenaaLdPiece
import Derived.Test.YtjaholcmaafenaaCoA
import Derived.Test.YtjaholcmaafenaaCps
import Derived.Lib.SliceRun
import Derived.OpenShut
import Derived.LoopTactic
import Derived.Outline
import Derived.Deep.RegionHeld3
import Derived.KernelRfl
namespace Go.Proofs.Ytjaholcmaafenaa.CoPiece
open Go.ChangeShapes Go.WideShapes Go.ChangeAt Go.RowKit Sl St Ed Ek Lf
theorem mkV {lo hi : Nat} {w : World} {x0 : Int} {l1 : List Int} {p1 : Option Addr} {n1 c1 a1 e1 : Nat} {x2 : Int} (b0 : InI x0) (h1 : OwnD int lint a1 e1 w p1 n1 l1) (b2 : InI x2) (k1 : n1 ≤ c1) (r1 : lo ≤ a1) (s1 : a1 ≤ e1) (rz : e1 ≤ hi) : OwnV DpPiece.E LdPiece.L lo hi w [.int .i64 x0, .slice p1 n1 c1, .int .i64 x2] (x0, l1, x2) := by
  refine ⟨DpPiece.mk b0 (RRd.wide h1.rr (by omega) (by omega)) b2 k1, ?_⟩
  obtain ⟨fs1, f1, d1⟩ := h1.2
  have hL : ∃ f, LdPiece.L.rd (Rg lo hi w) w [.int .i64 x0, .slice p1 n1 c1, .int .i64 x2] f ∧ ∀ b o, f b o = (([(b, o, mI)] ++ (lvs p1 lint.C fs1)) ++ [(b, o + 2, mI)]) := ⟨_, ⟨[.int .i64 x0], [.slice p1 n1 c1, .int .i64 x2], _, _, rfl, ⟨⟨x0, rfl, b0⟩, rfl⟩, ⟨[.slice p1 n1 c1], [.int .i64 x2], _, _, rfl, ⟨p1, n1, c1, fs1, rfl, k1, RRd.wide f1 (by omega) (by omega), rfl⟩, ⟨⟨x2, rfl, b2⟩, rfl⟩, rfl⟩, rfl⟩, fun b o => by simp only [List.append_assoc]; rfl⟩
  obtain ⟨f, hf, he⟩ := hL
  refine ⟨f, hf, fun b o hb => ?_⟩
  rw [he]
  exact (Tk.cell (hi := hi) (Tk.sl (hi := hi) (Tk.one b o lo mI) hb d1 (Inn.of lk_int.pl f1) (by omega) (by omega) s1 (by omega)) hb (by omega) mI).nd
set_option maxRecDepth 100000 in
set_option maxHeartbeats 4000000 in
theorem copy_any (x0 : Int) (l1 : List Int) (p1 : Option Addr) (n1 c1 : Nat) (x2 : Int) {S : Nat → Prop} (w : World) (b0 : InI x0) (h1 : RdD int S w p1 n1 l1) (b2 : InI x2) (hn : n1 ≤ 2000000) : Calls Try.prog 126 #[.agg #[.int .i64 x0, .slice p1 n1 c1, .int .i64 x2]] w fun e w' => ∃ (q1 : Option Addr) (d1 : Nat), e = .returned (.agg #[.int .i64 x0, .slice q1 n1 d1, .int .i64 x2]) ∧ OwnV DpPiece.E LdPiece.L w.heap.size w'.heap.size w' [.int .i64 x0, .slice q1 n1 d1, .int .i64 x2] (x0, l1, x2) ∧ OwnD int lint w.heap.size w'.heap.size w' q1 n1 l1 ∧ n1 ≤ d1 ∧ Below w.heap.size w w' := by
  have HP := Lib.hid h1
  have Hb0 := Lib.hid b0
  have Hb2 := Lib.hid b2
  clear h1 b0 b2
  have b0 := (Bx.new w 97 #[.int .i64 x0, .slice p1 n1 c1, .int .i64 x2]).alloc (.cells #[.int .i64 0, .slice none 0 0, .int .i64 0] 97)
  have b1 := Bx.new (w.alloc (.cells #[.int .i64 x0, .slice p1 n1 c1, .int .i64 x2] 97)) 97 #[.int .i64 0, .slice none 0 0, .int .i64 0]
  rw [World.size_alloc] at b1
  have HX := Lib.hid b0
  have HR := Lib.hid b1
  have HB : Hid (Below w.heap.size w ((w.alloc (.cells #[.int .i64 x0, .slice p1 n1 c1, .int .i64 x2] 97)).alloc (.cells #[.int .i64 0, .slice none 0 0, .int .i64 0] 97))) := Lib.hid (((Below.refl w.heap.size w).alloc (Nat.le_refl _) _).alloc (by simp) _)
  have HSZ : Hid (((w.alloc (.cells #[.int .i64 x0, .slice p1 n1 c1, .int .i64 x2] 97)).alloc (.cells #[.int .i64 0, .slice none 0 0, .int .i64 0] 97)).heap.size = w.heap.size + 2) := Lib.hid (by simp)
  clear b0 b1
  go_enter Try.func126, Try.ntmps126
  obtain ⟨a0, a1, a2⟩ := DpPiece.bxc HX.out
  go_wp2_with fail
  generalize ((w.alloc (.cells #[.int .i64 x0, .slice p1 n1 c1, .int .i64 x2] 97)).alloc (.cells #[.int .i64 0, .slice none 0 0, .int .i64 0] 97)) = V at HX HR HB HSZ a0 a1 a2 ⊢
  refine (CoI.clone_any _ _ _ _ _ (HP.out.below HB.out) hn).mono ?_
  rintro e w1 ⟨q1, d1, rfl, ho, hk, hb⟩
  have HO := Lib.hid ho
  have HK := Lib.hid hk
  clear a0 a1 a2 ho hk
  replace HX := Lib.hid (HX.out.below hb)
  replace HR := Lib.hid (HR.out.below hb)
  replace HB := Lib.hid (below_on HB.out hb)
  have hsz := hb.size
  clear hb
  obtain ⟨a0, a1, a2⟩ := DpPiece.bxc HX.out
  obtain ⟨r0, r1, r2⟩ := DpPiece.bxc HR.out
  have g1 := HX.out.free 1
  have s0 := HR.out.free 0
  have s1 := HR.out.free 1
  have s2 := HR.out.free 2
  have hV := HSZ.out
  have HF : ∀ {q : Addr} (u : Value), q.block < V.heap.size → True := fun _ _ => trivial
  clear HF
  go_wp2_with fail
  have HG : OwnD int lint w.heap.size w1.heap.size _ q1 n1 l1 := ((((HO.out.far (q := ⟨w.heap.size, 1, none⟩) (Or.inl (by show w.heap.size < _; omega)) (.slice q1 n1 d1)).far (q := ⟨w.heap.size + 1, 0, none⟩) (Or.inl (by show w.heap.size + 1 < _; omega)) (.int .i64 x0)).far (q := ⟨w.heap.size + 1, 1, none⟩) (Or.inl (by show w.heap.size + 1 < _; omega)) (.slice q1 n1 d1)).far (q := ⟨w.heap.size + 1, 2, none⟩) (Or.inl (by show w.heap.size + 1 < _; omega)) (.int .i64 x2)).wide (by omega) (Nat.le_refl _)
  exact bodyPost_ret (v := .agg #[.int .i64 x0, .slice q1 n1 d1, .int .i64 x2]) (by simp [results, Try.results126, go_sem, r0, r1, r2]) rfl ⟨q1, d1, rfl, mkV Hb0.out HG Hb2.out HK.out (Nat.le_refl _) (by omega) (by simp [World.setCell]), HG.wide (Nat.le_refl _) (by simp [World.setCell]), HK.out, ((((HB.out.setCell (p := ⟨w.heap.size, 1, none⟩) (by show w.heap.size ≤ w.heap.size; omega) (.slice q1 n1 d1)).setCell (p := ⟨w.heap.size + 1, 0, none⟩) (by show w.heap.size ≤ w.heap.size + 1; omega) (.int .i64 x0)).setCell (p := ⟨w.heap.size + 1, 1, none⟩) (by show w.heap.size ≤ w.heap.size + 1; omega) (.slice q1 n1 d1)).setCell (p := ⟨w.heap.size + 1, 2, none⟩) (by show w.heap.size ≤ w.heap.size + 1; omega) (.int .i64 x2))⟩
set_option maxRecDepth 100000 in
set_option maxHeartbeats 8000000 in
theorem each_any (p : Option Addr) (n c : Nat) (xs : List DpPiece.A) {S : Nat → Prop} (w : World) (hr : RdD DpPiece.E S w p n xs) (hm : n + wts DpPiece.E xs ≤ 2000000) : Calls Try.prog 125 #[.slice p n c, .func (.func 126) #[] #[]] w fun e w' => ∃ (q : Option Addr), e = .returned (.slice q n n) ∧ OwnD DpPiece.E LdPiece.L w.heap.size w'.heap.size w' q n xs ∧ Below w.heap.size w w' := by
  obtain ⟨i0, hi, hz0, hz1, hz2⟩ := info_parts DpPiece.info
  have HR := Lib.hid hr
  have HL := Lib.hid hr.len
  have HMM := Lib.hid hm
  have hn : n ≤ 2000000 := by omega
  obtain ⟨cl, hcl, has⟩ := raw_of hr
  have HCL := Lib.hid hcl
  have HAS := Lib.hid has
  have HS : Hid ((Try.prog.info? 97).map (·.size) = some (raw DpPiece.E).C) := Lib.hid (by show _ = some 3; kernel_rfl)
  clear hr hm hcl has
  let z0 : Raw DpPiece.E.C := ⟨[.int .i64 0, .slice none 0 0, .int .i64 0], rfl, by intro u hu; simp only [List.mem_cons, List.not_mem_nil, or_false] at hu; rcases hu with rfl | rfl | rfl <;> rfl⟩
  go_enter Try.func125, Try.ntmps125
  go_wp2_with (first
    | (refine wpList_make_full _ rfl _ _ 33 rfl w.heap.size 97 i0 _ 3 Try.underlying33 hi hz0 hz1 .i64 .i64 _ _ n rfl rfl rfl rfl (by rw [hz2]; omega) (by unfold maxLen; omega) (Nat.le_refl _) ?_; intro w1 hown1 hg1; have HM1 : Hid (OwS (raw DpPiece.E) 97 w1 w.heap.size w1.heap.size (some ⟨w.heap.size, 0, none⟩) n n (List.replicate n z0)) := Lib.hid (OwS.of_row (by rw [← made_fl (E := raw DpPiece.E) (.agg #[.int .i64 0, .slice none 0 0, .int .i64 0]) z0 rfl n]; exact hown1)); have HB1 : Hid (Below w.heap.size w w1) := Lib.hid ((Below.refl _ _).grown hg1 (Nat.le_refl _) (fun _ e => by cases e)); clear hown1 hg1)
    | (refine Cps.wpList_copyS (E := raw DpPiece.E) rfl (.tmp 10) (.tmp 11) 33 rfl Try.underlying33 HS.out _ n n _ _ _ cl _ _ rfl HM1.out rfl (HCL.out.below HB1.out) ?_; intro w2 ho2 hg2; have HO2 := Lib.hid ho2; have HB2 := Lib.hid (HB1.out.grown hg2 HB1.out.size (fun g e => by cases e; exact Nat.le_refl _)); clear ho2 hg2))
  have HM : Hid (MidO DpPiece.E LdPiece.L 97 cl xs n 0 w.heap.size w w2) := Lib.hid (MidO.start HO2.out HB2.out (Nat.le_refl _))
  clear HM1 HB1 HO2 HB2 HCL HS
  go_loopw [15] (fun i wr => ∃ k : Nat, k ≤ n ∧ i = .int .i64 k ∧ Hid (MidO DpPiece.E LdPiece.L 97 cl xs n k w.heap.size w wr)) (fun i _ => n - (intOf i).toNat)
  case atStart => exact ⟨0, Nat.zero_le _, rfl, HM⟩
  case round =>
    obtain ⟨k, hk, rfl, HK⟩ := hrel
    by_cases hlt : k < n
    · obtain ⟨x, hx⟩ : ∃ x, xs[k]? = some x := ⟨_, List.getElem?_eq_getElem (by rw [HL.out]; exact hlt)⟩
      obtain ⟨cc, hcc⟩ : ∃ cc, cl[k]? = some cc := ⟨_, List.getElem?_eq_getElem (by have := HAS.out.1; rw [HL.out] at this; omega)⟩
      have hrd := HAS.out.2 k x cc hx hcc
      obtain ⟨hq, hfz⟩ := HK.out.cells hcc
      have HX := Lib.hid hx
      have HW : Hid (DpPiece.E.wt x ≤ 2000000) := Lib.hid (by have h1 := wts_at (E := DpPiece.E) hx; have h2 := HMM.out; omega)
      obtain ⟨cs, hcs⟩ : ∃ cs, cc.cs = cs := ⟨_, rfl⟩
      rw [hcs] at hrd hq
      clear hcs hx hcc
      obtain ⟨x0, l1, x2⟩ := x
      obtain ⟨p1, n1, c1, rfl, b0, h1, b2⟩ := DpPiece.ex hrd
      have z1 : n1 ≤ 2000000 := by have h := HW.out; have h2 := h1.len; simp only [DpPiece.wt_eq] at h; omega
      have Gb0 := Lib.hid b0
      have Gh1 := Lib.hid h1
      have Gb2 := Lib.hid b2
      have u0 : wr.cell? ⟨w.heap.size, k * 3, none⟩ = some (.int .i64 x0) := hq 0 _ rfl
      have u1 : wr.cell? ⟨w.heap.size, k * 3 + 1, none⟩ = some (.slice p1 n1 c1) := hq 1 _ rfl
      have u2 : wr.cell? ⟨w.heap.size, k * 3 + 2, none⟩ = some (.int .i64 x2) := hq 2 _ rfl
      clear hq hrd b0 h1 b2
      have HB := Lib.hid HK.out.below
      have i1 : (0 : Int) ≤ (k : Int) := by omega
      have i2 : (k : Int) < (n : Int) := by omega
      have hlw := HK.out.lt
      go_wp2_with fail
      refine (copy_any _ _ _ _ _ _ _ Gb0.out (Gh1.out.below HB.out) Gb2.out z1).mono ?_
      rintro e w3 ⟨q1, d1, rfl, ho, _, _, hb⟩
      have d0_ : w3.cell? ⟨w.heap.size, k * 3, none⟩ = some (.int .i64 x0) := (hb.cell (p := ⟨w.heap.size, k * 3, none⟩) hlw).trans u0
      have f0_ : w3.frozen? ⟨w.heap.size, k * 3, none⟩ = false := (hb.frozen (p := ⟨w.heap.size, k * 3, none⟩) hlw).trans (hfz _)
      have d1_ : w3.cell? ⟨w.heap.size, k * 3 + 1, none⟩ = some (.slice p1 n1 c1) := (hb.cell (p := ⟨w.heap.size, k * 3 + 1, none⟩) hlw).trans u1
      have f1_ : w3.frozen? ⟨w.heap.size, k * 3 + 1, none⟩ = false := (hb.frozen (p := ⟨w.heap.size, k * 3 + 1, none⟩) hlw).trans (hfz _)
      have d2_ : w3.cell? ⟨w.heap.size, k * 3 + 2, none⟩ = some (.int .i64 x2) := (hb.cell (p := ⟨w.heap.size, k * 3 + 2, none⟩) hlw).trans u2
      have f2_ : w3.frozen? ⟨w.heap.size, k * 3 + 2, none⟩ = false := (hb.frozen (p := ⟨w.heap.size, k * 3 + 2, none⟩) hlw).trans (hfz _)
      have HM2 := Lib.hid (MidO.next LdPiece.lk.C LdPiece.lk.pl HK.out hb hlt HX.out ho)
      clear hfz hb ho u0 u1 u2
      go_wp2_with fail
      go_roundw
      case rel => exact ⟨k + 1, by omega, by go_num, HM2⟩
      case measure => simp [intOf]; omega
    · obtain rfl : k = n := by omega
      have HD := Lib.hid (MidO.done LdPiece.lk.C HK.out HL.out)
      go_wp2_with fail
      go_ret
      exact ⟨_, rfl, HD.out.1, HD.out.2⟩
theorem eachK_any (p : Option Addr) (n c : Nat) (xs : List DpPiece.A) {S : Nat → Prop} (w : World) (hr : RdD DpPiece.E S w p n xs) (hm : n + wts DpPiece.E xs ≤ 2000000) : Calls Try.prog 125 #[.slice p n c, .func (.func 126) #[] #[]] w fun e w' => ∃ (q : Option Addr) (d : Nat), e = .returned (.slice q n d) ∧ OwnD DpPiece.E LdPiece.L w.heap.size w'.heap.size w' q n xs ∧ n ≤ d ∧ Below w.heap.size w w' := by
  refine (each_any p n c xs w hr hm).mono ?_
  rintro e w' ⟨q, rfl, ho, hb⟩
  exact ⟨q, n, rfl, ho, Nat.le_refl _, hb⟩
end Go.Proofs.Ytjaholcmaafenaa.CoPiece
