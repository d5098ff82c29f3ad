/- Copies of the call's own, in the program. -/
import Derived.Test.YtjaholcmaafenaaLdRenewal
import Derived.Test.YtjaholcmaafenaaCoA
import Derived.Test.YtjaholcmaafenaaCps
import Derived.Lib.SliceRun
import Derived.OpenShut
import Derived.LoopTactic
import Derived.Outline
import Derived.Deep.RegionHeld3
import Derived.KernelRfl
namespace Go.Proofs.Ytjaholcmaafenaa.CoRenewal
open Go.ChangeShapes Go.WideShapes Go.ChangeAt Go.RowKit Sl St Ed Ek Lf
theorem mkV {lo hi : Nat} {w : World} {x0 : Int} {x1 : Int} {x2 : Int} {l3 : List (Int × Bool)} {p3 : Option Addr} {n3 c3 a3 e3 : Nat} {l4 : List (Int × Int × Int × Int × Int)} {p4 : Option Addr} {n4 c4 a4 e4 : Nat} (b0 : InI x0) (b1 : InI x1) (b2 : InI x2) (h3 : OwnD (flat SlStep.E SlStep.InR) LdStep.L a3 e3 w p3 n3 l3) (h4 : OwnD (flat SlStamp.E SlStamp.InR) LdStamp.L a4 e4 w p4 n4 l4) (k3 : n3 ≤ c3) (k4 : n4 ≤ c4) (r3 : lo ≤ a3) (s3 : a3 ≤ e3) (r4 : e3 ≤ a4) (s4 : a4 ≤ e4) (rz : e4 ≤ hi) : OwnV DpRenewal.E LdRenewal.L lo hi w [.int .i64 x0, .int .i64 x1, .int .i64 x2, .slice p3 n3 c3, .slice p4 n4 c4] (x0, x1, x2, l3, l4) := by
  refine ⟨DpRenewal.mk b0 b1 b2 (RRd.wide h3.rr (by omega) (by omega)) (RRd.wide h4.rr (by omega) (by omega)) k3 k4, ?_⟩
  obtain ⟨fs3, f3, d3⟩ := h3.2
  obtain ⟨fs4, f4, d4⟩ := h4.2
  have hL : ∃ f, LdRenewal.L.rd (Rg lo hi w) w [.int .i64 x0, .int .i64 x1, .int .i64 x2, .slice p3 n3 c3, .slice p4 n4 c4] f ∧ ∀ b o, f b o = (((([(b, o, mI)] ++ [(b, o + 1, mI)]) ++ [(b, o + 2, mI)]) ++ (lvs p3 LdStep.L.C fs3)) ++ (lvs p4 LdStamp.L.C fs4)) := ⟨_, ⟨[.int .i64 x0], [.int .i64 x1, .int .i64 x2, .slice p3 n3 c3, .slice p4 n4 c4], _, _, rfl, ⟨⟨x0, rfl, b0⟩, rfl⟩, ⟨[.int .i64 x1], [.int .i64 x2, .slice p3 n3 c3, .slice p4 n4 c4], _, _, rfl, ⟨⟨x1, rfl, b1⟩, rfl⟩, ⟨[.int .i64 x2], [.slice p3 n3 c3, .slice p4 n4 c4], _, _, rfl, ⟨⟨x2, rfl, b2⟩, rfl⟩, ⟨[.slice p3 n3 c3], [.slice p4 n4 c4], _, _, rfl, ⟨p3, n3, c3, fs3, rfl, k3, RRd.wide f3 (by omega) (by omega), rfl⟩, ⟨p4, n4, c4, fs4, rfl, k4, RRd.wide f4 (by omega) (by omega), rfl⟩, rfl⟩, rfl⟩, rfl⟩, rfl⟩, fun b o => by simp only [List.append_assoc]; rfl⟩
  obtain ⟨f, hf, he⟩ := hL
  refine ⟨f, hf, fun b o hb => ?_⟩
  rw [he]
  exact (Tk.sl (hi := hi) (Tk.sl (hi := hi) (Tk.cell (hi := hi) (Tk.cell (hi := hi) (Tk.one b o lo mI) hb (by omega) mI) hb (by omega) mI) hb d3 (Inn.of LdStep.lk.pl f3) (by omega) (by omega) s3 (by omega)) hb d4 (Inn.of LdStamp.lk.pl f4) (by omega) (by omega) s4 (by omega)).nd
set_option maxRecDepth 100000 in
set_option maxHeartbeats 8000000 in
theorem copy_any (x0 : Int) (x1 : Int) (x2 : Int) (l3 : List (Int × Bool)) (p3 : Option Addr) (n3 c3 : Nat) (l4 : List (Int × Int × Int × Int × Int)) (p4 : Option Addr) (n4 c4 : Nat) {S3 S4 : Nat → Prop} (w : World) (b0 : InI x0) (b1 : InI x1) (b2 : InI x2) (h3 : RdD (flat SlStep.E SlStep.InR) S3 w p3 n3 l3) (h4 : RdD (flat SlStamp.E SlStamp.InR) S4 w p4 n4 l4) (z3 : n3 ≤ 2000000) (z4 : n4 ≤ 2000000) : Calls Try.prog 128 #[.agg #[.int .i64 x0, .int .i64 x1, .int .i64 x2, .slice p3 n3 c3, .slice p4 n4 c4]] w fun e w' => ∃ (q3 : Option Addr) (d3 : Nat) (q4 : Option Addr) (d4 : Nat), e = .returned (.agg #[.int .i64 x0, .int .i64 x1, .int .i64 x2, .slice q3 n3 d3, .slice q4 n4 d4]) ∧ OwnV DpRenewal.E LdRenewal.L w.heap.size w'.heap.size w' [.int .i64 x0, .int .i64 x1, .int .i64 x2, .slice q3 n3 d3, .slice q4 n4 d4] (x0, x1, x2, l3, l4) ∧ (∃ mid, w.heap.size ≤ mid ∧ mid ≤ w'.heap.size ∧ OwnD (flat SlStep.E SlStep.InR) LdStep.L w.heap.size mid w' q3 n3 l3 ∧ OwnD (flat SlStamp.E SlStamp.InR) LdStamp.L mid w'.heap.size w' q4 n4 l4) ∧ n3 ≤ d3 ∧ n4 ≤ d4 ∧ Below w.heap.size w w' := by
  have Gb0 := Lib.hid b0
  have Gb1 := Lib.hid b1
  have Gb2 := Lib.hid b2
  have Gh3 := Lib.hid h3
  have Gh4 := Lib.hid h4
  clear b0 b1 b2 h3 h4
  have b0 := (Bx.new w 110 #[.int .i64 x0, .int .i64 x1, .int .i64 x2, .slice p3 n3 c3, .slice p4 n4 c4]).alloc (.cells #[.int .i64 0, .int .i64 0, .int .i64 0, .slice none 0 0, .slice none 0 0] 110)
  have b1 := Bx.new (w.alloc (.cells #[.int .i64 x0, .int .i64 x1, .int .i64 x2, .slice p3 n3 c3, .slice p4 n4 c4] 110)) 110 #[.int .i64 0, .int .i64 0, .int .i64 0, .slice none 0 0, .slice none 0 0]
  rw [World.size_alloc] at b1
  have HX := Lib.hid b0
  have HR := Lib.hid b1
  have HB : Hid (Below w.heap.size w ((w.alloc (.cells #[.int .i64 x0, .int .i64 x1, .int .i64 x2, .slice p3 n3 c3, .slice p4 n4 c4] 110)).alloc (.cells #[.int .i64 0, .int .i64 0, .int .i64 0, .slice none 0 0, .slice none 0 0] 110))) := Lib.hid (((Below.refl w.heap.size w).alloc (Nat.le_refl _) _).alloc (by simp) _)
  have HSZ : Hid (((w.alloc (.cells #[.int .i64 x0, .int .i64 x1, .int .i64 x2, .slice p3 n3 c3, .slice p4 n4 c4] 110)).alloc (.cells #[.int .i64 0, .int .i64 0, .int .i64 0, .slice none 0 0, .slice none 0 0] 110)).heap.size = w.heap.size + 2) := Lib.hid (by simp)
  clear b0 b1
  go_enter Try.func128, Try.ntmps128
  replace HX := Lib.hid HX.out.drew1
  replace HR := Lib.hid HR.out.drew1
  replace HB : Hid (Below w.heap.size w ((w.alloc (.cells #[.int .i64 x0, .int .i64 x1, .int .i64 x2, .slice p3 n3 c3, .slice p4 n4 c4] 110)).alloc (.cells #[.int .i64 0, .int .i64 0, .int .i64 0, .slice none 0 0, .slice none 0 0] 110)).drew) := Lib.hid (below_drewN HB.out 1)
  obtain ⟨a0, a1, a2, a3, a4⟩ := DpRenewal.bxc HX.out
  go_wp2_with fail
  generalize hV : ((w.alloc (.cells #[.int .i64 x0, .int .i64 x1, .int .i64 x2, .slice p3 n3 c3, .slice p4 n4 c4] 110)).alloc (.cells #[.int .i64 0, .int .i64 0, .int .i64 0, .slice none 0 0, .slice none 0 0] 110)) = V at HX HR HB HSZ a0 a1 a2 a3 a4 ⊢
  clear hV
  go_region_with (first
    | (go_at_call 139; (with_reducible refine (CoStep.clone_any _ _ _ _ _ (Gh3.out.below HB.out) z3).mono ?_); rintro e w1 ⟨q3, d3, rfl, ho, hk, hb⟩; have HO1 := Lib.hid ho; have HK1 := Lib.hid hk; have HB1 := Lib.hid (below_on HB.out hb); have HX1 := Lib.hid (HX.out.below hb); have HR1 := Lib.hid (HR.out.below hb); have hs1 := hb.size; clear hb ho hk; obtain ⟨e0, e1, e2, e3, e4⟩ := DpRenewal.bxc HX1.out)
    | (go_at_call 140; (with_reducible refine (CoStamp.clone_any _ _ _ _ _ (Gh4.out.below HB1.out) z4).mono ?_); rintro e w2 ⟨q4, d4, rfl, ho, hk, hb⟩; have HO2 := Lib.hid ho; have HK2 := Lib.hid hk; have HB2 := Lib.hid (below_on HB1.out hb); have HR2 := Lib.hid (HR1.out.below hb); have HX2 := Lib.hid (HX1.out.below hb); have HO1a := Lib.hid (HO1.out.below hb); have hs2 := hb.size; clear hb ho hk; have s0 := HR2.out.free 0; have s1 := HR2.out.free 1; have s2 := HR2.out.free 2; have s3 := HR2.out.free 3; have s4 := HR2.out.free 4; have t0 := HX2.out.free 0; have t1 := HX2.out.free 1; have t2 := HX2.out.free 2; have t3 := HX2.out.free 3; have t4 := HX2.out.free 4; obtain ⟨r0, r1, r2, r3, r4⟩ := DpRenewal.bxc HR2.out; obtain ⟨y0, y1, y2, y3, y4⟩ := DpRenewal.bxc HX2.out))
  all_goals
    have hV := HSZ.out
    have hVd : V.drew.heap.size = w.heap.size + 2 := hV
    go_wp2_with fail
    have HG0 : OwnD (flat SlStep.E SlStep.InR) LdStep.L w.heap.size w1.heap.size _ q3 n3 l3 := (((((((HO1a.out.far (q := ⟨w.heap.size, 3, none⟩) (Or.inl (by show w.heap.size < _; omega)) (.slice q3 n3 d3)).far (q := ⟨w.heap.size, 4, none⟩) (Or.inl (by show w.heap.size < _; omega)) (.slice q4 n4 d4)).far (q := ⟨w.heap.size + 1, 0, none⟩) (Or.inl (by show w.heap.size + 1 < _; omega)) (.int .i64 x0)).far (q := ⟨w.heap.size + 1, 1, none⟩) (Or.inl (by show w.heap.size + 1 < _; omega)) (.int .i64 x1)).far (q := ⟨w.heap.size + 1, 2, none⟩) (Or.inl (by show w.heap.size + 1 < _; omega)) (.int .i64 x2)).far (q := ⟨w.heap.size + 1, 3, none⟩) (Or.inl (by show w.heap.size + 1 < _; omega)) (.slice q3 n3 d3)).far (q := ⟨w.heap.size + 1, 4, none⟩) (Or.inl (by show w.heap.size + 1 < _; omega)) (.slice q4 n4 d4)).wide (by omega) (Nat.le_refl _)
    have HG1 : OwnD (flat SlStamp.E SlStamp.InR) LdStamp.L w1.heap.size w2.heap.size _ q4 n4 l4 := (((((((HO2.out.far (q := ⟨w.heap.size, 3, none⟩) (Or.inl (by show w.heap.size < _; omega)) (.slice q3 n3 d3)).far (q := ⟨w.heap.size, 4, none⟩) (Or.inl (by show w.heap.size < _; omega)) (.slice q4 n4 d4)).far (q := ⟨w.heap.size + 1, 0, none⟩) (Or.inl (by show w.heap.size + 1 < _; omega)) (.int .i64 x0)).far (q := ⟨w.heap.size + 1, 1, none⟩) (Or.inl (by show w.heap.size + 1 < _; omega)) (.int .i64 x1)).far (q := ⟨w.heap.size + 1, 2, none⟩) (Or.inl (by show w.heap.size + 1 < _; omega)) (.int .i64 x2)).far (q := ⟨w.heap.size + 1, 3, none⟩) (Or.inl (by show w.heap.size + 1 < _; omega)) (.slice q3 n3 d3)).far (q := ⟨w.heap.size + 1, 4, none⟩) (Or.inl (by show w.heap.size + 1 < _; omega)) (.slice q4 n4 d4))
    exact bodyPost_ret (v := .agg #[.int .i64 x0, .int .i64 x1, .int .i64 x2, .slice q3 n3 d3, .slice q4 n4 d4]) (by simp [results, Try.results128, go_sem, r0, r1, r2, r3, r4]) rfl ⟨q3, d3, q4, d4, rfl, mkV Gb0.out Gb1.out Gb2.out HG0 HG1 HK1.out HK2.out (Nat.le_refl _) (by omega) (Nat.le_refl _) hs2 (by simp [World.setCell]), ⟨w1.heap.size, by omega, by simp [World.setCell]; omega, HG0, HG1.wide (Nat.le_refl _) (by simp [World.setCell])⟩, HK1.out, HK2.out, (((((((HB2.out.setCell (p := ⟨w.heap.size, 3, none⟩) (by show w.heap.size ≤ w.heap.size; omega) (.slice q3 n3 d3)).setCell (p := ⟨w.heap.size, 4, none⟩) (by show w.heap.size ≤ w.heap.size; omega) (.slice q4 n4 d4)).setCell (p := ⟨w.heap.size + 1, 0, none⟩) (by show w.heap.size ≤ w.heap.size + 1; omega) (.int .i64 x0)).setCell (p := ⟨w.heap.size + 1, 1, none⟩) (by show w.heap.size ≤ w.heap.size + 1; omega) (.int .i64 x1)).setCell (p := ⟨w.heap.size + 1, 2, none⟩) (by show w.heap.size ≤ w.heap.size + 1; omega) (.int .i64 x2)).setCell (p := ⟨w.heap.size + 1, 3, none⟩) (by show w.heap.size ≤ w.heap.size + 1; omega) (.slice q3 n3 d3)).setCell (p := ⟨w.heap.size + 1, 4, none⟩) (by show w.heap.size ≤ w.heap.size + 1; omega) (.slice q4 n4 d4))⟩
set_option maxRecDepth 100000 in
set_option maxHeartbeats 8000000 in
theorem each_any (p : Option Addr) (n c : Nat) (xs : List DpRenewal.A) {S : Nat → Prop} (w : World) (hr : RdD DpRenewal.E S w p n xs) (hm : n + wts DpRenewal.E xs ≤ 2000000) : Calls Try.prog 127 #[.slice p n c, .func (.func 128) #[] #[]] w fun e w' => ∃ (q : Option Addr), e = .returned (.slice q n n) ∧ OwnD DpRenewal.E LdRenewal.L w.heap.size w'.heap.size w' q n xs ∧ Below w.heap.size w w' := by
  obtain ⟨i0, hi, hz0, hz1, hz2⟩ := info_parts DpRenewal.info
  have HR := Lib.hid hr
  have HL := Lib.hid hr.len
  have HMM := Lib.hid hm
  have hn : n ≤ 2000000 := by omega
  obtain ⟨cl, hcl, has⟩ := raw_of hr
  have HCL := Lib.hid hcl
  have HAS := Lib.hid has
  have HS : Hid ((Try.prog.info? 110).map (·.size) = some (raw DpRenewal.E).C) := Lib.hid (by show _ = some 5; kernel_rfl)
  clear hr hm hcl has
  let z0 : Raw DpRenewal.E.C := ⟨[.int .i64 0, .int .i64 0, .int .i64 0, .slice none 0 0, .slice none 0 0], rfl, by intro u hu; simp only [List.mem_cons, List.not_mem_nil, or_false] at hu; rcases hu with rfl | rfl | rfl | rfl | rfl <;> rfl⟩
  go_enter Try.func127, Try.ntmps127
  go_wp2_with (first
    | (refine wpList_make_full _ rfl _ _ 34 rfl w.heap.size 110 i0 _ 5 Try.underlying34 hi hz0 hz1 .i64 .i64 _ _ n rfl rfl rfl rfl (by rw [hz2]; omega) (by unfold maxLen; omega) (Nat.le_refl _) ?_; intro w1 hown1 hg1; have HM1 : Hid (OwS (raw DpRenewal.E) 110 w1 w.heap.size w1.heap.size (some ⟨w.heap.size, 0, none⟩) n n (List.replicate n z0)) := Lib.hid (OwS.of_row (by rw [← made_fl (E := raw DpRenewal.E) (.agg #[.int .i64 0, .int .i64 0, .int .i64 0, .slice none 0 0, .slice none 0 0]) z0 rfl n]; exact hown1)); have HB1 : Hid (Below w.heap.size w w1) := Lib.hid ((Below.refl _ _).grown hg1 (Nat.le_refl _) (fun _ e => by cases e)); clear hown1 hg1)
    | (refine Cps.wpList_copyS (E := raw DpRenewal.E) rfl (.tmp 10) (.tmp 11) 34 rfl Try.underlying34 HS.out _ n n _ _ _ cl _ _ rfl HM1.out rfl (HCL.out.below HB1.out) ?_; intro w2 ho2 hg2; have HO2 := Lib.hid ho2; have HB2 := Lib.hid (HB1.out.grown hg2 HB1.out.size (fun g e => by cases e; exact Nat.le_refl _)); clear ho2 hg2))
  have HM : Hid (MidO DpRenewal.E LdRenewal.L 110 cl xs n 0 w.heap.size w w2) := Lib.hid (MidO.start HO2.out HB2.out (Nat.le_refl _))
  clear HM1 HB1 HO2 HB2 HCL HS
  go_loopw [15] (fun i wr => ∃ k : Nat, k ≤ n ∧ i = .int .i64 k ∧ Hid (MidO DpRenewal.E LdRenewal.L 110 cl xs n k w.heap.size w wr)) (fun i _ => n - (intOf i).toNat)
  case atStart => exact ⟨0, Nat.zero_le _, rfl, HM⟩
  case round =>
    obtain ⟨k, hk, rfl, HK⟩ := hrel
    by_cases hlt : k < n
    · obtain ⟨x, hx⟩ : ∃ x, xs[k]? = some x := ⟨_, List.getElem?_eq_getElem (by rw [HL.out]; exact hlt)⟩
      obtain ⟨cc, hcc⟩ : ∃ cc, cl[k]? = some cc := ⟨_, List.getElem?_eq_getElem (by have := HAS.out.1; rw [HL.out] at this; omega)⟩
      have hrd := HAS.out.2 k x cc hx hcc
      obtain ⟨hq, hfz⟩ := HK.out.cells hcc
      have HX := Lib.hid hx
      have HW : Hid (DpRenewal.E.wt x ≤ 2000000) := Lib.hid (by have h1 := wts_at (E := DpRenewal.E) hx; have h2 := HMM.out; omega)
      obtain ⟨cs, hcs⟩ : ∃ cs, cc.cs = cs := ⟨_, rfl⟩
      rw [hcs] at hrd hq
      clear hcs hx hcc
      obtain ⟨x0, x1, x2, l3, l4⟩ := x
      obtain ⟨p3, n3, c3, p4, n4, c4, rfl, b0, b1, b2, h3, h4⟩ := DpRenewal.ex hrd
      have z3 : n3 ≤ 2000000 := by have h := HW.out; have h2 := h3.len; simp only [DpRenewal.wt_eq] at h; omega
      have z4 : n4 ≤ 2000000 := by have h := HW.out; have h2 := h4.len; simp only [DpRenewal.wt_eq] at h; omega
      have Gb0 := Lib.hid b0
      have Gb1 := Lib.hid b1
      have Gb2 := Lib.hid b2
      have Gh3 := Lib.hid h3
      have Gh4 := Lib.hid h4
      have u0 : wr.cell? ⟨w.heap.size, k * 5, none⟩ = some (.int .i64 x0) := hq 0 _ rfl
      have u1 : wr.cell? ⟨w.heap.size, k * 5 + 1, none⟩ = some (.int .i64 x1) := hq 1 _ rfl
      have u2 : wr.cell? ⟨w.heap.size, k * 5 + 2, none⟩ = some (.int .i64 x2) := hq 2 _ rfl
      have u3 : wr.cell? ⟨w.heap.size, k * 5 + 3, none⟩ = some (.slice p3 n3 c3) := hq 3 _ rfl
      have u4 : wr.cell? ⟨w.heap.size, k * 5 + 4, none⟩ = some (.slice p4 n4 c4) := hq 4 _ rfl
      clear hq hrd b0 b1 b2 h3 h4
      have HB := Lib.hid HK.out.below
      have i1 : (0 : Int) ≤ (k : Int) := by omega
      have i2 : (k : Int) < (n : Int) := by omega
      have hlw := HK.out.lt
      go_wp2_with fail
      refine (copy_any _ _ _ _ _ _ _ _ _ _ _ _ Gb0.out Gb1.out Gb2.out (Gh3.out.below HB.out) (Gh4.out.below HB.out) z3 z4).mono ?_
      rintro e w3 ⟨q3, d3, q4, d4, rfl, ho, _, _, _, hb⟩
      have d0_ : w3.cell? ⟨w.heap.size, k * 5, none⟩ = some (.int .i64 x0) := (hb.cell (p := ⟨w.heap.size, k * 5, none⟩) hlw).trans u0
      have f0_ : w3.frozen? ⟨w.heap.size, k * 5, none⟩ = false := (hb.frozen (p := ⟨w.heap.size, k * 5, none⟩) hlw).trans (hfz _)
      have d1_ : w3.cell? ⟨w.heap.size, k * 5 + 1, none⟩ = some (.int .i64 x1) := (hb.cell (p := ⟨w.heap.size, k * 5 + 1, none⟩) hlw).trans u1
      have f1_ : w3.frozen? ⟨w.heap.size, k * 5 + 1, none⟩ = false := (hb.frozen (p := ⟨w.heap.size, k * 5 + 1, none⟩) hlw).trans (hfz _)
      have d2_ : w3.cell? ⟨w.heap.size, k * 5 + 2, none⟩ = some (.int .i64 x2) := (hb.cell (p := ⟨w.heap.size, k * 5 + 2, none⟩) hlw).trans u2
      have f2_ : w3.frozen? ⟨w.heap.size, k * 5 + 2, none⟩ = false := (hb.frozen (p := ⟨w.heap.size, k * 5 + 2, none⟩) hlw).trans (hfz _)
      have d3_ : w3.cell? ⟨w.heap.size, k * 5 + 3, none⟩ = some (.slice p3 n3 c3) := (hb.cell (p := ⟨w.heap.size, k * 5 + 3, none⟩) hlw).trans u3
      have f3_ : w3.frozen? ⟨w.heap.size, k * 5 + 3, none⟩ = false := (hb.frozen (p := ⟨w.heap.size, k * 5 + 3, none⟩) hlw).trans (hfz _)
      have d4_ : w3.cell? ⟨w.heap.size, k * 5 + 4, none⟩ = some (.slice p4 n4 c4) := (hb.cell (p := ⟨w.heap.size, k * 5 + 4, none⟩) hlw).trans u4
      have f4_ : w3.frozen? ⟨w.heap.size, k * 5 + 4, none⟩ = false := (hb.frozen (p := ⟨w.heap.size, k * 5 + 4, none⟩) hlw).trans (hfz _)
      have HM2 := Lib.hid (MidO.next LdRenewal.lk.C LdRenewal.lk.pl HK.out hb hlt HX.out ho)
      clear hfz hb ho u0 u1 u2 u3 u4
      go_wp2_with fail
      go_roundw
      case rel => exact ⟨k + 1, by omega, by go_num, HM2⟩
      case measure => simp [intOf]; omega
    · obtain rfl : k = n := by omega
      have HD := Lib.hid (MidO.done LdRenewal.lk.C HK.out HL.out)
      go_wp2_with fail
      go_ret
      exact ⟨_, rfl, HD.out.1, HD.out.2⟩
theorem eachK_any (p : Option Addr) (n c : Nat) (xs : List DpRenewal.A) {S : Nat → Prop} (w : World) (hr : RdD DpRenewal.E S w p n xs) (hm : n + wts DpRenewal.E xs ≤ 2000000) : Calls Try.prog 127 #[.slice p n c, .func (.func 128) #[] #[]] w fun e w' => ∃ (q : Option Addr) (d : Nat), e = .returned (.slice q n d) ∧ OwnD DpRenewal.E LdRenewal.L w.heap.size w'.heap.size w' q n xs ∧ n ≤ d ∧ Below w.heap.size w w' := by
  refine (each_any p n c xs w hr hm).mono ?_
  rintro e w' ⟨q, rfl, ho, hb⟩
  exact ⟨q, n, rfl, ho, Nat.le_refl _, hb⟩
end Go.Proofs.Ytjaholcmaafenaa.CoRenewal
