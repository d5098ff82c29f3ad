/- Contracts: the times at which a certificate is good, bad or open, in the program. -/
import Derived.Test.YtlgkgccmilapbaaEg2
import Derived.Test.YtlgkgccmilapbaaGu
import Derived.Test.YtlgkgccmilapbaaTd
import Derived.Deep.RegionHeld3
namespace Go.Proofs.Ytlgkgccmilapbaa.Eg3
open Go.ChangeShapes Go.WideShapes Go.ChangeAt Go.RowKit Go.Shelf Sl St Jn Sps SlSpan Fnd Ki Eg Eg2
attribute [local go_sem] Oper.semAt_some
theorem ko_below {W W' : World} (hb : Below W.heap.size W W') : KeepsOthers W W' := ⟨hb.size, fun k _ hk _ => (hb.block k (Array.getElem?_eq_some_iff.1 hk).1).trans hk⟩
theorem ko_typed {W W' : World} {row : Option Nat} {T : TypeId} (hg : W.grownBy W' row) (ht : Typed W T row) : KeepsOthers W W' := KeepsOthers.of_grownBy hg fun j o e ho => by
  obtain ⟨cur, h⟩ := ht j e
  rw [h] at ho
  cases ho
  rfl
/-- what holds between the rounds -/
def IW (B N K : Nat) (ec : Array Value) (P : Int → Bool) (pre : List Sp) (W : World) : Prop :=
  (Bx W B 71 ec ∧ Bx W (B + 1) 74 #[.func (.func K) #[] #[]] ∧ N ≤ W.heap.size) ∧ ∃ p m c, Bx W (B + 1 + 1 + 1) 26 #[.slice p m c] ∧ OwS SlSpan.E 40 W B W.heap.size p m c (pre.filter fun s => P s.1)
theorem IW.on {B N K : Nat} {ec : Array Value} {P : Int → Bool} {pre : List Sp} {W W' : World} (h : IW B N K ec P pre W) (hb : Below W.heap.size W W') : IW B N K ec P pre W' := by
  obtain ⟨⟨h1, h2, h3⟩, p, m, c, h4, h5⟩ := h
  exact ⟨⟨h1.below hb, h2.below hb, Nat.le_trans h3 hb.size⟩, p, m, c, h4.below hb, (h5.below hb).wide (Nat.le_refl _) hb.size (Nat.le_refl _)⟩
theorem IW.own {B N K : Nat} {ec : Array Value} {P : Int → Bool} {pre : List Sp} {W W' : World} {row : Option Nat} (h : IW B N K ec P pre W) (hg : W.grownBy W' row) (hr : ∀ r, row = some r → ∃ o : Obj, W.heap[r]? = some o ∧ o.isCells = false) : IW B N K ec P pre W' := by
  obtain ⟨⟨h1, h2, h3⟩, p, m, c, h4, h5⟩ := h
  exact ⟨⟨bx_own h1 hg hr, bx_own h2 hg hr, Nat.le_trans h3 hg.size⟩, p, m, c, bx_own h4 hg hr, (owS_own h5 hg hr).wide (Nat.le_refl _) hg.size (Nat.le_refl _)⟩
theorem IW.skip {B N K : Nat} {ec : Array Value} {P : Int → Bool} {pre : List Sp} {x : Sp} {W : World} (h : IW B N K ec P pre W) (hx : P x.1 = false) : IW B N K ec P (pre ++ [x]) W := by
  obtain ⟨h0, p, m, c, h4, h5⟩ := h
  refine ⟨h0, p, m, c, h4, ?_⟩
  rw [List.filter_append]
  simp [hx]
  exact h5
theorem sp_ne1 : 40 ≠ 71 ∧ 40 ≠ 74 ∧ 40 ≠ 26 ∧ 40 ≠ 117 ∧ 40 ≠ 3 ∧ 26 ≠ 71 ∧ 26 ≠ 74 ∧ 26 ≠ 117 ∧ 26 ≠ 3 := by decide
theorem zero_mem (f to u b : Int) : (0 : Int) ∈ chg f to u b := List.mem_cons_self ..
theorem info_sp : (Try.prog.info? 40).map (fun i => (i.zero, i.size, i.bytes)) = some (some (.agg #[.int .i64 0, .int .i64 0]), 2, 16) := SlSpan.info
theorem cells_sp {w : World} {g : Nat} {xa xb : Int} (h : Bx w g 40 #[.int .i64 xa, .int .i64 xb]) : ∀ j v, (SlSpan.E.of (xa, xb))[j]? = some v → w.cell? ⟨g, j, none⟩ = some v := fun j v hv => by
  rw [SlSpan.of_eq] at hv
  refine h.cell ?_
  rw [← hv]
  simp
theorem good_cov {f to u b : Int} (hto : -9223372036854775808 ≤ to ∧ to ≤ 9223372036854775807) (hu : -9223372036854775808 ≤ u ∧ u ≤ 9223372036854775807) {cs : List Int} (hm : ∀ x, x ∈ cs ↔ x ∈ chg f to u b ∧ 0 ≤ x ∧ x ≤ 10000) (hs : cs.Pairwise (· ≤ ·)) : join ((upto (str (cs ++ [10001])) cs.length).filter fun s => (Egm.goodB f to u) s.1) = Egm.cov (Egm.goodB f to u) := by
  have h := Egm.strs_cov (Egm.const_good (b := b) (nx_wrap hto) (nx_wrap hu)) hm (zero_mem f to u b) hs
  rw [strs_upto, List.length_append, List.length_singleton, Nat.add_sub_cancel] at h
  exact h
set_option maxRecDepth 100000 in
set_option maxHeartbeats 8000000 in
theorem that_good (x0 x1 x2 f to x5 x6 u b : Int) (hf : -9223372036854775808 ≤ f ∧ f ≤ 9223372036854775807) (hto : -9223372036854775808 ≤ to ∧ to ≤ 9223372036854775807) (hu : -9223372036854775808 ≤ u ∧ u ≤ 9223372036854775807) (hb : -9223372036854775808 ≤ b ∧ b ≤ 9223372036854775807) (w : World) : Calls Try.prog 43 #[.agg #[.int .i64 x0, .int .i64 x1, .int .i64 x2, .int .i64 f, .int .i64 to, .int .i64 x5, .int .i64 x6, .int .i64 u, .int .i64 b], .func (.func 44) #[] #[]] w (Makes (Egm.cov (Egm.goodB f to u)) w) := by
  obtain ⟨i0, hi0, hz0, hz1, hz2⟩ := info_parts info_sp
  have HCov := Lib.hid (fun cs h1 h2 => good_cov (f := f) (to := to) (u := u) (b := b) hto hu (cs := cs) h1 h2)
  have hb0 := ((((Below.refl w.heap.size w).alloc (Nat.le_refl _) (.cells #[.int .i64 x0, .int .i64 x1, .int .i64 x2, .int .i64 f, .int .i64 to, .int .i64 x5, .int .i64 x6, .int .i64 u, .int .i64 b] 71)).alloc (by simp) (.cells #[.func (.func 44) #[] #[]] 74)).alloc (by simp; omega) (.cells #[] 40)).alloc (by simp; omega) (.cells #[.slice (some ⟨w.heap.size + 1 + 1, 0, none⟩) 0 0] 26)
  have k1 := (((Bx.new w 71 #[.int .i64 x0, .int .i64 x1, .int .i64 x2, .int .i64 f, .int .i64 to, .int .i64 x5, .int .i64 x6, .int .i64 u, .int .i64 b]).alloc (.cells #[.func (.func 44) #[] #[]] 74)).alloc (.cells #[] 40)).alloc (.cells #[.slice (some ⟨w.heap.size + 1 + 1, 0, none⟩) 0 0] 26)
  have k2 := ((Bx.new (w.alloc (.cells #[.int .i64 x0, .int .i64 x1, .int .i64 x2, .int .i64 f, .int .i64 to, .int .i64 x5, .int .i64 x6, .int .i64 u, .int .i64 b] 71)) 74 #[.func (.func 44) #[] #[]]).alloc (.cells #[] 40)).alloc (.cells #[.slice (some ⟨w.heap.size + 1 + 1, 0, none⟩) 0 0] 26)
  have k3 := Bx.new (((w.alloc (.cells #[.int .i64 x0, .int .i64 x1, .int .i64 x2, .int .i64 f, .int .i64 to, .int .i64 x5, .int .i64 x6, .int .i64 u, .int .i64 b] 71)).alloc (.cells #[.func (.func 44) #[] #[]] 74)).alloc (.cells #[] 40)) 26 #[.slice (some ⟨w.heap.size + 1 + 1, 0, none⟩) 0 0]
  have k4 := (lit_own SlSpan.E 40 ((w.alloc (.cells #[.int .i64 x0, .int .i64 x1, .int .i64 x2, .int .i64 f, .int .i64 to, .int .i64 x5, .int .i64 x6, .int .i64 u, .int .i64 b] 71)).alloc (.cells #[.func (.func 44) #[] #[]] 74)) w.heap.size [] #[] 0 rfl rfl (by unfold maxLen; omega) (by simp; omega)).alloc (.cells #[.slice (some ⟨w.heap.size + 1 + 1, 0, none⟩) 0 0] 26)
  simp only [World.size_alloc] at k2 k3 k4
  have hsz : (((((w.alloc (.cells #[.int .i64 x0, .int .i64 x1, .int .i64 x2, .int .i64 f, .int .i64 to, .int .i64 x5, .int .i64 x6, .int .i64 u, .int .i64 b] 71)).alloc (.cells #[.func (.func 44) #[] #[]] 74)).alloc (.cells #[] 40)).alloc (.cells #[.slice (some ⟨w.heap.size + 1 + 1, 0, none⟩) 0 0] 26))).heap.size = w.heap.size + 1 + 1 + 1 + 1 := by simp only [World.size_alloc]
  have hI0 : IW w.heap.size (w.heap.size + 1 + 1 + 1 + 1) 44 #[.int .i64 x0, .int .i64 x1, .int .i64 x2, .int .i64 f, .int .i64 to, .int .i64 x5, .int .i64 x6, .int .i64 u, .int .i64 b] (Egm.goodB f to u) [] (((((w.alloc (.cells #[.int .i64 x0, .int .i64 x1, .int .i64 x2, .int .i64 f, .int .i64 to, .int .i64 x5, .int .i64 x6, .int .i64 u, .int .i64 b] 71)).alloc (.cells #[.func (.func 44) #[] #[]] 74)).alloc (.cells #[] 40)).alloc (.cells #[.slice (some ⟨w.heap.size + 1 + 1, 0, none⟩) 0 0] 26))) := ⟨⟨k1, k2, by rw [hsz]; exact Nat.le_refl _⟩, _, _, _, k3, k4.wide (Nat.le_refl _) (by rw [hsz]; omega) (Nat.le_refl _)⟩
  clear k1 k2 k3 k4
  refine (callsIn_wide (n := 3)).1 ?_
  refine callsIn_of_wp_marks Try.func43 rfl trivial ?_ rfl
  simp only [Try.ntmps43, List.size_toArray, List.length_cons, List.length_nil, Nat.reduceAdd, Nat.reduceSub, Array.replicate_succ, Array.replicate_zero, List.push_toArray, List.append_toArray, List.nil_append, List.cons_append]
  gi_wp2_with (refine ⟨trivial, ?_⟩; gi_at_call 69; refine (callsIn_wide.2 (stretches_any x0 x1 x2 f to x5 x6 u b hf hb _)).mono ?_; rintro e w1 ⟨g, lo, hi, p, n, c, cs, rfl, hX, hO, hnc, hn6, hs, hm, hb1⟩)
  have hI1 := hI0.on hb1
  have hB1 := below_on hb0 hb1
  have hsz1 : w.heap.size + 1 + 1 + 1 + 1 ≤ w1.heap.size := by rw [← hsz]; exact hb1.size
  obtain rfl : n = cs.length + 1 := by have h := hO.len; rw [List.length_append, List.length_singleton] at h; exact h.symm
  have h1 : 1 ≤ cs.length := List.length_pos_of_mem ((hm 0).2 ⟨zero_mem f to u b, by omega, by omega⟩)
  have hds : ∀ x ∈ cs ++ [10001], 0 ≤ x ∧ x ≤ 10001 := fun x hx => by
    rcases List.mem_append.1 hx with hx | hx
    · have := ((hm x).1 hx).2
      omega
    · rw [List.mem_singleton] at hx
      omega
  have hCov := HCov.out cs hm hs
  clear hI0 hb0 hb1 hsz HCov hs hm hf hto hu hb
  generalize hds2 : cs ++ [10001] = ds at hO hds hCov
  generalize cs.length = N at hX hO hnc hn6 h1 hCov
  refine wpIn_rangeFunc_ownH (F := Fence.wide) rfl (by omega) (gf := 98) (lb := #[.pointer (some ⟨g, 0, none⟩)]) rfl trivial (enters_of Try.func98 (by kernel_rfl) rfl)
    (strs_stops Fence.wide _ trivial rfl (by omega) w.heap.size g lo hi p N c ds h1 (by omega) hnc hds w1 hO hX) Kp.trans
    (fun W l o o' hl h hc hw => ⟨belowK_b (w := w) (Nat.le_refl _) W l o o' (by omega) h hc hw, fun hx => bx_own hx (grownBy_putObj' W l o') (fun r e => by cases e; exact ⟨o, h, hc⟩), fun hx => ow_own hx (grownBy_putObj' W l o') (fun r e => by cases e; exact ⟨o, h, hc⟩)⟩)
    (Below.refl _ _) (fun _ => rfl)
    (fun pre W => IW w.heap.size (w.heap.size + 1 + 1 + 1 + 1) 44 #[.int .i64 x0, .int .i64 x1, .int .i64 x2, .int .i64 f, .int .i64 to, .int .i64 x5, .int .i64 x6, .int .i64 u, .int .i64 b] (Egm.goodB f to u) pre W ∧ Below w.heap.size w W)
    (fun _ _ _ => False)
    (OwnFrom.and (fun s A B row hs hg hr => hs.own hg (fun r e => (hr r e).2)) (ownFrom_below (Nat.le_refl _) (by omega)))
    (fun _ _ _ _ _ hs _ _ => hs)
    ⟨hI1, hB1⟩
    (fun x a' W => ∃ Bm, Bx W Bm 40 #[.int .i64 x.1, .int .i64 x.2] ∧ a' = { tmps := #[.agg #[.int .i64 x0, .int .i64 x1, .int .i64 x2, .int .i64 f, .int .i64 to, .int .i64 x5, .int .i64 x6, .int .i64 u, .int .i64 b], .func (.func 44) #[] #[], .pointer (some ⟨w.heap.size, 0, none⟩), .pointer (some ⟨w.heap.size + 1, 0, none⟩), .slice none 0 0, .pointer (some ⟨w.heap.size + 1 + 1 + 1, 0, none⟩), .pointer (some ⟨Bm, 0, none⟩), .slice (some ⟨w.heap.size + 1 + 1, 0, none⟩) 0 0, .agg #[.int .i64 x0, .int .i64 x1, .int .i64 x2, .int .i64 f, .int .i64 to, .int .i64 x5, .int .i64 x6, .int .i64 u, .int .i64 b], .func (.func 98) #[] #[.pointer (some ⟨g, 0, none⟩)], .agg #[.int .i64 x.1, .int .i64 x.2], undef, undef, undef, undef, undef, undef, undef, undef, undef, undef, undef], defers := [] })
    (fun x a' _ X Y row hs hg hr => by obtain ⟨Bm, h2, h3⟩ := hs; exact ⟨Bm, bx_own h2 hg (fun r e => (hr r e).2), h3⟩)
    ?assign ?body ?done ?stop
  case assign =>
    rintro l pre x W K ⟨hI, hBw⟩ hK
    dsimp only [encs]
    gi_wp2
    exact hK _ _ ((KeepsOthers.alloc _ _).from _) ⟨(Below.refl _ W).alloc hBw.size _, fun hx => hx.alloc _, fun hx => hx.alloc _⟩ ⟨hI.on (box1 _ _), hBw.alloc hBw.size _⟩ ⟨W.heap.size, Bx.new W _ _, rfl⟩
  case body =>
    rintro l pre x a' W hl ⟨r, hr⟩ ⟨hI, hBw⟩ ⟨Bm, bX, rfl⟩ hlt
    have HI := Lib.hid hI
    obtain ⟨⟨bE, bF, hN⟩, p2, m2, c2, bS, hO2⟩ := hI
    obtain ⟨xa, xb⟩ := x
    have hm2 : m2 ≤ 10 := by
      have q1 := hO2.len
      have q2 := List.length_filter_le (fun s : Sp => (Egm.goodB f to u) s.1) pre
      omega
    obtain ⟨e0, e1, e2, e3, e4, e5, e6, e7, e8⟩ := bx9 bE
    have cF := bF.cell (j := 0) rfl
    obtain ⟨x_0, x_1, _, _⟩ := bX.two
    rcases hP : (Egm.goodB f to u) xa with _ | _
    · have HP := Lib.hid hP
      have hsk := HI.out.skip (x := (xa, xb)) hP
      clear hP bS hO2
      gi_wp2_with (refine ⟨trivial, ?_⟩; refine (CallsIn.inRound l (callsIn_wide.2 (good_any x0 x1 x2 f to x5 x6 u b xa W))).mono ?_; rintro e w2 ⟨rfl, hb2⟩; rw [HP.out])
      exact ⟨(ko_below hb2).from _, ⟨hb2.mono hBw.size, fun hx => hx.below hb2, fun hx => hx.below hb2⟩, hsk.on hb2, hBw.trans (hb2.mono hBw.size)⟩
    · have HP := Lib.hid hP
      have HF : Hid ((pre ++ [((xa, xb) : Sp)]).filter (fun s => (Egm.goodB f to u) s.1) = pre.filter (fun s => (Egm.goodB f to u) s.1) ++ [(xa, xb)]) := Lib.hid (by rw [List.filter_append]; simp [hP])
      clear hP
      gi_wp2_with (first
        | (refine ⟨trivial, ?_⟩; refine (CallsIn.inRound l (callsIn_wide.2 (good_any x0 x1 x2 f to x5 x6 u b xa W))).mono ?_; rintro e w2 ⟨rfl, hb2⟩; rw [HP.out]; have bX2 := bX.below hb2; have bS2 := bS.below hb2; have hO3 := (hO2.below hb2).wide (Nat.le_refl _) hb2.size (Nat.le_refl _); have hB2 := hBw.trans (hb2.mono hBw.size); have c_s := bS2.cell (j := 0) rfl; obtain ⟨y_0, y_1, _, _⟩ := bX2.two; clear e0 e1 e2 e3 e4 e5 e6 e7 e8 x_0 x_1 cF)
        | (refine wpListIn_app1S rfl (.tmp 16) (.tmp 18) 26 rfl i0 _ 16 Try.underlying26 hi0 hz0 hz1 hz2 rfl rfl (hO3.alloc _) _ 1 (xa, xb) rfl (cells_sp (Bx.new w2 40 #[.int .i64 xa, .int .i64 xb])) (Nat.le_trans hB2.size (by simp)) (by omega) (by omega) ?_; intro p4 c4 w4 how4 hg4; have hty := typed_own (hO3.alloc (.cells #[.int .i64 xa, .int .i64 xb] 40)); have bS4 := bx_typed (bS2.alloc (.cells #[.int .i64 xa, .int .i64 xb] 40)) hg4 hty sp_ne1.2.2.1.symm; have c_4 := bS4.cell (j := 0) rfl; have f_4 := bS4.free 0; clear c_s y_0 y_1))
      have hgs := grown_set1 w4 (w.heap.size + 1 + 1 + 1) 0 (.slice p4 (m2 + 1) c4)
      have hts := typed_bx bS4
      have hb3 := hb2.trans ((box1 w2 (.cells #[.int .i64 xa, .int .i64 xb] 40)).mono hb2.size)
      obtain ⟨z1, z2, z3, z4, z5, z6, z7, z8, z9⟩ := sp_ne1
      refine ⟨(((ko_below hb2).trans (KeepsOthers.alloc _ _)).trans ((ko_typed hg4 hty).trans (ko_typed hgs hts))).from _, ⟨?_, ?_, ?_⟩, ⟨⟨?_, ?_, ?_⟩, p4, m2 + 1, c4, bS4.set_ 0 _, ?_⟩, ?_⟩
      · exact ((hb3.mono hBw.size).grown hg4 (Nat.le_trans hBw.size hb3.size) (fun g e => (hO3.far g e).1)).setCell (p := ⟨w.heap.size + 1 + 1 + 1, 0, none⟩) (by show w.heap.size ≤ w.heap.size + 1 + 1 + 1; omega) _
      · exact fun hx => bx_typed (bx_typed (hx.below hb3) hg4 hty z4.symm) hgs hts z8.symm
      · exact fun hx => ow_typed (ow_typed (hx.below hb3) hg4 hty z5.symm) hgs hts z9.symm
      · exact bx_typed (bx_typed (bE.below hb3) hg4 hty z1.symm) hgs hts z6.symm
      · exact bx_typed (bx_typed (bF.below hb3) hg4 hty z2.symm) hgs hts z7.symm
      · exact Nat.le_trans hN (Nat.le_trans hb3.size (Nat.le_trans hg4.size hgs.size))
      · rw [HF.out]
        exact (owS_typed how4 hgs hts z3).wide (Nat.le_refl _) hgs.size (Nat.le_refl _)
      · exact (hBw.trans ((hb3.mono hBw.size).grown hg4 (Nat.le_trans hBw.size hb3.size) (fun g e => (hO3.far g e).1))).setCell (p := ⟨w.heap.size + 1 + 1 + 1, 0, none⟩) (by show w.heap.size ≤ w.heap.size + 1 + 1 + 1; omega) _
  case done =>
    rintro D ys W hD rfl ⟨⟨_, p2, m2, c2, bS, hO2⟩, hBw⟩ hK
    have cS := bS.cell (j := 0) rfl
    have hDl : D < W.heap.size := (Array.getElem?_eq_some_iff.1 hK).1
    have hm2 : m2 ≤ 10 := by
      have q1 := hO2.len
      have q2 := List.length_filter_le (fun s : Sp => (Egm.goodB f to u) s.1) (upto (str ds) N)
      rw [upto_length] at q2
      omega
    have HC := Lib.hid hCov
    clear hCov
    gi_wp2_with (refine ⟨trivial, ?_⟩; gi_at_call 70; refine (callsIn_wide.2 (Ji.join_any _ _ _ _ _ hO2.rd (by omega))).mono ?_; rintro e w2 ⟨q, k, d, rfl, ho2, hb2⟩)
    have hK2 := (hb2.block D hDl).trans hK
    refine ⟨by simp, .inl ⟨_, _, rfl, run_takeDeferred hK2, ?_⟩⟩
    rw [HC.out] at ho2
    have hpo := grownBy_putObj' w2 D (.deferred none)
    exact ⟨_, results_tmp rfl _ _ _, q, k, d, rfl, (ho2.kept (grownBy_putObj' _ D _) (fun g e => by cases e; exact Or.inl hDl)).wide hBw.size (grownBy_putObj' _ D _).size (Nat.le_refl _), (hBw.trans (hb2.mono hBw.size)).trans (belowK_b (w := w) (Nat.le_refl _) _ D _ _ (by omega) hK2 rfl rfl)⟩
  case stop =>
    rintro D c pre W _ _ h _
    exact h.elim
theorem bad_cov {f to u b : Int} (hto : -9223372036854775808 ≤ to ∧ to ≤ 9223372036854775807) (_hu : -9223372036854775808 ≤ u ∧ u ≤ 9223372036854775807) {cs : List Int} (hm : ∀ x, x ∈ cs ↔ x ∈ chg f to u b ∧ 0 ≤ x ∧ x ≤ 10000) (hs : cs.Pairwise (· ≤ ·)) : join ((upto (str (cs ++ [10001])) cs.length).filter fun s => (Egm.badB f to b) s.1) = Egm.cov (Egm.badB f to b) := by
  have h := Egm.strs_cov (Egm.const_bad (m2 := wrap64 (u + 1)) (nx_wrap hto)) hm (zero_mem f to u b) hs
  rw [strs_upto, List.length_append, List.length_singleton, Nat.add_sub_cancel] at h
  exact h
set_option maxRecDepth 100000 in
set_option maxHeartbeats 8000000 in
theorem that_bad (x0 x1 x2 f to x5 x6 u b : Int) (hf : -9223372036854775808 ≤ f ∧ f ≤ 9223372036854775807) (hto : -9223372036854775808 ≤ to ∧ to ≤ 9223372036854775807) (hu : -9223372036854775808 ≤ u ∧ u ≤ 9223372036854775807) (hb : -9223372036854775808 ≤ b ∧ b ≤ 9223372036854775807) (w : World) : Calls Try.prog 43 #[.agg #[.int .i64 x0, .int .i64 x1, .int .i64 x2, .int .i64 f, .int .i64 to, .int .i64 x5, .int .i64 x6, .int .i64 u, .int .i64 b], .func (.func 49) #[] #[]] w (Makes (Egm.cov (Egm.badB f to b)) w) := by
  obtain ⟨i0, hi0, hz0, hz1, hz2⟩ := info_parts info_sp
  have HCov := Lib.hid (fun cs h1 h2 => bad_cov (f := f) (to := to) (u := u) (b := b) hto hu (cs := cs) h1 h2)
  have hb0 := ((((Below.refl w.heap.size w).alloc (Nat.le_refl _) (.cells #[.int .i64 x0, .int .i64 x1, .int .i64 x2, .int .i64 f, .int .i64 to, .int .i64 x5, .int .i64 x6, .int .i64 u, .int .i64 b] 71)).alloc (by simp) (.cells #[.func (.func 49) #[] #[]] 74)).alloc (by simp; omega) (.cells #[] 40)).alloc (by simp; omega) (.cells #[.slice (some ⟨w.heap.size + 1 + 1, 0, none⟩) 0 0] 26)
  have k1 := (((Bx.new w 71 #[.int .i64 x0, .int .i64 x1, .int .i64 x2, .int .i64 f, .int .i64 to, .int .i64 x5, .int .i64 x6, .int .i64 u, .int .i64 b]).alloc (.cells #[.func (.func 49) #[] #[]] 74)).alloc (.cells #[] 40)).alloc (.cells #[.slice (some ⟨w.heap.size + 1 + 1, 0, none⟩) 0 0] 26)
  have k2 := ((Bx.new (w.alloc (.cells #[.int .i64 x0, .int .i64 x1, .int .i64 x2, .int .i64 f, .int .i64 to, .int .i64 x5, .int .i64 x6, .int .i64 u, .int .i64 b] 71)) 74 #[.func (.func 49) #[] #[]]).alloc (.cells #[] 40)).alloc (.cells #[.slice (some ⟨w.heap.size + 1 + 1, 0, none⟩) 0 0] 26)
  have k3 := Bx.new (((w.alloc (.cells #[.int .i64 x0, .int .i64 x1, .int .i64 x2, .int .i64 f, .int .i64 to, .int .i64 x5, .int .i64 x6, .int .i64 u, .int .i64 b] 71)).alloc (.cells #[.func (.func 49) #[] #[]] 74)).alloc (.cells #[] 40)) 26 #[.slice (some ⟨w.heap.size + 1 + 1, 0, none⟩) 0 0]
  have k4 := (lit_own SlSpan.E 40 ((w.alloc (.cells #[.int .i64 x0, .int .i64 x1, .int .i64 x2, .int .i64 f, .int .i64 to, .int .i64 x5, .int .i64 x6, .int .i64 u, .int .i64 b] 71)).alloc (.cells #[.func (.func 49) #[] #[]] 74)) w.heap.size [] #[] 0 rfl rfl (by unfold maxLen; omega) (by simp; omega)).alloc (.cells #[.slice (some ⟨w.heap.size + 1 + 1, 0, none⟩) 0 0] 26)
  simp only [World.size_alloc] at k2 k3 k4
  have hsz : (((((w.alloc (.cells #[.int .i64 x0, .int .i64 x1, .int .i64 x2, .int .i64 f, .int .i64 to, .int .i64 x5, .int .i64 x6, .int .i64 u, .int .i64 b] 71)).alloc (.cells #[.func (.func 49) #[] #[]] 74)).alloc (.cells #[] 40)).alloc (.cells #[.slice (some ⟨w.heap.size + 1 + 1, 0, none⟩) 0 0] 26))).heap.size = w.heap.size + 1 + 1 + 1 + 1 := by simp only [World.size_alloc]
  have hI0 : IW w.heap.size (w.heap.size + 1 + 1 + 1 + 1) 49 #[.int .i64 x0, .int .i64 x1, .int .i64 x2, .int .i64 f, .int .i64 to, .int .i64 x5, .int .i64 x6, .int .i64 u, .int .i64 b] (Egm.badB f to b) [] (((((w.alloc (.cells #[.int .i64 x0, .int .i64 x1, .int .i64 x2, .int .i64 f, .int .i64 to, .int .i64 x5, .int .i64 x6, .int .i64 u, .int .i64 b] 71)).alloc (.cells #[.func (.func 49) #[] #[]] 74)).alloc (.cells #[] 40)).alloc (.cells #[.slice (some ⟨w.heap.size + 1 + 1, 0, none⟩) 0 0] 26))) := ⟨⟨k1, k2, by rw [hsz]; exact Nat.le_refl _⟩, _, _, _, k3, k4.wide (Nat.le_refl _) (by rw [hsz]; omega) (Nat.le_refl _)⟩
  clear k1 k2 k3 k4
  refine (callsIn_wide (n := 3)).1 ?_
  refine callsIn_of_wp_marks Try.func43 rfl trivial ?_ rfl
  simp only [Try.ntmps43, List.size_toArray, List.length_cons, List.length_nil, Nat.reduceAdd, Nat.reduceSub, Array.replicate_succ, Array.replicate_zero, List.push_toArray, List.append_toArray, List.nil_append, List.cons_append]
  gi_wp2_with (refine ⟨trivial, ?_⟩; gi_at_call 69; refine (callsIn_wide.2 (stretches_any x0 x1 x2 f to x5 x6 u b hf hb _)).mono ?_; rintro e w1 ⟨g, lo, hi, p, n, c, cs, rfl, hX, hO, hnc, hn6, hs, hm, hb1⟩)
  have hI1 := hI0.on hb1
  have hB1 := below_on hb0 hb1
  have hsz1 : w.heap.size + 1 + 1 + 1 + 1 ≤ w1.heap.size := by rw [← hsz]; exact hb1.size
  obtain rfl : n = cs.length + 1 := by have h := hO.len; rw [List.length_append, List.length_singleton] at h; exact h.symm
  have h1 : 1 ≤ cs.length := List.length_pos_of_mem ((hm 0).2 ⟨zero_mem f to u b, by omega, by omega⟩)
  have hds : ∀ x ∈ cs ++ [10001], 0 ≤ x ∧ x ≤ 10001 := fun x hx => by
    rcases List.mem_append.1 hx with hx | hx
    · have := ((hm x).1 hx).2
      omega
    · rw [List.mem_singleton] at hx
      omega
  have hCov := HCov.out cs hm hs
  clear hI0 hb0 hb1 hsz HCov hs hm hf hto hu hb
  generalize hds2 : cs ++ [10001] = ds at hO hds hCov
  generalize cs.length = N at hX hO hnc hn6 h1 hCov
  refine wpIn_rangeFunc_ownH (F := Fence.wide) rfl (by omega) (gf := 98) (lb := #[.pointer (some ⟨g, 0, none⟩)]) rfl trivial (enters_of Try.func98 (by kernel_rfl) rfl)
    (strs_stops Fence.wide _ trivial rfl (by omega) w.heap.size g lo hi p N c ds h1 (by omega) hnc hds w1 hO hX) Kp.trans
    (fun W l o o' hl h hc hw => ⟨belowK_b (w := w) (Nat.le_refl _) W l o o' (by omega) h hc hw, fun hx => bx_own hx (grownBy_putObj' W l o') (fun r e => by cases e; exact ⟨o, h, hc⟩), fun hx => ow_own hx (grownBy_putObj' W l o') (fun r e => by cases e; exact ⟨o, h, hc⟩)⟩)
    (Below.refl _ _) (fun _ => rfl)
    (fun pre W => IW w.heap.size (w.heap.size + 1 + 1 + 1 + 1) 49 #[.int .i64 x0, .int .i64 x1, .int .i64 x2, .int .i64 f, .int .i64 to, .int .i64 x5, .int .i64 x6, .int .i64 u, .int .i64 b] (Egm.badB f to b) pre W ∧ Below w.heap.size w W)
    (fun _ _ _ => False)
    (OwnFrom.and (fun s A B row hs hg hr => hs.own hg (fun r e => (hr r e).2)) (ownFrom_below (Nat.le_refl _) (by omega)))
    (fun _ _ _ _ _ hs _ _ => hs)
    ⟨hI1, hB1⟩
    (fun x a' W => ∃ Bm, Bx W Bm 40 #[.int .i64 x.1, .int .i64 x.2] ∧ a' = { tmps := #[.agg #[.int .i64 x0, .int .i64 x1, .int .i64 x2, .int .i64 f, .int .i64 to, .int .i64 x5, .int .i64 x6, .int .i64 u, .int .i64 b], .func (.func 49) #[] #[], .pointer (some ⟨w.heap.size, 0, none⟩), .pointer (some ⟨w.heap.size + 1, 0, none⟩), .slice none 0 0, .pointer (some ⟨w.heap.size + 1 + 1 + 1, 0, none⟩), .pointer (some ⟨Bm, 0, none⟩), .slice (some ⟨w.heap.size + 1 + 1, 0, none⟩) 0 0, .agg #[.int .i64 x0, .int .i64 x1, .int .i64 x2, .int .i64 f, .int .i64 to, .int .i64 x5, .int .i64 x6, .int .i64 u, .int .i64 b], .func (.func 98) #[] #[.pointer (some ⟨g, 0, none⟩)], .agg #[.int .i64 x.1, .int .i64 x.2], undef, undef, undef, undef, undef, undef, undef, undef, undef, undef, undef], defers := [] })
    (fun x a' _ X Y row hs hg hr => by obtain ⟨Bm, h2, h3⟩ := hs; exact ⟨Bm, bx_own h2 hg (fun r e => (hr r e).2), h3⟩)
    ?assign ?body ?done ?stop
  case assign =>
    rintro l pre x W K ⟨hI, hBw⟩ hK
    dsimp only [encs]
    gi_wp2
    exact hK _ _ ((KeepsOthers.alloc _ _).from _) ⟨(Below.refl _ W).alloc hBw.size _, fun hx => hx.alloc _, fun hx => hx.alloc _⟩ ⟨hI.on (box1 _ _), hBw.alloc hBw.size _⟩ ⟨W.heap.size, Bx.new W _ _, rfl⟩
  case body =>
    rintro l pre x a' W hl ⟨r, hr⟩ ⟨hI, hBw⟩ ⟨Bm, bX, rfl⟩ hlt
    have HI := Lib.hid hI
    obtain ⟨⟨bE, bF, hN⟩, p2, m2, c2, bS, hO2⟩ := hI
    obtain ⟨xa, xb⟩ := x
    have hm2 : m2 ≤ 10 := by
      have q1 := hO2.len
      have q2 := List.length_filter_le (fun s : Sp => (Egm.badB f to b) s.1) pre
      omega
    obtain ⟨e0, e1, e2, e3, e4, e5, e6, e7, e8⟩ := bx9 bE
    have cF := bF.cell (j := 0) rfl
    obtain ⟨x_0, x_1, _, _⟩ := bX.two
    rcases hP : (Egm.badB f to b) xa with _ | _
    · have HP := Lib.hid hP
      have hsk := HI.out.skip (x := (xa, xb)) hP
      clear hP bS hO2
      gi_wp2_with (refine ⟨trivial, ?_⟩; refine (CallsIn.inRound l (callsIn_wide.2 (bad_any x0 x1 x2 f to x5 x6 u b xa W))).mono ?_; rintro e w2 ⟨rfl, hb2⟩; rw [HP.out])
      exact ⟨(ko_below hb2).from _, ⟨hb2.mono hBw.size, fun hx => hx.below hb2, fun hx => hx.below hb2⟩, hsk.on hb2, hBw.trans (hb2.mono hBw.size)⟩
    · have HP := Lib.hid hP
      have HF : Hid ((pre ++ [((xa, xb) : Sp)]).filter (fun s => (Egm.badB f to b) s.1) = pre.filter (fun s => (Egm.badB f to b) s.1) ++ [(xa, xb)]) := Lib.hid (by rw [List.filter_append]; simp [hP])
      clear hP
      gi_wp2_with (first
        | (refine ⟨trivial, ?_⟩; refine (CallsIn.inRound l (callsIn_wide.2 (bad_any x0 x1 x2 f to x5 x6 u b xa W))).mono ?_; rintro e w2 ⟨rfl, hb2⟩; rw [HP.out]; have bX2 := bX.below hb2; have bS2 := bS.below hb2; have hO3 := (hO2.below hb2).wide (Nat.le_refl _) hb2.size (Nat.le_refl _); have hB2 := hBw.trans (hb2.mono hBw.size); have c_s := bS2.cell (j := 0) rfl; obtain ⟨y_0, y_1, _, _⟩ := bX2.two; clear e0 e1 e2 e3 e4 e5 e6 e7 e8 x_0 x_1 cF)
        | (refine wpListIn_app1S rfl (.tmp 16) (.tmp 18) 26 rfl i0 _ 16 Try.underlying26 hi0 hz0 hz1 hz2 rfl rfl (hO3.alloc _) _ 1 (xa, xb) rfl (cells_sp (Bx.new w2 40 #[.int .i64 xa, .int .i64 xb])) (Nat.le_trans hB2.size (by simp)) (by omega) (by omega) ?_; intro p4 c4 w4 how4 hg4; have hty := typed_own (hO3.alloc (.cells #[.int .i64 xa, .int .i64 xb] 40)); have bS4 := bx_typed (bS2.alloc (.cells #[.int .i64 xa, .int .i64 xb] 40)) hg4 hty sp_ne1.2.2.1.symm; have c_4 := bS4.cell (j := 0) rfl; have f_4 := bS4.free 0; clear c_s y_0 y_1))
      have hgs := grown_set1 w4 (w.heap.size + 1 + 1 + 1) 0 (.slice p4 (m2 + 1) c4)
      have hts := typed_bx bS4
      have hb3 := hb2.trans ((box1 w2 (.cells #[.int .i64 xa, .int .i64 xb] 40)).mono hb2.size)
      obtain ⟨z1, z2, z3, z4, z5, z6, z7, z8, z9⟩ := sp_ne1
      refine ⟨(((ko_below hb2).trans (KeepsOthers.alloc _ _)).trans ((ko_typed hg4 hty).trans (ko_typed hgs hts))).from _, ⟨?_, ?_, ?_⟩, ⟨⟨?_, ?_, ?_⟩, p4, m2 + 1, c4, bS4.set_ 0 _, ?_⟩, ?_⟩
      · exact ((hb3.mono hBw.size).grown hg4 (Nat.le_trans hBw.size hb3.size) (fun g e => (hO3.far g e).1)).setCell (p := ⟨w.heap.size + 1 + 1 + 1, 0, none⟩) (by show w.heap.size ≤ w.heap.size + 1 + 1 + 1; omega) _
      · exact fun hx => bx_typed (bx_typed (hx.below hb3) hg4 hty z4.symm) hgs hts z8.symm
      · exact fun hx => ow_typed (ow_typed (hx.below hb3) hg4 hty z5.symm) hgs hts z9.symm
      · exact bx_typed (bx_typed (bE.below hb3) hg4 hty z1.symm) hgs hts z6.symm
      · exact bx_typed (bx_typed (bF.below hb3) hg4 hty z2.symm) hgs hts z7.symm
      · exact Nat.le_trans hN (Nat.le_trans hb3.size (Nat.le_trans hg4.size hgs.size))
      · rw [HF.out]
        exact (owS_typed how4 hgs hts z3).wide (Nat.le_refl _) hgs.size (Nat.le_refl _)
      · exact (hBw.trans ((hb3.mono hBw.size).grown hg4 (Nat.le_trans hBw.size hb3.size) (fun g e => (hO3.far g e).1))).setCell (p := ⟨w.heap.size + 1 + 1 + 1, 0, none⟩) (by show w.heap.size ≤ w.heap.size + 1 + 1 + 1; omega) _
  case done =>
    rintro D ys W hD rfl ⟨⟨_, p2, m2, c2, bS, hO2⟩, hBw⟩ hK
    have cS := bS.cell (j := 0) rfl
    have hDl : D < W.heap.size := (Array.getElem?_eq_some_iff.1 hK).1
    have hm2 : m2 ≤ 10 := by
      have q1 := hO2.len
      have q2 := List.length_filter_le (fun s : Sp => (Egm.badB f to b) s.1) (upto (str ds) N)
      rw [upto_length] at q2
      omega
    have HC := Lib.hid hCov
    clear hCov
    gi_wp2_with (refine ⟨trivial, ?_⟩; gi_at_call 70; refine (callsIn_wide.2 (Ji.join_any _ _ _ _ _ hO2.rd (by omega))).mono ?_; rintro e w2 ⟨q, k, d, rfl, ho2, hb2⟩)
    have hK2 := (hb2.block D hDl).trans hK
    refine ⟨by simp, .inl ⟨_, _, rfl, run_takeDeferred hK2, ?_⟩⟩
    rw [HC.out] at ho2
    have hpo := grownBy_putObj' w2 D (.deferred none)
    exact ⟨_, results_tmp rfl _ _ _, q, k, d, rfl, (ho2.kept (grownBy_putObj' _ D _) (fun g e => by cases e; exact Or.inl hDl)).wide hBw.size (grownBy_putObj' _ D _).size (Nat.le_refl _), (hBw.trans (hb2.mono hBw.size)).trans (belowK_b (w := w) (Nat.le_refl _) _ D _ _ (by omega) hK2 rfl rfl)⟩
  case stop =>
    rintro D c pre W _ _ h _
    exact h.elim
theorem open_cov {f to u b : Int} (hto : -9223372036854775808 ≤ to ∧ to ≤ 9223372036854775807) (hu : -9223372036854775808 ≤ u ∧ u ≤ 9223372036854775807) {cs : List Int} (hm : ∀ x, x ∈ cs ↔ x ∈ chg f to u b ∧ 0 ≤ x ∧ x ≤ 10000) (hs : cs.Pairwise (· ≤ ·)) : join ((upto (str (cs ++ [10001])) cs.length).filter fun s => (Egm.openB f to u b) s.1) = Egm.cov (Egm.openB f to u b) := by
  have h := Egm.strs_cov (Egm.const_open (nx_wrap hto) (nx_wrap hu)) hm (zero_mem f to u b) hs
  rw [strs_upto, List.length_append, List.length_singleton, Nat.add_sub_cancel] at h
  exact h
set_option maxRecDepth 100000 in
set_option maxHeartbeats 8000000 in
theorem that_open (x0 x1 x2 f to x5 x6 u b : Int) (hf : -9223372036854775808 ≤ f ∧ f ≤ 9223372036854775807) (hto : -9223372036854775808 ≤ to ∧ to ≤ 9223372036854775807) (hu : -9223372036854775808 ≤ u ∧ u ≤ 9223372036854775807) (hb : -9223372036854775808 ≤ b ∧ b ≤ 9223372036854775807) (w : World) : Calls Try.prog 43 #[.agg #[.int .i64 x0, .int .i64 x1, .int .i64 x2, .int .i64 f, .int .i64 to, .int .i64 x5, .int .i64 x6, .int .i64 u, .int .i64 b], .func (.func 50) #[] #[]] w (Makes (Egm.cov (Egm.openB f to u b)) w) := by
  obtain ⟨i0, hi0, hz0, hz1, hz2⟩ := info_parts info_sp
  have HCov := Lib.hid (fun cs h1 h2 => open_cov (f := f) (to := to) (u := u) (b := b) hto hu (cs := cs) h1 h2)
  have hb0 := ((((Below.refl w.heap.size w).alloc (Nat.le_refl _) (.cells #[.int .i64 x0, .int .i64 x1, .int .i64 x2, .int .i64 f, .int .i64 to, .int .i64 x5, .int .i64 x6, .int .i64 u, .int .i64 b] 71)).alloc (by simp) (.cells #[.func (.func 50) #[] #[]] 74)).alloc (by simp; omega) (.cells #[] 40)).alloc (by simp; omega) (.cells #[.slice (some ⟨w.heap.size + 1 + 1, 0, none⟩) 0 0] 26)
  have k1 := (((Bx.new w 71 #[.int .i64 x0, .int .i64 x1, .int .i64 x2, .int .i64 f, .int .i64 to, .int .i64 x5, .int .i64 x6, .int .i64 u, .int .i64 b]).alloc (.cells #[.func (.func 50) #[] #[]] 74)).alloc (.cells #[] 40)).alloc (.cells #[.slice (some ⟨w.heap.size + 1 + 1, 0, none⟩) 0 0] 26)
  have k2 := ((Bx.new (w.alloc (.cells #[.int .i64 x0, .int .i64 x1, .int .i64 x2, .int .i64 f, .int .i64 to, .int .i64 x5, .int .i64 x6, .int .i64 u, .int .i64 b] 71)) 74 #[.func (.func 50) #[] #[]]).alloc (.cells #[] 40)).alloc (.cells #[.slice (some ⟨w.heap.size + 1 + 1, 0, none⟩) 0 0] 26)
  have k3 := Bx.new (((w.alloc (.cells #[.int .i64 x0, .int .i64 x1, .int .i64 x2, .int .i64 f, .int .i64 to, .int .i64 x5, .int .i64 x6, .int .i64 u, .int .i64 b] 71)).alloc (.cells #[.func (.func 50) #[] #[]] 74)).alloc (.cells #[] 40)) 26 #[.slice (some ⟨w.heap.size + 1 + 1, 0, none⟩) 0 0]
  have k4 := (lit_own SlSpan.E 40 ((w.alloc (.cells #[.int .i64 x0, .int .i64 x1, .int .i64 x2, .int .i64 f, .int .i64 to, .int .i64 x5, .int .i64 x6, .int .i64 u, .int .i64 b] 71)).alloc (.cells #[.func (.func 50) #[] #[]] 74)) w.heap.size [] #[] 0 rfl rfl (by unfold maxLen; omega) (by simp; omega)).alloc (.cells #[.slice (some ⟨w.heap.size + 1 + 1, 0, none⟩) 0 0] 26)
  simp only [World.size_alloc] at k2 k3 k4
  have hsz : (((((w.alloc (.cells #[.int .i64 x0, .int .i64 x1, .int .i64 x2, .int .i64 f, .int .i64 to, .int .i64 x5, .int .i64 x6, .int .i64 u, .int .i64 b] 71)).alloc (.cells #[.func (.func 50) #[] #[]] 74)).alloc (.cells #[] 40)).alloc (.cells #[.slice (some ⟨w.heap.size + 1 + 1, 0, none⟩) 0 0] 26))).heap.size = w.heap.size + 1 + 1 + 1 + 1 := by simp only [World.size_alloc]
  have hI0 : IW w.heap.size (w.heap.size + 1 + 1 + 1 + 1) 50 #[.int .i64 x0, .int .i64 x1, .int .i64 x2, .int .i64 f, .int .i64 to, .int .i64 x5, .int .i64 x6, .int .i64 u, .int .i64 b] (Egm.openB f to u b) [] (((((w.alloc (.cells #[.int .i64 x0, .int .i64 x1, .int .i64 x2, .int .i64 f, .int .i64 to, .int .i64 x5, .int .i64 x6, .int .i64 u, .int .i64 b] 71)).alloc (.cells #[.func (.func 50) #[] #[]] 74)).alloc (.cells #[] 40)).alloc (.cells #[.slice (some ⟨w.heap.size + 1 + 1, 0, none⟩) 0 0] 26))) := ⟨⟨k1, k2, by rw [hsz]; exact Nat.le_refl _⟩, _, _, _, k3, k4.wide (Nat.le_refl _) (by rw [hsz]; omega) (Nat.le_refl _)⟩
  clear k1 k2 k3 k4
  refine (callsIn_wide (n := 3)).1 ?_
  refine callsIn_of_wp_marks Try.func43 rfl trivial ?_ rfl
  simp only [Try.ntmps43, List.size_toArray, List.length_cons, List.length_nil, Nat.reduceAdd, Nat.reduceSub, Array.replicate_succ, Array.replicate_zero, List.push_toArray, List.append_toArray, List.nil_append, List.cons_append]
  gi_wp2_with (refine ⟨trivial, ?_⟩; gi_at_call 69; refine (callsIn_wide.2 (stretches_any x0 x1 x2 f to x5 x6 u b hf hb _)).mono ?_; rintro e w1 ⟨g, lo, hi, p, n, c, cs, rfl, hX, hO, hnc, hn6, hs, hm, hb1⟩)
  have hI1 := hI0.on hb1
  have hB1 := below_on hb0 hb1
  have hsz1 : w.heap.size + 1 + 1 + 1 + 1 ≤ w1.heap.size := by rw [← hsz]; exact hb1.size
  obtain rfl : n = cs.length + 1 := by have h := hO.len; rw [List.length_append, List.length_singleton] at h; exact h.symm
  have h1 : 1 ≤ cs.length := List.length_pos_of_mem ((hm 0).2 ⟨zero_mem f to u b, by omega, by omega⟩)
  have hds : ∀ x ∈ cs ++ [10001], 0 ≤ x ∧ x ≤ 10001 := fun x hx => by
    rcases List.mem_append.1 hx with hx | hx
    · have := ((hm x).1 hx).2
      omega
    · rw [List.mem_singleton] at hx
      omega
  have hCov := HCov.out cs hm hs
  clear hI0 hb0 hb1 hsz HCov hs hm hf hto hu hb
  generalize hds2 : cs ++ [10001] = ds at hO hds hCov
  generalize cs.length = N at hX hO hnc hn6 h1 hCov
  refine wpIn_rangeFunc_ownH (F := Fence.wide) rfl (by omega) (gf := 98) (lb := #[.pointer (some ⟨g, 0, none⟩)]) rfl trivial (enters_of Try.func98 (by kernel_rfl) rfl)
    (strs_stops Fence.wide _ trivial rfl (by omega) w.heap.size g lo hi p N c ds h1 (by omega) hnc hds w1 hO hX) Kp.trans
    (fun W l o o' hl h hc hw => ⟨belowK_b (w := w) (Nat.le_refl _) W l o o' (by omega) h hc hw, fun hx => bx_own hx (grownBy_putObj' W l o') (fun r e => by cases e; exact ⟨o, h, hc⟩), fun hx => ow_own hx (grownBy_putObj' W l o') (fun r e => by cases e; exact ⟨o, h, hc⟩)⟩)
    (Below.refl _ _) (fun _ => rfl)
    (fun pre W => IW w.heap.size (w.heap.size + 1 + 1 + 1 + 1) 50 #[.int .i64 x0, .int .i64 x1, .int .i64 x2, .int .i64 f, .int .i64 to, .int .i64 x5, .int .i64 x6, .int .i64 u, .int .i64 b] (Egm.openB f to u b) pre W ∧ Below w.heap.size w W)
    (fun _ _ _ => False)
    (OwnFrom.and (fun s A B row hs hg hr => hs.own hg (fun r e => (hr r e).2)) (ownFrom_below (Nat.le_refl _) (by omega)))
    (fun _ _ _ _ _ hs _ _ => hs)
    ⟨hI1, hB1⟩
    (fun x a' W => ∃ Bm, Bx W Bm 40 #[.int .i64 x.1, .int .i64 x.2] ∧ a' = { tmps := #[.agg #[.int .i64 x0, .int .i64 x1, .int .i64 x2, .int .i64 f, .int .i64 to, .int .i64 x5, .int .i64 x6, .int .i64 u, .int .i64 b], .func (.func 50) #[] #[], .pointer (some ⟨w.heap.size, 0, none⟩), .pointer (some ⟨w.heap.size + 1, 0, none⟩), .slice none 0 0, .pointer (some ⟨w.heap.size + 1 + 1 + 1, 0, none⟩), .pointer (some ⟨Bm, 0, none⟩), .slice (some ⟨w.heap.size + 1 + 1, 0, none⟩) 0 0, .agg #[.int .i64 x0, .int .i64 x1, .int .i64 x2, .int .i64 f, .int .i64 to, .int .i64 x5, .int .i64 x6, .int .i64 u, .int .i64 b], .func (.func 98) #[] #[.pointer (some ⟨g, 0, none⟩)], .agg #[.int .i64 x.1, .int .i64 x.2], undef, undef, undef, undef, undef, undef, undef, undef, undef, undef, undef], defers := [] })
    (fun x a' _ X Y row hs hg hr => by obtain ⟨Bm, h2, h3⟩ := hs; exact ⟨Bm, bx_own h2 hg (fun r e => (hr r e).2), h3⟩)
    ?assign ?body ?done ?stop
  case assign =>
    rintro l pre x W K ⟨hI, hBw⟩ hK
    dsimp only [encs]
    gi_wp2
    exact hK _ _ ((KeepsOthers.alloc _ _).from _) ⟨(Below.refl _ W).alloc hBw.size _, fun hx => hx.alloc _, fun hx => hx.alloc _⟩ ⟨hI.on (box1 _ _), hBw.alloc hBw.size _⟩ ⟨W.heap.size, Bx.new W _ _, rfl⟩
  case body =>
    rintro l pre x a' W hl ⟨r, hr⟩ ⟨hI, hBw⟩ ⟨Bm, bX, rfl⟩ hlt
    have HI := Lib.hid hI
    obtain ⟨⟨bE, bF, hN⟩, p2, m2, c2, bS, hO2⟩ := hI
    obtain ⟨xa, xb⟩ := x
    have hm2 : m2 ≤ 10 := by
      have q1 := hO2.len
      have q2 := List.length_filter_le (fun s : Sp => (Egm.openB f to u b) s.1) pre
      omega
    obtain ⟨e0, e1, e2, e3, e4, e5, e6, e7, e8⟩ := bx9 bE
    have cF := bF.cell (j := 0) rfl
    obtain ⟨x_0, x_1, _, _⟩ := bX.two
    rcases hP : (Egm.openB f to u b) xa with _ | _
    · have HP := Lib.hid hP
      have hsk := HI.out.skip (x := (xa, xb)) hP
      clear hP bS hO2
      gi_wp2_with (refine ⟨trivial, ?_⟩; refine (CallsIn.inRound l (callsIn_wide.2 (open_any x0 x1 x2 f to x5 x6 u b xa W))).mono ?_; rintro e w2 ⟨rfl, hb2⟩; rw [HP.out])
      exact ⟨(ko_below hb2).from _, ⟨hb2.mono hBw.size, fun hx => hx.below hb2, fun hx => hx.below hb2⟩, hsk.on hb2, hBw.trans (hb2.mono hBw.size)⟩
    · have HP := Lib.hid hP
      have HF : Hid ((pre ++ [((xa, xb) : Sp)]).filter (fun s => (Egm.openB f to u b) s.1) = pre.filter (fun s => (Egm.openB f to u b) s.1) ++ [(xa, xb)]) := Lib.hid (by rw [List.filter_append]; simp [hP])
      clear hP
      gi_wp2_with (first
        | (refine ⟨trivial, ?_⟩; refine (CallsIn.inRound l (callsIn_wide.2 (open_any x0 x1 x2 f to x5 x6 u b xa W))).mono ?_; rintro e w2 ⟨rfl, hb2⟩; rw [HP.out]; have bX2 := bX.below hb2; have bS2 := bS.below hb2; have hO3 := (hO2.below hb2).wide (Nat.le_refl _) hb2.size (Nat.le_refl _); have hB2 := hBw.trans (hb2.mono hBw.size); have c_s := bS2.cell (j := 0) rfl; obtain ⟨y_0, y_1, _, _⟩ := bX2.two; clear e0 e1 e2 e3 e4 e5 e6 e7 e8 x_0 x_1 cF)
        | (refine wpListIn_app1S rfl (.tmp 16) (.tmp 18) 26 rfl i0 _ 16 Try.underlying26 hi0 hz0 hz1 hz2 rfl rfl (hO3.alloc _) _ 1 (xa, xb) rfl (cells_sp (Bx.new w2 40 #[.int .i64 xa, .int .i64 xb])) (Nat.le_trans hB2.size (by simp)) (by omega) (by omega) ?_; intro p4 c4 w4 how4 hg4; have hty := typed_own (hO3.alloc (.cells #[.int .i64 xa, .int .i64 xb] 40)); have bS4 := bx_typed (bS2.alloc (.cells #[.int .i64 xa, .int .i64 xb] 40)) hg4 hty sp_ne1.2.2.1.symm; have c_4 := bS4.cell (j := 0) rfl; have f_4 := bS4.free 0; clear c_s y_0 y_1))
      have hgs := grown_set1 w4 (w.heap.size + 1 + 1 + 1) 0 (.slice p4 (m2 + 1) c4)
      have hts := typed_bx bS4
      have hb3 := hb2.trans ((box1 w2 (.cells #[.int .i64 xa, .int .i64 xb] 40)).mono hb2.size)
      obtain ⟨z1, z2, z3, z4, z5, z6, z7, z8, z9⟩ := sp_ne1
      refine ⟨(((ko_below hb2).trans (KeepsOthers.alloc _ _)).trans ((ko_typed hg4 hty).trans (ko_typed hgs hts))).from _, ⟨?_, ?_, ?_⟩, ⟨⟨?_, ?_, ?_⟩, p4, m2 + 1, c4, bS4.set_ 0 _, ?_⟩, ?_⟩
      · exact ((hb3.mono hBw.size).grown hg4 (Nat.le_trans hBw.size hb3.size) (fun g e => (hO3.far g e).1)).setCell (p := ⟨w.heap.size + 1 + 1 + 1, 0, none⟩) (by show w.heap.size ≤ w.heap.size + 1 + 1 + 1; omega) _
      · exact fun hx => bx_typed (bx_typed (hx.below hb3) hg4 hty z4.symm) hgs hts z8.symm
      · exact fun hx => ow_typed (ow_typed (hx.below hb3) hg4 hty z5.symm) hgs hts z9.symm
      · exact bx_typed (bx_typed (bE.below hb3) hg4 hty z1.symm) hgs hts z6.symm
      · exact bx_typed (bx_typed (bF.below hb3) hg4 hty z2.symm) hgs hts z7.symm
      · exact Nat.le_trans hN (Nat.le_trans hb3.size (Nat.le_trans hg4.size hgs.size))
      · rw [HF.out]
        exact (owS_typed how4 hgs hts z3).wide (Nat.le_refl _) hgs.size (Nat.le_refl _)
      · exact (hBw.trans ((hb3.mono hBw.size).grown hg4 (Nat.le_trans hBw.size hb3.size) (fun g e => (hO3.far g e).1))).setCell (p := ⟨w.heap.size + 1 + 1 + 1, 0, none⟩) (by show w.heap.size ≤ w.heap.size + 1 + 1 + 1; omega) _
  case done =>
    rintro D ys W hD rfl ⟨⟨_, p2, m2, c2, bS, hO2⟩, hBw⟩ hK
    have cS := bS.cell (j := 0) rfl
    have hDl : D < W.heap.size := (Array.getElem?_eq_some_iff.1 hK).1
    have hm2 : m2 ≤ 10 := by
      have q1 := hO2.len
      have q2 := List.length_filter_le (fun s : Sp => (Egm.openB f to u b) s.1) (upto (str ds) N)
      rw [upto_length] at q2
      omega
    have HC := Lib.hid hCov
    clear hCov
    gi_wp2_with (refine ⟨trivial, ?_⟩; gi_at_call 70; refine (callsIn_wide.2 (Ji.join_any _ _ _ _ _ hO2.rd (by omega))).mono ?_; rintro e w2 ⟨q, k, d, rfl, ho2, hb2⟩)
    have hK2 := (hb2.block D hDl).trans hK
    refine ⟨by simp, .inl ⟨_, _, rfl, run_takeDeferred hK2, ?_⟩⟩
    rw [HC.out] at ho2
    have hpo := grownBy_putObj' w2 D (.deferred none)
    exact ⟨_, results_tmp rfl _ _ _, q, k, d, rfl, (ho2.kept (grownBy_putObj' _ D _) (fun g e => by cases e; exact Or.inl hDl)).wide hBw.size (grownBy_putObj' _ D _).size (Nat.le_refl _), (hBw.trans (hb2.mono hBw.size)).trans (belowK_b (w := w) (Nat.le_refl _) _ D _ _ (by omega) hK2 rfl rfl)⟩
  case stop =>
    rintro D c pre W _ _ h _
    exact h.elim
theorem cert7 {w : World} {g : Nat} {T : TypeId} {y0 y1 y2 y3 y4 y5 y6 : Value} (h : Bx w g T #[y0, y1, y2, y3, y4, y5, y6]) : w.cell? ⟨g, 0, none⟩ = some y0 ∧ w.cell? ⟨g, 1, none⟩ = some y1 ∧ w.cell? ⟨g, 2, none⟩ = some y2 ∧ w.cell? ⟨g, 3, none⟩ = some y3 ∧ w.cell? ⟨g, 4, none⟩ = some y4 ∧ w.cell? ⟨g, 5, none⟩ = some y5 ∧ w.cell? ⟨g, 6, none⟩ = some y6 := ⟨h.cell rfl, h.cell rfl, h.cell rfl, h.cell rfl, h.cell rfl, h.cell rfl, h.cell rfl⟩
theorem stp_in {f : Int → Int → Int} (hf : ∀ a b, -9223372036854775808 ≤ a ∧ a ≤ 9223372036854775807 → -9223372036854775808 ≤ b ∧ b ≤ 9223372036854775807 → -9223372036854775808 ≤ (f a b) ∧ (f a b) ≤ 9223372036854775807) : ∀ (l : List I5) (s : Int × Int), -9223372036854775808 ≤ s.1 ∧ s.1 ≤ 9223372036854775807 → -9223372036854775808 ≤ s.2 ∧ s.2 ≤ 9223372036854775807 → (∀ x ∈ l, SlStatus.InR x) → (-9223372036854775808 ≤ (l.foldl (Gu.stp f) s).1 ∧ (l.foldl (Gu.stp f) s).1 ≤ 9223372036854775807) ∧ -9223372036854775808 ≤ (l.foldl (Gu.stp f) s).2 ∧ (l.foldl (Gu.stp f) s).2 ≤ 9223372036854775807
  | [], _, h1, h2, _ => ⟨h1, h2⟩
  | x :: l, s, h1, h2, hl => by
    obtain ⟨_, a1, a2, _, _⟩ := hl x (List.mem_cons_self ..)
    have b1 : -9223372036854775808 ≤ x.2.1 ∧ x.2.1 ≤ 9223372036854775807 := a1
    have b2 : -9223372036854775808 ≤ x.2.2.1 ∧ x.2.2.1 ≤ 9223372036854775807 := a2
    refine stp_in hf l (Gu.stp f s x) ?_ ?_ (fun y hy => hl y (List.mem_cons_of_mem _ hy))
    · unfold Gu.stp
      split
      · exact h1
      · split
        · exact b2
        · exact hf _ _ h1 b2
    · unfold Gu.stp
      split
      · show -9223372036854775808 ≤ Ints.maxI s.2 x.2.1 ∧ Ints.maxI s.2 x.2.1 ≤ 9223372036854775807
        unfold Ints.maxI
        split <;> omega
      · split
        · exact h2
        · exact h2
theorem ans_in {f : Int → Int → Int} (hf : ∀ a b, -9223372036854775808 ≤ a ∧ a ≤ 9223372036854775807 → -9223372036854775808 ≤ b ∧ b ≤ 9223372036854775807 → -9223372036854775808 ≤ (f a b) ∧ (f a b) ≤ 9223372036854775807) (id : Int) {l : List I5} (hl : ∀ x ∈ l, SlStatus.InR x) : (-9223372036854775808 ≤ (Gu.ans f id l).1 ∧ (Gu.ans f id l).1 ≤ 9223372036854775807) ∧ -9223372036854775808 ≤ (Gu.ans f id l).2 ∧ (Gu.ans f id l).2 ≤ 9223372036854775807 := stp_in hf _ _ (by show -9223372036854775808 ≤ (-1 : Int) ∧ (-1 : Int) ≤ 9223372036854775807; omega) (by show -9223372036854775808 ≤ (-1 : Int) ∧ (-1 : Int) ≤ 9223372036854775807; omega) fun x hx => hl x (List.mem_filter.1 hx).1
theorem min_in (a b : Int) (ha : -9223372036854775808 ≤ a ∧ a ≤ 9223372036854775807) (hb : -9223372036854775808 ≤ b ∧ b ≤ 9223372036854775807) : -9223372036854775808 ≤ (Ints.minI a b) ∧ (Ints.minI a b) ≤ 9223372036854775807 := by unfold Ints.minI; split <;> omega
theorem max_in (a b : Int) (ha : -9223372036854775808 ≤ a ∧ a ≤ 9223372036854775807) (hb : -9223372036854775808 ≤ b ∧ b ≤ 9223372036854775807) : -9223372036854775808 ≤ (Ints.maxI a b) ∧ (Ints.maxI a b) ≤ 9223372036854775807 := by unfold Ints.maxI; split <;> omega
theorem goodU_in (id : Int) {l : List I5} (hl : ∀ x ∈ l, SlStatus.InR x) : -9223372036854775808 ≤ (Gu.goodU l id) ∧ (Gu.goodU l id) ≤ 9223372036854775807 := by
  have h := ans_in min_in id hl
  unfold Gu.goodU
  split
  · exact h.2
  · exact wrap_in _
theorem badF_in (id : Int) {l : List I5} (hl : ∀ x ∈ l, SlStatus.InR x) : -9223372036854775808 ≤ (Gu.badF l id) ∧ (Gu.badF l id) ≤ 9223372036854775807 := by
  have h := ans_in max_in id hl
  unfold Gu.badF
  split
  · exact ⟨by omega, by omega⟩
  · exact max_in _ _ h.1 (wrap_in _)
set_option maxRecDepth 100000 in
set_option maxHeartbeats 8000000 in
theorem ent_any (x0 x1 x2 f to x5 x6 : Int) (p : Option Addr) (n c : Nat) (xs : List I5) (u b : Int) (hu : Gu.goodU xs x0 = u) (hb : Gu.badF xs x0 = b) (w : World) (hr : RdS SlStatus.E w p n xs) : Calls Try.prog 42 #[.agg #[.int .i64 x0, .int .i64 x1, .int .i64 x2, .int .i64 f, .int .i64 to, .int .i64 x5, .int .i64 x6], .slice p n c] w fun e w' => e = .returned (.agg #[.int .i64 x0, .int .i64 x1, .int .i64 x2, .int .i64 f, .int .i64 to, .int .i64 x5, .int .i64 x6, .int .i64 u, .int .i64 b]) ∧ Below w.heap.size w w' := by
  have HU := Lib.hid hu
  have HD := Lib.hid hb
  have hb0 : Below w.heap.size w ((w.alloc (.cells #[.int .i64 x0, .int .i64 x1, .int .i64 x2, .int .i64 f, .int .i64 to, .int .i64 x5, .int .i64 x6] 28)).alloc (.cells #[.int .i64 0, .int .i64 0, .int .i64 0, .int .i64 0, .int .i64 0, .int .i64 0, .int .i64 0, .int .i64 0, .int .i64 0] 71)) := ((Below.refl w.heap.size w).alloc (Nat.le_refl _) _).alloc (by simp) _
  have HB := Lib.hid hb0
  have HR := Lib.hid (hr.below hb0)
  have HX := Lib.hid ((Bx.new w 28 #[.int .i64 x0, .int .i64 x1, .int .i64 x2, .int .i64 f, .int .i64 to, .int .i64 x5, .int .i64 x6]).alloc (.cells #[.int .i64 0, .int .i64 0, .int .i64 0, .int .i64 0, .int .i64 0, .int .i64 0, .int .i64 0, .int .i64 0, .int .i64 0] 71))
  have HY : Hid (Bx ((w.alloc (.cells #[.int .i64 x0, .int .i64 x1, .int .i64 x2, .int .i64 f, .int .i64 to, .int .i64 x5, .int .i64 x6] 28)).alloc (.cells #[.int .i64 0, .int .i64 0, .int .i64 0, .int .i64 0, .int .i64 0, .int .i64 0, .int .i64 0, .int .i64 0, .int .i64 0] 71)) (w.heap.size + 1) 71 #[.int .i64 0, .int .i64 0, .int .i64 0, .int .i64 0, .int .i64 0, .int .i64 0, .int .i64 0, .int .i64 0, .int .i64 0]) := Lib.hid (by have h := Bx.new (w.alloc (.cells #[.int .i64 x0, .int .i64 x1, .int .i64 x2, .int .i64 f, .int .i64 to, .int .i64 x5, .int .i64 x6] 28)) 71 #[.int .i64 0, .int .i64 0, .int .i64 0, .int .i64 0, .int .i64 0, .int .i64 0, .int .i64 0, .int .i64 0, .int .i64 0]; rw [World.size_alloc] at h; exact h)
  clear hu hb hr hb0
  go_enter Try.func42, Try.ntmps42
  go_wp2_with fail
  generalize ((w.alloc (.cells #[.int .i64 x0, .int .i64 x1, .int .i64 x2, .int .i64 f, .int .i64 to, .int .i64 x5, .int .i64 x6] 28)).alloc (.cells #[.int .i64 0, .int .i64 0, .int .i64 0, .int .i64 0, .int .i64 0, .int .i64 0, .int .i64 0, .int .i64 0, .int .i64 0] 71)) = V at HB HR HX HY ⊢
  replace HB := Lib.hid (below_drewN HB.out 1)
  replace HR := Lib.hid HR.out.drew1
  replace HX := Lib.hid HX.out.drew1
  replace HY := Lib.hid HY.out.drew1
  go_region_held3 (fun w' => w'.cell? ⟨w.heap.size, 0, none⟩ = some (.int .i64 x0) ∧ w'.cell? ⟨w.heap.size, 1, none⟩ = some (.int .i64 x1) ∧ w'.cell? ⟨w.heap.size, 2, none⟩ = some (.int .i64 x2) ∧ w'.cell? ⟨w.heap.size, 3, none⟩ = some (.int .i64 f) ∧ w'.cell? ⟨w.heap.size, 4, none⟩ = some (.int .i64 to) ∧ w'.cell? ⟨w.heap.size, 5, none⟩ = some (.int .i64 x5) ∧ w'.cell? ⟨w.heap.size, 6, none⟩ = some (.int .i64 x6)) (first | with_reducible exact cert7 HX.out | go_keep | fail) (first
    | (go_at_call 67; (with_reducible refine (Gu.goodU_any _ _ _ xs x0 _ HR.out).mono ?_); rintro e w2 ⟨rfl, hb⟩; rw [HU.out]; replace HB := Lib.hid (below_on HB.out hb); replace HR := Lib.hid (HR.out.below hb); replace HX := Lib.hid (HX.out.below hb); replace HY := Lib.hid (HY.out.below hb); clear hb)
    | (go_at_call 68; (with_reducible refine (Gu.badF_any _ _ _ xs x0 _ HR.out).mono ?_); rintro e w3 ⟨rfl, hb⟩; rw [HD.out]; replace HB := Lib.hid (below_on HB.out hb); replace HR := Lib.hid (HR.out.below hb); replace HX := Lib.hid (HX.out.below hb); replace HY := Lib.hid (HY.out.below hb); obtain ⟨q0, q1, q2, q3, q4, q5, q6, q7, q8⟩ := bx9 HY.out; have s0 := HY.out.free 0; have s1 := HY.out.free 1; have s2 := HY.out.free 2; have s3 := HY.out.free 3; have s4 := HY.out.free 4; have s5 := HY.out.free 5; have s6 := HY.out.free 6; have s7 := HY.out.free 7; have s8 := HY.out.free 8; clear hb) | fail)
  all_goals
    go_wp2_with fail
    exact bodyPost_ret (v := .agg #[.int .i64 x0, .int .i64 x1, .int .i64 x2, .int .i64 f, .int .i64 to, .int .i64 x5, .int .i64 x6, .int .i64 u, .int .i64 b]) (by simp [results, Try.results42, go_sem, q0, q1, q2, q3, q4, q5, q6, q7, q8]) rfl ⟨rfl, (((((((((HB.out.setCell (p := ⟨w.heap.size + 1, 0, none⟩) (by simp) _).setCell (p := ⟨w.heap.size + 1, 1, none⟩) (by simp) _).setCell (p := ⟨w.heap.size + 1, 2, none⟩) (by simp) _).setCell (p := ⟨w.heap.size + 1, 3, none⟩) (by simp) _).setCell (p := ⟨w.heap.size + 1, 4, none⟩) (by simp) _).setCell (p := ⟨w.heap.size + 1, 5, none⟩) (by simp) _).setCell (p := ⟨w.heap.size + 1, 6, none⟩) (by simp) _).setCell (p := ⟨w.heap.size + 1, 7, none⟩) (by simp) _).setCell (p := ⟨w.heap.size + 1, 8, none⟩) (by simp) _)⟩
set_option maxRecDepth 100000 in
set_option maxHeartbeats 4000000 in
theorem goodS_any (x0 x1 x2 f to x5 x6 : Int) (hc : SlCert.InR (x0, x1, x2, f, to, x5, x6)) (p : Option Addr) (n c : Nat) (xs : List I5) (hR : ∀ x ∈ xs, SlStatus.InR x) (w : World) (hr : RdS SlStatus.E w p n xs) : Calls Try.prog 13 #[.agg #[.int .i64 x0, .int .i64 x1, .int .i64 x2, .int .i64 f, .int .i64 to, .int .i64 x5, .int .i64 x6], .slice p n c] w (Makes (Egm.cov (Egm.goodB f to (Gu.goodU xs x0))) w) := by
  have h1 := goodU_in x0 hR
  have h2 := badF_in x0 hR
  obtain ⟨u, hu⟩ : ∃ u, Gu.goodU xs x0 = u := ⟨_, rfl⟩
  obtain ⟨b, hb⟩ : ∃ b, Gu.badF xs x0 = b := ⟨_, rfl⟩
  rw [hu] at h1
  rw [hb] at h2
  have HU := Lib.hid hu
  have HD := Lib.hid hb
  have H1 := Lib.hid h1
  have H2 := Lib.hid h2
  have HC := Lib.hid hc
  have HR := Lib.hid (hr.below (box1 w (.cells #[.int .i64 x0, .int .i64 x1, .int .i64 x2, .int .i64 f, .int .i64 to, .int .i64 x5, .int .i64 x6] 28)))
  have HB := Lib.hid (box1 w (.cells #[.int .i64 x0, .int .i64 x1, .int .i64 x2, .int .i64 f, .int .i64 to, .int .i64 x5, .int .i64 x6] 28))
  have HI : Hid ((Egm.goodB f to (Gu.goodU xs x0)) = (Egm.goodB f to u)) := Lib.hid (by first | rw [hu, hb] | rw [hu] | rw [hb])
  clear h1 h2 hu hb hc hr
  go_enter Try.func13, Try.ntmps13
  go_wp2_with fail
  refine (ent_any x0 x1 x2 f to x5 x6 _ _ _ xs u b HU.out HD.out _ HR.out).mono ?_
  rintro e w1 ⟨rfl, hb⟩
  have HB1 := Lib.hid (below_on HB.out hb)
  clear hb
  go_wp2_with fail
  refine (that_good x0 x1 x2 f to x5 x6 u b (HC.out.2.2.2.1) (HC.out.2.2.2.2.1) H1.out H2.out _).mono ?_
  rintro e w2 ⟨q, m, d, rfl, ho, hb⟩
  have HO := Lib.hid ho
  have HB2 := Lib.hid (below_on HB1.out hb)
  have HS := HB1.out.size
  clear ho hb
  go_wp2_with fail
  go_ret
  refine ⟨_, _, _, rfl, ?_, HB2.out⟩
  have h := HO.out.wide HS (Nat.le_refl _) (Nat.le_refl _)
  rw [← HI.out] at h
  exact h
set_option maxRecDepth 100000 in
set_option maxHeartbeats 4000000 in
theorem badS_any (x0 x1 x2 f to x5 x6 : Int) (hc : SlCert.InR (x0, x1, x2, f, to, x5, x6)) (p : Option Addr) (n c : Nat) (xs : List I5) (hR : ∀ x ∈ xs, SlStatus.InR x) (w : World) (hr : RdS SlStatus.E w p n xs) : Calls Try.prog 20 #[.agg #[.int .i64 x0, .int .i64 x1, .int .i64 x2, .int .i64 f, .int .i64 to, .int .i64 x5, .int .i64 x6], .slice p n c] w (Makes (Egm.cov (Egm.badB f to (Gu.badF xs x0))) w) := by
  have h1 := goodU_in x0 hR
  have h2 := badF_in x0 hR
  obtain ⟨u, hu⟩ : ∃ u, Gu.goodU xs x0 = u := ⟨_, rfl⟩
  obtain ⟨b, hb⟩ : ∃ b, Gu.badF xs x0 = b := ⟨_, rfl⟩
  rw [hu] at h1
  rw [hb] at h2
  have HU := Lib.hid hu
  have HD := Lib.hid hb
  have H1 := Lib.hid h1
  have H2 := Lib.hid h2
  have HC := Lib.hid hc
  have HR := Lib.hid (hr.below (box1 w (.cells #[.int .i64 x0, .int .i64 x1, .int .i64 x2, .int .i64 f, .int .i64 to, .int .i64 x5, .int .i64 x6] 28)))
  have HB := Lib.hid (box1 w (.cells #[.int .i64 x0, .int .i64 x1, .int .i64 x2, .int .i64 f, .int .i64 to, .int .i64 x5, .int .i64 x6] 28))
  have HI : Hid ((Egm.badB f to (Gu.badF xs x0)) = (Egm.badB f to b)) := Lib.hid (by first | rw [hu, hb] | rw [hu] | rw [hb])
  clear h1 h2 hu hb hc hr
  go_enter Try.func20, Try.ntmps20
  go_wp2_with fail
  refine (ent_any x0 x1 x2 f to x5 x6 _ _ _ xs u b HU.out HD.out _ HR.out).mono ?_
  rintro e w1 ⟨rfl, hb⟩
  have HB1 := Lib.hid (below_on HB.out hb)
  clear hb
  go_wp2_with fail
  refine (that_bad x0 x1 x2 f to x5 x6 u b (HC.out.2.2.2.1) (HC.out.2.2.2.2.1) H1.out H2.out _).mono ?_
  rintro e w2 ⟨q, m, d, rfl, ho, hb⟩
  have HO := Lib.hid ho
  have HB2 := Lib.hid (below_on HB1.out hb)
  have HS := HB1.out.size
  clear ho hb
  go_wp2_with fail
  go_ret
  refine ⟨_, _, _, rfl, ?_, HB2.out⟩
  have h := HO.out.wide HS (Nat.le_refl _) (Nat.le_refl _)
  rw [← HI.out] at h
  exact h
set_option maxRecDepth 100000 in
set_option maxHeartbeats 4000000 in
theorem openS_any (x0 x1 x2 f to x5 x6 : Int) (hc : SlCert.InR (x0, x1, x2, f, to, x5, x6)) (p : Option Addr) (n c : Nat) (xs : List I5) (hR : ∀ x ∈ xs, SlStatus.InR x) (w : World) (hr : RdS SlStatus.E w p n xs) : Calls Try.prog 22 #[.agg #[.int .i64 x0, .int .i64 x1, .int .i64 x2, .int .i64 f, .int .i64 to, .int .i64 x5, .int .i64 x6], .slice p n c] w (Makes (Egm.cov (Egm.openB f to (Gu.goodU xs x0) (Gu.badF xs x0))) w) := by
  have h1 := goodU_in x0 hR
  have h2 := badF_in x0 hR
  obtain ⟨u, hu⟩ : ∃ u, Gu.goodU xs x0 = u := ⟨_, rfl⟩
  obtain ⟨b, hb⟩ : ∃ b, Gu.badF xs x0 = b := ⟨_, rfl⟩
  rw [hu] at h1
  rw [hb] at h2
  have HU := Lib.hid hu
  have HD := Lib.hid hb
  have H1 := Lib.hid h1
  have H2 := Lib.hid h2
  have HC := Lib.hid hc
  have HR := Lib.hid (hr.below (box1 w (.cells #[.int .i64 x0, .int .i64 x1, .int .i64 x2, .int .i64 f, .int .i64 to, .int .i64 x5, .int .i64 x6] 28)))
  have HB := Lib.hid (box1 w (.cells #[.int .i64 x0, .int .i64 x1, .int .i64 x2, .int .i64 f, .int .i64 to, .int .i64 x5, .int .i64 x6] 28))
  have HI : Hid ((Egm.openB f to (Gu.goodU xs x0) (Gu.badF xs x0)) = (Egm.openB f to u b)) := Lib.hid (by first | rw [hu, hb] | rw [hu] | rw [hb])
  clear h1 h2 hu hb hc hr
  go_enter Try.func22, Try.ntmps22
  go_wp2_with fail
  refine (ent_any x0 x1 x2 f to x5 x6 _ _ _ xs u b HU.out HD.out _ HR.out).mono ?_
  rintro e w1 ⟨rfl, hb⟩
  have HB1 := Lib.hid (below_on HB.out hb)
  clear hb
  go_wp2_with fail
  refine (that_open x0 x1 x2 f to x5 x6 u b (HC.out.2.2.2.1) (HC.out.2.2.2.2.1) H1.out H2.out _).mono ?_
  rintro e w2 ⟨q, m, d, rfl, ho, hb⟩
  have HO := Lib.hid ho
  have HB2 := Lib.hid (below_on HB1.out hb)
  have HS := HB1.out.size
  clear ho hb
  go_wp2_with fail
  go_ret
  refine ⟨_, _, _, rfl, ?_, HB2.out⟩
  have h := HO.out.wide HS (Nat.le_refl _) (Nat.le_refl _)
  rw [← HI.out] at h
  exact h
set_option maxRecDepth 100000 in
set_option maxHeartbeats 4000000 in
theorem entB_any (x0 x1 x2 f to x5 x6 : Int) (hc : SlCert.InR (x0, x1, x2, f, to, x5, x6)) (p : Option Addr) (n c : Nat) (xs : List I5) (hR : ∀ x ∈ xs, SlStatus.InR x) (s0 s1 : Int) (w : World) (hr : RdS SlStatus.E w p n xs) : Calls Try.prog 25 #[.agg #[.int .i64 x0, .int .i64 x1, .int .i64 x2, .int .i64 f, .int .i64 to, .int .i64 x5, .int .i64 x6], .slice p n c, .agg #[.int .i64 s0, .int .i64 s1]] w (Tells (covers (Egm.cov (Egm.goodB f to (Gu.goodU xs x0))) (s0, s1)) w) := by
  have hb0 : Below w.heap.size w ((w.alloc (.cells #[.int .i64 x0, .int .i64 x1, .int .i64 x2, .int .i64 f, .int .i64 to, .int .i64 x5, .int .i64 x6] 28)).alloc (.cells #[.int .i64 s0, .int .i64 s1] 40)) := ((Below.refl w.heap.size w).alloc (Nat.le_refl _) _).alloc (by simp) _
  have HB := Lib.hid hb0
  have HC := Lib.hid hc
  have HR := Lib.hid (hr.below hb0)
  have HX := Lib.hid ((Bx.new w 28 #[.int .i64 x0, .int .i64 x1, .int .i64 x2, .int .i64 f, .int .i64 to, .int .i64 x5, .int .i64 x6]).alloc (.cells #[.int .i64 s0, .int .i64 s1] 40))
  have HY : Hid (Bx ((w.alloc (.cells #[.int .i64 x0, .int .i64 x1, .int .i64 x2, .int .i64 f, .int .i64 to, .int .i64 x5, .int .i64 x6] 28)).alloc (.cells #[.int .i64 s0, .int .i64 s1] 40)) (w.heap.size + 1) 40 #[.int .i64 s0, .int .i64 s1]) := Lib.hid (by have h := Bx.new (w.alloc (.cells #[.int .i64 x0, .int .i64 x1, .int .i64 x2, .int .i64 f, .int .i64 to, .int .i64 x5, .int .i64 x6] 28)) 40 #[.int .i64 s0, .int .i64 s1]; rw [World.size_alloc] at h; exact h)
  have HLn := Egm.cov_len (Egm.goodB f to (Gu.goodU xs x0))
  clear hc hr hb0
  go_enter Try.func25, Try.ntmps25
  go_wp2_with fail
  generalize ((w.alloc (.cells #[.int .i64 x0, .int .i64 x1, .int .i64 x2, .int .i64 f, .int .i64 to, .int .i64 x5, .int .i64 x6] 28)).alloc (.cells #[.int .i64 s0, .int .i64 s1] 40)) = V at HB HR HX HY ⊢
  replace HB := Lib.hid (below_drewN HB.out 1)
  replace HR := Lib.hid HR.out.drew1
  replace HX := Lib.hid HX.out.drew1
  replace HY := Lib.hid HY.out.drew1
  go_region_held3 (fun w' => (w'.cell? ⟨w.heap.size, 0, none⟩ = some (.int .i64 x0) ∧ w'.cell? ⟨w.heap.size, 1, none⟩ = some (.int .i64 x1) ∧ w'.cell? ⟨w.heap.size, 2, none⟩ = some (.int .i64 x2) ∧ w'.cell? ⟨w.heap.size, 3, none⟩ = some (.int .i64 f) ∧ w'.cell? ⟨w.heap.size, 4, none⟩ = some (.int .i64 to) ∧ w'.cell? ⟨w.heap.size, 5, none⟩ = some (.int .i64 x5) ∧ w'.cell? ⟨w.heap.size, 6, none⟩ = some (.int .i64 x6)) ∧ w'.cell? ⟨w.heap.size + 1, 0, none⟩ = some (.int .i64 s0) ∧ w'.cell? ⟨w.heap.size + 1, 1, none⟩ = some (.int .i64 s1)) (first | with_reducible exact ⟨cert7 HX.out, HY.out.cell rfl, HY.out.cell rfl⟩ | go_keep | fail) (first
    | (go_at_call 13; (with_reducible refine (goodS_any x0 x1 x2 f to x5 x6 HC.out _ _ _ xs hR _ HR.out).mono ?_); rintro e w2 ⟨q, m, d, rfl, ho, hb⟩; have HO := Lib.hid ho; have hm := ho.len; replace HB := Lib.hid (below_on HB.out hb); replace HX := Lib.hid (HX.out.below hb); replace HY := Lib.hid (HY.out.below hb); clear hb ho)
    | (go_at_call 52; (with_reducible refine (Tc.covers_any _ _ _ _ s0 s1 _ HO.out.rd (by omega)).mono ?_); rintro e w3 ⟨rfl, hb⟩; replace HB := Lib.hid (below_on HB.out hb); replace HX := Lib.hid (HX.out.below hb); replace HY := Lib.hid (HY.out.below hb); clear hb) | fail)
  all_goals
    go_wp2_with fail
    go_ret
    exact ⟨rfl, HB.out⟩
set_option maxRecDepth 100000 in
set_option maxHeartbeats 4000000 in
theorem barB_any (x0 x1 x2 f to x5 x6 : Int) (hc : SlCert.InR (x0, x1, x2, f, to, x5, x6)) (p : Option Addr) (n c : Nat) (xs : List I5) (hR : ∀ x ∈ xs, SlStatus.InR x) (s0 s1 : Int) (w : World) (hr : RdS SlStatus.E w p n xs) : Calls Try.prog 27 #[.agg #[.int .i64 x0, .int .i64 x1, .int .i64 x2, .int .i64 f, .int .i64 to, .int .i64 x5, .int .i64 x6], .slice p n c, .agg #[.int .i64 s0, .int .i64 s1]] w (Tells (covers (Egm.cov (Egm.badB f to (Gu.badF xs x0))) (s0, s1)) w) := by
  have hb0 : Below w.heap.size w ((w.alloc (.cells #[.int .i64 x0, .int .i64 x1, .int .i64 x2, .int .i64 f, .int .i64 to, .int .i64 x5, .int .i64 x6] 28)).alloc (.cells #[.int .i64 s0, .int .i64 s1] 40)) := ((Below.refl w.heap.size w).alloc (Nat.le_refl _) _).alloc (by simp) _
  have HB := Lib.hid hb0
  have HC := Lib.hid hc
  have HR := Lib.hid (hr.below hb0)
  have HX := Lib.hid ((Bx.new w 28 #[.int .i64 x0, .int .i64 x1, .int .i64 x2, .int .i64 f, .int .i64 to, .int .i64 x5, .int .i64 x6]).alloc (.cells #[.int .i64 s0, .int .i64 s1] 40))
  have HY : Hid (Bx ((w.alloc (.cells #[.int .i64 x0, .int .i64 x1, .int .i64 x2, .int .i64 f, .int .i64 to, .int .i64 x5, .int .i64 x6] 28)).alloc (.cells #[.int .i64 s0, .int .i64 s1] 40)) (w.heap.size + 1) 40 #[.int .i64 s0, .int .i64 s1]) := Lib.hid (by have h := Bx.new (w.alloc (.cells #[.int .i64 x0, .int .i64 x1, .int .i64 x2, .int .i64 f, .int .i64 to, .int .i64 x5, .int .i64 x6] 28)) 40 #[.int .i64 s0, .int .i64 s1]; rw [World.size_alloc] at h; exact h)
  have HLn := Egm.cov_len (Egm.badB f to (Gu.badF xs x0))
  clear hc hr hb0
  go_enter Try.func27, Try.ntmps27
  go_wp2_with fail
  generalize ((w.alloc (.cells #[.int .i64 x0, .int .i64 x1, .int .i64 x2, .int .i64 f, .int .i64 to, .int .i64 x5, .int .i64 x6] 28)).alloc (.cells #[.int .i64 s0, .int .i64 s1] 40)) = V at HB HR HX HY ⊢
  replace HB := Lib.hid (below_drewN HB.out 1)
  replace HR := Lib.hid HR.out.drew1
  replace HX := Lib.hid HX.out.drew1
  replace HY := Lib.hid HY.out.drew1
  go_region_held3 (fun w' => (w'.cell? ⟨w.heap.size, 0, none⟩ = some (.int .i64 x0) ∧ w'.cell? ⟨w.heap.size, 1, none⟩ = some (.int .i64 x1) ∧ w'.cell? ⟨w.heap.size, 2, none⟩ = some (.int .i64 x2) ∧ w'.cell? ⟨w.heap.size, 3, none⟩ = some (.int .i64 f) ∧ w'.cell? ⟨w.heap.size, 4, none⟩ = some (.int .i64 to) ∧ w'.cell? ⟨w.heap.size, 5, none⟩ = some (.int .i64 x5) ∧ w'.cell? ⟨w.heap.size, 6, none⟩ = some (.int .i64 x6)) ∧ w'.cell? ⟨w.heap.size + 1, 0, none⟩ = some (.int .i64 s0) ∧ w'.cell? ⟨w.heap.size + 1, 1, none⟩ = some (.int .i64 s1)) (first | with_reducible exact ⟨cert7 HX.out, HY.out.cell rfl, HY.out.cell rfl⟩ | go_keep | fail) (first
    | (go_at_call 20; (with_reducible refine (badS_any x0 x1 x2 f to x5 x6 HC.out _ _ _ xs hR _ HR.out).mono ?_); rintro e w2 ⟨q, m, d, rfl, ho, hb⟩; have HO := Lib.hid ho; have hm := ho.len; replace HB := Lib.hid (below_on HB.out hb); replace HX := Lib.hid (HX.out.below hb); replace HY := Lib.hid (HY.out.below hb); clear hb ho)
    | (go_at_call 52; (with_reducible refine (Tc.covers_any _ _ _ _ s0 s1 _ HO.out.rd (by omega)).mono ?_); rintro e w3 ⟨rfl, hb⟩; replace HB := Lib.hid (below_on HB.out hb); replace HX := Lib.hid (HX.out.below hb); replace HY := Lib.hid (HY.out.below hb); clear hb) | fail)
  all_goals
    go_wp2_with fail
    go_ret
    exact ⟨rfl, HB.out⟩
end Go.Proofs.Ytlgkgccmilapbaa.Eg3
