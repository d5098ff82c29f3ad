/- Contracts: the times at which a renewal can have been made, in the program and in the reference. -/
import Derived.Test.YtlfmpjmodhlciaaGreatAgB
import Derived.Test.YtlfmpjmodhlciaaGreatAp
import Derived.Test.YtlfmpjmodhlciaaGreatDpRenewal
import Derived.LoopTactic
namespace Go.Proofs.YtlfmpjmodhlciaaGreat.Rsp
open Go.ChangeShapes Go.WideShapes Go.ChangeAt Go.RowKit Sl St Fnd Jn Sps
def f1 (us : List I3) (s : I5) : Sp := (Ap.stS us s.1 s.2.2.1).1
def k1 (us : List I3) (s : I5) : Bool := (Ap.stS us s.1 s.2.2.1).2
def rsp (us : List I3) (ss : List I5) (l : Int) : Sp × Bool := if ss.all (k1 us) = true then Ags.agr (ss.map (f1 us)) l else ((0, 0), false)
theorem rsp_no {us : List I3} {ss : List I5} {l : Int} {k : Nat} {x : I5} (hk : k < ss.length) (hx : ss.getD k SlStamp.zero = x) (h : k1 us x = false) : rsp us ss l = ((0, 0), false) := if_neg fun ha => by
  have := List.all_eq_true.1 ha x (by rw [← hx]; exact getD_mem _ hk)
  rw [h] at this
  cases this
theorem rsp_yes {us : List I3} {ss : List I5} {l : Int} (h : ss.all (k1 us) = true) : rsp us ss l = Ags.agr (ss.map (f1 us)) l := if_pos h
theorem all_next {us : List I3} {ss : List I5} {k : Nat} {x : I5} (hk : k < ss.length) (hx : ss.getD k SlStamp.zero = x) (h : (ss.take k).all (k1 us) = true) (h1 : k1 us x = true) : (ss.take (k + 1)).all (k1 us) = true := by
  rw [take_succ SlStamp.zero hk, hx, List.all_append, h]
  simp [h1]
theorem map_next {us : List I3} {ss : List I5} {k : Nat} {x : I5} (hk : k < ss.length) (hx : ss.getD k SlStamp.zero = x) : (ss.take (k + 1)).map (f1 us) = (ss.take k).map (f1 us) ++ [f1 us x] := by
  rw [take_succ SlStamp.zero hk, hx, List.map_append]
  rfl
theorem box1 (w : World) (o : Obj) : Below w.heap.size w (w.alloc o) := (Below.refl _ _).alloc (Nat.le_refl _) _
theorem bel_alloc {w V : World} {B : Nat} (h : Below B w V) (hB : B ≤ w.heap.size) (o : Obj) : Below B w (V.alloc o) := h.alloc (Nat.le_trans hB h.size) _
theorem one_b (w : World) (x y : Int) : RdS SlSpan.E (w.alloc (.cells #[.int .i64 x, .int .i64 y] 76)) (some ⟨w.heap.size, 0, none⟩) 1 [(x, y)] := (lit_own SlSpan.E 76 w 0 [(x, y)] #[.int .i64 x, .int .i64 y] 1 rfl rfl (by unfold maxLen; omega) (Nat.zero_le _)).rd
/-- what holds between the rounds: the spans so far, the box of the result -/
def RW (us : List I3) (ss : List I5) (k g : Nat) (p : Option Addr) (c : Nat) (w wr : World) : Prop := OwS SlSpan.E 76 wr (g + 1) wr.heap.size p k c ((ss.take k).map (f1 us)) ∧ (ss.take k).all (k1 us) = true ∧ Bx wr g 76 #[.int .i64 0, .int .i64 0] ∧ Below w.heap.size w wr
theorem RW.on {us : List I3} {ss : List I5} {k g : Nat} {p : Option Addr} {c : Nat} {w wr w' : World} (h : RW us ss k g p c w wr) (hb : Below wr.heap.size wr w') : RW us ss k g p c w w' := ⟨(h.1.below hb).wide (Nat.le_refl _) hb.size (Nat.le_refl _), h.2.1, h.2.2.1.below hb, below_on h.2.2.2 hb⟩
set_option maxRecDepth 100000 in
set_option maxHeartbeats 8000000 in
theorem agreed_any (p : Option Addr) (n c : Nat) (us : List I3) (q : Option Addr) (m d : Nat) (ss : List I5) (l : Int) (hl : -9223372036854775808 ≤ l ∧ l ≤ 9223372036854775807) (y0 y1 : Int) (bb : Bool) (hA : rsp us ss l = ((y0, y1), bb)) (w : World) (hr : RdS SlAuthority.E w p n us) (hs : RdS SlStamp.E w q m ss) (hm : m ≤ 1048576) : Calls Tryz.prog 71 #[.slice p n c, .slice q m d, .int .i64 l] w fun e w' => e = .returned (.tuple #[.agg #[.int .i64 y0, .int .i64 y1], .bool bb]) ∧ Below w.heap.size w w' := by
  obtain ⟨i0, hi0, hz0, hz1, hz2⟩ := info_parts SlSpan.info
  have HL := Lib.hid hs.len
  have HA := Lib.hid hA
  have HLR := Lib.hid hl
  have HR := Lib.hid hr
  have HS := Lib.hid hs
  have HK0 : Hid (RW us ss 0 w.heap.size (some ⟨w.heap.size + 1, 0, none⟩) 0 w ((w.alloc (.cells #[.int .i64 0, .int .i64 0] 76)).alloc (.cells #[] 76))) := Lib.hid (by
    have h1 := lit_own SlSpan.E 76 (w.alloc (.cells #[.int .i64 0, .int .i64 0] 76)) (w.heap.size + 1) [] #[] 0 rfl rfl (by unfold maxLen; omega) (by simp)
    have h2 := (Bx.new w 76 #[.int .i64 0, .int .i64 0]).alloc (.cells #[] 76)
    simp only [World.size_alloc] at h1 h2
    exact ⟨h1.wide (Nat.le_refl _) (by simp only [World.size_alloc]; omega) (Nat.le_refl _), rfl, h2, bel_alloc (bel_alloc (Below.refl _ _) (Nat.le_refl _) _) (Nat.le_refl _) _⟩)
  clear hr hs hA hl
  go_enter Tryz.func71, Tryz.ntmps71
  go_wp2_with fail
  generalize ((w.alloc (.cells #[.int .i64 0, .int .i64 0] 76)).alloc (.cells #[] 76)) = V at HK0 ⊢
  go_loopw [8, 16] (fun v i wr => ∃ (k d2 : Nat) (q2 : Option Addr), k ≤ m ∧ i = .int .i64 k ∧ v = .slice q2 k d2 ∧ Hid (RW us ss k w.heap.size q2 d2 w wr)) (fun _ i _ => m - (intOf i).toNat)
  case atStart => exact ⟨0, _, _, Nat.zero_le _, rfl, rfl, HK0⟩
  case round =>
    obtain ⟨k, d2, q2, hk, rfl, rfl, HK⟩ := hrel
    
    by_cases hlt : k < m
    · obtain ⟨b, o, rfl, hbb, hat⟩ := SlStamp.rd_at (HS.out.below HK.out.2.2.2) hlt
      have HKX : Hid (k < ss.length) := Lib.hid (by rw [HL.out]; exact hlt)
      generalize hx : ss.getD k SlStamp.zero = x at hat
      have HXx := Lib.hid hx
      obtain ⟨x0, x1, x2, x3, x4⟩ := x
      obtain ⟨c0, c1, c2, c3, c4⟩ := hat
      rcases hst : Ap.stS us x0 x2 with ⟨⟨ya, yb⟩, ok⟩
      have HSt := Lib.hid hst
      have i1 : (0 : Int) ≤ (k : Int) := by omega
      have i2 : (k : Int) < (m : Int) := by omega
      clear hx
      cases ok
      · have HN := Lib.hid (rsp_no (l := l) HKX.out HXx.out (show k1 us (x0, x1, x2, x3, x4) = false from (by unfold k1; rw [show Ap.stS us (x0, x1, x2, x3, x4).1 (x0, x1, x2, x3, x4).2.2.1 = Ap.stS us x0 x2 from rfl, hst])))
        have h2 := HN.out.symm.trans HA.out
        cases h2
        clear hst
        go_wp2_with fail
        refine (Ap.stampSpan_any p n c us x0 x1 x2 x3 x4 _ (HR.out.below (bel_alloc HK.out.2.2.2 (Nat.le_refl _) _))).mono ?_
        rintro e w1 ⟨rfl, hb⟩
        rw [HSt.out]
        have HK1 := Lib.hid ((HK.out.on (box1 _ _)).on hb)
        clear hb
        have HK2 := Lib.hid (HK1.out.on (box1 w1 (.cells #[.int .i64 ya, .int .i64 yb] 76)))
        obtain ⟨q0, q1, _, _⟩ := HK2.out.2.2.1.two
        have f0 := HK2.out.2.2.1.free 0
        have f1_ := HK2.out.2.2.1.free 1
        go_wp2_with fail
        exact bodyPost_ret (v := .tuple #[.agg #[.int .i64 0, .int .i64 0], .bool false]) (by simp [results, Tryz.results71, go_sem, q0, q1]) rfl ⟨rfl, (HK2.out.2.2.2.setCell (p := ⟨w.heap.size, 0, none⟩) (by show w.heap.size ≤ w.heap.size; omega) _).setCell (p := ⟨w.heap.size, 1, none⟩) (by show w.heap.size ≤ w.heap.size; omega) _⟩
      · have HAl := Lib.hid (all_next HKX.out HXx.out HK.out.2.1 (show k1 us (x0, x1, x2, x3, x4) = true from (by unfold k1; rw [show Ap.stS us (x0, x1, x2, x3, x4).1 (x0, x1, x2, x3, x4).2.2.1 = Ap.stS us x0 x2 from rfl, hst])))
        have HMp : Hid ((ss.take (k + 1)).map (f1 us) = (ss.take k).map (f1 us) ++ [(ya, yb)]) := Lib.hid (by rw [map_next HKX.out HXx.out]; unfold f1; rw [show Ap.stS us (x0, x1, x2, x3, x4).1 (x0, x1, x2, x3, x4).2.2.1 = Ap.stS us x0 x2 from rfl, hst])
        clear hst
        go_wp2_with fail
        refine (Ap.stampSpan_any p n c us x0 x1 x2 x3 x4 _ (HR.out.below (bel_alloc HK.out.2.2.2 (Nat.le_refl _) _))).mono ?_
        rintro e w1 ⟨rfl, hb⟩
        rw [HSt.out]
        
        have HK1 := Lib.hid (((HK.out.on (box1 _ _)).on hb).on (box1 w1 (.cells #[.int .i64 ya, .int .i64 yb] 76)))
        clear hb
        have hsz := HK1.out.2.2.2.size
        have hgl := HK1.out.2.2.1.lt
        have HLit : Hid (RdS SlSpan.E ((w1.alloc (.cells #[.int .i64 ya, .int .i64 yb] 76)).alloc (.cells #[.int .i64 ya, .int .i64 yb] 76)) (some ⟨w1.heap.size + 1, 0, none⟩) 1 [(ya, yb)]) := Lib.hid (by have h := one_b (w1.alloc (.cells #[.int .i64 ya, .int .i64 yb] 76)) ya yb; rw [World.size_alloc] at h; exact h)
        have HZ : Hid (w.heap.size + 1 ≤ ((w1.alloc (.cells #[.int .i64 ya, .int .i64 yb] 76)).alloc (.cells #[.int .i64 ya, .int .i64 yb] 76)).heap.size) := Lib.hid (by rw [World.size_alloc]; omega)
        go_wp2_with (at_builtin; refine wpList_appS rfl (.tmp 29) (.tmp 31) 111 rfl i0 _ 16 Tryz.underlying111 hi0 hz0 hz1 hz2 rfl rfl (HK1.out.1.alloc _) _ 1 1 [(ya, yb)] rfl HLit.out HZ.out (by omega) (by omega) ?_; intro p4 c4 w4 how4 hg4; rw [← HMp.out] at how4; have HK2 : Hid (RW us ss (k + 1) w.heap.size p4 c4 w w4) := Lib.hid ⟨how4, HAl.out, (HK1.out.2.2.1.alloc (.cells #[.int .i64 ya, .int .i64 yb] 76)).grown hg4 (fun e => by have := (HK1.out.1.alloc (.cells #[.int .i64 ya, .int .i64 yb] 76)).far _ e.symm; omega), (bel_alloc HK1.out.2.2.2 (Nat.le_refl _) (.cells #[.int .i64 ya, .int .i64 yb] 76)).grown hg4 (Nat.le_trans hsz (by simp)) (fun g e => by have := (HK1.out.1.alloc (.cells #[.int .i64 ya, .int .i64 yb] 76)).far g e; omega)⟩; clear how4 hg4)
        go_roundw
        case rel => exact ⟨k + 1, _, _, by omega, by go_num, rfl, HK2⟩
        case measure => simp [intOf]; omega
    · obtain rfl : k = m := by omega
      have HAg : Hid (Ags.agr ((ss.take k).map (f1 us)) l = ((y0, y1), bb)) := Lib.hid (by
        have hall := HK.out.2.1
        rw [List.take_of_length_le (by rw [HL.out]; exact Nat.le_refl _)] at hall ⊢
        rw [← rsp_yes hall]
        exact HA.out)
      go_wp2_with fail
      refine (Ags.agreed_any _ _ _ _ l HLR.out y0 y1 bb HAg.out _ HK.out.1.rd hm).mono ?_
      rintro e w1 ⟨rfl, hb⟩
      have HK1 := Lib.hid (HK.out.on hb)
      clear hb
      obtain ⟨q0, q1, _, _⟩ := HK1.out.2.2.1.two
      have f0 := HK1.out.2.2.1.free 0
      have f1_ := HK1.out.2.2.1.free 1
      go_wp2_with fail
      exact bodyPost_ret (v := .tuple #[.agg #[.int .i64 y0, .int .i64 y1], .bool bb]) (by simp [results, Tryz.results71, go_sem, q0, q1]) rfl ⟨rfl, (HK1.out.2.2.2.setCell (p := ⟨w.heap.size, 0, none⟩) (by show w.heap.size ≤ w.heap.size; omega) _).setCell (p := ⟨w.heap.size, 1, none⟩) (by show w.heap.size ≤ w.heap.size; omega) _⟩
set_option maxRecDepth 100000 in
set_option maxHeartbeats 4000000 in
theorem span_any (p : Option Addr) (n c : Nat) (us : List I3) (r0 r1 r2 : Int) (rp : Option Addr) (rn rc : Nat) (q : Option Addr) (m d : Nat) (ss : List I5) (l : Int) (hl : -9223372036854775808 ≤ l ∧ l ≤ 9223372036854775807) (y0 y1 : Int) (bb : Bool) (hA : rsp us ss l = ((y0, y1), bb)) (w : World) (hr : RdS SlAuthority.E w p n us) (hs : RdS SlStamp.E w q m ss) (hm : m ≤ 1048576) : Calls Tryz.prog 44 #[.slice p n c, .agg #[.int .i64 r0, .int .i64 r1, .int .i64 r2, .slice rp rn rc, .slice q m d], .int .i64 l] w fun e w' => e = .returned (.tuple #[.agg #[.int .i64 y0, .int .i64 y1], .bool bb]) ∧ Below w.heap.size w w' := by
  have hb0 : Below w.heap.size w ((w.alloc (.cells #[.int .i64 r0, .int .i64 r1, .int .i64 r2, .slice rp rn rc, .slice q m d] 74)).alloc (.cells #[.int .i64 0, .int .i64 0] 76)) := bel_alloc (box1 _ _) (Nat.le_refl _) _
  have HB := Lib.hid hb0
  have HR := Lib.hid (hr.below hb0)
  have HS := Lib.hid (hs.below hb0)
  have HA := Lib.hid hA
  have HY : Hid (Bx ((w.alloc (.cells #[.int .i64 r0, .int .i64 r1, .int .i64 r2, .slice rp rn rc, .slice q m d] 74)).alloc (.cells #[.int .i64 0, .int .i64 0] 76)) (w.heap.size + 1) 76 #[.int .i64 0, .int .i64 0]) := Lib.hid (by have h := Bx.new (w.alloc (.cells #[.int .i64 r0, .int .i64 r1, .int .i64 r2, .slice rp rn rc, .slice q m d] 74)) 76 #[.int .i64 0, .int .i64 0]; rw [World.size_alloc] at h; exact h)
  clear hb0 hr hs hA
  go_enter Tryz.func44, Tryz.ntmps44
  go_wp2_with fail
  refine (agreed_any p n c us q m d ss l hl y0 y1 bb HA.out _ HR.out HS.out hm).mono ?_
  rintro e w1 ⟨rfl, hb⟩
  replace HB := Lib.hid (below_on HB.out hb)
  replace HY := Lib.hid (HY.out.below hb)
  clear hb
  obtain ⟨q0, q1, _, _⟩ := HY.out.two
  have f0 := HY.out.free 0
  have f1_ := HY.out.free 1
  go_wp2_with fail
  exact bodyPost_ret (v := .tuple #[.agg #[.int .i64 y0, .int .i64 y1], .bool bb]) (by simp [results, Tryz.results44, go_sem, q0, q1]) rfl ⟨rfl, (HB.out.setCell (p := ⟨w.heap.size + 1, 0, none⟩) (by show w.heap.size ≤ w.heap.size + 1; omega) _).setCell (p := ⟨w.heap.size + 1, 1, none⟩) (by show w.heap.size ≤ w.heap.size + 1; omega) _⟩
set_option maxRecDepth 100000 in
set_option maxHeartbeats 8000000 in
theorem spec_span_any (p : Option Addr) (n c : Nat) (us : List I3) (r0 r1 r2 : Int) (rp : Option Addr) (rn rc : Nat) (q : Option Addr) (m d : Nat) (ss : List I5) (l : Int) (hl : -9223372036854775808 ≤ l ∧ l ≤ 9223372036854775807) (y0 y1 : Int) (bb : Bool) (hA : rsp us ss l = ((y0, y1), bb)) (w : World) (hr : RdS SlAuthority.E w p n us) (hs : RdS SlStamp.E w q m ss) (hm : m ≤ 1048576) : Calls Tryz.prog 36 #[.slice p n c, .agg #[.int .i64 r0, .int .i64 r1, .int .i64 r2, .slice rp rn rc, .slice q m d], .int .i64 l] w fun e w' => e = .returned (.tuple #[.agg #[.int .i64 y0, .int .i64 y1], .bool bb]) ∧ Below w.heap.size w w' := by
  obtain ⟨i0, hi0, hz0, hz1, hz2⟩ := info_parts SlSpan.info
  have HL := Lib.hid hs.len
  have HA := Lib.hid hA
  have HLR := Lib.hid hl
  have HR := Lib.hid hr
  have HS := Lib.hid hs
  have HXr := Lib.hid (((Bx.new w 74 #[.int .i64 r0, .int .i64 r1, .int .i64 r2, .slice rp rn rc, .slice q m d]).alloc (.cells #[.int .i64 0, .int .i64 0] 76)).alloc (.cells #[] 76))
  have HK0 : Hid (RW us ss 0 (w.heap.size + 1) (some ⟨w.heap.size + 1 + 1, 0, none⟩) 0 w (((w.alloc (.cells #[.int .i64 r0, .int .i64 r1, .int .i64 r2, .slice rp rn rc, .slice q m d] 74)).alloc (.cells #[.int .i64 0, .int .i64 0] 76)).alloc (.cells #[] 76))) := Lib.hid (by
    have h1 := lit_own SlSpan.E 76 ((w.alloc (.cells #[.int .i64 r0, .int .i64 r1, .int .i64 r2, .slice rp rn rc, .slice q m d] 74)).alloc (.cells #[.int .i64 0, .int .i64 0] 76)) (w.heap.size + 1 + 1) [] #[] 0 rfl rfl (by unfold maxLen; omega) (by simp)
    have h2 := (Bx.new (w.alloc (.cells #[.int .i64 r0, .int .i64 r1, .int .i64 r2, .slice rp rn rc, .slice q m d] 74)) 76 #[.int .i64 0, .int .i64 0]).alloc (.cells #[] 76)
    simp only [World.size_alloc] at h1 h2
    exact ⟨h1.wide (Nat.le_refl _) (by simp only [World.size_alloc]; omega) (Nat.le_refl _), rfl, h2, bel_alloc (bel_alloc (box1 _ _) (Nat.le_refl _) _) (Nat.le_refl _) _⟩)
  clear hr hs hA hl
  go_enter Tryz.func36, Tryz.ntmps36
  go_wp2_with fail
  generalize (((w.alloc (.cells #[.int .i64 r0, .int .i64 r1, .int .i64 r2, .slice rp rn rc, .slice q m d] 74)).alloc (.cells #[.int .i64 0, .int .i64 0] 76)).alloc (.cells #[] 76)) = V at HK0 HXr ⊢
  go_loopw [8, 9] (fun v i wr => ∃ (k d2 : Nat) (q2 : Option Addr), k ≤ m ∧ i = .int .i64 k ∧ v = .slice q2 k d2 ∧ Hid (RW us ss k (w.heap.size + 1) q2 d2 w wr) ∧ Hid (Bx wr w.heap.size 74 #[.int .i64 r0, .int .i64 r1, .int .i64 r2, .slice rp rn rc, .slice q m d])) (fun _ i _ => m - (intOf i).toNat)
  case atStart => exact ⟨0, _, _, Nat.zero_le _, rfl, rfl, HK0, HXr⟩
  case round =>
    obtain ⟨k, d2, q2, hk, rfl, rfl, HK, HXk⟩ := hrel
    obtain ⟨_, _, _, _, z4⟩ := DpRenewal.bxc HXk.out
    by_cases hlt : k < m
    · obtain ⟨b, o, rfl, hbb, hat⟩ := SlStamp.rd_at (HS.out.below HK.out.2.2.2) hlt
      have HKX : Hid (k < ss.length) := Lib.hid (by rw [HL.out]; exact hlt)
      generalize hx : ss.getD k SlStamp.zero = x at hat
      have HXx := Lib.hid hx
      obtain ⟨x0, x1, x2, x3, x4⟩ := x
      obtain ⟨c0, c1, c2, c3, c4⟩ := hat
      rcases hst : Ap.stS us x0 x2 with ⟨⟨ya, yb⟩, ok⟩
      have HSt := Lib.hid hst
      have i1 : (0 : Int) ≤ (k : Int) := by omega
      have i2 : (k : Int) < (m : Int) := by omega
      clear hx
      cases ok
      · have HN := Lib.hid (rsp_no (l := l) HKX.out HXx.out (show k1 us (x0, x1, x2, x3, x4) = false from (by unfold k1; rw [show Ap.stS us (x0, x1, x2, x3, x4).1 (x0, x1, x2, x3, x4).2.2.1 = Ap.stS us x0 x2 from rfl, hst])))
        have h2 := HN.out.symm.trans HA.out
        cases h2
        clear hst
        go_wp2_with fail
        refine (Ap.spec_stampSpan_any p n c us x0 x1 x2 x3 x4 _ (HR.out.below HK.out.2.2.2)).mono ?_
        rintro e w1 ⟨rfl, hb⟩
        rw [HSt.out]
        have HK1 := Lib.hid (HK.out.on hb)
        clear hb
        have HK2 := Lib.hid (HK1.out.on (box1 w1 (.cells #[.int .i64 ya, .int .i64 yb] 76)))
        obtain ⟨q0, q1, _, _⟩ := HK2.out.2.2.1.two
        have f0 := HK2.out.2.2.1.free 0
        have f1_ := HK2.out.2.2.1.free 1
        go_wp2_with fail
        exact bodyPost_ret (v := .tuple #[.agg #[.int .i64 0, .int .i64 0], .bool false]) (by simp [results, Tryz.results36, go_sem, q0, q1]) rfl ⟨rfl, (HK2.out.2.2.2.setCell (p := ⟨(w.heap.size + 1), 0, none⟩) (by show w.heap.size ≤ (w.heap.size + 1); omega) _).setCell (p := ⟨(w.heap.size + 1), 1, none⟩) (by show w.heap.size ≤ (w.heap.size + 1); omega) _⟩
      · have HAl := Lib.hid (all_next HKX.out HXx.out HK.out.2.1 (show k1 us (x0, x1, x2, x3, x4) = true from (by unfold k1; rw [show Ap.stS us (x0, x1, x2, x3, x4).1 (x0, x1, x2, x3, x4).2.2.1 = Ap.stS us x0 x2 from rfl, hst])))
        have HMp : Hid ((ss.take (k + 1)).map (f1 us) = (ss.take k).map (f1 us) ++ [(ya, yb)]) := Lib.hid (by rw [map_next HKX.out HXx.out]; unfold f1; rw [show Ap.stS us (x0, x1, x2, x3, x4).1 (x0, x1, x2, x3, x4).2.2.1 = Ap.stS us x0 x2 from rfl, hst])
        clear hst
        go_wp2_with fail
        refine (Ap.spec_stampSpan_any p n c us x0 x1 x2 x3 x4 _ (HR.out.below HK.out.2.2.2)).mono ?_
        rintro e w1 ⟨rfl, hb⟩
        rw [HSt.out]
        have HXk1 := Lib.hid ((HXk.out.below hb).alloc (.cells #[.int .i64 ya, .int .i64 yb] 76))
        have HK1 := Lib.hid ((HK.out.on hb).on (box1 w1 (.cells #[.int .i64 ya, .int .i64 yb] 76)))
        clear hb
        have hsz := HK1.out.2.2.2.size
        have hgl := HK1.out.2.2.1.lt
        have HLit : Hid (RdS SlSpan.E ((w1.alloc (.cells #[.int .i64 ya, .int .i64 yb] 76)).alloc (.cells #[.int .i64 ya, .int .i64 yb] 76)) (some ⟨w1.heap.size + 1, 0, none⟩) 1 [(ya, yb)]) := Lib.hid (by have h := one_b (w1.alloc (.cells #[.int .i64 ya, .int .i64 yb] 76)) ya yb; rw [World.size_alloc] at h; exact h)
        have HZ : Hid ((w.heap.size + 1) + 1 ≤ ((w1.alloc (.cells #[.int .i64 ya, .int .i64 yb] 76)).alloc (.cells #[.int .i64 ya, .int .i64 yb] 76)).heap.size) := Lib.hid (by rw [World.size_alloc]; omega)
        go_wp2_with (at_builtin; refine wpList_appS rfl (.tmp 33) (.tmp 35) 111 rfl i0 _ 16 Tryz.underlying111 hi0 hz0 hz1 hz2 rfl rfl (HK1.out.1.alloc _) _ 1 1 [(ya, yb)] rfl HLit.out HZ.out (by omega) (by omega) ?_; intro p4 c4 w4 how4 hg4; rw [← HMp.out] at how4; have HK2 : Hid (RW us ss (k + 1) (w.heap.size + 1) p4 c4 w w4) := Lib.hid ⟨how4, HAl.out, (HK1.out.2.2.1.alloc (.cells #[.int .i64 ya, .int .i64 yb] 76)).grown hg4 (fun e => by have := (HK1.out.1.alloc (.cells #[.int .i64 ya, .int .i64 yb] 76)).far _ e.symm; omega), (bel_alloc HK1.out.2.2.2 (Nat.le_refl _) (.cells #[.int .i64 ya, .int .i64 yb] 76)).grown hg4 (Nat.le_trans hsz (by simp)) (fun g e => by have := (HK1.out.1.alloc (.cells #[.int .i64 ya, .int .i64 yb] 76)).far g e; omega)⟩; have HXk2 := Lib.hid ((HXk1.out.alloc (.cells #[.int .i64 ya, .int .i64 yb] 76)).grown hg4 (fun e => by have := (HK1.out.1.alloc (.cells #[.int .i64 ya, .int .i64 yb] 76)).far _ e.symm; omega)); clear how4 hg4)
        go_roundw
        case rel => exact ⟨k + 1, _, _, by omega, by go_num, rfl, HK2, HXk2⟩
        case measure => simp [intOf]; omega
    · obtain rfl : k = m := by omega
      have HAg : Hid (Ags.agr ((ss.take k).map (f1 us)) l = ((y0, y1), bb)) := Lib.hid (by
        have hall := HK.out.2.1
        rw [List.take_of_length_le (by rw [HL.out]; exact Nat.le_refl _)] at hall ⊢
        rw [← rsp_yes hall]
        exact HA.out)
      go_wp2_with fail
      refine (Ags.spec_agreed_any _ _ _ _ l y0 y1 bb HAg.out _ HK.out.1.rd hm).mono ?_
      rintro e w1 ⟨rfl, hb⟩
      have HK1 := Lib.hid (HK.out.on hb)
      clear hb
      obtain ⟨q0, q1, _, _⟩ := HK1.out.2.2.1.two
      have f0 := HK1.out.2.2.1.free 0
      have f1_ := HK1.out.2.2.1.free 1
      go_wp2_with fail
      exact bodyPost_ret (v := .tuple #[.agg #[.int .i64 y0, .int .i64 y1], .bool bb]) (by simp [results, Tryz.results36, go_sem, q0, q1]) rfl ⟨rfl, (HK1.out.2.2.2.setCell (p := ⟨(w.heap.size + 1), 0, none⟩) (by show w.heap.size ≤ (w.heap.size + 1); omega) _).setCell (p := ⟨(w.heap.size + 1), 1, none⟩) (by show w.heap.size ≤ (w.heap.size + 1); omega) _⟩
end Go.Proofs.YtlfmpjmodhlciaaGreat.Rsp
namespace Go.Proofs.YtlfmpjmodhlciaaGreat.SlSpan
theorem bxc {w : World} {g : Nat} {T : TypeId} {y0 y1 : Value} (h : Sl.Bx w g T #[y0, y1]) : w.cell? ⟨g, 0, none⟩ = some y0 ∧ w.cell? ⟨g, 1, none⟩ = some y1 := ⟨h.cell rfl, h.cell rfl⟩
end Go.Proofs.YtlfmpjmodhlciaaGreat.SlSpan
