/- Contracts: the times at which a renewal can have been made, in the program and in the reference. LinkHolds: whether what came after a renewal came in time: in the program and in the reference. -/
import Derived.Test.YtfojilogcecphaaGreatAgB
import Derived.Test.YtfojilogcecphaaGreatAp
import Derived.Test.YtfojilogcecphaaGreatDpRenewal
import Derived.LoopTactic
import Derived.Test.YtfojilogcecphaaGreatFmB
import Derived.Test.YtfojilogcecphaaGreatDpFrame
import Derived.Test.YtfojilogcecphaaGreatDpStrand
import Derived.Test.YtfojilogcecphaaGreatQrA
import Derived.Outline
namespace Go.Proofs.YtfojilogcecphaaGreat.Rsp
open Go.ChangeShapes Go.WideShapes Go.ChangeAt Go.RowKit Sl St Fnd Jn Sps
def f1 (us : List I3) (s : I5) : Sp := (Ap.stS us s.1 s.2.2.1).1
def k1 (us : List I3) (s : I5) : Bool := (Ap.stS us s.1 s.2.2.1).2
def rsp (us : List I3) (ss : List I5) (l : Int) : Sp × Bool := if ss.all (k1 us) = true then Ags.agr (ss.map (f1 us)) l else ((0, 0), false)
theorem rsp_no {us : List I3} {ss : List I5} {l : Int} {k : Nat} {x : I5} (hk : k < ss.length) (hx : ss.getD k SlStamp.zero = x) (h : k1 us x = false) : rsp us ss l = ((0, 0), false) := if_neg fun ha => by
  have := List.all_eq_true.1 ha x (by rw [← hx]; exact getD_mem _ hk)
  rw [h] at this
  cases this
theorem rsp_yes {us : List I3} {ss : List I5} {l : Int} (h : ss.all (k1 us) = true) : rsp us ss l = Ags.agr (ss.map (f1 us)) l := if_pos h
theorem all_next {us : List I3} {ss : List I5} {k : Nat} {x : I5} (hk : k < ss.length) (hx : ss.getD k SlStamp.zero = x) (h : (ss.take k).all (k1 us) = true) (h1 : k1 us x = true) : (ss.take (k + 1)).all (k1 us) = true := by
  rw [take_succ SlStamp.zero hk, hx, List.all_append, h]
  simp [h1]
theorem map_next {us : List I3} {ss : List I5} {k : Nat} {x : I5} (hk : k < ss.length) (hx : ss.getD k SlStamp.zero = x) : (ss.take (k + 1)).map (f1 us) = (ss.take k).map (f1 us) ++ [f1 us x] := by
  rw [take_succ SlStamp.zero hk, hx, List.map_append]
  rfl
theorem box1 (w : World) (o : Obj) : Below w.heap.size w (w.alloc o) := (Below.refl _ _).alloc (Nat.le_refl _) _
theorem bel_alloc {w V : World} {B : Nat} (h : Below B w V) (hB : B ≤ w.heap.size) (o : Obj) : Below B w (V.alloc o) := h.alloc (Nat.le_trans hB h.size) _
theorem one_b (w : World) (x y : Int) : RdS SlSpan.E (w.alloc (.cells #[.int .i64 x, .int .i64 y] 105)) (some ⟨w.heap.size, 0, none⟩) 1 [(x, y)] := (lit_own SlSpan.E 105 w 0 [(x, y)] #[.int .i64 x, .int .i64 y] 1 rfl rfl (by unfold maxLen; omega) (Nat.zero_le _)).rd
/-- what holds between the rounds: the spans so far, the box of the result -/
def RW (us : List I3) (ss : List I5) (k g : Nat) (p : Option Addr) (c : Nat) (w wr : World) : Prop := OwS SlSpan.E 105 wr (g + 1) wr.heap.size p k c ((ss.take k).map (f1 us)) ∧ (ss.take k).all (k1 us) = true ∧ Bx wr g 105 #[.int .i64 0, .int .i64 0] ∧ Below w.heap.size w wr
theorem RW.on {us : List I3} {ss : List I5} {k g : Nat} {p : Option Addr} {c : Nat} {w wr w' : World} (h : RW us ss k g p c w wr) (hb : Below wr.heap.size wr w') : RW us ss k g p c w w' := ⟨(h.1.below hb).wide (Nat.le_refl _) hb.size (Nat.le_refl _), h.2.1, h.2.2.1.below hb, below_on h.2.2.2 hb⟩
set_option maxRecDepth 100000 in
set_option maxHeartbeats 8000000 in
theorem agreed_any (p : Option Addr) (n c : Nat) (us : List I3) (q : Option Addr) (m d : Nat) (ss : List I5) (l : Int) (hl : -9223372036854775808 ≤ l ∧ l ≤ 9223372036854775807) (y0 y1 : Int) (bb : Bool) (hA : rsp us ss l = ((y0, y1), bb)) (w : World) (hr : RdS SlAuthority.E w p n us) (hs : RdS SlStamp.E w q m ss) (hm : m ≤ 1048576) : Calls Tryz.prog 104 #[.slice p n c, .slice q m d, .int .i64 l] w fun e w' => e = .returned (.tuple #[.agg #[.int .i64 y0, .int .i64 y1], .bool bb]) ∧ Below w.heap.size w w' := by
  obtain ⟨i0, hi0, hz0, hz1, hz2⟩ := info_parts SlSpan.info
  have HL := Lib.hid hs.len
  have HA := Lib.hid hA
  have HLR := Lib.hid hl
  have HR := Lib.hid hr
  have HS := Lib.hid hs
  have HK0 : Hid (RW us ss 0 w.heap.size (some ⟨w.heap.size + 1, 0, none⟩) 0 w ((w.alloc (.cells #[.int .i64 0, .int .i64 0] 105)).alloc (.cells #[] 105))) := Lib.hid (by
    have h1 := lit_own SlSpan.E 105 (w.alloc (.cells #[.int .i64 0, .int .i64 0] 105)) (w.heap.size + 1) [] #[] 0 rfl rfl (by unfold maxLen; omega) (by simp)
    have h2 := (Bx.new w 105 #[.int .i64 0, .int .i64 0]).alloc (.cells #[] 105)
    simp only [World.size_alloc] at h1 h2
    exact ⟨h1.wide (Nat.le_refl _) (by simp only [World.size_alloc]; omega) (Nat.le_refl _), rfl, h2, bel_alloc (bel_alloc (Below.refl _ _) (Nat.le_refl _) _) (Nat.le_refl _) _⟩)
  clear hr hs hA hl
  go_enter Tryz.func104, Tryz.ntmps104
  go_wp2_with fail
  generalize ((w.alloc (.cells #[.int .i64 0, .int .i64 0] 105)).alloc (.cells #[] 105)) = V at HK0 ⊢
  go_loopw [8, 16] (fun v i wr => ∃ (k d2 : Nat) (q2 : Option Addr), k ≤ m ∧ i = .int .i64 k ∧ v = .slice q2 k d2 ∧ Hid (RW us ss k w.heap.size q2 d2 w wr)) (fun _ i _ => m - (intOf i).toNat)
  case atStart => exact ⟨0, _, _, Nat.zero_le _, rfl, rfl, HK0⟩
  case round =>
    obtain ⟨k, d2, q2, hk, rfl, rfl, HK⟩ := hrel
    
    by_cases hlt : k < m
    · obtain ⟨b, o, rfl, hbb, hat⟩ := SlStamp.rd_at (HS.out.below HK.out.2.2.2) hlt
      have HKX : Hid (k < ss.length) := Lib.hid (by rw [HL.out]; exact hlt)
      generalize hx : ss.getD k SlStamp.zero = x at hat
      have HXx := Lib.hid hx
      obtain ⟨x0, x1, x2, x3, x4⟩ := x
      obtain ⟨c0, c1, c2, c3, c4⟩ := hat
      rcases hst : Ap.stS us x0 x2 with ⟨⟨ya, yb⟩, ok⟩
      have HSt := Lib.hid hst
      have i1 : (0 : Int) ≤ (k : Int) := by omega
      have i2 : (k : Int) < (m : Int) := by omega
      clear hx
      cases ok
      · have HN := Lib.hid (rsp_no (l := l) HKX.out HXx.out (show k1 us (x0, x1, x2, x3, x4) = false from (by unfold k1; rw [show Ap.stS us (x0, x1, x2, x3, x4).1 (x0, x1, x2, x3, x4).2.2.1 = Ap.stS us x0 x2 from rfl, hst])))
        have h2 := HN.out.symm.trans HA.out
        cases h2
        clear hst
        go_wp2_with fail
        refine (Ap.stampSpan_any p n c us x0 x1 x2 x3 x4 _ (HR.out.below (bel_alloc HK.out.2.2.2 (Nat.le_refl _) _))).mono ?_
        rintro e w1 ⟨rfl, hb⟩
        rw [HSt.out]
        have HK1 := Lib.hid ((HK.out.on (box1 _ _)).on hb)
        clear hb
        have HK2 := Lib.hid (HK1.out.on (box1 w1 (.cells #[.int .i64 ya, .int .i64 yb] 105)))
        obtain ⟨q0, q1, _, _⟩ := HK2.out.2.2.1.two
        have f0 := HK2.out.2.2.1.free 0
        have f1_ := HK2.out.2.2.1.free 1
        go_wp2_with fail
        exact bodyPost_ret (v := .tuple #[.agg #[.int .i64 0, .int .i64 0], .bool false]) (by simp [results, Tryz.results104, go_sem, q0, q1]) rfl ⟨rfl, (HK2.out.2.2.2.setCell (p := ⟨w.heap.size, 0, none⟩) (by show w.heap.size ≤ w.heap.size; omega) _).setCell (p := ⟨w.heap.size, 1, none⟩) (by show w.heap.size ≤ w.heap.size; omega) _⟩
      · have HAl := Lib.hid (all_next HKX.out HXx.out HK.out.2.1 (show k1 us (x0, x1, x2, x3, x4) = true from (by unfold k1; rw [show Ap.stS us (x0, x1, x2, x3, x4).1 (x0, x1, x2, x3, x4).2.2.1 = Ap.stS us x0 x2 from rfl, hst])))
        have HMp : Hid ((ss.take (k + 1)).map (f1 us) = (ss.take k).map (f1 us) ++ [(ya, yb)]) := Lib.hid (by rw [map_next HKX.out HXx.out]; unfold f1; rw [show Ap.stS us (x0, x1, x2, x3, x4).1 (x0, x1, x2, x3, x4).2.2.1 = Ap.stS us x0 x2 from rfl, hst])
        clear hst
        go_wp2_with fail
        refine (Ap.stampSpan_any p n c us x0 x1 x2 x3 x4 _ (HR.out.below (bel_alloc HK.out.2.2.2 (Nat.le_refl _) _))).mono ?_
        rintro e w1 ⟨rfl, hb⟩
        rw [HSt.out]
        
        have HK1 := Lib.hid (((HK.out.on (box1 _ _)).on hb).on (box1 w1 (.cells #[.int .i64 ya, .int .i64 yb] 105)))
        clear hb
        have hsz := HK1.out.2.2.2.size
        have hgl := HK1.out.2.2.1.lt
        have HLit : Hid (RdS SlSpan.E ((w1.alloc (.cells #[.int .i64 ya, .int .i64 yb] 105)).alloc (.cells #[.int .i64 ya, .int .i64 yb] 105)) (some ⟨w1.heap.size + 1, 0, none⟩) 1 [(ya, yb)]) := Lib.hid (by have h := one_b (w1.alloc (.cells #[.int .i64 ya, .int .i64 yb] 105)) ya yb; rw [World.size_alloc] at h; exact h)
        have HZ : Hid (w.heap.size + 1 ≤ ((w1.alloc (.cells #[.int .i64 ya, .int .i64 yb] 105)).alloc (.cells #[.int .i64 ya, .int .i64 yb] 105)).heap.size) := Lib.hid (by rw [World.size_alloc]; omega)
        go_wp2_with (at_builtin; refine wpList_appS rfl (.tmp 29) (.tmp 31) 151 rfl i0 _ 16 Tryz.underlying151 hi0 hz0 hz1 hz2 rfl rfl (HK1.out.1.alloc _) _ 1 1 [(ya, yb)] rfl HLit.out HZ.out (by omega) (by omega) ?_; intro p4 c4 w4 how4 hg4; rw [← HMp.out] at how4; have HK2 : Hid (RW us ss (k + 1) w.heap.size p4 c4 w w4) := Lib.hid ⟨how4, HAl.out, (HK1.out.2.2.1.alloc (.cells #[.int .i64 ya, .int .i64 yb] 105)).grown hg4 (fun e => by have := (HK1.out.1.alloc (.cells #[.int .i64 ya, .int .i64 yb] 105)).far _ e.symm; omega), (bel_alloc HK1.out.2.2.2 (Nat.le_refl _) (.cells #[.int .i64 ya, .int .i64 yb] 105)).grown hg4 (Nat.le_trans hsz (by simp)) (fun g e => by have := (HK1.out.1.alloc (.cells #[.int .i64 ya, .int .i64 yb] 105)).far g e; omega)⟩; clear how4 hg4)
        go_roundw
        case rel => exact ⟨k + 1, _, _, by omega, by go_num, rfl, HK2⟩
        case measure => simp [intOf]; omega
    · obtain rfl : k = m := by omega
      have HAg : Hid (Ags.agr ((ss.take k).map (f1 us)) l = ((y0, y1), bb)) := Lib.hid (by
        have hall := HK.out.2.1
        rw [List.take_of_length_le (by rw [HL.out]; exact Nat.le_refl _)] at hall ⊢
        rw [← rsp_yes hall]
        exact HA.out)
      go_wp2_with fail
      refine (Ags.agreed_any _ _ _ _ l HLR.out y0 y1 bb HAg.out _ HK.out.1.rd hm).mono ?_
      rintro e w1 ⟨rfl, hb⟩
      have HK1 := Lib.hid (HK.out.on hb)
      clear hb
      obtain ⟨q0, q1, _, _⟩ := HK1.out.2.2.1.two
      have f0 := HK1.out.2.2.1.free 0
      have f1_ := HK1.out.2.2.1.free 1
      go_wp2_with fail
      exact bodyPost_ret (v := .tuple #[.agg #[.int .i64 y0, .int .i64 y1], .bool bb]) (by simp [results, Tryz.results104, go_sem, q0, q1]) rfl ⟨rfl, (HK1.out.2.2.2.setCell (p := ⟨w.heap.size, 0, none⟩) (by show w.heap.size ≤ w.heap.size; omega) _).setCell (p := ⟨w.heap.size, 1, none⟩) (by show w.heap.size ≤ w.heap.size; omega) _⟩
set_option maxRecDepth 100000 in
set_option maxHeartbeats 4000000 in
theorem span_any (p : Option Addr) (n c : Nat) (us : List I3) (r0 r1 r2 : Int) (rp : Option Addr) (rn rc : Nat) (q : Option Addr) (m d : Nat) (ss : List I5) (l : Int) (hl : -9223372036854775808 ≤ l ∧ l ≤ 9223372036854775807) (y0 y1 : Int) (bb : Bool) (hA : rsp us ss l = ((y0, y1), bb)) (w : World) (hr : RdS SlAuthority.E w p n us) (hs : RdS SlStamp.E w q m ss) (hm : m ≤ 1048576) : Calls Tryz.prog 76 #[.slice p n c, .agg #[.int .i64 r0, .int .i64 r1, .int .i64 r2, .slice rp rn rc, .slice q m d], .int .i64 l] w fun e w' => e = .returned (.tuple #[.agg #[.int .i64 y0, .int .i64 y1], .bool bb]) ∧ Below w.heap.size w w' := by
  have hb0 : Below w.heap.size w ((w.alloc (.cells #[.int .i64 r0, .int .i64 r1, .int .i64 r2, .slice rp rn rc, .slice q m d] 103)).alloc (.cells #[.int .i64 0, .int .i64 0] 105)) := bel_alloc (box1 _ _) (Nat.le_refl _) _
  have HB := Lib.hid hb0
  have HR := Lib.hid (hr.below hb0)
  have HS := Lib.hid (hs.below hb0)
  have HA := Lib.hid hA
  have HY : Hid (Bx ((w.alloc (.cells #[.int .i64 r0, .int .i64 r1, .int .i64 r2, .slice rp rn rc, .slice q m d] 103)).alloc (.cells #[.int .i64 0, .int .i64 0] 105)) (w.heap.size + 1) 105 #[.int .i64 0, .int .i64 0]) := Lib.hid (by have h := Bx.new (w.alloc (.cells #[.int .i64 r0, .int .i64 r1, .int .i64 r2, .slice rp rn rc, .slice q m d] 103)) 105 #[.int .i64 0, .int .i64 0]; rw [World.size_alloc] at h; exact h)
  clear hb0 hr hs hA
  go_enter Tryz.func76, Tryz.ntmps76
  go_wp2_with fail
  refine (agreed_any p n c us q m d ss l hl y0 y1 bb HA.out _ HR.out HS.out hm).mono ?_
  rintro e w1 ⟨rfl, hb⟩
  replace HB := Lib.hid (below_on HB.out hb)
  replace HY := Lib.hid (HY.out.below hb)
  clear hb
  obtain ⟨q0, q1, _, _⟩ := HY.out.two
  have f0 := HY.out.free 0
  have f1_ := HY.out.free 1
  go_wp2_with fail
  exact bodyPost_ret (v := .tuple #[.agg #[.int .i64 y0, .int .i64 y1], .bool bb]) (by simp [results, Tryz.results76, go_sem, q0, q1]) rfl ⟨rfl, (HB.out.setCell (p := ⟨w.heap.size + 1, 0, none⟩) (by show w.heap.size ≤ w.heap.size + 1; omega) _).setCell (p := ⟨w.heap.size + 1, 1, none⟩) (by show w.heap.size ≤ w.heap.size + 1; omega) _⟩
set_option maxRecDepth 100000 in
set_option maxHeartbeats 8000000 in
theorem spec_span_any (p : Option Addr) (n c : Nat) (us : List I3) (r0 r1 r2 : Int) (rp : Option Addr) (rn rc : Nat) (q : Option Addr) (m d : Nat) (ss : List I5) (l : Int) (hl : -9223372036854775808 ≤ l ∧ l ≤ 9223372036854775807) (y0 y1 : Int) (bb : Bool) (hA : rsp us ss l = ((y0, y1), bb)) (w : World) (hr : RdS SlAuthority.E w p n us) (hs : RdS SlStamp.E w q m ss) (hm : m ≤ 1048576) : Calls Tryz.prog 53 #[.slice p n c, .agg #[.int .i64 r0, .int .i64 r1, .int .i64 r2, .slice rp rn rc, .slice q m d], .int .i64 l] w fun e w' => e = .returned (.tuple #[.agg #[.int .i64 y0, .int .i64 y1], .bool bb]) ∧ Below w.heap.size w w' := by
  obtain ⟨i0, hi0, hz0, hz1, hz2⟩ := info_parts SlSpan.info
  have HL := Lib.hid hs.len
  have HA := Lib.hid hA
  have HLR := Lib.hid hl
  have HR := Lib.hid hr
  have HS := Lib.hid hs
  have HXr := Lib.hid (((Bx.new w 103 #[.int .i64 r0, .int .i64 r1, .int .i64 r2, .slice rp rn rc, .slice q m d]).alloc (.cells #[.int .i64 0, .int .i64 0] 105)).alloc (.cells #[] 105))
  have HK0 : Hid (RW us ss 0 (w.heap.size + 1) (some ⟨w.heap.size + 1 + 1, 0, none⟩) 0 w (((w.alloc (.cells #[.int .i64 r0, .int .i64 r1, .int .i64 r2, .slice rp rn rc, .slice q m d] 103)).alloc (.cells #[.int .i64 0, .int .i64 0] 105)).alloc (.cells #[] 105))) := Lib.hid (by
    have h1 := lit_own SlSpan.E 105 ((w.alloc (.cells #[.int .i64 r0, .int .i64 r1, .int .i64 r2, .slice rp rn rc, .slice q m d] 103)).alloc (.cells #[.int .i64 0, .int .i64 0] 105)) (w.heap.size + 1 + 1) [] #[] 0 rfl rfl (by unfold maxLen; omega) (by simp)
    have h2 := (Bx.new (w.alloc (.cells #[.int .i64 r0, .int .i64 r1, .int .i64 r2, .slice rp rn rc, .slice q m d] 103)) 105 #[.int .i64 0, .int .i64 0]).alloc (.cells #[] 105)
    simp only [World.size_alloc] at h1 h2
    exact ⟨h1.wide (Nat.le_refl _) (by simp only [World.size_alloc]; omega) (Nat.le_refl _), rfl, h2, bel_alloc (bel_alloc (box1 _ _) (Nat.le_refl _) _) (Nat.le_refl _) _⟩)
  clear hr hs hA hl
  go_enter Tryz.func53, Tryz.ntmps53
  go_wp2_with fail
  generalize (((w.alloc (.cells #[.int .i64 r0, .int .i64 r1, .int .i64 r2, .slice rp rn rc, .slice q m d] 103)).alloc (.cells #[.int .i64 0, .int .i64 0] 105)).alloc (.cells #[] 105)) = V at HK0 HXr ⊢
  go_loopw [8, 9] (fun v i wr => ∃ (k d2 : Nat) (q2 : Option Addr), k ≤ m ∧ i = .int .i64 k ∧ v = .slice q2 k d2 ∧ Hid (RW us ss k (w.heap.size + 1) q2 d2 w wr) ∧ Hid (Bx wr w.heap.size 103 #[.int .i64 r0, .int .i64 r1, .int .i64 r2, .slice rp rn rc, .slice q m d])) (fun _ i _ => m - (intOf i).toNat)
  case atStart => exact ⟨0, _, _, Nat.zero_le _, rfl, rfl, HK0, HXr⟩
  case round =>
    obtain ⟨k, d2, q2, hk, rfl, rfl, HK, HXk⟩ := hrel
    obtain ⟨_, _, _, _, z4⟩ := DpRenewal.bxc HXk.out
    by_cases hlt : k < m
    · obtain ⟨b, o, rfl, hbb, hat⟩ := SlStamp.rd_at (HS.out.below HK.out.2.2.2) hlt
      have HKX : Hid (k < ss.length) := Lib.hid (by rw [HL.out]; exact hlt)
      generalize hx : ss.getD k SlStamp.zero = x at hat
      have HXx := Lib.hid hx
      obtain ⟨x0, x1, x2, x3, x4⟩ := x
      obtain ⟨c0, c1, c2, c3, c4⟩ := hat
      rcases hst : Ap.stS us x0 x2 with ⟨⟨ya, yb⟩, ok⟩
      have HSt := Lib.hid hst
      have i1 : (0 : Int) ≤ (k : Int) := by omega
      have i2 : (k : Int) < (m : Int) := by omega
      clear hx
      cases ok
      · have HN := Lib.hid (rsp_no (l := l) HKX.out HXx.out (show k1 us (x0, x1, x2, x3, x4) = false from (by unfold k1; rw [show Ap.stS us (x0, x1, x2, x3, x4).1 (x0, x1, x2, x3, x4).2.2.1 = Ap.stS us x0 x2 from rfl, hst])))
        have h2 := HN.out.symm.trans HA.out
        cases h2
        clear hst
        go_wp2_with fail
        refine (Ap.spec_stampSpan_any p n c us x0 x1 x2 x3 x4 _ (HR.out.below HK.out.2.2.2)).mono ?_
        rintro e w1 ⟨rfl, hb⟩
        rw [HSt.out]
        have HK1 := Lib.hid (HK.out.on hb)
        clear hb
        have HK2 := Lib.hid (HK1.out.on (box1 w1 (.cells #[.int .i64 ya, .int .i64 yb] 105)))
        obtain ⟨q0, q1, _, _⟩ := HK2.out.2.2.1.two
        have f0 := HK2.out.2.2.1.free 0
        have f1_ := HK2.out.2.2.1.free 1
        go_wp2_with fail
        exact bodyPost_ret (v := .tuple #[.agg #[.int .i64 0, .int .i64 0], .bool false]) (by simp [results, Tryz.results53, go_sem, q0, q1]) rfl ⟨rfl, (HK2.out.2.2.2.setCell (p := ⟨(w.heap.size + 1), 0, none⟩) (by show w.heap.size ≤ (w.heap.size + 1); omega) _).setCell (p := ⟨(w.heap.size + 1), 1, none⟩) (by show w.heap.size ≤ (w.heap.size + 1); omega) _⟩
      · have HAl := Lib.hid (all_next HKX.out HXx.out HK.out.2.1 (show k1 us (x0, x1, x2, x3, x4) = true from (by unfold k1; rw [show Ap.stS us (x0, x1, x2, x3, x4).1 (x0, x1, x2, x3, x4).2.2.1 = Ap.stS us x0 x2 from rfl, hst])))
        have HMp : Hid ((ss.take (k + 1)).map (f1 us) = (ss.take k).map (f1 us) ++ [(ya, yb)]) := Lib.hid (by rw [map_next HKX.out HXx.out]; unfold f1; rw [show Ap.stS us (x0, x1, x2, x3, x4).1 (x0, x1, x2, x3, x4).2.2.1 = Ap.stS us x0 x2 from rfl, hst])
        clear hst
        go_wp2_with fail
        refine (Ap.spec_stampSpan_any p n c us x0 x1 x2 x3 x4 _ (HR.out.below HK.out.2.2.2)).mono ?_
        rintro e w1 ⟨rfl, hb⟩
        rw [HSt.out]
        have HXk1 := Lib.hid ((HXk.out.below hb).alloc (.cells #[.int .i64 ya, .int .i64 yb] 105))
        have HK1 := Lib.hid ((HK.out.on hb).on (box1 w1 (.cells #[.int .i64 ya, .int .i64 yb] 105)))
        clear hb
        have hsz := HK1.out.2.2.2.size
        have hgl := HK1.out.2.2.1.lt
        have HLit : Hid (RdS SlSpan.E ((w1.alloc (.cells #[.int .i64 ya, .int .i64 yb] 105)).alloc (.cells #[.int .i64 ya, .int .i64 yb] 105)) (some ⟨w1.heap.size + 1, 0, none⟩) 1 [(ya, yb)]) := Lib.hid (by have h := one_b (w1.alloc (.cells #[.int .i64 ya, .int .i64 yb] 105)) ya yb; rw [World.size_alloc] at h; exact h)
        have HZ : Hid ((w.heap.size + 1) + 1 ≤ ((w1.alloc (.cells #[.int .i64 ya, .int .i64 yb] 105)).alloc (.cells #[.int .i64 ya, .int .i64 yb] 105)).heap.size) := Lib.hid (by rw [World.size_alloc]; omega)
        go_wp2_with (at_builtin; refine wpList_appS rfl (.tmp 33) (.tmp 35) 151 rfl i0 _ 16 Tryz.underlying151 hi0 hz0 hz1 hz2 rfl rfl (HK1.out.1.alloc _) _ 1 1 [(ya, yb)] rfl HLit.out HZ.out (by omega) (by omega) ?_; intro p4 c4 w4 how4 hg4; rw [← HMp.out] at how4; have HK2 : Hid (RW us ss (k + 1) (w.heap.size + 1) p4 c4 w w4) := Lib.hid ⟨how4, HAl.out, (HK1.out.2.2.1.alloc (.cells #[.int .i64 ya, .int .i64 yb] 105)).grown hg4 (fun e => by have := (HK1.out.1.alloc (.cells #[.int .i64 ya, .int .i64 yb] 105)).far _ e.symm; omega), (bel_alloc HK1.out.2.2.2 (Nat.le_refl _) (.cells #[.int .i64 ya, .int .i64 yb] 105)).grown hg4 (Nat.le_trans hsz (by simp)) (fun g e => by have := (HK1.out.1.alloc (.cells #[.int .i64 ya, .int .i64 yb] 105)).far g e; omega)⟩; have HXk2 := Lib.hid ((HXk1.out.alloc (.cells #[.int .i64 ya, .int .i64 yb] 105)).grown hg4 (fun e => by have := (HK1.out.1.alloc (.cells #[.int .i64 ya, .int .i64 yb] 105)).far _ e.symm; omega)); clear how4 hg4)
        go_roundw
        case rel => exact ⟨k + 1, _, _, by omega, by go_num, rfl, HK2, HXk2⟩
        case measure => simp [intOf]; omega
    · obtain rfl : k = m := by omega
      have HAg : Hid (Ags.agr ((ss.take k).map (f1 us)) l = ((y0, y1), bb)) := Lib.hid (by
        have hall := HK.out.2.1
        rw [List.take_of_length_le (by rw [HL.out]; exact Nat.le_refl _)] at hall ⊢
        rw [← rsp_yes hall]
        exact HA.out)
      go_wp2_with fail
      refine (Ags.spec_agreed_any _ _ _ _ l y0 y1 bb HAg.out _ HK.out.1.rd hm).mono ?_
      rintro e w1 ⟨rfl, hb⟩
      have HK1 := Lib.hid (HK.out.on hb)
      clear hb
      obtain ⟨q0, q1, _, _⟩ := HK1.out.2.2.1.two
      have f0 := HK1.out.2.2.1.free 0
      have f1_ := HK1.out.2.2.1.free 1
      go_wp2_with fail
      exact bodyPost_ret (v := .tuple #[.agg #[.int .i64 y0, .int .i64 y1], .bool bb]) (by simp [results, Tryz.results53, go_sem, q0, q1]) rfl ⟨rfl, (HK1.out.2.2.2.setCell (p := ⟨(w.heap.size + 1), 0, none⟩) (by show w.heap.size ≤ (w.heap.size + 1); omega) _).setCell (p := ⟨(w.heap.size + 1), 1, none⟩) (by show w.heap.size ≤ (w.heap.size + 1); omega) _⟩
end Go.Proofs.YtfojilogcecphaaGreat.Rsp
namespace Go.Proofs.YtfojilogcecphaaGreat.SlSpan
theorem bxc {w : World} {g : Nat} {T : TypeId} {y0 y1 : Value} (h : Sl.Bx w g T #[y0, y1]) : w.cell? ⟨g, 0, none⟩ = some y0 ∧ w.cell? ⟨g, 1, none⟩ = some y1 := ⟨h.cell rfl, h.cell rfl⟩
end Go.Proofs.YtfojilogcecphaaGreat.SlSpan

namespace Go.Proofs.YtfojilogcecphaaGreat.Lh
open Go.ChangeShapes Go.WideShapes Go.ChangeAt Go.RowKit Sl St Ed Dz Fnd Fm0
/-- when a renewal breaks -/
def brkR (ks : List I5) (us : List I3) (ms : List Mn.Me) (r : DpRenewal.A) : Int := firstM ks us (Mn.brk ms) r.2.1 r.2.2.2.2
/-- the span of the times of a renewal, and whether it has one -/
def spanR (us : List I3) (L : Int) (r : DpRenewal.A) : (Int × Int) × Bool := Rsp.rsp us r.2.2.2.2 L
def lh (ks : List I5) (us : List I3) (ms : List Mn.Me) (L now : Int) (ch : List DpRenewal.A) (k : Nat) : Bool := match ch[k]? with
  | none => false
  | some r => match ch[k + 1]? with
    | none => decide (now < brkR ks us ms r)
    | some r2 => (spanR us L r2).2 && decide ((spanR us L r2).1.2 < brkR ks us ms r)
/-- of any index -/
def lhI (ks : List I5) (us : List I3) (ms : List Mn.Me) (L now : Int) (ch : List DpRenewal.A) (k : Int) : Bool := if 0 ≤ k then lh ks us ms L now ch k.toNat else false
section
variable {ks : List I5} {us : List I3} {ms : List Mn.Me} {L now : Int} {ch : List DpRenewal.A}
theorem lhI_out {k : Int} (h : ¬ (0 ≤ k ∧ k < (ch.length : Int))) : lhI ks us ms L now ch k = false := by
  unfold lhI
  by_cases h0 : 0 ≤ k
  · rw [if_pos h0]
    unfold lh
    rw [List.getElem?_eq_none (by omega)]
  · rw [if_neg h0]
theorem lhI_nat (k : Nat) : lhI ks us ms L now ch (k : Int) = lh ks us ms L now ch k := by
  unfold lhI
  rw [if_pos (by omega), Int.toNat_natCast]
theorem lh_last {k : Nat} {r : DpRenewal.A} (h : ch[k]? = some r) (hk : k + 1 = ch.length) : lh ks us ms L now ch k = decide (now < brkR ks us ms r) := by
  unfold lh
  rw [h, List.getElem?_eq_none (by omega)]
theorem lh_at {k : Nat} {r r2 : DpRenewal.A} (h : ch[k]? = some r) (h2 : ch[k + 1]? = some r2) : lh ks us ms L now ch k = ((spanR us L r2).2 && decide ((spanR us L r2).1.2 < brkR ks us ms r)) := by
  unfold lh
  rw [h, h2]
end
theorem keep1 {w : World} {b q : Nat} {l : List Value} {x : Obj} (hb : b < w.heap.size) (h : ∀ j v, l[j]? = some v → w.cell? ⟨b, q + j, none⟩ = some v) : ∀ j v, l[j]? = some v → (w.alloc x).cell? ⟨b, q + j, none⟩ = some v := fun j v hv => ((box1 w x).cell (p := ⟨b, q + j, none⟩) hb).trans (h j v hv)
theorem far5 {w : World} {g b q r : Nat} {c1 c3 s1 d0 d1 d2 d3 d4 : Value} {u v : Value} (h0 : g ≠ r) (h1 : g + 1 ≠ r) (hb : b ≠ r) (h : (w.cell? ⟨g, 1, none⟩ = some c1 ∧ w.cell? ⟨g, 3, none⟩ = some c3 ∧ w.cell? ⟨g + 1, 1, none⟩ = some s1) ∧ w.cell? ⟨b, q, none⟩ = some d0 ∧ w.cell? ⟨b, q + 1, none⟩ = some d1 ∧ w.cell? ⟨b, q + 2, none⟩ = some d2 ∧ w.cell? ⟨b, q + 3, none⟩ = some d3 ∧ w.cell? ⟨b, q + 4, none⟩ = some d4) : (((w.setCell ⟨r, 0, none⟩ u).setCell ⟨r, 1, none⟩ v).cell? ⟨g, 1, none⟩ = some c1 ∧ ((w.setCell ⟨r, 0, none⟩ u).setCell ⟨r, 1, none⟩ v).cell? ⟨g, 3, none⟩ = some c3 ∧ ((w.setCell ⟨r, 0, none⟩ u).setCell ⟨r, 1, none⟩ v).cell? ⟨g + 1, 1, none⟩ = some s1) ∧ ((w.setCell ⟨r, 0, none⟩ u).setCell ⟨r, 1, none⟩ v).cell? ⟨b, q, none⟩ = some d0 ∧ ((w.setCell ⟨r, 0, none⟩ u).setCell ⟨r, 1, none⟩ v).cell? ⟨b, q + 1, none⟩ = some d1 ∧ ((w.setCell ⟨r, 0, none⟩ u).setCell ⟨r, 1, none⟩ v).cell? ⟨b, q + 2, none⟩ = some d2 ∧ ((w.setCell ⟨r, 0, none⟩ u).setCell ⟨r, 1, none⟩ v).cell? ⟨b, q + 3, none⟩ = some d3 ∧ ((w.setCell ⟨r, 0, none⟩ u).setCell ⟨r, 1, none⟩ v).cell? ⟨b, q + 4, none⟩ = some d4 := ⟨⟨Ap.far2 h.1.1 h0 u v, Ap.far2 h.1.2.1 h0 u v, Ap.far2 h.1.2.2 h1 u v⟩, Ap.far2 h.2.1 hb u v, Ap.far2 h.2.2.1 hb u v, Ap.far2 h.2.2.2.1 hb u v, Ap.far2 h.2.2.2.2.1 hb u v, Ap.far2 h.2.2.2.2.2 hb u v⟩
theorem bel2 {w V : World} {B : Nat} (h : Below B w V) (hB : B ≤ w.heap.size) (x : Obj) : Below B w (V.alloc x) := h.alloc (Nat.le_trans hB h.size) _
theorem len4 {xs : List DpRenewal.A} {k : Nat} {x0 x1 x2 : Int} {l3 : List (Int × Bool)} {l4 : List I5} (h : xs[k]? = some (x0, x1, x2, l3, l4)) (hm : wts DpRenewal.E xs ≤ 1048576) : l4.length ≤ 1048576 := by
  have h1 := wts_at (E := DpRenewal.E) h
  rw [DpRenewal.wt_eq] at h1
  omega
theorem fr2 {w' : World} {g : Nat} {TF TS : TypeId} {v0 v1 v2 v3 v4 s0 s1 : Value} (h : Bx w' g TF #[v0, v1, v2, v3, v4]) (h2 : Bx w' (g + 1) TS #[s0, s1]) : w'.cell? ⟨g, 1, none⟩ = some v1 ∧ w'.cell? ⟨g, 3, none⟩ = some v3 ∧ w'.cell? ⟨g + 1, 1, none⟩ = some s1 := ⟨h.cell rfl, h.cell rfl, h2.cell rfl⟩
set_option maxRecDepth 100000 in
set_option maxHeartbeats 8000000 in
theorem link_any (ks : List I5) (pk : Option Addr) (nk ck : Nat) (us : List I3) (pa : Option Addr) (na ca : Nat) (ms : List Mn.Me) (pm : Option Addr) (nm cm : Nat) (L now : Int) (p0 : Option Addr) (n0 c0 : Nat) (l1 : List DpRenewal.A) (p1 : Option Addr) (n1 c1 : Nat) (k : Int) {SK SA SM S1 : Nat → Prop} (w : World) (hL : InI L) (hk : RdD (flat SlKey.E SlKey.InR) SK w pk nk ks) (ha : RdD (flat SlAuthority.E SlAuthority.InR) SA w pa na us) (hm : RdD (flat SlMethod.E SlMethod.InR) SM w pm nm ms) (h1 : RdD DpRenewal.E S1 w p1 n1 l1) (hw : wts DpRenewal.E l1 ≤ 1048576) : Calls Tryz.prog 79 #[.agg #[.slice pk nk ck, .slice pa na ca, .slice pm nm cm, .int .i64 L, .int .i64 now], .agg #[.slice p0 n0 c0, .slice p1 n1 c1], .int .i64 k] w (Dz.Val (.bool (lhI ks us ms L now l1 k)) w) := by
  have hb : Below w.heap.size w ((w.alloc (.cells #[.slice pk nk ck, .slice pa na ca, .slice pm nm cm, .int .i64 L, .int .i64 now] 39)).alloc (.cells #[.slice p0 n0 c0, .slice p1 n1 c1] 44)) := (box1 w _).alloc (by simp) _
  have bx1 := (Bx.new w 39 #[.slice pk nk ck, .slice pa na ca, .slice pm nm cm, .int .i64 L, .int .i64 now]).alloc (.cells #[.slice p0 n0 c0, .slice p1 n1 c1] 44)
  have bx2 := Bx.new (w.alloc (.cells #[.slice pk nk ck, .slice pa na ca, .slice pm nm cm, .int .i64 L, .int .i64 now] 39)) 44 #[.slice p0 n0 c0, .slice p1 n1 c1]
  rw [World.size_alloc] at bx2
  have HBV := Lib.hid hb
  have HG := Lib.hid bx1
  have HX := Lib.hid bx2
  have HK := Lib.hid (hk.below hb)
  have HA := Lib.hid (ha.below hb)
  have HM := Lib.hid (hm.below hb)
  have H1 := Lib.hid (h1.below hb)
  have HLR : Hid (-9223372036854775808 ≤ L ∧ L ≤ 9223372036854775807) := Lib.hid hL
  have HLEN := Lib.hid h1.len
  have hle := h1.le
  have hww : IntKind.i64.wrap ((n1 : Int) - 1) = (n1 : Int) - 1 := IntWalk.i64_in _ (by omega)
  clear hb bx1 bx2 hk ha hm h1 hL
  obtain ⟨s0, s1⟩ := DpStrand.bxc HX.out
  by_cases hin : 0 ≤ k ∧ k < (n1 : Int)
  case neg =>
    have HS : Hid (lhI ks us ms L now l1 k = false) := Lib.hid (lhI_out (by rw [HLEN.out]; exact hin))
    have HD : Hid (decide (0 ≤ k ∧ k ≤ (n1 : Int) - 1) = false) := Lib.hid (decide_eq_false (by omega))
    clear hin
    go_enter Tryz.func79, Tryz.ntmps79
    go_wp2_with fail
    refine (Ints.inRange_any k 0 ((n1 : Int) - 1) false HD.out _).mono ?_
    rintro e w1 ⟨rfl, rfl⟩
    go_wp2_with fail
    go_ret
    exact Dz.val_of (by rw [HS.out]; first | done | rfl) HBV.out
  case pos =>
    obtain ⟨j, rfl⟩ : ∃ j : Nat, k = (j : Int) := ⟨k.toNat, by omega⟩
    have hj : j < n1 := by omega
    have HD : Hid (decide (0 ≤ (j : Int) ∧ (j : Int) ≤ (n1 : Int) - 1) = true) := Lib.hid (decide_eq_true (by omega))
    obtain ⟨b, o, x_e, cs_e, rfl, _, hbwe, hxe, hce, hrde⟩ := H1.out.at_ hj
    obtain ⟨xe0, xe1, xe2, le3, le4⟩ := x_e
    obtain ⟨pe3, ne3, ce3, pe4, ne4, ce4, rfl, be0, be1, be2, he3, he4⟩ := DpRenewal.ex hrde
    have HXe := Lib.hid hxe
    have HCe := Lib.hid hce
    have HBe := Lib.hid hbwe
    have He3 := Lib.hid he3
    have He4 := Lib.hid he4
    have Gbe1 := Lib.hid be1
    have hne4 : ne4 ≤ 1048576 := by have := len4 hxe hw; rw [he4.len] at this; exact this
    obtain ⟨E, hE⟩ : ∃ z, firstM ks us (Mn.brk ms) xe1 le4 = z := ⟨_, rfl⟩
    have HE := Lib.hid hE
    have HR : Hid (brkR ks us ms (xe0, xe1, xe2, le3, le4) = E) := Lib.hid hE
    clear hE hce hxe hrde be0 be1 be2 he3 he4 hin hbwe
    have i1 : (0 : Int) ≤ (j : Int) := by omega
    have i2 : (j : Int) < (n1 : Int) := by omega
    go_enter Tryz.func79, Tryz.ntmps79
    go_wp2_with fail
    refine (Ints.inRange_any (j : Int) 0 ((n1 : Int) - 1) true HD.out _).mono ?_
    rintro e w1 ⟨rfl, rfl⟩
    clear HD
    go_wp2_with fail
    generalize ((w.alloc (.cells #[.slice pk nk ck, .slice pa na ca, .slice pm nm cm, .int .i64 L, .int .i64 now] 39)).alloc (.cells #[.slice p0 n0 c0, .slice (some ⟨b, o, none⟩) n1 c1] 44)) = V at HBV HG HX HK HA HM H1 HCe HBe He3 He4 s0 s1 ⊢
    clear s0 s1
    have HC : Hid (∀ w', Qt.Keeps (V) w' → w'.cell? ⟨w.heap.size, 0, none⟩ = some (.slice pk nk ck) ∧ w'.cell? ⟨w.heap.size, 1, none⟩ = some (.slice pa na ca) ∧ w'.cell? ⟨w.heap.size, 2, none⟩ = some (.slice pm nm cm) ∧ w'.cell? ⟨w.heap.size + 1, 1, none⟩ = some (.slice (some ⟨b, o, none⟩) n1 c1) ∧ w'.cell? ⟨b, o + j * 5, none⟩ = some (.int .i64 xe0) ∧ w'.cell? ⟨b, o + j * 5 + 1, none⟩ = some (.int .i64 xe1) ∧ w'.cell? ⟨b, o + j * 5 + 2, none⟩ = some (.int .i64 xe2) ∧ w'.cell? ⟨b, o + j * 5 + 3, none⟩ = some (.slice pe3 ne3 ce3) ∧ w'.cell? ⟨b, o + j * 5 + 4, none⟩ = some (.slice pe4 ne4 ce4)) := Lib.hid fun w' hw => let g := DpFrame.bxc (HG.out.below hw); let h := DpStrand.bxc (HX.out.below hw); let u := DpRenewal.at_cells (fun jj v hv => (hw.cell (p := ⟨b, o + j * 5 + jj, none⟩) HBe.out).trans (HCe.out jj v hv)); ⟨g.1, g.2.1, g.2.2.1, h.2, u.1, u.2.1, u.2.2.1, u.2.2.2.1, u.2.2.2.2⟩
    refine Qt.region (Qt.Keeps (V)) (by kernel_rfl) (by kernel_rfl) (Qt.Keeps.drew _) ?_
    repeat (first
      | go_big_quiet_skip
      | (go_big_quiet_want
         refine Qt.val (v := ?_) (fun w hw => ?_) ?_
         rotate_left
         · obtain ⟨g0, g1, g2, s1, u0, u1, u2, u3, u4⟩ := HC.out w hw
           go_simp
           rfl
         simp only [Act.put, List.setIfInBounds_toArray, List.set_cons_zero, List.set_cons_succ]
         go_big_quiet_on)
      | (go_big_quiet_want
         refine Qt.call (v := .int .i64 E) (f := 113) (args := #[.slice pk nk ck, .slice pa na ca, .slice pm nm cm, .agg #[.int .i64 xe0, .int .i64 xe1, .int .i64 xe2, .slice pe3 ne3 ce3, .slice pe4 ne4 ce4]]) (fun w hw => ?_) (fun w hw => ?_) ?_
         · go_simp
         · refine (Fm2B.break_any ks _ _ _ us _ _ _ ms _ _ _ xe0 xe1 xe2 le3 _ _ _ le4 _ _ _ Gbe1.out _ (HK.out.below hw) (HA.out.below hw) (HM.out.below hw) (He3.out.below hw) (He4.out.below hw) hne4).mono ?_
           rintro e w1 ⟨rfl, hb1⟩
           rw [HE.out]
           exact ⟨rfl, hw.then hb1⟩
         simp only [Act.put, List.setIfInBounds_toArray, List.set_cons_zero, List.set_cons_succ]
         go_big_quiet_on))
    refine wpQuiet_nil ?_
    intro w2 hw2
    replace HBV := Lib.hid (below_on HBV.out hw2)
    replace HG := Lib.hid (HG.out.below hw2)
    replace HX := Lib.hid (HX.out.below hw2)
    replace HA := Lib.hid (HA.out.below hw2)
    replace H1 := Lib.hid (H1.out.below hw2)
    clear hw2 HK HM He3 He4 HCe HBe
    obtain ⟨g0, g1, g2, g3, g4⟩ := DpFrame.bxc HG.out
    obtain ⟨s0, s1⟩ := DpStrand.bxc HX.out
    by_cases hlast : j + 1 = n1
    · have HS : Hid (lhI ks us ms L now l1 (j : Int) = decide (now < E)) := Lib.hid (by rw [lhI_nat, lh_last HXe.out (by rw [HLEN.out]; exact hlast), HR.out])
      have e1 : ((j : Int) == (n1 : Int) - 1) = true := beq_iff_eq.2 (by omega)
      go_wp2_with fail
      go_ret
      exact Dz.val_of (by rw [HS.out]; first | done | rfl) HBV.out
    · have hj1 : j + 1 < n1 := by omega
      have e1 : ((j : Int) == (n1 : Int) - 1) = false := beq_eq_false_iff_ne.2 (by omega)
      obtain ⟨b', o', x_f, cs_f, hpe, _, hbwf, hxf, hcf, hrdf⟩ := H1.out.at_ hj1
      cases hpe
      obtain ⟨xf0, xf1, xf2, lf3, lf4⟩ := x_f
      obtain ⟨pf3, nf3, cf3, pf4, nf4, cf4, rfl, _, _, _, hf3, hf4⟩ := DpRenewal.ex hrdf
      have hnf4 : nf4 ≤ 1048576 := by have := len4 hxf hw; rw [hf4.len] at this; exact this
      rcases hsp : Rsp.rsp us lf4 L with ⟨⟨ya, yb⟩, ok⟩
      have HSP := Lib.hid hsp
      have HS : Hid (lhI ks us ms L now l1 (j : Int) = (ok && decide (yb < E))) := Lib.hid (by rw [lhI_nat, lh_at HXe.out hxf, HR.out]; show ((Rsp.rsp us lf4 L).2 && decide ((Rsp.rsp us lf4 L).1.2 < E)) = _; rw [hsp])
      have HCf := Lib.hid hcf
      have HBf := Lib.hid hbwf
      have Hf4 := Lib.hid hf4
      have jw : IntKind.i64.wrap ((j : Int) + 1) = (j : Int) + 1 := IntWalk.i64_in _ (by omega)
      have i3 : (0 : Int) ≤ (j : Int) + 1 := by omega
      have i4 : (j : Int) + 1 < (n1 : Int) := by omega
      have hto : ((j : Int) + 1).toNat = j + 1 := by omega
      clear hcf hbwf hf3 hf4 hsp hxf hrdf
      go_wp2_with fail
      clear g0 g1 g2 g3 g4 s0 s1
      have hgt : w.heap.size + 1 < w2.heap.size := HX.out.lt
      have HSZ : Hid (w.heap.size ≤ w2.heap.size) := Lib.hid (by omega)
      have HBVa := Lib.hid (below_drewN (bel2 HBV.out (Nat.le_refl _) (.cells #[.int .i64 0, .int .i64 0] 105)) 1)
      have HGa := Lib.hid (HG.out.alloc (.cells #[.int .i64 0, .int .i64 0] 105)).drew1
      have HXa := Lib.hid (HX.out.alloc (.cells #[.int .i64 0, .int .i64 0] 105)).drew1
      have HYa := Lib.hid (Bx.new w2 105 #[.int .i64 0, .int .i64 0]).drew1
      have HAa := Lib.hid (HA.out.below (box1 w2 (.cells #[.int .i64 0, .int .i64 0] 105))).drew1
      have Hf4a := Lib.hid (Hf4.out.below (box1 w2 (.cells #[.int .i64 0, .int .i64 0] 105))).drew1
      have HCfa : Hid (∀ jj v, [.int .i64 xf0, .int .i64 xf1, .int .i64 xf2, .slice pf3 nf3 cf3, .slice pf4 nf4 cf4][jj]? = some v → (w2.alloc (.cells #[.int .i64 0, .int .i64 0] 105)).drew.cell? ⟨b, o + (j + 1) * 5 + jj, none⟩ = some v) := Lib.hid (keep1 HBf.out HCf.out)
      have HBfa : Hid (b < (w2.alloc (.cells #[.int .i64 0, .int .i64 0] 105)).drew.heap.size) := Lib.hid (Nat.lt_of_lt_of_le HBf.out (box1 w2 _).size)
      replace HBV := Lib.hid (below_drewN HBV.out 1)
      replace HG := Lib.hid HG.out.drew1
      replace HX := Lib.hid HX.out.drew1
      replace HA := Lib.hid HA.out.drew1
      replace Hf4 := Lib.hid Hf4.out.drew1
      replace HCf : Hid (∀ jj v, [.int .i64 xf0, .int .i64 xf1, .int .i64 xf2, .slice pf3 nf3 cf3, .slice pf4 nf4 cf4][jj]? = some v → w2.drew.cell? ⟨b, o + (j + 1) * 5 + jj, none⟩ = some v) := Lib.hid HCf.out
      have HBf' : Hid (b < w2.drew.heap.size) := Lib.hid HBf.out
      have hne0 : w.heap.size ≠ w2.heap.size := by omega
      have hne1 : w.heap.size + 1 ≠ w2.heap.size := by omega
      have hneb : b ≠ w2.heap.size := Nat.ne_of_lt HBf.out
      go_region_held3 (fun w' => (w'.cell? ⟨w.heap.size, 1, none⟩ = some (.slice pa na ca) ∧ w'.cell? ⟨w.heap.size, 3, none⟩ = some (.int .i64 L) ∧ w'.cell? ⟨w.heap.size + 1, 1, none⟩ = some (.slice (some ⟨b, o, none⟩) n1 c1)) ∧ w'.cell? ⟨b, o + (j + 1) * 5, none⟩ = some (.int .i64 xf0) ∧ w'.cell? ⟨b, o + (j + 1) * 5 + 1, none⟩ = some (.int .i64 xf1) ∧ w'.cell? ⟨b, o + (j + 1) * 5 + 2, none⟩ = some (.int .i64 xf2) ∧ w'.cell? ⟨b, o + (j + 1) * 5 + 3, none⟩ = some (.slice pf3 nf3 cf3) ∧ w'.cell? ⟨b, o + (j + 1) * 5 + 4, none⟩ = some (.slice pf4 nf4 cf4)) (first
          | with_reducible exact ⟨fr2 HG.out HX.out, DpRenewal.at_cells HCf.out⟩
          | with_reducible exact ⟨fr2 HGa.out HXa.out, DpRenewal.at_cells HCfa.out⟩
          | with_reducible exact ⟨fr2 HG3.out HX3.out, DpRenewal.at_cells HCf3.out⟩
          | with_reducible exact ⟨fr2 (HG3.out.alloc _) (HX3.out.alloc _), DpRenewal.at_cells (keep1 HBf3.out HCf3.out)⟩
          | with_reducible exact far5 hne0 hne1 hneb ⟨fr2 HG3.out HX3.out, DpRenewal.at_cells HCf3.out⟩
          | fail) (first
        | (go_at_call 76; (with_reducible refine (Rsp.span_any _ _ _ us xf0 xf1 xf2 _ _ _ _ _ _ lf4 L HLR.out ya yb ok HSP.out w2.drew HA.out.rdS Hf4.out.rdS hnf4).mono ?_); rintro e w3 ⟨rfl, hb⟩; have HBV3 := Lib.hid (below_on HBV.out hb); have HG3 := Lib.hid (HG.out.below hb); have HX3 := Lib.hid (HX.out.below hb); have HCf3 : Hid (∀ jj v, [.int .i64 xf0, .int .i64 xf1, .int .i64 xf2, .slice pf3 nf3 cf3, .slice pf4 nf4 cf4][jj]? = some v → w3.cell? ⟨b, o + (j + 1) * 5 + jj, none⟩ = some v) := Lib.hid (fun jj v hv => (hb.cell (p := ⟨b, o + (j + 1) * 5 + jj, none⟩) HBf'.out).trans (HCf.out jj v hv)); have HBf3 : Hid (b < w3.heap.size) := Lib.hid (Nat.lt_of_lt_of_le HBf'.out hb.size); clear hb)
        | (go_at_call 76; (with_reducible refine (Rsp.span_any _ _ _ us xf0 xf1 xf2 _ _ _ _ _ _ lf4 L HLR.out ya yb ok HSP.out (w2.alloc (.cells #[.int .i64 0, .int .i64 0] 105)).drew HAa.out.rdS Hf4a.out.rdS hnf4).mono ?_); rintro e w3 ⟨rfl, hb⟩; have HBV3 := Lib.hid (below_on HBVa.out hb); have HG3 := Lib.hid (HGa.out.below hb); have HX3 := Lib.hid (HXa.out.below hb); have HY3 := Lib.hid (HYa.out.below hb); have HCf3 : Hid (∀ jj v, [.int .i64 xf0, .int .i64 xf1, .int .i64 xf2, .slice pf3 nf3 cf3, .slice pf4 nf4 cf4][jj]? = some v → w3.cell? ⟨b, o + (j + 1) * 5 + jj, none⟩ = some v) := Lib.hid (fun jj v hv => (hb.cell (p := ⟨b, o + (j + 1) * 5 + jj, none⟩) HBfa.out).trans (HCfa.out jj v hv)); have HBf3 : Hid (b < w3.heap.size) := Lib.hid (Nat.lt_of_lt_of_le HBfa.out hb.size); obtain ⟨q0, q1, q2, q3⟩ := HY3.out.two; clear hb)
        | fail)
      all_goals
        have HF := Lib.hid HBV3.out
        cases ok
        · have HS' : Hid (lhI ks us ms L now l1 (j : Int) = false) := HS
          go_wp2_with fail
          go_ret
          exact Dz.val_of (by rw [HS'.out]; first | done | rfl) (by first | exact bel2 HF.out (Nat.le_refl _) _ | exact (HF.out.setCell (p := ⟨w2.heap.size, 0, none⟩) HSZ.out _).setCell (p := ⟨w2.heap.size, 1, none⟩) HSZ.out _)
        · have HS' : Hid (lhI ks us ms L now l1 (j : Int) = decide (yb < E)) := Lib.hid (by rw [HS.out, Bool.true_and])
          go_wp2_with fail
          go_ret
          exact Dz.val_of (by rw [HS'.out]; first | done | rfl) (by first | exact bel2 HF.out (Nat.le_refl _) _ | exact (HF.out.setCell (p := ⟨w2.heap.size, 0, none⟩) HSZ.out _).setCell (p := ⟨w2.heap.size, 1, none⟩) HSZ.out _)
set_option maxRecDepth 100000 in
set_option maxHeartbeats 8000000 in
theorem spec_link_any (ks : List I5) (pk : Option Addr) (nk ck : Nat) (us : List I3) (pa : Option Addr) (na ca : Nat) (ms : List Mn.Me) (pm : Option Addr) (nm cm : Nat) (L now : Int) (p0 : Option Addr) (n0 c0 : Nat) (l1 : List DpRenewal.A) (p1 : Option Addr) (n1 c1 : Nat) (k : Int) {SK SA SM S1 : Nat → Prop} (w : World) (hL : InI L) (hk : RdD (flat SlKey.E SlKey.InR) SK w pk nk ks) (ha : RdD (flat SlAuthority.E SlAuthority.InR) SA w pa na us) (hm : RdD (flat SlMethod.E SlMethod.InR) SM w pm nm ms) (h1 : RdD DpRenewal.E S1 w p1 n1 l1) (hw : wts DpRenewal.E l1 ≤ 1048576) : Calls Tryz.prog 68 #[.agg #[.slice pk nk ck, .slice pa na ca, .slice pm nm cm, .int .i64 L, .int .i64 now], .agg #[.slice p0 n0 c0, .slice p1 n1 c1], .int .i64 k] w (Dz.Val (.bool (lhI ks us ms L now l1 k)) w) := by
  have hb : Below w.heap.size w ((w.alloc (.cells #[.slice pk nk ck, .slice pa na ca, .slice pm nm cm, .int .i64 L, .int .i64 now] 39)).alloc (.cells #[.slice p0 n0 c0, .slice p1 n1 c1] 44)) := (box1 w _).alloc (by simp) _
  have bx1 := (Bx.new w 39 #[.slice pk nk ck, .slice pa na ca, .slice pm nm cm, .int .i64 L, .int .i64 now]).alloc (.cells #[.slice p0 n0 c0, .slice p1 n1 c1] 44)
  have bx2 := Bx.new (w.alloc (.cells #[.slice pk nk ck, .slice pa na ca, .slice pm nm cm, .int .i64 L, .int .i64 now] 39)) 44 #[.slice p0 n0 c0, .slice p1 n1 c1]
  rw [World.size_alloc] at bx2
  have HBV := Lib.hid hb
  have HG := Lib.hid bx1
  have HX := Lib.hid bx2
  have HK := Lib.hid (hk.below hb)
  have HA := Lib.hid (ha.below hb)
  have HM := Lib.hid (hm.below hb)
  have H1 := Lib.hid (h1.below hb)
  have HLR : Hid (-9223372036854775808 ≤ L ∧ L ≤ 9223372036854775807) := Lib.hid hL
  have HLEN := Lib.hid h1.len
  have hle := h1.le
  have hww : IntKind.i64.wrap ((n1 : Int) - 1) = (n1 : Int) - 1 := IntWalk.i64_in _ (by omega)
  clear hb bx1 bx2 hk ha hm h1 hL
  obtain ⟨s0, s1⟩ := DpStrand.bxc HX.out
  by_cases hin : 0 ≤ k ∧ k < (n1 : Int)
  case neg =>
    have HS : Hid (lhI ks us ms L now l1 k = false) := Lib.hid (lhI_out (by rw [HLEN.out]; exact hin))
    have HD : Hid (decide (0 ≤ k ∧ k ≤ (n1 : Int) - 1) = false) := Lib.hid (decide_eq_false (by omega))
    clear hin
    go_enter Tryz.func68, Tryz.ntmps68
    go_wp2_with fail
    refine (Ints.l1In_any k 0 ((n1 : Int) - 1) false HD.out _).mono ?_
    rintro e w1 ⟨rfl, rfl⟩
    go_wp2_with fail
    go_ret
    exact Dz.val_of (by rw [HS.out]; first | done | rfl) HBV.out
  case pos =>
    obtain ⟨j, rfl⟩ : ∃ j : Nat, k = (j : Int) := ⟨k.toNat, by omega⟩
    have hj : j < n1 := by omega
    have HD : Hid (decide (0 ≤ (j : Int) ∧ (j : Int) ≤ (n1 : Int) - 1) = true) := Lib.hid (decide_eq_true (by omega))
    obtain ⟨b, o, x_e, cs_e, rfl, _, hbwe, hxe, hce, hrde⟩ := H1.out.at_ hj
    obtain ⟨xe0, xe1, xe2, le3, le4⟩ := x_e
    obtain ⟨pe3, ne3, ce3, pe4, ne4, ce4, rfl, be0, be1, be2, he3, he4⟩ := DpRenewal.ex hrde
    have HXe := Lib.hid hxe
    have HCe := Lib.hid hce
    have HBe := Lib.hid hbwe
    have He3 := Lib.hid he3
    have He4 := Lib.hid he4
    have Gbe1 := Lib.hid be1
    have hne4 : ne4 ≤ 1048576 := by have := len4 hxe hw; rw [he4.len] at this; exact this
    obtain ⟨E, hE⟩ : ∃ z, firstM ks us (Mn.brk ms) xe1 le4 = z := ⟨_, rfl⟩
    have HE := Lib.hid hE
    have HR : Hid (brkR ks us ms (xe0, xe1, xe2, le3, le4) = E) := Lib.hid hE
    clear hE hce hxe hrde be0 be1 be2 he3 he4 hin hbwe
    have i1 : (0 : Int) ≤ (j : Int) := by omega
    have i2 : (j : Int) < (n1 : Int) := by omega
    go_enter Tryz.func68, Tryz.ntmps68
    go_wp2_with fail
    refine (Ints.l1In_any (j : Int) 0 ((n1 : Int) - 1) true HD.out _).mono ?_
    rintro e w1 ⟨rfl, rfl⟩
    clear HD
    go_wp2_with fail
    generalize ((w.alloc (.cells #[.slice pk nk ck, .slice pa na ca, .slice pm nm cm, .int .i64 L, .int .i64 now] 39)).alloc (.cells #[.slice p0 n0 c0, .slice (some ⟨b, o, none⟩) n1 c1] 44)) = V at HBV HG HX HK HA HM H1 HCe HBe He3 He4 s0 s1 ⊢
    clear s0 s1
    have HC : Hid (∀ w', Qt.Keeps (V) w' → w'.cell? ⟨w.heap.size, 0, none⟩ = some (.slice pk nk ck) ∧ w'.cell? ⟨w.heap.size, 1, none⟩ = some (.slice pa na ca) ∧ w'.cell? ⟨w.heap.size, 2, none⟩ = some (.slice pm nm cm) ∧ w'.cell? ⟨w.heap.size + 1, 1, none⟩ = some (.slice (some ⟨b, o, none⟩) n1 c1) ∧ w'.cell? ⟨b, o + j * 5, none⟩ = some (.int .i64 xe0) ∧ w'.cell? ⟨b, o + j * 5 + 1, none⟩ = some (.int .i64 xe1) ∧ w'.cell? ⟨b, o + j * 5 + 2, none⟩ = some (.int .i64 xe2) ∧ w'.cell? ⟨b, o + j * 5 + 3, none⟩ = some (.slice pe3 ne3 ce3) ∧ w'.cell? ⟨b, o + j * 5 + 4, none⟩ = some (.slice pe4 ne4 ce4)) := Lib.hid fun w' hw => let g := DpFrame.bxc (HG.out.below hw); let h := DpStrand.bxc (HX.out.below hw); let u := DpRenewal.at_cells (fun jj v hv => (hw.cell (p := ⟨b, o + j * 5 + jj, none⟩) HBe.out).trans (HCe.out jj v hv)); ⟨g.1, g.2.1, g.2.2.1, h.2, u.1, u.2.1, u.2.2.1, u.2.2.2.1, u.2.2.2.2⟩
    refine Qt.region (Qt.Keeps (V)) (by kernel_rfl) (by kernel_rfl) (Qt.Keeps.drew _) ?_
    repeat (first
      | go_big_quiet_skip
      | (go_big_quiet_want
         refine Qt.val (v := ?_) (fun w hw => ?_) ?_
         rotate_left
         · obtain ⟨g0, g1, g2, s1, u0, u1, u2, u3, u4⟩ := HC.out w hw
           go_simp
           rfl
         simp only [Act.put, List.setIfInBounds_toArray, List.set_cons_zero, List.set_cons_succ]
         go_big_quiet_on)
      | (go_big_quiet_want
         refine Qt.call (v := .int .i64 E) (f := 97) (args := #[.slice pk nk ck, .slice pa na ca, .slice pm nm cm, .agg #[.int .i64 xe0, .int .i64 xe1, .int .i64 xe2, .slice pe3 ne3 ce3, .slice pe4 ne4 ce4]]) (fun w hw => ?_) (fun w hw => ?_) ?_
         · go_simp
         · refine (Fm3.spec_break_any ks _ _ _ us _ _ _ ms _ _ _ xe0 xe1 xe2 le3 _ _ _ le4 _ _ _ _ (HK.out.below hw) (HA.out.below hw) (HM.out.below hw) (He3.out.below hw) (He4.out.below hw)).mono ?_
           rintro e w1 ⟨rfl, hb1⟩
           rw [HE.out]
           exact ⟨rfl, hw.then hb1⟩
         simp only [Act.put, List.setIfInBounds_toArray, List.set_cons_zero, List.set_cons_succ]
         go_big_quiet_on))
    refine wpQuiet_nil ?_
    intro w2 hw2
    replace HBV := Lib.hid (below_on HBV.out hw2)
    replace HG := Lib.hid (HG.out.below hw2)
    replace HX := Lib.hid (HX.out.below hw2)
    replace HA := Lib.hid (HA.out.below hw2)
    replace H1 := Lib.hid (H1.out.below hw2)
    clear hw2 HK HM He3 He4 HCe HBe
    obtain ⟨g0, g1, g2, g3, g4⟩ := DpFrame.bxc HG.out
    obtain ⟨s0, s1⟩ := DpStrand.bxc HX.out
    by_cases hlast : j + 1 = n1
    · have HS : Hid (lhI ks us ms L now l1 (j : Int) = decide (now < E)) := Lib.hid (by rw [lhI_nat, lh_last HXe.out (by rw [HLEN.out]; exact hlast), HR.out])
      have e1 : ((j : Int) == (n1 : Int) - 1) = true := beq_iff_eq.2 (by omega)
      go_wp2_with fail
      go_ret
      exact Dz.val_of (by rw [HS.out]; first | done | rfl) HBV.out
    · have hj1 : j + 1 < n1 := by omega
      have e1 : ((j : Int) == (n1 : Int) - 1) = false := beq_eq_false_iff_ne.2 (by omega)
      obtain ⟨b', o', x_f, cs_f, hpe, _, hbwf, hxf, hcf, hrdf⟩ := H1.out.at_ hj1
      cases hpe
      obtain ⟨xf0, xf1, xf2, lf3, lf4⟩ := x_f
      obtain ⟨pf3, nf3, cf3, pf4, nf4, cf4, rfl, _, _, _, hf3, hf4⟩ := DpRenewal.ex hrdf
      have hnf4 : nf4 ≤ 1048576 := by have := len4 hxf hw; rw [hf4.len] at this; exact this
      rcases hsp : Rsp.rsp us lf4 L with ⟨⟨ya, yb⟩, ok⟩
      have HSP := Lib.hid hsp
      have HS : Hid (lhI ks us ms L now l1 (j : Int) = (ok && decide (yb < E))) := Lib.hid (by rw [lhI_nat, lh_at HXe.out hxf, HR.out]; show ((Rsp.rsp us lf4 L).2 && decide ((Rsp.rsp us lf4 L).1.2 < E)) = _; rw [hsp])
      have HCf := Lib.hid hcf
      have HBf := Lib.hid hbwf
      have Hf4 := Lib.hid hf4
      have jw : IntKind.i64.wrap ((j : Int) + 1) = (j : Int) + 1 := IntWalk.i64_in _ (by omega)
      have i3 : (0 : Int) ≤ (j : Int) + 1 := by omega
      have i4 : (j : Int) + 1 < (n1 : Int) := by omega
      have hto : ((j : Int) + 1).toNat = j + 1 := by omega
      clear hcf hbwf hf3 hf4 hsp hxf hrdf
      go_wp2_with fail
      clear g0 g1 g2 g3 g4 s0 s1
      have hgt : w.heap.size + 1 < w2.heap.size := HX.out.lt
      have HSZ : Hid (w.heap.size ≤ w2.heap.size) := Lib.hid (by omega)
      have HBVa := Lib.hid (below_drewN (bel2 HBV.out (Nat.le_refl _) (.cells #[.int .i64 0, .int .i64 0] 105)) 1)
      have HGa := Lib.hid (HG.out.alloc (.cells #[.int .i64 0, .int .i64 0] 105)).drew1
      have HXa := Lib.hid (HX.out.alloc (.cells #[.int .i64 0, .int .i64 0] 105)).drew1
      have HYa := Lib.hid (Bx.new w2 105 #[.int .i64 0, .int .i64 0]).drew1
      have HAa := Lib.hid (HA.out.below (box1 w2 (.cells #[.int .i64 0, .int .i64 0] 105))).drew1
      have Hf4a := Lib.hid (Hf4.out.below (box1 w2 (.cells #[.int .i64 0, .int .i64 0] 105))).drew1
      have HCfa : Hid (∀ jj v, [.int .i64 xf0, .int .i64 xf1, .int .i64 xf2, .slice pf3 nf3 cf3, .slice pf4 nf4 cf4][jj]? = some v → (w2.alloc (.cells #[.int .i64 0, .int .i64 0] 105)).drew.cell? ⟨b, o + (j + 1) * 5 + jj, none⟩ = some v) := Lib.hid (keep1 HBf.out HCf.out)
      have HBfa : Hid (b < (w2.alloc (.cells #[.int .i64 0, .int .i64 0] 105)).drew.heap.size) := Lib.hid (Nat.lt_of_lt_of_le HBf.out (box1 w2 _).size)
      replace HBV := Lib.hid (below_drewN HBV.out 1)
      replace HG := Lib.hid HG.out.drew1
      replace HX := Lib.hid HX.out.drew1
      replace HA := Lib.hid HA.out.drew1
      replace Hf4 := Lib.hid Hf4.out.drew1
      replace HCf : Hid (∀ jj v, [.int .i64 xf0, .int .i64 xf1, .int .i64 xf2, .slice pf3 nf3 cf3, .slice pf4 nf4 cf4][jj]? = some v → w2.drew.cell? ⟨b, o + (j + 1) * 5 + jj, none⟩ = some v) := Lib.hid HCf.out
      have HBf' : Hid (b < w2.drew.heap.size) := Lib.hid HBf.out
      have hne0 : w.heap.size ≠ w2.heap.size := by omega
      have hne1 : w.heap.size + 1 ≠ w2.heap.size := by omega
      have hneb : b ≠ w2.heap.size := Nat.ne_of_lt HBf.out
      go_region_held3 (fun w' => (w'.cell? ⟨w.heap.size, 1, none⟩ = some (.slice pa na ca) ∧ w'.cell? ⟨w.heap.size, 3, none⟩ = some (.int .i64 L) ∧ w'.cell? ⟨w.heap.size + 1, 1, none⟩ = some (.slice (some ⟨b, o, none⟩) n1 c1)) ∧ w'.cell? ⟨b, o + (j + 1) * 5, none⟩ = some (.int .i64 xf0) ∧ w'.cell? ⟨b, o + (j + 1) * 5 + 1, none⟩ = some (.int .i64 xf1) ∧ w'.cell? ⟨b, o + (j + 1) * 5 + 2, none⟩ = some (.int .i64 xf2) ∧ w'.cell? ⟨b, o + (j + 1) * 5 + 3, none⟩ = some (.slice pf3 nf3 cf3) ∧ w'.cell? ⟨b, o + (j + 1) * 5 + 4, none⟩ = some (.slice pf4 nf4 cf4)) (first
          | with_reducible exact ⟨fr2 HG.out HX.out, DpRenewal.at_cells HCf.out⟩
          | with_reducible exact ⟨fr2 HGa.out HXa.out, DpRenewal.at_cells HCfa.out⟩
          | with_reducible exact ⟨fr2 HG3.out HX3.out, DpRenewal.at_cells HCf3.out⟩
          | with_reducible exact ⟨fr2 (HG3.out.alloc _) (HX3.out.alloc _), DpRenewal.at_cells (keep1 HBf3.out HCf3.out)⟩
          | with_reducible exact far5 hne0 hne1 hneb ⟨fr2 HG3.out HX3.out, DpRenewal.at_cells HCf3.out⟩
          | fail) (first
        | (go_at_call 53; (with_reducible refine (Rsp.spec_span_any _ _ _ us xf0 xf1 xf2 _ _ _ _ _ _ lf4 L HLR.out ya yb ok HSP.out w2.drew HA.out.rdS Hf4.out.rdS hnf4).mono ?_); rintro e w3 ⟨rfl, hb⟩; have HBV3 := Lib.hid (below_on HBV.out hb); have HG3 := Lib.hid (HG.out.below hb); have HX3 := Lib.hid (HX.out.below hb); have HCf3 : Hid (∀ jj v, [.int .i64 xf0, .int .i64 xf1, .int .i64 xf2, .slice pf3 nf3 cf3, .slice pf4 nf4 cf4][jj]? = some v → w3.cell? ⟨b, o + (j + 1) * 5 + jj, none⟩ = some v) := Lib.hid (fun jj v hv => (hb.cell (p := ⟨b, o + (j + 1) * 5 + jj, none⟩) HBf'.out).trans (HCf.out jj v hv)); have HBf3 : Hid (b < w3.heap.size) := Lib.hid (Nat.lt_of_lt_of_le HBf'.out hb.size); clear hb)
        | (go_at_call 53; (with_reducible refine (Rsp.spec_span_any _ _ _ us xf0 xf1 xf2 _ _ _ _ _ _ lf4 L HLR.out ya yb ok HSP.out (w2.alloc (.cells #[.int .i64 0, .int .i64 0] 105)).drew HAa.out.rdS Hf4a.out.rdS hnf4).mono ?_); rintro e w3 ⟨rfl, hb⟩; have HBV3 := Lib.hid (below_on HBVa.out hb); have HG3 := Lib.hid (HGa.out.below hb); have HX3 := Lib.hid (HXa.out.below hb); have HY3 := Lib.hid (HYa.out.below hb); have HCf3 : Hid (∀ jj v, [.int .i64 xf0, .int .i64 xf1, .int .i64 xf2, .slice pf3 nf3 cf3, .slice pf4 nf4 cf4][jj]? = some v → w3.cell? ⟨b, o + (j + 1) * 5 + jj, none⟩ = some v) := Lib.hid (fun jj v hv => (hb.cell (p := ⟨b, o + (j + 1) * 5 + jj, none⟩) HBfa.out).trans (HCfa.out jj v hv)); have HBf3 : Hid (b < w3.heap.size) := Lib.hid (Nat.lt_of_lt_of_le HBfa.out hb.size); obtain ⟨q0, q1, q2, q3⟩ := HY3.out.two; clear hb)
        | fail)
      all_goals
        have HF := Lib.hid HBV3.out
        cases ok
        · have HS' : Hid (lhI ks us ms L now l1 (j : Int) = false) := HS
          go_wp2_with fail
          go_ret
          exact Dz.val_of (by rw [HS'.out]; first | done | rfl) (by first | exact bel2 HF.out (Nat.le_refl _) _ | exact (HF.out.setCell (p := ⟨w2.heap.size, 0, none⟩) HSZ.out _).setCell (p := ⟨w2.heap.size, 1, none⟩) HSZ.out _)
        · have HS' : Hid (lhI ks us ms L now l1 (j : Int) = decide (yb < E)) := Lib.hid (by rw [HS.out, Bool.true_and])
          go_wp2_with fail
          go_ret
          exact Dz.val_of (by rw [HS'.out]; first | done | rfl) (by first | exact bel2 HF.out (Nat.le_refl _) _ | exact (HF.out.setCell (p := ⟨w2.heap.size, 0, none⟩) HSZ.out _).setCell (p := ⟨w2.heap.size, 1, none⟩) HSZ.out _)
end Go.Proofs.YtfojilogcecphaaGreat.Lh
