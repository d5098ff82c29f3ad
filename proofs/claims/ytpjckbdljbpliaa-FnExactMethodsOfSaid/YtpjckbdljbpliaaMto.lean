/- MethodsOf: the numbers of an item's methods, in order, each once: in the program. -/
import Derived.Test.YtpjckbdljbpliaaDpItem
import Derived.Test.YtpjckbdljbpliaaSci
import Derived.Test.YtpjckbdljbpliaaMtm
import Derived.LoopTactic
import Derived.Outline
namespace Go.Proofs.Ytpjckbdljbpliaa.Mto
open Go.ChangeShapes Go.WideShapes Go.ChangeAt Go.RowKit Sl St Ed Dz Mtm
def meth (r : DpRenewal.A) : Int := r.2.1
def mths (x7 : Int) (ch : List DpRenewal.A) : List Int := x7 :: ch.map meth
theorem mths_next {x7 : Int} {ch : List DpRenewal.A} {k : Nat} {r : DpRenewal.A} (h : ch[k]? = some r) : mths x7 (ch.take (k + 1)) = mths x7 (ch.take k) ++ [meth r] := by
  unfold mths
  rw [List.take_add_one, h]
  simp
theorem mths_len (x7 : Int) (ch : List DpRenewal.A) : (mths x7 ch).length = ch.length + 1 := by simp [mths]
theorem bel2 {w V : World} {B : Nat} (h : Below B w V) (hB : B ≤ w.heap.size) (x : Obj) : Below B w (V.alloc x) := h.alloc (Nat.le_trans hB h.size) _
theorem one1 (V : World) (lo : Nat) (x : Int) (hx : InI x) (h : lo ≤ V.heap.size) : Ow .i64 3 (V.alloc (.cells #[.int .i64 x] 3)) lo (V.alloc (.cells #[.int .i64 x] 3)).heap.size (some ⟨V.heap.size, 0, none⟩) 1 1 [x] := litN_own 3 V lo [x] (fun y hy => by rw [List.mem_singleton] at hy; rw [hy]; exact hx) h (by simp)
/-- the numbers so far, behind the item's box -/
def RW (ids : List Int) (m : Nat) (q : Option Addr) (d : Nat) (w wr : World) : Prop := Ow .i64 3 wr (w.heap.size + 1) wr.heap.size q m d ids ∧ Below w.heap.size w wr
theorem RW.on {ids : List Int} {m : Nat} {q : Option Addr} {d : Nat} {w wr w' : World} (h : RW ids m q d w wr) (hb : Below wr.heap.size wr w') : RW ids m q d w w' := ⟨(h.1.below hb).wide (Nat.le_refl _) hb.size (Nat.le_refl _), below_on h.2 hb⟩
set_option maxRecDepth 100000 in
set_option maxHeartbeats 8000000 in
theorem meths_any (x0 x1 x2 : Int) (p3 : Option Addr) (n3 c3 : Nat) (p4 : Option Addr) (n4 c4 : Nat) (x5 x6 x7 x8 x9 x10 x11 x12 x13 : Int) (p14 : Option Addr) (n14 c14 : Nat) (l15 : List DpRenewal.A) (p15 : Option Addr) (n15 c15 : Nat) {S : Nat → Prop} (w : World) (h15 : RdD DpRenewal.E S w p15 n15 l15) (hx7 : InI x7) (hn : n15 ≤ 1048576) : Calls Try.prog 24 #[.agg #[.int .i64 x0, .int .i64 x1, .int .i64 x2, .slice p3 n3 c3, .slice p4 n4 c4, .int .i64 x5, .int .i64 x6, .int .i64 x7, .int .i64 x8, .int .i64 x9, .int .i64 x10, .int .i64 x11, .int .i64 x12, .int .i64 x13, .slice p14 n14 c14, .slice p15 n15 c15]] w fun e w' => ∃ q m d, e = .returned (.slice q m d) ∧ Ow .i64 3 w' w.heap.size w'.heap.size q m d (srt (mths x7 l15)) ∧ Below w.heap.size w w' := by
  obtain ⟨i0_, hi0, hz0, hz1, hz2⟩ := info_parts SlI.info
  have HL := Lib.hid h15.len
  have HR := Lib.hid h15
  have HXa := Lib.hid (Bx.new w 61 #[.int .i64 x0, .int .i64 x1, .int .i64 x2, .slice p3 n3 c3, .slice p4 n4 c4, .int .i64 x5, .int .i64 x6, .int .i64 x7, .int .i64 x8, .int .i64 x9, .int .i64 x10, .int .i64 x11, .int .i64 x12, .int .i64 x13, .slice p14 n14 c14, .slice p15 n15 c15])
  have HXb := Lib.hid ((Bx.new w 61 #[.int .i64 x0, .int .i64 x1, .int .i64 x2, .slice p3 n3 c3, .slice p4 n4 c4, .int .i64 x5, .int .i64 x6, .int .i64 x7, .int .i64 x8, .int .i64 x9, .int .i64 x10, .int .i64 x11, .int .i64 x12, .int .i64 x13, .slice p14 n14 c14, .slice p15 n15 c15]).alloc (.cells #[.int .i64 x7] 3))
  have HK0 : Hid (RW (mths x7 (l15.take 0)) 1 (some ⟨w.heap.size + 1, 0, none⟩) 1 w ((w.alloc (.cells #[.int .i64 x0, .int .i64 x1, .int .i64 x2, .slice p3 n3 c3, .slice p4 n4 c4, .int .i64 x5, .int .i64 x6, .int .i64 x7, .int .i64 x8, .int .i64 x9, .int .i64 x10, .int .i64 x11, .int .i64 x12, .int .i64 x13, .slice p14 n14 c14, .slice p15 n15 c15] 61)).alloc (.cells #[.int .i64 x7] 3))) := Lib.hid (by
    have h := one1 (w.alloc (.cells #[.int .i64 x0, .int .i64 x1, .int .i64 x2, .slice p3 n3 c3, .slice p4 n4 c4, .int .i64 x5, .int .i64 x6, .int .i64 x7, .int .i64 x8, .int .i64 x9, .int .i64 x10, .int .i64 x11, .int .i64 x12, .int .i64 x13, .slice p14 n14 c14, .slice p15 n15 c15] 61)) (w.heap.size + 1) x7 hx7 (by rw [World.size_alloc]; exact Nat.le_refl _)
    rw [show (w.alloc (.cells #[.int .i64 x0, .int .i64 x1, .int .i64 x2, .slice p3 n3 c3, .slice p4 n4 c4, .int .i64 x5, .int .i64 x6, .int .i64 x7, .int .i64 x8, .int .i64 x9, .int .i64 x10, .int .i64 x11, .int .i64 x12, .int .i64 x13, .slice p14 n14 c14, .slice p15 n15 c15] 61)).heap.size = w.heap.size + 1 from World.size_alloc ..] at h
    exact ⟨h, bel2 (Dz.box1 w _) (Nat.le_refl _) _⟩)
  clear h15
  obtain ⟨i0, i1, i2, i3, i4, i5, i6, i7, i8, i9, i10, i11, i12, i13, i14, i15⟩ := DpItem.bxc HXa.out
  obtain ⟨j0, j1, j2, j3, j4, j5, j6, j7, j8, j9, j10, j11, j12, j13, j14, j15⟩ := DpItem.bxc HXb.out
  go_enter Try.func24, Try.ntmps24
  go_wp2_with fail
  generalize ((w.alloc (.cells #[.int .i64 x0, .int .i64 x1, .int .i64 x2, .slice p3 n3 c3, .slice p4 n4 c4, .int .i64 x5, .int .i64 x6, .int .i64 x7, .int .i64 x8, .int .i64 x9, .int .i64 x10, .int .i64 x11, .int .i64 x12, .int .i64 x13, .slice p14 n14 c14, .slice p15 n15 c15] 61)).alloc (.cells #[.int .i64 x7] 3)) = V at HK0 HXb j0 j1 j2 j3 j4 j5 j6 j7 j8 j9 j10 j11 j12 j13 j14 j15 ⊢
  clear i0 i1 i2 i3 i4 i5 i6 i7 i8 i9 i10 i11 i12 i13 i14 i15 j0 j1 j2 j3 j4 j5 j6 j7 j8 j9 j10 j11 j12 j13 j14 j15
  go_loopw [3, 14] (fun v i wr => ∃ (k d : Nat) (q : Option Addr), k ≤ n15 ∧ i = .int .i64 k ∧ v = .slice q (k + 1) d ∧ Hid (RW (mths x7 (l15.take k)) (k + 1) q d w wr)) (fun _ i _ => n15 - (intOf i).toNat)
  case atStart => exact ⟨0, _, _, Nat.zero_le _, rfl, rfl, HK0⟩
  case round =>
    obtain ⟨k, d, q, hk, rfl, rfl, HK⟩ := hrel
    by_cases hlt : k < n15
    · obtain ⟨b, o, x_e, cs_e, rfl, _, hbwe, hxe, hce, hrde⟩ := HR.out.at_ hlt
      obtain ⟨xe0, xe1, xe2, le3, le4⟩ := x_e
      obtain ⟨pe3, ne3, ce3, pe4, ne4, ce4, rfl, be0, be1, be2, he3, he4⟩ := DpRenewal.ex hrde
      have hcc : ∀ jj v, [.int .i64 xe0, .int .i64 xe1, .int .i64 xe2, .slice pe3 ne3 ce3, .slice pe4 ne4 ce4][jj]? = some v → wr.cell? ⟨b, o + k * 5 + jj, none⟩ = some v := fun jj v hv => (HK.out.2.cell (p := ⟨b, o + k * 5 + jj, none⟩) hbwe).trans (hce jj v hv)
      obtain ⟨u0, u1, u2, u3, u4⟩ := DpRenewal.at_cells hcc
      have HN := Lib.hid (mths_next (x7 := x7) hxe)
      have HI1 := Lib.hid be1
      have HRB := Lib.hid (Bx.new wr 92 #[.int .i64 xe0, .int .i64 xe1, .int .i64 xe2, .slice pe3 ne3 ce3, .slice pe4 ne4 ce4])
      have HK1 := Lib.hid (HK.out.on (Dz.box1 wr (.cells #[.int .i64 xe0, .int .i64 xe1, .int .i64 xe2, .slice pe3 ne3 ce3, .slice pe4 ne4 ce4] 92)))
      have hsz : w.heap.size + 1 ≤ wr.heap.size := HK.out.1.2.2.1 |> fun h => by have h1 := HK.out.1.form; rcases h1 with ⟨_, h0, _⟩ | ⟨g, _, h1, h2, _⟩ <;> omega
      have HLit : Hid (Rd .i64 ((wr.alloc (.cells #[.int .i64 xe0, .int .i64 xe1, .int .i64 xe2, .slice pe3 ne3 ce3, .slice pe4 ne4 ce4] 92)).alloc (.cells #[.int .i64 xe1] 3)) (some ⟨wr.heap.size + 1, 0, none⟩) 1 [xe1]) := Lib.hid (by have h := (one1 (wr.alloc (.cells #[.int .i64 xe0, .int .i64 xe1, .int .i64 xe2, .slice pe3 ne3 ce3, .slice pe4 ne4 ce4] 92)) 0 xe1 be1 (Nat.zero_le _)).rd; rw [World.size_alloc] at h; exact h)
      have HZ : Hid (w.heap.size + 1 ≤ ((wr.alloc (.cells #[.int .i64 xe0, .int .i64 xe1, .int .i64 xe2, .slice pe3 ne3 ce3, .slice pe4 ne4 ce4] 92)).alloc (.cells #[.int .i64 xe1] 3)).heap.size) := Lib.hid (by rw [World.size_alloc, World.size_alloc]; omega)
      obtain ⟨r0, r1, r2, r3, r4⟩ := DpRenewal.bxc HRB.out
      have i1 : (0 : Int) ≤ (k : Int) := by omega
      have i2 : (k : Int) < (n15 : Int) := by omega
      clear hcc hce hxe hrde be0 be1 be2 he3 he4
      go_wp2_with (at_builtin; refine wpList_appR rfl (.tmp 18) (.tmp 21) 43 rfl i0_ _ 8 Try.underlying43 hi0 hz0 hz1 hz2 rfl rfl (HK1.out.1.alloc _) _ _ _ _ rfl HLit.out HZ.out (by omega) (by omega) ?_; intro p9 c9 w9 how9 hg9; have HK4 : Hid (RW (mths x7 (l15.take (k + 1))) (k + 1 + 1) p9 c9 w w9) := Lib.hid ⟨by rw [HN.out]; exact how9, (bel2 HK1.out.2 (Nat.le_refl _) _).grown hg9 (by have h1 := HK1.out.2.size; rw [World.size_alloc]; omega) (fun g e => by have := (HK1.out.1.alloc (.cells #[.int .i64 xe1] 3)).far g e; omega)⟩; clear how9 hg9)
      go_roundw
      case rel => exact ⟨k + 1, c9, p9, by omega, by go_num, rfl, HK4⟩
      case measure => simp [intOf]; omega
    · obtain rfl : k = n15 := by omega
      have HA : Hid (l15.take k = l15) := Lib.hid (List.take_of_length_le (by rw [HL.out]; exact Nat.le_refl _))
      have HO : Hid (Ow .i64 3 wr (w.heap.size + 1) wr.heap.size q (k + 1) d (mths x7 l15)) := Lib.hid (by have h := HK.out.1; rw [HA.out] at h; exact h)
      have HBr := Lib.hid HK.out.2
      go_wp2_with fail
      refine (Sci.sortI_any HO.out (Nat.succ_pos _) (by omega)).mono ?_
      rintro e w1 ⟨rfl, ys, hm1, hs1, ho1, hg1⟩
      have HO1 := Lib.hid ho1
      have HM1 := Lib.hid hm1
      have HS1 := Lib.hid hs1
      have HB1 := Lib.hid (HBr.out.grown hg1 HBr.out.size (fun g e => by have := HO.out.far g e; omega))
      clear hm1 hs1 ho1 hg1
      go_wp2_with fail
      refine (Sci.compI_any HO1.out (Nat.succ_pos _)).mono ?_
      rintro e w2 ⟨m2, zs, rfl, _, hm2, hs2, ho2, hg2⟩
      have HE : Hid (zs = srt (mths x7 l15)) := Lib.hid (srt_of (hs2 HS1.out) fun x => (hm2 x).trans (HM1.out x))
      have HO2 := Lib.hid (ho2.wide (lo' := w.heap.size) (by omega) ho2.2.2.1 (Nat.le_refl _))
      have HB2 := Lib.hid (HB1.out.grown hg2 HB1.out.size (fun g e => by have := HO1.out.far g e; omega))
      clear hm2 hs2 ho2 hg2
      go_wp2_with fail
      go_ret
      exact ⟨_, _, _, rfl, by have h := HO2.out; rw [HE.out] at h; exact h, HB2.out⟩
end Go.Proofs.Ytpjckbdljbpliaa.Mto
