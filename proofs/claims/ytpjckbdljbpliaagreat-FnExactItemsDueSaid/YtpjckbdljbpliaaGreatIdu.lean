/- ItemsDue: the numbers of the items that need renewal: in the program and in the reference. -/
import Derived.Test.YtpjckbdljbpliaaGreatNr1
import Derived.Test.YtpjckbdljbpliaaGreatNr2
import Derived.Test.YtpjckbdljbpliaaGreatDpArchive
import Derived.Test.YtpjckbdljbpliaaGreatDpFrame
import Derived.Test.YtpjckbdljbpliaaGreatSrA
import Derived.Test.YtpjckbdljbpliaaGreatQt
import Derived.LoopTactic
import Derived.Outline
namespace Go.Proofs.YtpjckbdljbpliaaGreat.Idu
open Go.ChangeShapes Go.WideShapes Go.ChangeAt Go.RowKit Sl St Ed Dz Fnd Fm0 Nr1
def chain (x : DpItem.A) : List DpRenewal.A := x.2.2.2.2.2
def ndI (ks : List I5) (us : List I3) (ms : List Mn.Me) (now margin : Int) (x : DpItem.A) : Bool := needs ks us ms now margin (chain x)
def due (ks : List I5) (us : List I3) (ms : List Mn.Me) (now margin : Int) (xs : List DpItem.A) : List Int := (xs.filter (ndI ks us ms now margin)).map fun x => x.1
section
variable {ks : List I5} {us : List I3} {ms : List Mn.Me} {now margin : Int} {xs : List DpItem.A} {k : Nat} {x : DpItem.A}
theorem due_len (ks : List I5) (us : List I3) (ms : List Mn.Me) (now margin : Int) (xs : List DpItem.A) : (due ks us ms now margin xs).length ≤ xs.length := by
  unfold due
  rw [List.length_map]
  exact List.length_filter_le _ _
theorem take_next (h : xs[k]? = some x) : xs.take (k + 1) = xs.take k ++ [x] := by
  rw [List.take_add_one, h]
  rfl
theorem due_no (h : xs[k]? = some x) (hb : ndI ks us ms now margin x = false) : due ks us ms now margin (xs.take (k + 1)) = due ks us ms now margin (xs.take k) := by
  rw [take_next h]
  unfold due
  simp [List.filter_append, hb]
theorem due_yes (h : xs[k]? = some x) (hb : ndI ks us ms now margin x = true) : due ks us ms now margin (xs.take (k + 1)) = due ks us ms now margin (xs.take k) ++ [x.1] := by
  rw [take_next h]
  unfold due
  simp [List.filter_append, hb]
end
theorem bel2 {w V : World} {B : Nat} (h : Below B w V) (hB : B ≤ w.heap.size) (x : Obj) : Below B w (V.alloc x) := h.alloc (Nat.le_trans hB h.size) _
theorem wt_chain {xs : List DpItem.A} {k : Nat} {x0 x1 : Int} {d : DpDocument.A} {g : Int × Int × Int × Int × Int × Int × Int × Int × Int} {l14 : List DpPiece.A} {l15 : List DpRenewal.A} (h : xs[k]? = some (x0, x1, d, g, (l14, l15))) (hm : wts DpItem.E xs ≤ 1048576) : wts DpRenewal.E l15 ≤ 1048576 := by
  have h1 := wts_at (E := DpItem.E) h
  obtain ⟨d0, d1, d2⟩ := d
  obtain ⟨g0, g1, g2, g3, g4, g5, g6, g7, g8⟩ := g
  rw [DpItem.wt_eq, DpStrand.wt_eq] at h1
  omega
theorem lit1 (V : World) (x : Int) (hx : InI x) : Rd .i64 (V.alloc (.cells #[.int .i64 x] 3)) (some ⟨V.heap.size, 0, none⟩) 1 [x] := (litN_own 3 V V.heap.size [x] (fun y hy => by rw [List.mem_singleton] at hy; rw [hy]; exact hx) (Nat.le_refl _) (by simp)).rd
/-- what holds between the rounds: the numbers so far, behind the boxes of the frame and of the archive -/
def RW (ids : List Int) (m : Nat) (q : Option Addr) (d : Nat) (F A : Array Value) (w wr : World) : Prop := (Ow .i64 3 wr (w.heap.size + 2) wr.heap.size q m d ids ∧ Below w.heap.size w wr) ∧ Bx wr w.heap.size 38 F ∧ Bx wr (w.heap.size + 1) 42 A
theorem RW.on {ids : List Int} {m : Nat} {q : Option Addr} {d : Nat} {F A : Array Value} {w wr w' : World} (h : RW ids m q d F A w wr) (hb : Below wr.heap.size wr w') : RW ids m q d F A w w' := ⟨⟨(h.1.1.below hb).wide (Nat.le_refl _) hb.size (Nat.le_refl _), below_on h.1.2 hb⟩, h.2.1.below hb, h.2.2.below hb⟩
theorem RW.start (F A : Array Value) (w : World) : RW [] 0 (some ⟨w.heap.size + 1 + 1, 0, none⟩) 0 F A w (((w.alloc (.cells F 38)).alloc (.cells A 42)).alloc (.cells #[] 3)) := by
  have h1 := litN_own 3 ((w.alloc (.cells F 38)).alloc (.cells A 42)) (w.heap.size + 2) [] (allK_nil _) (by simp only [World.size_alloc]; omega) (by simp)
  have h2 := (Bx.new (w.alloc (.cells F 38)) 42 A).alloc (.cells #[] 3)
  simp only [World.size_alloc] at h1 h2
  exact ⟨⟨h1.wide (Nat.le_refl _) (by simp only [World.size_alloc]; omega) (Nat.le_refl _), bel2 (bel2 (Dz.box1 w _) (Nat.le_refl _) _) (Nat.le_refl _) _⟩, ((Bx.new w 38 F).alloc _).alloc _, h2⟩
set_option maxRecDepth 100000 in
set_option maxHeartbeats 16000000 in
theorem due_any (ks : List I5) (pk : Option Addr) (nk ck : Nat) (us : List I3) (pa : Option Addr) (na ca : Nat) (ms : List Mn.Me) (pm : Option Addr) (nm cm : Nat) (f3 now : Int) (a0 : Int) (xs : List DpItem.A) (p : Option Addr) (n c : Nat) (margin : Int) {SK SA SM S : Nat → Prop} (w : World) (hk : RdD (flat SlKey.E SlKey.InR) SK w pk nk ks) (ha : RdD (flat SlAuthority.E SlAuthority.InR) SA w pa na us) (hm : RdD (flat SlMethod.E SlMethod.InR) SM w pm nm ms) (hr : RdD DpItem.E S w p n xs) (hw : n + wts DpItem.E xs ≤ 1048576) : Calls Tryz.prog 10 #[.agg #[.slice pk nk ck, .slice pa na ca, .slice pm nm cm, .int .i64 f3, .int .i64 now], .agg #[.int .i64 a0, .slice p n c], .int .i64 margin] w fun e w' => ∃ q m d, e = .returned (.slice q m d) ∧ Ow .i64 3 w' w.heap.size w'.heap.size q m d (due ks us ms now margin xs) ∧ Below w.heap.size w w' := by
  obtain ⟨i0, hi0, hz0, hz1, hz2⟩ := info_parts SlI.info
  have HL := Lib.hid hr.len
  have HR := Lib.hid hr
  have HFK := Lib.hid hk
  have HFA := Lib.hid ha
  have HFM := Lib.hid hm
  have HW := Lib.hid hw
  have hn : n ≤ 1048576 := by omega
  have HK0 : Hid (RW (due ks us ms now margin (xs.take 0)) 0 (some ⟨w.heap.size + 1 + 1, 0, none⟩) 0 #[.slice pk nk ck, .slice pa na ca, .slice pm nm cm, .int .i64 f3, .int .i64 now] #[.int .i64 a0, .slice p n c] w (((w.alloc (.cells #[.slice pk nk ck, .slice pa na ca, .slice pm nm cm, .int .i64 f3, .int .i64 now] 38)).alloc (.cells #[.int .i64 a0, .slice p n c] 42)).alloc (.cells #[] 3))) := Lib.hid (RW.start _ _ w)
  clear hr hk ha hm hw
  obtain ⟨v0, v1⟩ := DpArchive.bxc HK0.out.2.2
  go_enter Tryz.func10, Tryz.ntmps10
  go_wp2_with fail
  generalize (((w.alloc (.cells #[.slice pk nk ck, .slice pa na ca, .slice pm nm cm, .int .i64 f3, .int .i64 now] 38)).alloc (.cells #[.int .i64 a0, .slice p n c] 42)).alloc (.cells #[] 3)) = V at HK0 v0 v1 ⊢
  clear v0 v1
  go_loopw [7, 14] (fun v i wr => ∃ (k m d : Nat) (q : Option Addr), k ≤ n ∧ i = .int .i64 k ∧ v = .slice q m d ∧ m ≤ k ∧ Hid (RW (due ks us ms now margin (xs.take k)) m q d #[.slice pk nk ck, .slice pa na ca, .slice pm nm cm, .int .i64 f3, .int .i64 now] #[.int .i64 a0, .slice p n c] w wr)) (fun _ i _ => n - (intOf i).toNat)
  case atStart => exact ⟨0, 0, _, _, Nat.zero_le _, rfl, rfl, Nat.le_refl _, HK0⟩
  case round =>
    obtain ⟨k, m, d, q, hk, rfl, rfl, hmk, HK⟩ := hrel
    have HKB := Lib.hid HK.out.1.2
    by_cases hlt : k < n
    · skip
      obtain ⟨b, o, x_, cs_, rfl, _, hbw, hx, hc, hrd⟩ := HR.out.at_ hlt
      obtain ⟨x0, x1, ⟨x2, l3, l4⟩, ⟨x5, x6, x7, x8, x9, x10, x11, x12, x13⟩, ⟨l14, l15⟩⟩ := x_
      obtain ⟨p3, n3, c3, p4, n4, c4, p14, n14, c14, p15, n15, c15, rfl, b0, b1, b2, h3, h4, b5, h14, h15⟩ := DpItem.ex hrd
      have hcc : ∀ jj v, [.int .i64 x0, .int .i64 x1, .int .i64 x2, .slice p3 n3 c3, .slice p4 n4 c4, .int .i64 x5, .int .i64 x6, .int .i64 x7, .int .i64 x8, .int .i64 x9, .int .i64 x10, .int .i64 x11, .int .i64 x12, .int .i64 x13, .slice p14 n14 c14, .slice p15 n15 c15][jj]? = some v → wr.cell? ⟨b, o + k * 16 + jj, none⟩ = some v := fun jj v hv => (HKB.out.cell (p := ⟨b, o + k * 16 + jj, none⟩) hbw).trans (hc jj v hv)
      have HX := Lib.hid hx
      have HC := Lib.hid hcc
      have H3 := Lib.hid (h3.below HKB.out)
      have hn3 := h3.le
      have H4 := Lib.hid (h4.below HKB.out)
      have hn4 := h4.le
      have H14 := Lib.hid (h14.below HKB.out)
      have hn14 := h14.le
      have H15 := Lib.hid (h15.below HKB.out)
      have hn15 := h15.le
      have Gb0 := Lib.hid b0
      have Gb1 := Lib.hid b1
      have Gb2 := Lib.hid b2
      have Gb5 := Lib.hid b5
      obtain ⟨u0, u1, u2, u3, u4, u5, u6, u7, u8, u9, u10, u11, u12, u13, u14, u15⟩ := DpItem.at_cells hcc
      clear hcc hc hx hrd b0 b1 b2 h3 h4 b5 h14 h15
      have hwc : wts DpRenewal.E l15 ≤ 1048576 := wt_chain HX.out (by have := HW.out; omega)
      have HIN : Hid (InI x0) := Gb0
      have i1 : (0 : Int) ≤ (k : Int) := by omega
      have i2 : (k : Int) < (n : Int) := by omega
      obtain ⟨β, hβ⟩ : ∃ z, needs ks us ms now margin l15 = z := ⟨_, rfl⟩
      have HS := Lib.hid hβ
      have HND : Hid (ndI ks us ms now margin (x0, x1, (x2, l3, l4), (x5, x6, x7, x8, x9, x10, x11, x12, x13), (l14, l15)) = β) := Lib.hid hβ
      clear hβ
      have HIB := Lib.hid (Bx.new wr 80 #[.int .i64 x0, .int .i64 x1, .int .i64 x2, .slice p3 n3 c3, .slice p4 n4 c4, .int .i64 x5, .int .i64 x6, .int .i64 x7, .int .i64 x8, .int .i64 x9, .int .i64 x10, .int .i64 x11, .int .i64 x12, .int .i64 x13, .slice p14 n14 c14, .slice p15 n15 c15])
      have HK1 := Lib.hid (HK.out.on (Dz.box1 wr (.cells #[.int .i64 x0, .int .i64 x1, .int .i64 x2, .slice p3 n3 c3, .slice p4 n4 c4, .int .i64 x5, .int .i64 x6, .int .i64 x7, .int .i64 x8, .int .i64 x9, .int .i64 x10, .int .i64 x11, .int .i64 x12, .int .i64 x13, .slice p14 n14 c14, .slice p15 n15 c15] 80)))
      clear u0 u1 u2 u3 u4 u5 u6 u7 u8 u9 u10 u11 u12 u13 u14 u15
      have hcc := HC.out
      obtain ⟨u0, u1, u2, u3, u4, u5, u6, u7, u8, u9, u10, u11, u12, u13, u14, u15⟩ := DpItem.at_cells hcc
      clear hcc
      obtain ⟨f0_, f1_, f2_, f3_, f4_⟩ := DpFrame.bxc HK1.out.2.1
      obtain ⟨t0, t1, t2, t3, t4, t5, t6, t7, t8, t9, t10, t11, t12, t13, t14, t15⟩ := DpItem.bxc HIB.out
      go_wp2_with fail
      refine (Nr1.needs_any ks _ _ _ us _ _ _ ms _ _ _ f3 now x0 x1 x2 _ _ _ _ _ _ x5 x6 x7 x8 x9 x10 x11 x12 x13 _ _ _ l15 _ _ _ margin _ (HFK.out.below HK1.out.1.2) (HFA.out.below HK1.out.1.2) (HFM.out.below HK1.out.1.2) (H15.out.below (Dz.box1 wr _)) hwc).mono ?_
      rintro e w1 ⟨rfl, hb⟩
      rw [HS.out]
      have HK2 := Lib.hid (HK1.out.on hb)
      have HIB2 := Lib.hid (HIB.out.below hb)
      clear hb u0 u1 u2 u3 u4 u5 u6 u7 u8 u9 u10 u11 u12 u13 u14 u15 f0_ f1_ f2_ f3_ f4_ t0 t1 t2 t3 t4 t5 t6 t7 t8 t9 t10 t11 t12 t13 t14 t15
      obtain ⟨t0, t1, t2, t3, t4, t5, t6, t7, t8, t9, t10, t11, t12, t13, t14, t15⟩ := DpItem.bxc HIB2.out
      cases β
      · have HN := Lib.hid (due_no HX.out HND.out)
        have HK3 : Hid (RW (due ks us ms now margin (xs.take (k + 1))) m q d #[.slice pk nk ck, .slice pa na ca, .slice pm nm cm, .int .i64 f3, .int .i64 now] #[.int .i64 a0, .slice (some ⟨b, o, none⟩) n c] w w1) := Lib.hid (by rw [HN.out]; exact HK2.out)
        go_wp2_with fail
        go_roundw
        case rel => exact ⟨k + 1, m, d, q, by omega, by go_num, rfl, by omega, HK3⟩
        case measure => simp [intOf]; omega
      · have HN := Lib.hid (due_yes HX.out HND.out)
        have hsz : w.heap.size + 2 ≤ w1.heap.size := HK2.out.2.2.lt
        have HSZ := Lib.hid hsz
        have HLit := Lib.hid (lit1 w1 x0 HIN.out)
        have HZ : Hid (w.heap.size + 2 ≤ (w1.alloc (.cells #[.int .i64 x0] 3)).heap.size) := Lib.hid (by rw [World.size_alloc]; omega)
        clear hsz
        go_wp2_with (at_builtin; refine wpList_appR rfl (.tmp 22) (.tmp 25) 32 rfl i0 _ 8 Tryz.underlying32 hi0 hz0 hz1 hz2 rfl rfl (HK2.out.1.1.alloc _) _ _ _ _ rfl HLit.out HZ.out (by omega) (by omega) ?_; intro p9 c9 w9 how9 hg9; rw [← HN.out] at how9; have HK4 : Hid (RW (due ks us ms now margin (xs.take (k + 1))) (m + 1) p9 c9 #[.slice pk nk ck, .slice pa na ca, .slice pm nm cm, .int .i64 f3, .int .i64 now] #[.int .i64 a0, .slice (some ⟨b, o, none⟩) n c] w w9) := Lib.hid ⟨⟨how9, (bel2 HK2.out.1.2 (Nat.le_refl _) _).grown hg9 (by have h1 := HK2.out.1.2.size; rw [World.size_alloc]; omega) (fun g e => by have := (HK2.out.1.1.alloc (.cells #[.int .i64 x0] 3)).far g e; omega)⟩, (HK2.out.2.1.alloc _).grown hg9 (fun e => by have := (HK2.out.1.1.alloc (.cells #[.int .i64 x0] 3)).far _ e.symm; omega), (HK2.out.2.2.alloc _).grown hg9 (fun e => by have := (HK2.out.1.1.alloc (.cells #[.int .i64 x0] 3)).far _ e.symm; omega)⟩; clear how9 hg9)
        go_roundw
        case rel => exact ⟨k + 1, m + 1, c9, p9, by omega, by go_num, rfl, by omega, HK4⟩
        case measure => simp [intOf]; omega
    · obtain rfl : k = n := by omega
      have HA : Hid (xs.take k = xs) := Lib.hid (List.take_of_length_le (by rw [HL.out]; exact Nat.le_refl _))
      skip
      go_wp2_with fail
      go_ret
      exact ⟨_, _, _, rfl, by have h := HK.out.1.1; rw [HA.out] at h; exact h.wide (by omega) (Nat.le_refl _) (Nat.le_refl _), HK.out.1.2⟩
set_option maxRecDepth 100000 in
set_option maxHeartbeats 16000000 in
theorem spec_due_any (ks : List I5) (pk : Option Addr) (nk ck : Nat) (us : List I3) (pa : Option Addr) (na ca : Nat) (ms : List Mn.Me) (pm : Option Addr) (nm cm : Nat) (f3 now : Int) (a0 : Int) (xs : List DpItem.A) (p : Option Addr) (n c : Nat) (margin : Int) {SK SA SM S : Nat → Prop} (w : World) (hk : RdD (flat SlKey.E SlKey.InR) SK w pk nk ks) (ha : RdD (flat SlAuthority.E SlAuthority.InR) SA w pa na us) (hm : RdD (flat SlMethod.E SlMethod.InR) SM w pm nm ms) (hr : RdD DpItem.E S w p n xs) (hw : n + wts DpItem.E xs ≤ 1048576) : Calls Tryz.prog 7 #[.agg #[.slice pk nk ck, .slice pa na ca, .slice pm nm cm, .int .i64 f3, .int .i64 now], .agg #[.int .i64 a0, .slice p n c], .int .i64 margin] w fun e w' => ∃ q m d, e = .returned (.slice q m d) ∧ Ow .i64 3 w' w.heap.size w'.heap.size q m d (due ks us ms now margin xs) ∧ Below w.heap.size w w' := by
  obtain ⟨i0, hi0, hz0, hz1, hz2⟩ := info_parts SlI.info
  have HL := Lib.hid hr.len
  have HR := Lib.hid hr
  have HFK := Lib.hid hk
  have HFA := Lib.hid ha
  have HFM := Lib.hid hm
  have HW := Lib.hid hw
  have hn : n ≤ 1048576 := by omega
  have HK0 : Hid (RW (due ks us ms now margin (xs.take 0)) 0 (some ⟨w.heap.size + 1 + 1, 0, none⟩) 0 #[.slice pk nk ck, .slice pa na ca, .slice pm nm cm, .int .i64 f3, .int .i64 now] #[.int .i64 a0, .slice p n c] w (((w.alloc (.cells #[.slice pk nk ck, .slice pa na ca, .slice pm nm cm, .int .i64 f3, .int .i64 now] 38)).alloc (.cells #[.int .i64 a0, .slice p n c] 42)).alloc (.cells #[] 3))) := Lib.hid (RW.start _ _ w)
  clear hr hk ha hm hw
  obtain ⟨v0, v1⟩ := DpArchive.bxc HK0.out.2.2
  go_enter Tryz.func7, Tryz.ntmps7
  go_wp2_with fail
  generalize (((w.alloc (.cells #[.slice pk nk ck, .slice pa na ca, .slice pm nm cm, .int .i64 f3, .int .i64 now] 38)).alloc (.cells #[.int .i64 a0, .slice p n c] 42)).alloc (.cells #[] 3)) = V at HK0 v0 v1 ⊢
  clear v0 v1
  go_loopw [7, 8] (fun v i wr => ∃ (k m d : Nat) (q : Option Addr), k ≤ n ∧ i = .int .i64 k ∧ v = .slice q m d ∧ m ≤ k ∧ Hid (RW (due ks us ms now margin (xs.take k)) m q d #[.slice pk nk ck, .slice pa na ca, .slice pm nm cm, .int .i64 f3, .int .i64 now] #[.int .i64 a0, .slice p n c] w wr)) (fun _ i _ => n - (intOf i).toNat)
  case atStart => exact ⟨0, 0, _, _, Nat.zero_le _, rfl, rfl, Nat.le_refl _, HK0⟩
  case round =>
    obtain ⟨k, m, d, q, hk, rfl, rfl, hmk, HK⟩ := hrel
    have HKB := Lib.hid HK.out.1.2
    by_cases hlt : k < n
    · skip
      obtain ⟨b, o, x_, cs_, rfl, _, hbw, hx, hc, hrd⟩ := HR.out.at_ hlt
      obtain ⟨x0, x1, ⟨x2, l3, l4⟩, ⟨x5, x6, x7, x8, x9, x10, x11, x12, x13⟩, ⟨l14, l15⟩⟩ := x_
      obtain ⟨p3, n3, c3, p4, n4, c4, p14, n14, c14, p15, n15, c15, rfl, b0, b1, b2, h3, h4, b5, h14, h15⟩ := DpItem.ex hrd
      have hcc : ∀ jj v, [.int .i64 x0, .int .i64 x1, .int .i64 x2, .slice p3 n3 c3, .slice p4 n4 c4, .int .i64 x5, .int .i64 x6, .int .i64 x7, .int .i64 x8, .int .i64 x9, .int .i64 x10, .int .i64 x11, .int .i64 x12, .int .i64 x13, .slice p14 n14 c14, .slice p15 n15 c15][jj]? = some v → wr.cell? ⟨b, o + k * 16 + jj, none⟩ = some v := fun jj v hv => (HKB.out.cell (p := ⟨b, o + k * 16 + jj, none⟩) hbw).trans (hc jj v hv)
      have HX := Lib.hid hx
      have HC := Lib.hid hcc
      have H3 := Lib.hid (h3.below HKB.out)
      have hn3 := h3.le
      have H4 := Lib.hid (h4.below HKB.out)
      have hn4 := h4.le
      have H14 := Lib.hid (h14.below HKB.out)
      have hn14 := h14.le
      have H15 := Lib.hid (h15.below HKB.out)
      have hn15 := h15.le
      have Gb0 := Lib.hid b0
      have Gb1 := Lib.hid b1
      have Gb2 := Lib.hid b2
      have Gb5 := Lib.hid b5
      obtain ⟨u0, u1, u2, u3, u4, u5, u6, u7, u8, u9, u10, u11, u12, u13, u14, u15⟩ := DpItem.at_cells hcc
      clear hcc hc hx hrd b0 b1 b2 h3 h4 b5 h14 h15
      have hwc : wts DpRenewal.E l15 ≤ 1048576 := wt_chain HX.out (by have := HW.out; omega)
      have HIN : Hid (InI x0) := Gb0
      have i1 : (0 : Int) ≤ (k : Int) := by omega
      have i2 : (k : Int) < (n : Int) := by omega
      obtain ⟨β, hβ⟩ : ∃ z, needs ks us ms now margin l15 = z := ⟨_, rfl⟩
      have HS := Lib.hid hβ
      have HND : Hid (ndI ks us ms now margin (x0, x1, (x2, l3, l4), (x5, x6, x7, x8, x9, x10, x11, x12, x13), (l14, l15)) = β) := Lib.hid hβ
      clear hβ
      clear u0 u1 u2 u3 u4 u5 u6 u7 u8 u9 u10 u11 u12 u13 u14 u15
      have HBL := Lib.hid hbw
      have HCC := HC
      obtain ⟨v0, v1⟩ := DpArchive.bxc HK.out.2.2
      go_wp2_with fail
      clear v0 v1
      have HC : Hid (∀ w', Qt.Keeps (wr) w' → w'.cell? ⟨w.heap.size, 0, none⟩ = some (.slice pk nk ck) ∧ w'.cell? ⟨w.heap.size, 1, none⟩ = some (.slice pa na ca) ∧ w'.cell? ⟨w.heap.size, 2, none⟩ = some (.slice pm nm cm) ∧ w'.cell? ⟨w.heap.size, 3, none⟩ = some (.int .i64 f3) ∧ w'.cell? ⟨w.heap.size, 4, none⟩ = some (.int .i64 now) ∧ w'.cell? ⟨w.heap.size + 1, 1, none⟩ = some (.slice (some ⟨b, o, none⟩) n c) ∧ w'.cell? ⟨b, o + k * 16, none⟩ = some (.int .i64 x0) ∧ w'.cell? ⟨b, o + k * 16 + 1, none⟩ = some (.int .i64 x1) ∧ w'.cell? ⟨b, o + k * 16 + 2, none⟩ = some (.int .i64 x2) ∧ w'.cell? ⟨b, o + k * 16 + 3, none⟩ = some (.slice p3 n3 c3) ∧ w'.cell? ⟨b, o + k * 16 + 4, none⟩ = some (.slice p4 n4 c4) ∧ w'.cell? ⟨b, o + k * 16 + 5, none⟩ = some (.int .i64 x5) ∧ w'.cell? ⟨b, o + k * 16 + 6, none⟩ = some (.int .i64 x6) ∧ w'.cell? ⟨b, o + k * 16 + 7, none⟩ = some (.int .i64 x7) ∧ w'.cell? ⟨b, o + k * 16 + 8, none⟩ = some (.int .i64 x8) ∧ w'.cell? ⟨b, o + k * 16 + 9, none⟩ = some (.int .i64 x9) ∧ w'.cell? ⟨b, o + k * 16 + 10, none⟩ = some (.int .i64 x10) ∧ w'.cell? ⟨b, o + k * 16 + 11, none⟩ = some (.int .i64 x11) ∧ w'.cell? ⟨b, o + k * 16 + 12, none⟩ = some (.int .i64 x12) ∧ w'.cell? ⟨b, o + k * 16 + 13, none⟩ = some (.int .i64 x13) ∧ w'.cell? ⟨b, o + k * 16 + 14, none⟩ = some (.slice p14 n14 c14) ∧ w'.cell? ⟨b, o + k * 16 + 15, none⟩ = some (.slice p15 n15 c15)) := Lib.hid fun w' hw => let g := DpFrame.bxc (HK.out.2.1.below hw); let h := DpArchive.bxc (HK.out.2.2.below hw); let u := DpItem.at_cells (fun jj v hv => (hw.cell (p := ⟨b, o + k * 16 + jj, none⟩) (Nat.lt_of_lt_of_le HBL.out HKB.out.size)).trans (HC.out jj v hv)); ⟨g.1, g.2.1, g.2.2.1, g.2.2.2.1, g.2.2.2.2, h.2, u.1, u.2.1, u.2.2.1, u.2.2.2.1, u.2.2.2.2.1, u.2.2.2.2.2.1, u.2.2.2.2.2.2.1, u.2.2.2.2.2.2.2.1, u.2.2.2.2.2.2.2.2.1, u.2.2.2.2.2.2.2.2.2.1, u.2.2.2.2.2.2.2.2.2.2.1, u.2.2.2.2.2.2.2.2.2.2.2.1, u.2.2.2.2.2.2.2.2.2.2.2.2.1, u.2.2.2.2.2.2.2.2.2.2.2.2.2.1, u.2.2.2.2.2.2.2.2.2.2.2.2.2.2.1, u.2.2.2.2.2.2.2.2.2.2.2.2.2.2.2⟩
      refine Qt.region (Qt.Keeps (wr)) (by kernel_rfl) (by kernel_rfl) (Qt.Keeps.drew _) ?_
      repeat (first
        | go_big_quiet_skip
        | (go_big_quiet_want
           refine Qt.val (v := ?_) (fun w hw => ?_) ?_
           rotate_left
           · obtain ⟨g0, g1, g2, g3, g4, s1, u0, u1, u2, u3, u4, u5, u6, u7, u8, u9, u10, u11, u12, u13, u14, u15⟩ := HC.out w hw
             go_simp
             rfl
           simp only [Act.put, List.setIfInBounds_toArray, List.set_cons_zero, List.set_cons_succ]
           go_big_quiet_on)
        | (go_big_quiet_want
           refine Qt.call (v := .bool β) (f := 28) (args := #[.agg #[.slice pk nk ck, .slice pa na ca, .slice pm nm cm, .int .i64 f3, .int .i64 now], .agg #[.int .i64 x0, .int .i64 x1, .int .i64 x2, .slice p3 n3 c3, .slice p4 n4 c4, .int .i64 x5, .int .i64 x6, .int .i64 x7, .int .i64 x8, .int .i64 x9, .int .i64 x10, .int .i64 x11, .int .i64 x12, .int .i64 x13, .slice p14 n14 c14, .slice p15 n15 c15], .int .i64 margin]) (fun w hw => ?_) (fun w hw => ?_) ?_
           · go_simp
           · refine (Nr2.spec_needs_any ks _ _ _ us _ _ _ ms _ _ _ f3 now x0 x1 x2 _ _ _ _ _ _ x5 x6 x7 x8 x9 x10 x11 x12 x13 _ _ _ l15 _ _ _ margin _ (HFK.out.below (below_on HKB.out hw)) (HFA.out.below (below_on HKB.out hw)) (HFM.out.below (below_on HKB.out hw)) (H15.out.below hw) hwc).mono ?_
             rintro e w1 ⟨rfl, hb1⟩
             rw [HS.out]
             exact ⟨rfl, hw.then hb1⟩
           simp only [Act.put, List.setIfInBounds_toArray, List.set_cons_zero, List.set_cons_succ]
           go_big_quiet_on))
      refine wpQuiet_nil ?_
      intro w1 hw1
      have HK2 := Lib.hid (HK.out.on hw1)
      have HU1 : Hid (w1.cell? ⟨b, o + k * 16, none⟩ = some (.int .i64 x0)) := Lib.hid ((hw1.cell (p := ⟨b, o + k * 16 + 0, none⟩) (Nat.lt_of_lt_of_le HBL.out HKB.out.size)).trans (HCC.out 0 _ rfl))
      clear hw1
      have t0 := HU1.out
      obtain ⟨v0, v1⟩ := DpArchive.bxc HK2.out.2.2
      cases β
      · have HN := Lib.hid (due_no HX.out HND.out)
        have HK3 : Hid (RW (due ks us ms now margin (xs.take (k + 1))) m q d #[.slice pk nk ck, .slice pa na ca, .slice pm nm cm, .int .i64 f3, .int .i64 now] #[.int .i64 a0, .slice (some ⟨b, o, none⟩) n c] w w1) := Lib.hid (by rw [HN.out]; exact HK2.out)
        go_wp2_with fail
        go_roundw
        case rel => exact ⟨k + 1, m, d, q, by omega, by go_num, rfl, by omega, HK3⟩
        case measure => simp [intOf]; omega
      · have HN := Lib.hid (due_yes HX.out HND.out)
        have hsz : w.heap.size + 2 ≤ w1.heap.size := HK2.out.2.2.lt
        have HSZ := Lib.hid hsz
        have HLit := Lib.hid (lit1 w1 x0 HIN.out)
        have HZ : Hid (w.heap.size + 2 ≤ (w1.alloc (.cells #[.int .i64 x0] 3)).heap.size) := Lib.hid (by rw [World.size_alloc]; omega)
        clear hsz
        go_wp2_with (at_builtin; refine wpList_appR rfl (.tmp 25) (.tmp 32) 32 rfl i0 _ 8 Tryz.underlying32 hi0 hz0 hz1 hz2 rfl rfl (HK2.out.1.1.alloc _) _ _ _ _ rfl HLit.out HZ.out (by omega) (by omega) ?_; intro p9 c9 w9 how9 hg9; rw [← HN.out] at how9; have HK4 : Hid (RW (due ks us ms now margin (xs.take (k + 1))) (m + 1) p9 c9 #[.slice pk nk ck, .slice pa na ca, .slice pm nm cm, .int .i64 f3, .int .i64 now] #[.int .i64 a0, .slice (some ⟨b, o, none⟩) n c] w w9) := Lib.hid ⟨⟨how9, (bel2 HK2.out.1.2 (Nat.le_refl _) _).grown hg9 (by have h1 := HK2.out.1.2.size; rw [World.size_alloc]; omega) (fun g e => by have := (HK2.out.1.1.alloc (.cells #[.int .i64 x0] 3)).far g e; omega)⟩, (HK2.out.2.1.alloc _).grown hg9 (fun e => by have := (HK2.out.1.1.alloc (.cells #[.int .i64 x0] 3)).far _ e.symm; omega), (HK2.out.2.2.alloc _).grown hg9 (fun e => by have := (HK2.out.1.1.alloc (.cells #[.int .i64 x0] 3)).far _ e.symm; omega)⟩; clear how9 hg9)
        go_roundw
        case rel => exact ⟨k + 1, m + 1, c9, p9, by omega, by go_num, rfl, by omega, HK4⟩
        case measure => simp [intOf]; omega
    · obtain rfl : k = n := by omega
      have HA : Hid (xs.take k = xs) := Lib.hid (List.take_of_length_le (by rw [HL.out]; exact Nat.le_refl _))
      obtain ⟨v0, v1⟩ := DpArchive.bxc HK.out.2.2
      go_wp2_with fail
      go_ret
      exact ⟨_, _, _, rfl, by have h := HK.out.1.1; rw [HA.out] at h; exact h.wide (by omega) (Nat.le_refl _) (Nat.le_refl _), HK.out.1.2⟩
end Go.Proofs.YtpjckbdljbpliaaGreat.Idu
