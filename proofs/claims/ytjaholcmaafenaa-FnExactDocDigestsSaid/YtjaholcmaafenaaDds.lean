/- The digests of a document for the renewals of a strand; in the program and in the reference. -/
import Derived.Test.YtjaholcmaafenaaDpStrand
import Derived.Test.YtjaholcmaafenaaDpDocument
import Derived.Test.YtjaholcmaafenaaDd
import Derived.Test.YtjaholcmaafenaaDs
import Derived.Test.YtjaholcmaafenaaSr
import Derived.LoopTactic
import Derived.Outline
import Derived.Deep.RegionHeld3
namespace Go.Proofs.Ytjaholcmaafenaa.Dds
open Go.ChangeShapes Go.WideShapes Go.ChangeAt Go.RowKit Sl St Ed Dz
abbrev Dc := Int × List ByteArray × List Int
def digs (D : Dc) (ch : List DpRenewal.A) : List Int := ch.map fun r => Dm.docD r.2.1 D
theorem digs_len (D : Dc) (ch : List DpRenewal.A) : (digs D ch).length = ch.length := by simp [digs]
theorem digs_next {D : Dc} {ch : List DpRenewal.A} {k : Nat} {r : DpRenewal.A} {y : Int} (h : ch[k]? = some r) (hy : Dm.docD r.2.1 D = y) : digs D (ch.take (k + 1)) = digs D (ch.take k) ++ [y] := by
  unfold digs
  rw [List.take_add_one, h, List.map_append]
  simp [hy]
theorem lit1 (V : World) (x : Int) (hx : InI x) : Rd .i64 (V.alloc (.cells #[.int .i64 x] 3)) (some ⟨V.heap.size, 0, none⟩) 1 [x] := (litN_own 3 V V.heap.size [x] (fun y hy => by rw [List.mem_singleton] at hy; rw [hy]; exact hx) (Nat.le_refl _) (by simp)).rd
theorem bel2 {w V : World} {B : Nat} (h : Below B w V) (hB : B ≤ w.heap.size) (x : Obj) : Below B w (V.alloc x) := h.alloc (Nat.le_trans hB h.size) _
theorem docD_inI (m : Int) (D : Dc) : InI (Dm.docD m D) := by
  have h := Dm.docD_in m D
  exact ⟨by omega, by omega⟩
def RI (us : List Int) (m : Nat) (p : Option Addr) (c lo : Nat) (w wr : World) : Prop := Ow .i64 3 wr lo wr.heap.size p m c us ∧ Below w.heap.size w wr
theorem RI.on {us : List Int} {m : Nat} {p : Option Addr} {c lo : Nat} {w wr w' : World} (h : RI us m p c lo w wr) (hb : Below wr.heap.size wr w') : RI us m p c lo w w' := ⟨(h.1.below hb).wide (Nat.le_refl _) hb.size (Nat.le_refl _), below_on h.2 hb⟩
theorem RI.app {us : List Int} {m : Nat} {p : Option Addr} {c lo : Nat} {w wr w' : World} {zs : List Int} {p' : Option Addr} {m' c' : Nat} (h : RI us m p c lo w wr) (hl : w.heap.size ≤ lo) (ho : Ow .i64 3 w' lo w'.heap.size p' m' c' zs) (hg : wr.grownBy w' (Value.slice p m c).ownBlock) : RI zs m' p' c' lo w w' := ⟨ho, h.2.grown hg h.2.size fun g e => Nat.le_trans hl (h.1.far g e).1⟩
set_option maxRecDepth 100000 in
set_option maxHeartbeats 4000000 in
theorem by_any (t : Int) (parts : List ByteArray) (q : Option Addr) (m d : Nat) (salts : List Int) (q2 : Option Addr) (m2 d2 : Nat) (mth : Int) {SP SQ : Nat → Prop} (w : World) (hP : RdD str SP w q m parts) (hQ : RdD int SQ w q2 m2 salts) : Calls Try.prog 172 #[.agg #[.int .i64 t, .slice q m d, .slice q2 m2 d2], .int .i64 mth] w (Val (.int .i64 (Dm.docD mth (t, parts, salts))) w) := by
  have HB := Lib.hid (Dz.box1 w (.cells #[.int .i64 t, .slice q m d, .slice q2 m2 d2] 38))
  have HX := Lib.hid (Bx.new w 38 #[.int .i64 t, .slice q m d, .slice q2 m2 d2])
  have HP := Lib.hid hP
  have HQ := Lib.hid hQ
  clear hP hQ
  go_enter Try.func172, Try.ntmps172
  obtain ⟨u0, u1, u2⟩ := DpDocument.bxc HX.out
  go_wp2_with fail
  refine (Dd.docD_any mth t _ _ _ _ _ _ parts salts _ (RdD.strs SlStr.C_eq SlStr.of_eq (HP.out.below HB.out)).1 (HQ.out.below HB.out).ints).mono ?_
  rintro e w1 ⟨rfl, hb⟩
  have HB1 := Lib.hid (below_on HB.out hb)
  clear hb u0 u1 u2
  go_wp2_with fail
  go_ret
  exact ⟨rfl, HB1.out⟩
theorem meth (t : Int) (q : Option Addr) (m d : Nat) (q2 : Option Addr) (m2 d2 : Nat) (w : World) : (method 338 38 (.agg #[.int .i64 t, .slice q m d, .slice q2 m2 d2]) "loop.example/g00597/impl.digestBy").run Try.prog w = .ok (172, .agg #[.int .i64 t, .slice q m d, .slice q2 m2 d2]) w := by kernel_rfl
set_option maxRecDepth 100000 in
set_option maxHeartbeats 8000000 in
theorem for_any (p0 : Option Addr) (n0 c0 : Nat) (ch : List DpRenewal.A) (p1 : Option Addr) (n1 c1 : Nat) (t : Int) (parts : List ByteArray) (q : Option Addr) (m d : Nat) (salts : List Int) (q2 : Option Addr) (m2 d2 : Nat) {S SP SQ : Nat → Prop} (w : World) (hr : RdD DpRenewal.E S w p1 n1 ch) (hP : RdD str SP w q m parts) (hQ : RdD int SQ w q2 m2 salts) (hn : n1 ≤ 2000000) : Calls Try.prog 72 #[.agg #[.slice p0 n0 c0, .slice p1 n1 c1], .iface 38 (.agg #[.int .i64 t, .slice q m d, .slice q2 m2 d2])] w fun e w' => ∃ a n c, e = .returned (.slice a n c) ∧ Ow .i64 3 w' w.heap.size w'.heap.size a n c (digs (t, parts, salts) ch) ∧ Below w.heap.size w w' := by
  obtain ⟨i0, hi0, hz0, hz1, hz2⟩ := info_parts SlI.info
  have HL := Lib.hid hr.len
  have HR := Lib.hid hr
  have HP := Lib.hid hP
  have HQ := Lib.hid hQ
  have HB0 := Lib.hid (Dz.box1 w (.cells #[.slice p0 n0 c0, .slice p1 n1 c1] 36))
  have HX := Lib.hid (Bx.new w 36 #[.slice p0 n0 c0, .slice p1 n1 c1])
  have hm := meth t q m d q2 m2 d2
  clear hr hP hQ
  go_enter Try.func72, Try.ntmps72
  obtain ⟨v0, v1⟩ := DpStrand.bxc HX.out
  go_wp2_with (refine wpList_make_own _ rfl _ _ 27 rfl w.heap.size 3 i0 _ 1 Try.underlying27 hi0 hz0 hz1 .i64 .i64 _ n1 rfl rfl rfl (by rw [hz2]; omega) (by unfold maxLen; omega) HB0.out.size ?_; intro V hown1 hg1; rw [World.size_alloc] at hown1; have HK0 : Hid (RI (digs (t, parts, salts) (ch.take 0)) 0 (some ⟨w.heap.size + 1, 0, none⟩) n1 w.heap.size w V) := Lib.hid ⟨Ow.of_row hown1 (allK_nil _), HB0.out.grown hg1 HB0.out.size (fun _ h => by cases h)⟩; have w1_ := (HX.out.grown hg1 (fun h => by cases h)).cell (j := 1) rfl; clear hown1 hg1)
  clear v0 v1
  go_loopw [5, 15] (fun v i wr => ∃ (k mm dd : Nat) (qq : Option Addr), k ≤ n1 ∧ i = .int .i64 k ∧ v = .slice qq mm dd ∧ mm ≤ k ∧ Hid (RI (digs (t, parts, salts) (ch.take k)) mm qq dd w.heap.size w wr)) (fun _ i _ => n1 - (intOf i).toNat)
  case atStart => exact ⟨0, 0, _, _, Nat.zero_le _, rfl, rfl, Nat.le_refl _, HK0⟩
  case round =>
    obtain ⟨k, mm, dd, qq, hk, rfl, rfl, hmk, HK⟩ := hrel
    have HKB := Lib.hid HK.out.2
    by_cases hlt : k < n1
    · skip
      obtain ⟨b, o, x_, cs_, rfl, _, hbw, hx, hc, hrd⟩ := HR.out.at_ hlt
      obtain ⟨x0, x1, x2, l3, l4⟩ := x_
      obtain ⟨p3, n3, c3, p4, n4, c4, rfl, b0, b1, b2, h3, h4⟩ := DpRenewal.ex hrd
      have hcc : ∀ jj v, [.int .i64 x0, .int .i64 x1, .int .i64 x2, .slice p3 n3 c3, .slice p4 n4 c4][jj]? = some v → wr.cell? ⟨b, o + k * 5 + jj, none⟩ = some v := fun jj v hv => (HKB.out.cell (p := ⟨b, o + k * 5 + jj, none⟩) hbw).trans (hc jj v hv)
      obtain ⟨y, hy⟩ : ∃ z, Dm.docD x1 (t, parts, salts) = z := ⟨_, rfl⟩
      have HY := Lib.hid hy
      have HI : Hid (InI y) := Lib.hid (by rw [← hy]; exact docD_inI _ _)
      have HN := Lib.hid (digs_next (D := (t, parts, salts)) hx hy)
      have Gb1 := Lib.hid b1
      obtain ⟨u0, u1, u2, u3, u4⟩ := DpRenewal.at_cells hcc
      have i1 : (0 : Int) ≤ (k : Int) := by omega
      have i2 : (k : Int) < (n1 : Int) := by omega
      have HU1 := Lib.hid u1
      have HBW := Lib.hid (Nat.lt_of_lt_of_le hbw HKB.out.size)
      clear hcc hc hx hrd b0 b1 b2 h3 h4 hy hbw
      have HK1 := Lib.hid (HK.out.on (Dz.box1 wr (.cells #[.int .i64 x0, .int .i64 x1, .int .i64 x2, .slice p3 n3 c3, .slice p4 n4 c4] 110)))
      have HIB := Lib.hid (Bx.new wr 110 #[.int .i64 x0, .int .i64 x1, .int .i64 x2, .slice p3 n3 c3, .slice p4 n4 c4])
      obtain ⟨t0, t1, t2, t3, t4⟩ := DpRenewal.bxc HIB.out
      go_wp2_with fail
      refine (by_any t parts _ _ _ salts _ _ _ x1 _ (HP.out.below HK1.out.2) (HQ.out.below HK1.out.2)).mono ?_
      rintro e w1 ⟨rfl, hb⟩
      rw [HY.out]
      have HK2 := Lib.hid (HK1.out.on hb)
      clear hb u0 u1 u2 u3 u4 t0 t1 t2 t3 t4 HIB
      have HLit := Lib.hid (lit1 w1 y HI.out)
      have HK3 := Lib.hid (HK2.out.on (Dz.box1 w1 (.cells #[.int .i64 y] 3)))
      have HZ : Hid (w.heap.size ≤ (w1.alloc (.cells #[.int .i64 y] 3)).heap.size) := Lib.hid HK3.out.2.size
      go_wp2_with (at_builtin; refine wpList_appR rfl (.tmp 19) (.tmp 24) 27 rfl i0 _ 8 Try.underlying27 hi0 hz0 hz1 hz2 rfl rfl HK3.out.1 _ _ _ _ rfl HLit.out HZ.out (by omega) (by omega) ?_; intro p9 c9 w9 how9 hg9; rw [← HN.out] at how9; have HK4 := Lib.hid (HK3.out.app (Nat.le_refl _) how9 hg9); clear how9 hg9)
      go_roundw
      case rel => exact ⟨k + 1, mm + 1, c9, p9, by omega, by go_num, rfl, by omega, HK4⟩
      case measure => simp [intOf]; omega
    · obtain rfl : k = n1 := by omega
      have HE : Hid (Ow .i64 3 wr w.heap.size wr.heap.size qq mm dd (digs (t, parts, salts) ch)) := Lib.hid (by have h := HK.out.1; rw [List.take_of_length_le (by rw [HL.out]; exact Nat.le_refl _)] at h; exact h)
      go_wp2_with fail
      go_ret
      exact ⟨_, _, _, rfl, HE.out, HK.out.2⟩
set_option maxRecDepth 100000 in
set_option maxHeartbeats 4000000 in
theorem docs_any (l0 : List DpPiece.A) (p0 : Option Addr) (n0 c0 : Nat) (ch : List DpRenewal.A) (p1 : Option Addr) (n1 c1 : Nat) (t : Int) (parts : List ByteArray) (q : Option Addr) (m d : Nat) (salts : List Int) (q2 : Option Addr) (m2 d2 : Nat) {S0 S SP SQ : Nat → Prop} (w : World) (_h0 : RdD DpPiece.E S0 w p0 n0 l0) (hr : RdD DpRenewal.E S w p1 n1 ch) (hP : RdD str SP w q m parts) (hQ : RdD int SQ w q2 m2 salts) (hn : n1 ≤ 2000000) : Calls Try.prog 15 #[.agg #[.slice p0 n0 c0, .slice p1 n1 c1], .agg #[.int .i64 t, .slice q m d, .slice q2 m2 d2]] w fun e w' => ∃ a n c, e = .returned (.slice a n c) ∧ Ow .i64 3 w' w.heap.size w'.heap.size a n c (digs (t, parts, salts) ch) ∧ Below w.heap.size w w' := by
  have HR := Lib.hid hr
  have HP := Lib.hid hP
  have HQ := Lib.hid hQ
  have HX := Lib.hid ((Bx.new w 36 #[.slice p0 n0 c0, .slice p1 n1 c1]).alloc (.cells #[.int .i64 t, .slice q m d, .slice q2 m2 d2] 38))
  have HY : Hid (Bx ((w.alloc (.cells #[.slice p0 n0 c0, .slice p1 n1 c1] 36)).alloc (.cells #[.int .i64 t, .slice q m d, .slice q2 m2 d2] 38)) (w.heap.size + 1) 38 #[.int .i64 t, .slice q m d, .slice q2 m2 d2]) := Lib.hid (by have h := Bx.new (w.alloc (.cells #[.slice p0 n0 c0, .slice p1 n1 c1] 36)) 38 #[.int .i64 t, .slice q m d, .slice q2 m2 d2]; rw [World.size_alloc] at h; exact h)
  have HB : Hid (Below w.heap.size w ((w.alloc (.cells #[.slice p0 n0 c0, .slice p1 n1 c1] 36)).alloc (.cells #[.int .i64 t, .slice q m d, .slice q2 m2 d2] 38))) := Lib.hid (bel2 (Dz.box1 w _) (Nat.le_refl _) _)
  clear hr hP hQ
  go_enter Try.func15, Try.ntmps15
  obtain ⟨v0, v1⟩ := DpStrand.bxc HX.out
  obtain ⟨y0, y1, y2⟩ := DpDocument.bxc HY.out
  go_wp2_with fail
  refine (for_any _ _ _ ch _ _ _ t parts _ _ _ salts _ _ _ _ (HR.out.below HB.out) (HP.out.below HB.out) (HQ.out.below HB.out) hn).mono ?_
  rintro e w1 ⟨a, n, c, rfl, ho, hb⟩
  have HO := Lib.hid (ho.wide HB.out.size (Nat.le_refl _) (Nat.le_refl _))
  have HB1 := Lib.hid (below_on HB.out hb)
  clear ho hb v0 v1 y0 y1 y2
  go_wp2_with fail
  go_ret
  exact ⟨a, n, c, rfl, HO.out, HB1.out⟩
theorem ks {W : World} {g g' : Nat} {a0 a1 x0 x1 x2 z : Value} {b' o' : Nat} (h : Bx W g 36 #[a0, a1]) (hz : W.cell? ⟨b', o', none⟩ = some z) (h' : Bx W g' 38 #[x0, x1, x2]) : W.cell? ⟨g, 1, none⟩ = some a1 ∧ W.cell? ⟨b', o', none⟩ = some z ∧ W.cell? ⟨g', 0, none⟩ = some x0 ∧ W.cell? ⟨g', 1, none⟩ = some x1 ∧ W.cell? ⟨g', 2, none⟩ = some x2 := ⟨h.cell rfl, hz, DpDocument.bxc h'⟩
set_option maxRecDepth 100000 in
set_option maxHeartbeats 8000000 in
theorem spec_docs_any (l0 : List DpPiece.A) (p0 : Option Addr) (n0 c0 : Nat) (ch : List DpRenewal.A) (p1 : Option Addr) (n1 c1 : Nat) (t : Int) (parts : List ByteArray) (q : Option Addr) (m d : Nat) (salts : List Int) (q2 : Option Addr) (m2 d2 : Nat) {S0 S SP SQ : Nat → Prop} (w : World) (_h0 : RdD DpPiece.E S0 w p0 n0 l0) (hr : RdD DpRenewal.E S w p1 n1 ch) (hP : RdD str SP w q m parts) (hQ : RdD int SQ w q2 m2 salts) (hn : n1 ≤ 2000000) : Calls Try.prog 12 #[.agg #[.slice p0 n0 c0, .slice p1 n1 c1], .agg #[.int .i64 t, .slice q m d, .slice q2 m2 d2]] w fun e w' => ∃ a n c, e = .returned (.slice a n c) ∧ Ow .i64 3 w' w.heap.size w'.heap.size a n c (digs (t, parts, salts) ch) ∧ Below w.heap.size w w' := by
  obtain ⟨i0, hi0, hz0, hz1, hz2⟩ := info_parts SlI.info
  have HL := Lib.hid hr.len
  have HR := Lib.hid hr
  have HP := Lib.hid hP
  have HQ := Lib.hid hQ
  obtain ⟨V0, hV0⟩ : ∃ z, (w.alloc (.cells #[.slice p0 n0 c0, .slice p1 n1 c1] 36)).alloc (.cells #[.int .i64 t, .slice q m d, .slice q2 m2 d2] 38) = z := ⟨_, rfl⟩
  have HX : Hid (Bx V0 w.heap.size 36 #[.slice p0 n0 c0, .slice p1 n1 c1]) := Lib.hid (by rw [← hV0]; exact (Bx.new w 36 #[.slice p0 n0 c0, .slice p1 n1 c1]).alloc (.cells #[.int .i64 t, .slice q m d, .slice q2 m2 d2] 38))
  have HY : Hid (Bx V0 (w.heap.size + 1) 38 #[.int .i64 t, .slice q m d, .slice q2 m2 d2]) := Lib.hid (by have h := Bx.new (w.alloc (.cells #[.slice p0 n0 c0, .slice p1 n1 c1] 36)) 38 #[.int .i64 t, .slice q m d, .slice q2 m2 d2]; rw [World.size_alloc, hV0] at h; exact h)
  have HB : Hid (Below w.heap.size w V0) := Lib.hid (by rw [← hV0]; exact bel2 (Dz.box1 w _) (Nat.le_refl _) _)
  have HSZ : Hid (V0.heap.size = w.heap.size + 2) := Lib.hid (by rw [← hV0]; simp)
  have HK0 : Hid (RI (digs (t, parts, salts) (ch.take 0)) 0 (some ⟨V0.heap.size, 0, none⟩) 0 V0.heap.size w (V0.alloc (.cells #[] 3))) := Lib.hid ⟨(litN_own 3 V0 V0.heap.size [] (allK_nil _) (Nat.le_refl _) (by simp)), bel2 HB.out (Nat.le_refl _) _⟩
  have HX0 := Lib.hid (HX.out.alloc (.cells #[] 3))
  have HY0 := Lib.hid (HY.out.alloc (.cells #[] 3))
  clear hr hP hQ
  go_enter Try.func12, Try.ntmps12
  go_wp2_with fail
  clear hV0
  generalize V0.alloc (.cells #[] 3) = V at HK0 HX0 HY0 ⊢
  generalize hq0 : V0.heap.size = B0 at HK0 HSZ ⊢
  clear hq0 HX HY HB
  go_loopw [5, 6] (fun v i wr => ∃ (k mm dd : Nat) (qq : Option Addr), k ≤ n1 ∧ i = .int .i64 k ∧ v = .slice qq mm dd ∧ mm ≤ k ∧ Hid (RI (digs (t, parts, salts) (ch.take k)) mm qq dd B0 w wr) ∧ Hid (Bx wr w.heap.size 36 #[.slice p0 n0 c0, .slice p1 n1 c1]) ∧ Hid (Bx wr (w.heap.size + 1) 38 #[.int .i64 t, .slice q m d, .slice q2 m2 d2])) (fun _ i _ => n1 - (intOf i).toNat)
  case atStart => exact ⟨0, 0, _, _, Nat.zero_le _, rfl, rfl, Nat.le_refl _, HK0, HX0, HY0⟩
  case round =>
    obtain ⟨k, mm, dd, qq, hk, rfl, rfl, hmk, HK, HX, HY⟩ := hrel
    have HKB := Lib.hid HK.out.2
    have v1 := HX.out.cell (j := 1) rfl
    by_cases hlt : k < n1
    · skip
      obtain ⟨b, o, x_, cs_, rfl, _, hbw, hx, hc, hrd⟩ := HR.out.at_ hlt
      obtain ⟨x0, x1, x2, l3, l4⟩ := x_
      obtain ⟨p3, n3, c3, p4, n4, c4, rfl, b0, b1, b2, h3, h4⟩ := DpRenewal.ex hrd
      have hcc : ∀ jj v, [.int .i64 x0, .int .i64 x1, .int .i64 x2, .slice p3 n3 c3, .slice p4 n4 c4][jj]? = some v → wr.cell? ⟨b, o + k * 5 + jj, none⟩ = some v := fun jj v hv => (HKB.out.cell (p := ⟨b, o + k * 5 + jj, none⟩) hbw).trans (hc jj v hv)
      obtain ⟨y, hy⟩ : ∃ z, Dm.docD x1 (t, parts, salts) = z := ⟨_, rfl⟩
      have HY_ := Lib.hid hy
      have HI : Hid (InI y) := Lib.hid (by rw [← hy]; exact docD_inI _ _)
      have HN := Lib.hid (digs_next (D := (t, parts, salts)) hx hy)
      have Gb1 := Lib.hid b1
      obtain ⟨u0, u1, u2, u3, u4⟩ := DpRenewal.at_cells hcc
      have i1 : (0 : Int) ≤ (k : Int) := by omega
      have i2 : (k : Int) < (n1 : Int) := by omega
      have HU1 := Lib.hid u1
      have HBW := Lib.hid (Nat.lt_of_lt_of_le hbw HKB.out.size)
      have HBL : Hid (b < w.heap.size) := Lib.hid hbw
      clear hcc hc hx hrd b0 b1 b2 h3 h4 hy hbw
      have HM1 : Hid (inK .i64 x1) := Lib.hid ⟨Gb1.out.1, Gb1.out.2⟩
      have HXd := Lib.hid HX.out.drew1
      have HYd := Lib.hid HY.out.drew1
      have HKd : Hid (RI (digs (t, parts, salts) (ch.take k)) mm qq dd B0 w wr.drew) := Lib.hid (HK.out.on (below_drewN (Below.refl _ _) 1))
      have HBd : Hid (Below w.heap.size w wr.drew) := Lib.hid HKd.out.2
      have HUd : Hid (wr.drew.cell? ⟨b, o + k * 5 + 1, none⟩ = some (.int .i64 x1)) := Lib.hid HU1.out
      have hsz0 := HKd.out.1.2.2.1
      go_wp2_with fail
      go_region_held3 (fun w' => (w'.cell? ⟨w.heap.size, 1, none⟩ = some (.slice (some ⟨b, o, none⟩) n1 c1) ∧ w'.cell? ⟨b, o + k * 5 + 1, none⟩ = some (.int .i64 x1) ∧ w'.cell? ⟨w.heap.size + 1, 0, none⟩ = some (.int .i64 t) ∧ w'.cell? ⟨w.heap.size + 1, 1, none⟩ = some (.slice q m d) ∧ w'.cell? ⟨w.heap.size + 1, 2, none⟩ = some (.slice q2 m2 d2))) (first | with_reducible exact ks HXd.out HUd.out HYd.out | with_reducible exact ks HX1.out HV1.out HY1.out | with_reducible exact ks HX2.out HV2.out HY2.out | with_reducible exact ks HX3.out HV3.out HY3.out | go_keep) (first
        | (go_at_call 67; (with_reducible refine (Ds.spec_docD_any x1 t _ _ _ _ _ _ parts salts _ (RdD.strs SlStr.C_eq SlStr.of_eq (HP.out.below HBd.out)).1 (HQ.out.below HBd.out).ints HM1.out).mono ?_); rintro e w1 ⟨rfl, hb⟩; rw [HY_.out]; have HK1 := Lib.hid (HKd.out.on hb); have HX1 := Lib.hid (HXd.out.below hb); have HY1 := Lib.hid (HYd.out.below hb); have HV1 : Hid (w1.cell? ⟨b, o + k * 5 + 1, none⟩ = some (.int .i64 x1)) := Lib.hid ((hb.cell (p := ⟨b, o + k * 5 + 1, none⟩) HBW.out).trans HUd.out); have hb2 := Dz.box1 w1 (.cells #[.int .i64 y] 3); have HK2 := Lib.hid (HK1.out.on hb2); have HX2 := Lib.hid (HX1.out.below hb2); have HY2 := Lib.hid (HY1.out.below hb2); have HV2 := Lib.hid ((hb2.cell (p := ⟨b, o + k * 5 + 1, none⟩) (Nat.lt_of_lt_of_le HBW.out hb.size)).trans HV1.out); have HLit := Lib.hid (lit1 w1 y HI.out); have HBW2 := Lib.hid (Nat.lt_of_lt_of_le (Nat.lt_of_lt_of_le HBW.out hb.size) hb2.size); clear hb hb2)
        | (refine step_appR (by rfl) (.tmp 15) (.tmp 24) 27 (by rfl) i0 _ 8 Try.underlying27 hi0 hz0 hz1 hz2 (by rfl) (by rfl) HK2.out.1 _ _ _ _ (by rfl) HLit.out (by have h1 := HX2.out.lt; have h2 := HY2.out.lt; have h3 := HSZ.out; omega) (by omega) (by omega) ?_; intro p9 c9 w9 how9 hg9; rw [← HN.out] at how9; have HK3 := Lib.hid (HK2.out.app (by have h3 := HSZ.out; omega) how9 hg9); have HX3 := Lib.hid (HX2.out.grown hg9 (fun e => by have h1 := HK2.out.1.far _ e.symm; have h2 := HSZ.out; omega)); have HY3 := Lib.hid (HY2.out.grown hg9 (fun e => by have h1 := HK2.out.1.far _ e.symm; have h2 := HSZ.out; omega)); have HV3 := Lib.hid ((World.cell?_of_block (w := (w1.alloc (.cells #[.int .i64 y] 3))) (a := ⟨b, o + k * 5 + 1, none⟩) (hg9.block b HBW2.out (fun e => by have h1 := HK2.out.1.far _ e.symm; have h2 := HSZ.out; have h3 := HBL.out; omega))).trans HV2.out); clear how9 hg9)
        | fail)
      all_goals
        go_wp2_with fail
        go_roundw
        case rel => exact ⟨k + 1, mm + 1, c9, p9, by omega, by go_num, rfl, by omega, HK3, HX3, HY3⟩
        case measure => simp [intOf]; omega
    · obtain rfl : k = n1 := by omega
      have HE : Hid (Ow .i64 3 wr w.heap.size wr.heap.size qq mm dd (digs (t, parts, salts) ch)) := Lib.hid (by have h := HK.out.1; rw [List.take_of_length_le (by rw [HL.out]; exact Nat.le_refl _)] at h; exact h.wide (by have := HSZ.out; omega) (Nat.le_refl _) (Nat.le_refl _))
      go_wp2_with fail
      go_ret
      exact ⟨_, _, _, rfl, HE.out, HK.out.2⟩
end Go.Proofs.Ytjaholcmaafenaa.Dds
