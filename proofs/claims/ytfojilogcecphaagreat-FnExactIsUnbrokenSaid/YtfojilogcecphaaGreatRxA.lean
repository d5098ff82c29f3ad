/- Renewals written and digested; in the program. Renewals digested, in the reference. -/
import Derived.Test.YtfojilogcecphaaGreatWpA
import Derived.Test.YtfojilogcecphaaGreatKnA
import Derived.Test.YtfojilogcecphaaGreatDpRenewal
import Derived.Deep.RegionHeld3
namespace Go.Proofs.YtfojilogcecphaaGreat.Rw
open Go.ChangeShapes Go.WideShapes Go.ChangeAt Go.RowKit Sl St Ed Dz Wr Wp Es
def side (b : Bool) : Int := if b then 1 else 0
theorem side_in (b : Bool) : inK .i64 (side b) := by cases b <;> exact ⟨by decide, by decide⟩
def stp (x : Int × Bool) : List Int := [x.1, side x.2]
def sta (x : Int × Int × Int × Int × Int) : List Int := [103, x.1, x.2.1, x.2.2.1, x.2.2.2.1, x.2.2.2.2]
def steps (l : List (Int × Bool)) : List Int := l.flatMap stp
def stas (l : List (Int × Int × Int × Int × Int)) : List Int := l.flatMap sta
theorem steps_take {l : List (Int × Bool)} {k : Nat} {x : Int × Bool} (h : l[k]? = some x) : steps (l.take (k + 1)) = steps (l.take k) ++ stp x := by
  obtain ⟨hk, rfl⟩ := List.getElem?_eq_some_iff.1 h
  unfold steps
  rw [List.take_succ_eq_append_getElem hk, List.flatMap_append, List.flatMap_singleton]
theorem stas_take {l : List (Int × Int × Int × Int × Int)} {k : Nat} {x : Int × Int × Int × Int × Int} (h : l[k]? = some x) : stas (l.take (k + 1)) = stas (l.take k) ++ sta x := by
  obtain ⟨hk, rfl⟩ := List.getElem?_eq_some_iff.1 h
  unfold stas
  rw [List.take_succ_eq_append_getElem hk, List.flatMap_append, List.flatMap_singleton]
theorem steps_len (l : List (Int × Bool)) : (steps l).length = 2 * l.length := by
  induction l with
  | nil => rfl
  | cons x l ih =>
    have e : steps (x :: l) = stp x ++ steps l := by simp [steps]
    rw [e, List.length_append, ih, List.length_cons]
    simp [stp]
    omega
theorem stas_len (l : List (Int × Int × Int × Int × Int)) : (stas l).length = 6 * l.length := by
  induction l with
  | nil => rfl
  | cons x l ih =>
    have e : stas (x :: l) = sta x ++ stas l := by simp [stas]
    rw [e, List.length_append, ih, List.length_cons]
    simp [sta]
    omega
theorem take_le {α : Type} (l : List α) (k : Nat) : (l.take k).length ≤ l.length := by
  rw [List.length_take]
  omega
/-- all that is in a renewal, as numbers -/
def ren (r : DpRenewal.A) : List Int := [4, r.1, r.2.1, r.2.2.1] ++ steps r.2.2.2.1 ++ [(r.2.2.2.2.length : Int)] ++ stas r.2.2.2.2
set_option maxRecDepth 100000 in
theorem side_any (d : Int) (b : Bool) (w : World) : Calls Tryz.prog 166 #[.agg #[.int .i64 d, .bool b]] w (Val (.int .i64 (side b)) w) := by
  have HB := Lib.hid (box1 w (.cells #[.int .i64 d, .bool b] 188))
  cases b
  all_goals
    go_enter Tryz.func166, Tryz.ntmps166
    go_wp2_with fail
    go_ret
    exact val_of rfl HB.out
set_option maxRecDepth 100000 in
set_option maxHeartbeats 8000000 in
theorem writeStamps_any (B lo hi : Nat) (zs : List Int) (xs : List (Int × Int × Int × Int × Int)) (p : Option Addr) (n c : Nat) {S : Nat → Prop} (w : World) (hE : Enc w B lo hi zs) (hr : RdD (flat SlStamp.E SlStamp.InR) S w p n xs) (hp : ∀ b, S b → b ≠ B ∧ b < lo) (hn : zs.length + 6 * n ≤ 10000000) :
    Calls Tryz.prog 167 #[.pointer (some ⟨B, 0, none⟩), .slice p n c] w (Wrote B lo (zs ++ stas xs) w) := by
  have HE := Lib.hid hE
  have HR := Lib.hid hr
  have HP := Lib.hid hp
  have hBlo := hE.lt
  have hle := hr.le
  clear hE hr hp
  have HE0 : Hid (Enc w B lo hi (zs ++ stas (xs.take 0))) := Lib.hid (by simpa [stas] using HE.out)
  go_enter Tryz.func167, Tryz.ntmps167
  go_wp2_with fail
  go_loopw [8] (fun i wr => ∃ k hi' : Nat, k ≤ n ∧ i = .int .i64 k ∧ Hid (Enc wr B lo hi' (zs ++ stas (xs.take k))) ∧ Hid (Turned B lo w wr)) (fun i _ => n - (intOf i).toNat)
  case atStart => exact ⟨0, _, Nat.zero_le _, rfl, HE0, Lib.hid (Turned.refl _ _ _)⟩
  case round =>
    obtain ⟨k, hi', hk, rfl, HK, HT⟩ := hrel
    have hlt3 := HK.out.lt
    by_cases hlt : k < n
    · have HRk := Lib.hid (rdD_turned HR.out HT.out (fun b hb _ => HP.out b hb))
      have HBr := Lib.hid (Below.refl wr.heap.size wr)
      obtain ⟨b, o, x_, cs_, rfl, _, hbw, hx, hc, hrd⟩ := HRk.out.at_ hlt
      obtain ⟨x0, x1, x2, x3, x4⟩ := x_
      obtain ⟨rfl, hin⟩ := hrd
      have HI := Lib.hid hin
      have hcc : ∀ j v, [.int .i64 x0, .int .i64 x1, .int .i64 x2, .int .i64 x3, .int .i64 x4][j]? = some v → wr.cell? ⟨b, o + k * 5 + j, none⟩ = some v := fun j v hv => (HBr.out.cell (p := ⟨b, o + k * 5 + j, none⟩) hbw).trans (hc j v hv)
      have HX := Lib.hid hx
      have HC := Lib.hid hcc
      have u0 : wr.cell? ⟨b, o + k * 5, none⟩ = some (.int .i64 x0) := hcc 0 _ rfl
      have u1 : wr.cell? ⟨b, o + k * 5 + 1, none⟩ = some (.int .i64 x1) := hcc 1 _ rfl
      have u2 : wr.cell? ⟨b, o + k * 5 + 2, none⟩ = some (.int .i64 x2) := hcc 2 _ rfl
      have u3 : wr.cell? ⟨b, o + k * 5 + 3, none⟩ = some (.int .i64 x3) := hcc 3 _ rfl
      have u4 : wr.cell? ⟨b, o + k * 5 + 4, none⟩ = some (.int .i64 x4) := hcc 4 _ rfl
      clear hcc hc hx hin
      have hin := HI.out
      obtain ⟨g0, g1, g2, g3, g4⟩ := hin
      have G0 := Lib.hid g0
      have G1 := Lib.hid g1
      have G2 := Lib.hid g2
      have G3 := Lib.hid g3
      have G4 := Lib.hid g4
      have hlen : (zs ++ stas (xs.take k)).length + 6 ≤ 100000000 := by rw [List.length_append, stas_len]; have := take_le xs k; have := HR.out.len; omega
      have HLEN := Lib.hid hlen
      have HNX := Lib.hid (stas_take HX.out)
      have hx0 := Bx.new wr 154 #[.int .i64 x0, .int .i64 x1, .int .i64 x2, .int .i64 x3, .int .i64 x4]
      have HXb := Lib.hid hx0
      have HK1 := Lib.hid (HK.out.alloc (.cells #[.int .i64 x0, .int .i64 x1, .int .i64 x2, .int .i64 x3, .int .i64 x4] 154))
      clear g0 g1 g2 g3 g4 hlen hx0
      go_wp2_with fail
      refine (Ti.stampInts_any x0 x1 x2 x3 x4 _ G0.out G1.out G2.out G3.out G4.out).mono ?_
      rintro e w1 ⟨q1, m1, d1, rfl, ho, hb⟩
      have HO1 := Lib.hid ho
      have HK2 := Lib.hid (HK1.out.below hb)
      have HX2 := Lib.hid (HXb.out.below hb)
      have HT1 := Lib.hid (Turned.of_below (B := B) (lo := lo) ((box1 wr (.cells #[.int .i64 x0, .int .i64 x1, .int .i64 x2, .int .i64 x3, .int .i64 x4] 154)).trans (hb.mono (by simp))))
      have hm1 := ho.len
      have HM1 := Lib.hid hm1
      clear ho hb hm1 u0 u1 u2 u3 u4
      go_wp2_with fail
      refine (write_any B lo hi' _ _ _ _ _ w1 HK2.out HO1.out.rd (by have h1 := HM1.out; have h2 := HLEN.out; simp only [List.length_cons, List.length_nil] at h1; omega)).mono ?_
      rintro e w2 ⟨rfl, hE2, hT2⟩
      have HE2 := Lib.hid hE2
      have HT2 := Lib.hid hT2
      have hx2 := bx_turned HX2.out hT2 (by omega) (Or.inr (by decide))
      obtain ⟨u0, u1, u2, u3, u4⟩ := SlStamp.bxc hx2
      have HL2 := Lib.hid (lit_rd w2 [x4] (allK_cons G4.out (allK_nil _)) (by simp))
      have HE3 := Lib.hid (hE2.alloc (.cells #[.int .i64 x4] 3))
      clear hE2 hT2 hx2
      go_wp2_with fail
      refine (write_any B lo _ _ _ _ _ [x4] _ HE3.out HL2.out (by have h2 := HLEN.out; rw [List.length_append]; simp only [List.length_cons, List.length_nil]; omega)).mono ?_
      rintro e w3 ⟨rfl, hE4, hT4⟩
      have e2 : zs ++ stas (xs.take (k + 1)) = zs ++ stas (xs.take k) ++ [103, x0, x1, x2, x3] ++ [x4] := by rw [HNX.out]; simp [sta]
      have HE4 : Hid (Enc w3 B lo w3.heap.size (zs ++ stas (xs.take (k + 1)))) := Lib.hid (by rw [e2]; exact hE4)
      clear e2
      have HT5 := Lib.hid (((HT.out.trans HT1.out).trans HT2.out).trans ((Turned.of_below (box1 w2 (.cells #[.int .i64 x4] 3))).trans hT4))
      clear hE4 hT4
      go_wp2_with fail
      go_roundw
      case rel => exact ⟨k + 1, _, by omega, by go_num, HE4, HT5⟩
      case measure => simp [intOf]; omega
    · obtain rfl : k = n := by omega
      have HF : Hid (Enc wr B lo wr.heap.size (zs ++ stas xs)) := Lib.hid (by
        have h := HK.out
        rw [← HR.out.len, List.take_length] at h
        obtain ⟨p9, n9, c9, h1, h2, h3, h4⟩ := h
        exact ⟨p9, n9, c9, h1, h2.wide (Nat.le_refl _) h2.2.2.1 (Nat.le_refl _), h3, Nat.le_trans h4 h2.2.2.1⟩)
      go_wp2_with fail
      go_end0
      exact ⟨rfl, HF.out, HT.out⟩
set_option maxRecDepth 100000 in
set_option maxHeartbeats 8000000 in
theorem writeRenewal_any (B lo hi : Nat) (zs : List Int) (x0 x1 x2 : Int) (l3 : List (Int × Bool)) (p3 : Option Addr) (n3 c3 : Nat) (l4 : List (Int × Int × Int × Int × Int)) (p4 : Option Addr) (n4 c4 : Nat) {S3 S4 : Nat → Prop} (w : World) (hE : Enc w B lo hi zs) (b0 : InI x0) (b1 : InI x1) (b2 : InI x2) (h3 : RdD (flat SlStep.E SlStep.InR) S3 w p3 n3 l3) (h4 : RdD (flat SlStamp.E SlStamp.InR) S4 w p4 n4 l4) (hp3 : ∀ b, S3 b → b ≠ B ∧ b < lo) (hp4 : ∀ b, S4 b → b ≠ B ∧ b < lo) (hn : zs.length + 2 * n3 + 6 * n4 ≤ 9000000) :
    Calls Tryz.prog 143 #[.pointer (some ⟨B, 0, none⟩), .agg #[.int .i64 x0, .int .i64 x1, .int .i64 x2, .slice p3 n3 c3, .slice p4 n4 c4]] w (Wrote B lo (zs ++ ren (x0, x1, x2, l3, l4)) w) := by
  have hV : Below w.heap.size w ((w.alloc (.cells #[.int .i64 x0, .int .i64 x1, .int .i64 x2, .slice p3 n3 c3, .slice p4 n4 c4] 103)).alloc (.cells #[.int .i64 4, .int .i64 x0, .int .i64 x1, .int .i64 x2] 3)) := (box1 w _).alloc (by simp) _
  have hx := (Bx.new w 103 #[.int .i64 x0, .int .i64 x1, .int .i64 x2, .slice p3 n3 c3, .slice p4 n4 c4]).alloc (.cells #[.int .i64 4, .int .i64 x0, .int .i64 x1, .int .i64 x2] 3)
  have hlit : Rd .i64 ((w.alloc (.cells #[.int .i64 x0, .int .i64 x1, .int .i64 x2, .slice p3 n3 c3, .slice p4 n4 c4] 103)).alloc (.cells #[.int .i64 4, .int .i64 x0, .int .i64 x1, .int .i64 x2] 3)) (some ⟨w.heap.size + 1, 0, none⟩) 4 [4, x0, x1, x2] := by
    have h := lit_rd (w.alloc (.cells #[.int .i64 x0, .int .i64 x1, .int .i64 x2, .slice p3 n3 c3, .slice p4 n4 c4] 103)) [4, x0, x1, x2] (allK_cons ⟨by omega, by omega⟩ (allK_cons b0 (allK_cons b1 (allK_cons b2 (allK_nil _))))) (by simp)
    rw [World.size_alloc] at h
    exact h
  have hlt := hE.lt
  have hle3 := h3.le
  have hle4 := h4.le
  have HV := Lib.hid hV
  have HX := Lib.hid hx
  have HL := Lib.hid hlit
  have HE := Lib.hid (hE.below hV)
  have H3 := Lib.hid (h3.below hV)
  have H4 := Lib.hid (h4.below hV)
  have HP3 := Lib.hid hp3
  have HP4 := Lib.hid hp4
  clear hV hx hlit hE h3 h4 hp3 hp4
  go_enter Tryz.func143, Tryz.ntmps143
  go_wp2_with fail
  generalize ((w.alloc (.cells #[.int .i64 x0, .int .i64 x1, .int .i64 x2, .slice p3 n3 c3, .slice p4 n4 c4] 103)).alloc (.cells #[.int .i64 4, .int .i64 x0, .int .i64 x1, .int .i64 x2] 3)) = V at HV HX HL HE H3 H4 ⊢
  refine (write_any B lo hi zs _ _ _ [4, x0, x1, x2] V HE.out HL.out (by omega)).mono ?_
  rintro e w1 ⟨rfl, hE1, hT1⟩
  have hx1 := bx_turned HX.out hT1 (by omega) (Or.inr (by decide))
  have HE1 : Hid (Enc w1 B lo w1.heap.size (zs ++ [4, x0, x1, x2] ++ steps (l3.take 0))) := Lib.hid (by simpa [steps] using hE1)
  have HX1 := Lib.hid hx1
  have H31 := Lib.hid (rdD_turned H3.out hT1 (fun b hb _ => HP3.out b hb))
  have H41 := Lib.hid (rdD_turned H4.out hT1 (fun b hb _ => HP4.out b hb))
  have HT1 := Lib.hid (Turned.pre HV.out hT1)
  have hw1 : w.heap.size < w1.heap.size := hx1.lt
  clear hE1 hT1 hx1
  obtain ⟨v0, v1, v2, v3, v4⟩ := DpRenewal.bxc HX1.out
  go_wp2_with fail
  go_loopw [18] (fun i wr => ∃ k hi' : Nat, k ≤ n3 ∧ i = .int .i64 k ∧ Hid (Enc wr B lo hi' (zs ++ [4, x0, x1, x2] ++ steps (l3.take k))) ∧ Hid (Turned B lo w1 wr)) (fun i _ => n3 - (intOf i).toNat)
  case atStart => exact ⟨0, _, Nat.zero_le _, rfl, HE1, Lib.hid (Turned.refl _ _ _)⟩
  case round =>
    obtain ⟨k, hi', hk, rfl, HK, HT⟩ := hrel
    clear v0 v1 v2 v3 v4
    have hlt3 := HK.out.lt
    have hsz := HT.out.size
    have HXr := Lib.hid (bx_turned HX1.out HT.out (by omega) (Or.inr (by decide)))
    by_cases hltk : k < n3
    · have HRk := Lib.hid (rdD_turned H31.out HT.out (fun b hb _ => HP3.out b hb))
      have HBr := Lib.hid (Below.refl wr.heap.size wr)
      obtain ⟨b, o, x_s, cs_s, rfl, _, hbws, hxs, hcs, hrds⟩ := HRk.out.at_ hltk
      obtain ⟨xs0, xs1⟩ := x_s
      obtain ⟨rfl, hins⟩ := hrds
      have HIs := Lib.hid hins
      have hccs : ∀ j v, [.int .i64 xs0, .bool xs1][j]? = some v → wr.cell? ⟨b, o + k * 2 + j, none⟩ = some v := fun j v hv => (HBr.out.cell (p := ⟨b, o + k * 2 + j, none⟩) hbws).trans (hcs j v hv)
      have HXs := Lib.hid hxs
      have HCs := Lib.hid hccs
      have u0 : wr.cell? ⟨b, o + k * 2, none⟩ = some (.int .i64 xs0) := hccs 0 _ rfl
      have u1 : wr.cell? ⟨b, o + k * 2 + 1, none⟩ = some (.bool xs1) := hccs 1 _ rfl
      clear hccs hcs hxs hins
      have HXb := Lib.hid (Bx.new wr 188 #[.int .i64 xs0, .bool xs1])
      have HK1 := Lib.hid (HK.out.alloc (.cells #[.int .i64 xs0, .bool xs1] 188))
      have HV1 := Lib.hid (box1 wr (.cells #[.int .i64 xs0, .bool xs1] 188))
      have HNX := Lib.hid (steps_take HXs.out)
      have hlen : (zs ++ [4, x0, x1, x2] ++ steps (l3.take k)).length + 2 ≤ 100000000 := by rw [List.length_append, List.length_append, steps_len]; have := take_le l3 k; have := H31.out.len; simp only [List.length_cons, List.length_nil]; omega
      have HLEN := Lib.hid hlen
      have HG0 : Hid (inK .i64 xs0) := Lib.hid HIs.out
      clear hlen
      go_wp2_with fail
      clear u0 u1
      generalize (wr.alloc (.cells #[.int .i64 xs0, .bool xs1] 188)) = V2 at HXb HK1 HV1 ⊢
      go_region_held3 (fun w' => w'.cell? ⟨wr.heap.size, 0, none⟩ = some (.int .i64 xs0) ∧ w'.cell? ⟨wr.heap.size, 1, none⟩ = some (.bool xs1)) (first | exact SlStep.bxc HXb4.out | exact SlStep.bxc (HXb3.out.alloc _) | exact SlStep.bxc HXb3.out | exact SlStep.bxc HXb.out.drew1 | go_keep) (first
        | (go_at_call 166; (with_reducible refine (side_any _ _ _).mono ?_); rintro e w3 ⟨rfl, hb3⟩; have HXb3 := Lib.hid (HXb.out.drew1.below hb3); have HK3 := Lib.hid (HK1.out.drew1.below hb3); have HL3 : Hid (Rd .i64 (w3.alloc (.cells #[.int .i64 xs0, .int .i64 (side xs1)] 3)) (some ⟨w3.heap.size, 0, none⟩) 2 [xs0, side xs1]) := Lib.hid (lit_rd w3 [xs0, side xs1] (allK_cons HG0.out (allK_cons (side_in xs1) (allK_nil _))) (by simp)); have HV3 := Lib.hid (HV1.out.trans ((below_drewN (Below.refl _ V2) 1).mono (Nat.le_refl _) |>.trans (hb3.mono (Nat.le_refl _)) |>.mono HV1.out.size)); clear hb3)
        | (go_at_call 165; (with_reducible refine (write_any B lo hi' _ _ _ _ [xs0, side xs1] _ (HK3.out.alloc _) HL3.out (by have h2 := HLEN.out; omega)).mono ?_); rintro e w4 ⟨rfl, hE4, hT4⟩; have HXb4 := Lib.hid (bx_turned (HXb3.out.alloc (.cells #[.int .i64 xs0, .int .i64 (side xs1)] 3)) hT4 (by omega) (Or.inr (by decide))); have HE4 := Lib.hid hE4; have HT4 := Lib.hid ((HT.out.trans (Turned.of_below (HV3.out.alloc HV3.out.size _))).trans hT4); clear hE4 hT4)
        | fail)
      have HE5 : Hid (Enc w4 B lo w4.heap.size (zs ++ [4, x0, x1, x2] ++ steps (l3.take (k + 1)))) := Lib.hid (by rw [HNX.out, ← List.append_assoc]; exact HE4.out)
      go_wp2_with fail
      go_roundw
      case rel => exact ⟨k + 1, _, by omega, by go_num, HE5, HT4⟩
      case measure => simp [intOf]; omega
    · obtain rfl : k = n3 := by omega
      have hK := HK.out
      rw [← H31.out.len, List.take_length] at hK
      have hlen : (zs ++ [4, x0, x1, x2] ++ steps l3).length + 1 + 6 * n4 ≤ 10000000 := by rw [List.length_append, List.length_append, steps_len]; have := H31.out.len; simp only [List.length_cons, List.length_nil]; omega
      have HLEN := Lib.hid hlen
      have HK1 := Lib.hid (hK.alloc (.cells #[.int .i64 (n4 : Int)] 3))
      have HL1 := Lib.hid (lit_rd wr [(n4 : Int)] (allK_cons ⟨by omega, by omega⟩ (allK_nil _)) (by simp))
      have HX2 := Lib.hid (HXr.out.alloc (.cells #[.int .i64 (n4 : Int)] 3))
      have HV1 := Lib.hid (box1 wr (.cells #[.int .i64 (n4 : Int)] 3))
      have H42 := Lib.hid (rdD_turned H41.out HT.out (fun b hb _ => HP4.out b hb))
      clear hK hlen
      obtain ⟨v0, v1, v2, v3, v4⟩ := DpRenewal.bxc HXr.out
      go_wp2_with fail
      refine (write_any B lo hi' _ _ _ _ [(n4 : Int)] _ HK1.out HL1.out (by have h2 := HLEN.out; simp only [List.length_cons, List.length_nil]; omega)).mono ?_
      rintro e w5 ⟨rfl, hE5, hT5⟩
      have hx5 := bx_turned HX2.out hT5 (by omega) (Or.inr (by decide))
      have HE5 := Lib.hid hE5
      have HT5 := Lib.hid (Turned.pre HV1.out hT5)
      have H45 := Lib.hid (rdD_turned (H42.out.below HV1.out) hT5 (fun b hb _ => HP4.out b hb))
      clear v0 v1 v2 v3 v4
      obtain ⟨v0, v1, v2, v3, v4⟩ := DpRenewal.bxc hx5
      clear hE5 hT5 hx5
      go_wp2_with fail
      refine (writeStamps_any B lo _ _ l4 _ _ _ w5 HE5.out H45.out HP4.out (by have h2 := HLEN.out; rw [List.length_append]; simp only [List.length_cons, List.length_nil]; omega)).mono ?_
      rintro e w6 ⟨rfl, hE6, hT6⟩
      have HE6 := Lib.hid hE6
      have HT6 := Lib.hid (((HT1.out.trans HT.out).trans HT5.out).trans hT6)
      have HLN := Lib.hid H41.out.len
      clear hE6 hT6
      go_wp2_with fail
      go_end0
      refine ⟨rfl, ?_, HT6.out⟩
      have e : zs ++ ren (x0, x1, x2, l3, l4) = zs ++ [4, x0, x1, x2] ++ steps l3 ++ [(n4 : Int)] ++ stas l4 := by simp [ren, HLN.out]
      rw [e]
      exact HE6.out
set_option maxRecDepth 100000 in
set_option maxHeartbeats 8000000 in
theorem digest_any (id : Int) (x0 x1 x2 : Int) (l3 : List (Int × Bool)) (p3 : Option Addr) (n3 c3 : Nat) (l4 : List (Int × Int × Int × Int × Int)) (p4 : Option Addr) (n4 c4 : Nat) {S3 S4 : Nat → Prop} (w : World) (b0 : InI x0) (b1 : InI x1) (b2 : InI x2) (h3' : RdD (flat SlStep.E SlStep.InR) S3 w p3 n3 l3) (h4' : RdD (flat SlStamp.E SlStamp.InR) S4 w p4 n4 l4) (hn3 : n3 ≤ 1048576) (hn4 : n4 ≤ 1048576) :
    Calls Tryz.prog 111 #[.int .i64 id, .agg #[.int .i64 x0, .int .i64 x1, .int .i64 x2, .slice p3 n3 c3, .slice p4 n4 c4]] w (Val (.int .i64 (Dg.dig id (ren (x0, x1, x2, l3, l4)))) w) := by
  have h3 := fresh h3'
  have h4 := fresh h4'
  clear h3' h4'
  have hB : Below w.heap.size w ((w.alloc (.cells #[.int .i64 x0, .int .i64 x1, .int .i64 x2, .slice p3 n3 c3, .slice p4 n4 c4] 103)).alloc (.cells #[.slice none 0 0] 206)) := (box1 w _).alloc (by simp) _
  have hE : Enc ((w.alloc (.cells #[.int .i64 x0, .int .i64 x1, .int .i64 x2, .slice p3 n3 c3, .slice p4 n4 c4] 103)).alloc (.cells #[.slice none 0 0] 206)) (w.heap.size + 1) (w.heap.size + 1 + 1) (w.heap.size + 1 + 1) [] := by
    have h := Enc.new (w.alloc (.cells #[.int .i64 x0, .int .i64 x1, .int .i64 x2, .slice p3 n3 c3, .slice p4 n4 c4] 103))
    rw [World.size_alloc] at h
    exact h
  have HB := Lib.hid hB
  have HE := Lib.hid hE
  have H3 := Lib.hid (h3.below hB)
  have H4 := Lib.hid (h4.below hB)
  have G0 := Lib.hid b0
  have G1 := Lib.hid b1
  have G2 := Lib.hid b2
  clear hB hE h3 h4 b0 b1 b2
  go_enter Tryz.func111, Tryz.ntmps111
  go_wp2_with fail
  generalize ((w.alloc (.cells #[.int .i64 x0, .int .i64 x1, .int .i64 x2, .slice p3 n3 c3, .slice p4 n4 c4] 103)).alloc (.cells #[.slice none 0 0] 206)) = V at HB HE H3 H4 ⊢
  refine (writeRenewal_any (w.heap.size + 1) (w.heap.size + 1 + 1) _ [] x0 x1 x2 l3 _ _ _ l4 _ _ _ V HE.out G0.out G1.out G2.out H3.out H4.out (fun b hb => ⟨by omega, by omega⟩) (fun b hb => ⟨by omega, by omega⟩) (by simp only [List.length_nil]; omega)).mono ?_
  rintro e w1 ⟨rfl, hE1, hT1⟩
  obtain ⟨q2, m2, d2, hc2, hrd2, hm2⟩ := hE1.read
  have HRD := Lib.hid hrd2
  have HB1 := Lib.hid (Turned.on HB.out hT1 (by omega) (by omega) HB.out.size)
  clear hE1 hT1 hrd2 hm2
  go_wp2_with fail
  refine (Dg.dig_any id _ _ _ _ _ HRD.out).mono ?_
  rintro e w2 ⟨rfl, rfl⟩
  go_wp2_with fail
  go_ret
  exact val_of rfl HB1.out
end Go.Proofs.YtfojilogcecphaaGreat.Rw

namespace Go.Proofs.YtfojilogcecphaaGreat.Rx
open Go.ChangeShapes Go.WideShapes Go.ChangeAt Go.RowKit Sl St Ed Dz Wr Wp Rw Es
theorem own_len {w : World} {lo hi n c : Nat} {p : Option Addr} {zs : List Int} (h : Ow .i64 3 w lo hi p n c zs) : n = zs.length := h.len.symm
theorem drewOn {V w : World} (h : Below V.drew.heap.size V.drew w) : Below V.heap.size V w := (below_drewN (Below.refl V.heap.size V) 1).trans (h.mono (Nat.le_refl _))
theorem litOn {V w : World} {o : Obj} (h : Below (V.alloc o).drew.heap.size (V.alloc o).drew w) : Below V.heap.size V w := (below_drewN (box1 V o) 1).trans (h.mono (by show V.heap.size ≤ (V.alloc o).heap.size; simp))
set_option maxRecDepth 100000 in
set_option maxHeartbeats 16000000 in
theorem spec_digest_any (id : Int) (hid0 : InI id) (x0 x1 x2 : Int) (l3 : List (Int × Bool)) (p3 : Option Addr) (n3 c3 : Nat) (l4 : List (Int × Int × Int × Int × Int)) (p4 : Option Addr) (n4 c4 : Nat) {S3 S4 : Nat → Prop} (w : World) (b0 : InI x0) (b1 : InI x1) (b2 : InI x2) (h3 : RdD (flat SlStep.E SlStep.InR) S3 w p3 n3 l3) (h4 : RdD (flat SlStamp.E SlStamp.InR) S4 w p4 n4 l4) (hn3 : n3 ≤ 1048576) (hn4 : n4 ≤ 1048576) :
    Calls Tryz.prog 100 #[.int .i64 id, .agg #[.int .i64 x0, .int .i64 x1, .int .i64 x2, .slice p3 n3 c3, .slice p4 n4 c4]] w (Val (.int .i64 (Dg.dig id (ren (x0, x1, x2, l3, l4)))) w) := by
  obtain ⟨i0, hi0, hz0, hz1, hz2⟩ := info_parts SlI.info
  have HID : Hid (inK .i64 id) := Lib.hid hid0
  have HBV := Lib.hid (box1 w (.cells #[.int .i64 x0, .int .i64 x1, .int .i64 x2, .slice p3 n3 c3, .slice p4 n4 c4] 103))
  have HX := Lib.hid (Bx.new w 103 #[.int .i64 x0, .int .i64 x1, .int .i64 x2, .slice p3 n3 c3, .slice p4 n4 c4])
  have H3 := Lib.hid (h3.below HBV.out)
  have H4 := Lib.hid (h4.below HBV.out)
  have HA0 : Hid (Ow .i64 3 ((w.alloc (.cells #[.int .i64 x0, .int .i64 x1, .int .i64 x2, .slice p3 n3 c3, .slice p4 n4 c4] 103)).alloc (.cells #[.int .i64 4, .int .i64 x0, .int .i64 x1, .int .i64 x2] 3)) (w.alloc (.cells #[.int .i64 x0, .int .i64 x1, .int .i64 x2, .slice p3 n3 c3, .slice p4 n4 c4] 103)).heap.size ((w.alloc (.cells #[.int .i64 x0, .int .i64 x1, .int .i64 x2, .slice p3 n3 c3, .slice p4 n4 c4] 103)).alloc (.cells #[.int .i64 4, .int .i64 x0, .int .i64 x1, .int .i64 x2] 3)).heap.size (some ⟨(w.alloc (.cells #[.int .i64 x0, .int .i64 x1, .int .i64 x2, .slice p3 n3 c3, .slice p4 n4 c4] 103)).heap.size, 0, none⟩) 4 4 ([4, x0, x1, x2] ++ steps (l3.take 0))) := Lib.hid (litN_own 3 (w.alloc (.cells #[.int .i64 x0, .int .i64 x1, .int .i64 x2, .slice p3 n3 c3, .slice p4 n4 c4] 103)) (w.alloc (.cells #[.int .i64 x0, .int .i64 x1, .int .i64 x2, .slice p3 n3 c3, .slice p4 n4 c4] 103)).heap.size [4, x0, x1, x2] (allK_cons ⟨by omega, by omega⟩ (allK_cons b0 (allK_cons b1 (allK_cons b2 (allK_nil _))))) (Nat.le_refl _) (by simp))
  have HVS : Hid ((w.alloc (.cells #[.int .i64 x0, .int .i64 x1, .int .i64 x2, .slice p3 n3 c3, .slice p4 n4 c4] 103)).heap.size = w.heap.size + 1) := Lib.hid (by simp)
  clear b0 b1 b2 h3 h4 hid0
  go_enter Tryz.func100, Tryz.ntmps100
  go_wp2_with fail
  rw [World.size_alloc] at HA0
  generalize (w.alloc (.cells #[.int .i64 x0, .int .i64 x1, .int .i64 x2, .slice p3 n3 c3, .slice p4 n4 c4] 103)) = V at HBV HX H3 H4 HA0 HVS ⊢
  have HA : Hid (Ow .i64 3 (V.alloc (.cells #[.int .i64 4, .int .i64 x0, .int .i64 x1, .int .i64 x2] 3)) (w.heap.size + 1) (V.alloc (.cells #[.int .i64 4, .int .i64 x0, .int .i64 x1, .int .i64 x2] 3)).heap.size (some ⟨w.heap.size + 1, 0, none⟩) 4 4 ([4, x0, x1, x2] ++ steps (l3.take 0))) := HA0
  have HB0 : Hid (Below (w.heap.size + 1) V (V.alloc (.cells #[.int .i64 4, .int .i64 x0, .int .i64 x1, .int .i64 x2] 3))) := Lib.hid (by rw [← HVS.out]; exact box1 V _)
  clear HA0
  obtain ⟨v0, v1, v2, v3, v4⟩ := DpRenewal.bxc (HX.out.alloc (.cells #[.int .i64 4, .int .i64 x0, .int .i64 x1, .int .i64 x2] 3))
  go_loopw [5, 6] (fun v i wr => ∃ (k m c' : Nat) (p' : Option Addr), k ≤ n3 ∧ i = .int .i64 k ∧ v = .slice p' m c' ∧ m ≤ 4 + 2 * k ∧ Hid (Ow .i64 3 wr (w.heap.size + 1) wr.heap.size p' m c' ([4, x0, x1, x2] ++ steps (l3.take k))) ∧ Hid (Below (w.heap.size + 1) V wr)) (fun _ i _ => n3 - (intOf i).toNat)
  case atStart => exact ⟨0, 4, _, _, Nat.zero_le _, rfl, rfl, by omega, HA, HB0⟩
  case round =>
    obtain ⟨k, m, c', p', hk, rfl, rfl, hm, HO, HB'⟩ := hrel
    clear v0 v1 v2 v3 v4
    have HB : Hid (Below V.heap.size V wr) := Lib.hid (by rw [HVS.out]; exact HB'.out)
    have sW := HB'.out.size
    have hVS := HVS.out
    have sV : w.heap.size + 1 ≤ wr.heap.size := by omega
    clear sW hVS
    obtain ⟨v0, v1, v2, v3, v4⟩ := DpRenewal.bxc (HX.out.below HB.out)
    by_cases hlt : k < n3
    · skip
      obtain ⟨b, o, x_s, cs_s, rfl, _, hbws, hxs, hcs, hrds⟩ := H3.out.at_ hlt
      obtain ⟨xs0, xs1⟩ := x_s
      obtain ⟨rfl, hins⟩ := hrds
      have HIs := Lib.hid hins
      have hccs : ∀ jj v, [.int .i64 xs0, .bool xs1][jj]? = some v → wr.cell? ⟨b, o + k * 2 + jj, none⟩ = some v := fun jj v hv => (HB.out.cell (p := ⟨b, o + k * 2 + jj, none⟩) hbws).trans (hcs jj v hv)
      have HXs := Lib.hid hxs
      have HCs := Lib.hid hccs
      have u0 : wr.cell? ⟨b, o + k * 2, none⟩ = some (.int .i64 xs0) := hccs 0 _ rfl
      have u1 : wr.cell? ⟨b, o + k * 2 + 1, none⟩ = some (.bool xs1) := hccs 1 _ rfl
      clear hccs hcs hxs hins
      have HNX := Lib.hid (steps_take HXs.out)
      have HY : Hid (inK .i64 xs0) := Lib.hid HIs.out
      have hsd := side_in xs1
      have HSD : Hid (inK .i64 (side xs1)) := Lib.hid hsd
      clear hsd
      cases xs1
      all_goals
        go_wp2_with (first
          | (at_builtin; refine wpList_app1 rfl (.tmp 22) (.tmp 29) 31 rfl i0 _ 8 Tryz.underlying31 hi0 hz0 hz1 hz2 rfl rfl (HO.out.alloc _) wr.heap.size 1 xs0 rfl (by go_simp) HY.out (by simp only [World.size_alloc]; omega) (by omega) (by omega) ?_; intro p2 c2 w2 how2 hg2; have HA2 := Lib.hid how2; have HB2 := Lib.hid ((HB.out.alloc HB.out.size _).trans (((HO.out.alloc _).below_row hg2 (by simp only [World.size_alloc]; omega)).mono (Nat.le_of_eq HVS.out))); obtain ⟨t0, t1, t2, t3, t4⟩ := DpRenewal.bxc (HX.out.below HB2.out); have HC2 := Lib.hid (fun j v hv => (HB2.out.cell (p := ⟨b, o + k * 2 + j, none⟩) hbws).trans ((HB.out.cell (p := ⟨b, o + k * 2 + j, none⟩) hbws).symm.trans (HCs.out j v hv))); have e1 := HC2.out 1 _ rfl; clear how2 hg2)
          | (at_builtin; refine wpList_app1 rfl (.tmp 37) (.tmp 38) 31 rfl i0 _ 8 Tryz.underlying31 hi0 hz0 hz1 hz2 rfl rfl (HA2.out.alloc _) w2.heap.size 1 1 rfl (by go_simp) ⟨by decide, by decide⟩ (by have := HB2.out.size; have := HVS.out; simp only [World.size_alloc]; omega) (by omega) (by omega) ?_; intro p5 c5 w5 how5 hg5; have HA5 := Lib.hid how5; have HB5 := Lib.hid ((HB2.out.alloc HB2.out.size _).trans (((HA2.out.alloc _).below_row hg5 (by have := HB2.out.size; have := HVS.out; simp only [World.size_alloc]; omega)).mono (Nat.le_of_eq HVS.out))); clear how5 hg5)
          | (at_builtin; refine wpList_app1 rfl (.tmp 40) (.tmp 41) 31 rfl i0 _ 8 Tryz.underlying31 hi0 hz0 hz1 hz2 rfl rfl (HA2.out.alloc _) w2.heap.size 1 0 rfl (by go_simp) ⟨by decide, by decide⟩ (by have := HB2.out.size; have := HVS.out; simp only [World.size_alloc]; omega) (by omega) (by omega) ?_; intro p5 c5 w5 how5 hg5; have HA5 := Lib.hid how5; have HB5 := Lib.hid ((HB2.out.alloc HB2.out.size _).trans (((HA2.out.alloc _).below_row hg5 (by have := HB2.out.size; have := HVS.out; simp only [World.size_alloc]; omega)).mono (Nat.le_of_eq HVS.out))); clear how5 hg5))
        have HA6 : Hid (Ow .i64 3 w5 (w.heap.size + 1) w5.heap.size p5 (m + 1 + 1) c5 ([4, x0, x1, x2] ++ steps (l3.take (k + 1)))) := Lib.hid (by
          have h := HA5.out
          rw [HNX.out]
          simp only [stp, side, List.append_assoc, List.singleton_append] at h ⊢
          exact h)
        have HB6 : Hid (Below (w.heap.size + 1) V w5) := Lib.hid (by rw [← HVS.out]; exact HB5.out)
        go_roundw
        case rel => exact ⟨k + 1, _, _, _, by omega, by go_num, rfl, by omega, HA6, HB6⟩
        case measure => simp [intOf]; omega
    · obtain rfl : k = n3 := by omega
      have hO := HO.out
      rw [← H3.out.len, List.take_length] at hO
      have HO2 := Lib.hid hO
      have HI4 : Hid (inK .i64 (n4 : Int)) := Lib.hid ⟨by omega, by omega⟩
      clear hO
      go_wp2_with (first
          | (at_builtin; refine wpList_app1 rfl (.tmp 43) (.tmp 47) 31 rfl i0 _ 8 Tryz.underlying31 hi0 hz0 hz1 hz2 rfl rfl (HO2.out.alloc _) wr.heap.size 1 (n4 : Int) rfl (by go_simp) HI4.out (by simp only [World.size_alloc]; omega) (by omega) (by omega) ?_; intro p2 c2 w2 how2 hg2; have HA2 : Hid (Ow .i64 3 w2 (w.heap.size + 1) w2.heap.size p2 (m + 1) c2 ([4, x0, x1, x2] ++ steps l3 ++ [(n4 : Int)] ++ stas (l4.take 0))) := Lib.hid (by simpa [stas] using how2); have HB2 : Hid (Below (w.heap.size + 1) V w2) := Lib.hid ((HB'.out.alloc (by omega) _).trans ((HO2.out.alloc _).below_row hg2 (by simp only [World.size_alloc]; omega))); obtain ⟨t0, t1, t2, t3, t4⟩ := DpRenewal.bxc (HX.out.below (by rw [HVS.out]; exact HB2.out)); clear how2 hg2))
      clear v0 v1 v2 v3 v4
      have hm2 : m + 1 ≤ 4 + 2 * k + 1 := by omega
      generalize m + 1 = m2 at HA2 hm2 ⊢
      clear HO HO2 HB' HB
      go_loopw [5, 7] (fun v i wr => ∃ (j m c' : Nat) (p' : Option Addr), j ≤ n4 ∧ i = .int .i64 j ∧ v = .slice p' m c' ∧ m ≤ 4 + 2 * k + 1 + 6 * j ∧ Hid (Ow .i64 3 wr (w.heap.size + 1) wr.heap.size p' m c' ([4, x0, x1, x2] ++ steps l3 ++ [(n4 : Int)] ++ stas (l4.take j))) ∧ Hid (Below (w.heap.size + 1) V wr)) (fun _ i _ => n4 - (intOf i).toNat)
      case atStart => exact ⟨0, m2, _, _, Nat.zero_le _, rfl, rfl, by omega, HA2, HB2⟩
      case round =>
        obtain ⟨j, m3, c3', p3', hj, rfl, rfl, hm3, HO, HB'⟩ := hrel
        clear t0 t1 t2 t3 t4
        have HB : Hid (Below V.heap.size V wr) := Lib.hid (by rw [HVS.out]; exact HB'.out)
        have sV : w.heap.size + 1 ≤ wr.heap.size := by have := HB'.out.size; have := HVS.out; omega
        obtain ⟨v0, v1, v2, v3, v4⟩ := DpRenewal.bxc (HX.out.below HB.out)
        by_cases hlt4 : j < n4
        · skip
          obtain ⟨b, o, x_t, cs_t, rfl, _, hbwt, hxt, hct, hrdt⟩ := H4.out.at_ hlt4
          obtain ⟨xt0, xt1, xt2, xt3, xt4⟩ := x_t
          obtain ⟨rfl, hint⟩ := hrdt
          have HIt := Lib.hid hint
          have hcct : ∀ jj v, [.int .i64 xt0, .int .i64 xt1, .int .i64 xt2, .int .i64 xt3, .int .i64 xt4][jj]? = some v → wr.cell? ⟨b, o + j * 5 + jj, none⟩ = some v := fun jj v hv => (HB.out.cell (p := ⟨b, o + j * 5 + jj, none⟩) hbwt).trans (hct jj v hv)
          have HXt := Lib.hid hxt
          have HCt := Lib.hid hcct
          have u0 : wr.cell? ⟨b, o + j * 5, none⟩ = some (.int .i64 xt0) := hcct 0 _ rfl
          have u1 : wr.cell? ⟨b, o + j * 5 + 1, none⟩ = some (.int .i64 xt1) := hcct 1 _ rfl
          have u2 : wr.cell? ⟨b, o + j * 5 + 2, none⟩ = some (.int .i64 xt2) := hcct 2 _ rfl
          have u3 : wr.cell? ⟨b, o + j * 5 + 3, none⟩ = some (.int .i64 xt3) := hcct 3 _ rfl
          have u4 : wr.cell? ⟨b, o + j * 5 + 4, none⟩ = some (.int .i64 xt4) := hcct 4 _ rfl
          clear hcct hct hxt hint
          have hin := HIt.out
          obtain ⟨g0, g1, g2, g3, g4⟩ := hin
          have G0 : Hid (-9223372036854775808 ≤ xt0 ∧ xt0 ≤ 9223372036854775807) := Lib.hid g0
          have G1 : Hid (-9223372036854775808 ≤ xt1 ∧ xt1 ≤ 9223372036854775807) := Lib.hid g1
          have G2 : Hid (-9223372036854775808 ≤ xt2 ∧ xt2 ≤ 9223372036854775807) := Lib.hid g2
          have G3 : Hid (-9223372036854775808 ≤ xt3 ∧ xt3 ≤ 9223372036854775807) := Lib.hid g3
          have G4 : Hid (-9223372036854775808 ≤ xt4 ∧ xt4 ≤ 9223372036854775807) := Lib.hid g4
          have HNX := Lib.hid (stas_take HXt.out)
          have hbV : b < V.heap.size := hbwt
          have HCC : Hid (∀ w' : World, Below V.heap.size V w' → (w'.cell? ⟨w.heap.size, 0, none⟩ = some (.int .i64 x0) ∧ w'.cell? ⟨w.heap.size, 1, none⟩ = some (.int .i64 x1) ∧ w'.cell? ⟨w.heap.size, 2, none⟩ = some (.int .i64 x2) ∧ w'.cell? ⟨w.heap.size, 3, none⟩ = some (.slice p3 k c3) ∧ w'.cell? ⟨w.heap.size, 4, none⟩ = some (.slice (some ⟨b, o, none⟩) n4 c4)) ∧ w'.cell? ⟨b, o + j * 5, none⟩ = some (.int .i64 xt0) ∧ w'.cell? ⟨b, o + j * 5 + 1, none⟩ = some (.int .i64 xt1) ∧ w'.cell? ⟨b, o + j * 5 + 2, none⟩ = some (.int .i64 xt2) ∧ w'.cell? ⟨b, o + j * 5 + 3, none⟩ = some (.int .i64 xt3) ∧ w'.cell? ⟨b, o + j * 5 + 4, none⟩ = some (.int .i64 xt4)) := Lib.hid fun w' hb' => by
            have h1 := DpRenewal.bxc (HX.out.below hb')
            have h2 := fun i v hv => (hb'.cell (p := ⟨b, o + j * 5 + i, none⟩) hbV).trans ((HB.out.cell (p := ⟨b, o + j * 5 + i, none⟩) hbV).symm.trans (HCt.out i v hv))
            exact ⟨h1, h2 0 _ rfl, h2 1 _ rfl, h2 2 _ rfl, h2 3 _ rfl, h2 4 _ rfl⟩
          have HLd := Lib.hid ((lit_rd wr [xt4] (allK_cons G4.out (allK_nil _)) (by simp)))
          have HOd := Lib.hid HO.out.drew1
          have HOl := Lib.hid (HO.out.alloc (.cells #[.int .i64 xt4] 3)).drew1
          have HBd : Hid (Below V.heap.size V wr.drew) := Lib.hid (below_drewN HB.out 1)
          have HBl : Hid (Below V.heap.size V (wr.alloc (.cells #[.int .i64 xt4] 3)).drew) := Lib.hid (below_drewN (HB.out.alloc HB.out.size _) 1)
          have i1 : (0 : Int) ≤ (j : Int) := by omega
          have i2 : (j : Int) < (n4 : Int) := by omega
          have hlm : m3 ≤ 10000000 := by omega
          clear g0 g1 g2 g3 g4
          go_wp2_with fail
          go_region_held3 (fun w' => (w'.cell? ⟨w.heap.size, 0, none⟩ = some (.int .i64 x0) ∧ w'.cell? ⟨w.heap.size, 1, none⟩ = some (.int .i64 x1) ∧ w'.cell? ⟨w.heap.size, 2, none⟩ = some (.int .i64 x2) ∧ w'.cell? ⟨w.heap.size, 3, none⟩ = some (.slice p3 k c3) ∧ w'.cell? ⟨w.heap.size, 4, none⟩ = some (.slice (some ⟨b, o, none⟩) n4 c4)) ∧ w'.cell? ⟨b, o + j * 5, none⟩ = some (.int .i64 xt0) ∧ w'.cell? ⟨b, o + j * 5 + 1, none⟩ = some (.int .i64 xt1) ∧ w'.cell? ⟨b, o + j * 5 + 2, none⟩ = some (.int .i64 xt2) ∧ w'.cell? ⟨b, o + j * 5 + 3, none⟩ = some (.int .i64 xt3) ∧ w'.cell? ⟨b, o + j * 5 + 4, none⟩ = some (.int .i64 xt4)) (first
            | exact HCC.out _ HB4.out | exact HCC.out _ (HB2.out.alloc HB2.out.size _) | exact HCC.out _ HB2.out | exact HCC.out _ (HB1.out.alloc HB1.out.size _) | exact HCC.out _ HB1.out | exact HCC.out _ HBl.out | exact HCC.out _ HBd.out | go_keep) (first
            | (go_at_call 132; (with_reducible refine (Ti.spec_stampInts_any xt0 xt1 xt2 xt3 xt4 _ G0.out G1.out G2.out G3.out G4.out).mono ?_); rintro e w1 ⟨q1, m1, d1, rfl, ho, hb1⟩; have hv : Below wr.heap.size wr w1 := (by first | exact drewOn hb1 | exact litOn hb1); have HV1 := Lib.hid hv; have HB1 : Hid (Below V.heap.size V w1) := Lib.hid (HB.out.trans (hv.mono HB.out.size)); have HO1 := Lib.hid (HO.out.below hv); have HI1 := Lib.hid ho; have hm1 : m1 ≤ 5 := Nat.le_of_eq ho.len.symm; have HM1 := Lib.hid ho.len; (first | (have HL1 : Hid (Rd .i64 w1 (some ⟨wr.heap.size, 0, none⟩) 1 [xt4]) := Lib.hid (HLd.out.drewN 1 |>.below hb1)) | skip); clear ho hb1 hv)
            | (refine step_appR (by rfl) (.tmp 56) (.tmp 62) 31 (by rfl) i0 _ 8 Tryz.underlying31 hi0 hz0 hz1 hz2 (by rfl) (by rfl) HO1.out _ _ _ _ (by rfl) HI1.out.rd (by have := HV1.out.size; omega) (by omega) (by omega) ?_; intro p2 c2 w2 how2 hg2; have HA2 := Lib.hid how2; have HB2 : Hid (Below V.heap.size V w2) := Lib.hid (HB1.out.grown hg2 HB1.out.size (fun g e => by have := HO1.out.far g e; have := HVS.out; omega)); (first | (have HL2 : Hid (Rd .i64 w2 (some ⟨wr.heap.size, 0, none⟩) 1 [xt4]) := Lib.hid (HL1.out.grown hg2 (fun b1 o1 e1 e2 => by cases e1; have := HO1.out.far _ e2.symm; omega))) | skip); clear how2 hg2)
            | (refine step_appR (by rfl) (.tmp 56) (.tmp 62) 31 (by rfl) i0 _ 8 Tryz.underlying31 hi0 hz0 hz1 hz2 (by rfl) (by rfl) (HO1.out.alloc _) _ _ _ _ (by rfl) (HI1.out.rd.alloc _) (by have := HV1.out.size; simp only [World.size_alloc]; omega) (by omega) (by omega) ?_; intro p2 c2 w2 how2 hg2; have HA2 := Lib.hid how2; have HB2 : Hid (Below V.heap.size V w2) := Lib.hid ((HB1.out.alloc HB1.out.size _).grown hg2 (by have := HB1.out.size; simp only [World.size_alloc]; omega) (fun g e => by have := (HO1.out.alloc (.cells #[.int .i64 xt4] 3)).far g e; have := HVS.out; omega)); have HL2 : Hid (Rd .i64 w2 (some ⟨w1.heap.size, 0, none⟩) 1 [xt4]) := Lib.hid ((lit_rd w1 [xt4] (allK_cons G4.out (allK_nil _)) (by simp)).grown hg2 (fun b1 o1 e1 e2 => by cases e1; have := (HO1.out.alloc (.cells #[.int .i64 xt4] 3)).far _ e2.symm; have := HV1.out.size; omega)); clear how2 hg2)
            | (refine step_appR (by rfl) (.tmp 63) (.tmp 70) 31 (by rfl) i0 _ 8 Tryz.underlying31 hi0 hz0 hz1 hz2 (by rfl) (by rfl) HA2.out _ _ _ _ (by rfl) HL2.out (by have := HB2.out.size; have := HVS.out; omega) (by omega) (by omega) ?_; intro p4' c4' w4 how4 hg4; have HA4 := Lib.hid how4; have HB4 : Hid (Below V.heap.size V w4) := Lib.hid (HB2.out.grown hg4 HB2.out.size (fun g e => by have := HA2.out.far g e; have := HVS.out; omega)); clear how4 hg4)
            | (refine step_appR (by rfl) (.tmp 63) (.tmp 70) 31 (by rfl) i0 _ 8 Tryz.underlying31 hi0 hz0 hz1 hz2 (by rfl) (by rfl) (HA2.out.alloc _) _ _ _ _ (by rfl) (lit_rd w2 [xt4] (allK_cons G4.out (allK_nil _)) (by simp)) (by have := HB2.out.size; have := HVS.out; simp only [World.size_alloc]; omega) (by simp only [List.length_singleton]; omega) (by simp only [List.length_singleton]; omega) ?_; intro p4' c4' w4 how4 hg4; have HA4 := Lib.hid how4; have HB4 : Hid (Below V.heap.size V w4) := Lib.hid ((HB2.out.alloc HB2.out.size _).grown hg4 (by have := HB2.out.size; simp only [World.size_alloc]; omega) (fun g e => by have := (HA2.out.alloc (.cells #[.int .i64 xt4] 3)).far g e; have := HVS.out; omega)); clear how4 hg4)
            | fail)
          all_goals
            have HA6 : Hid (Ow .i64 3 w4 (w.heap.size + 1) w4.heap.size p4' (m3 + m1 + 1) c4' ([4, x0, x1, x2] ++ steps l3 ++ [(n4 : Int)] ++ stas (l4.take (j + 1)))) := Lib.hid (by
              have h := HA4.out
              rw [HNX.out]
              simp only [sta, List.append_assoc, List.cons_append, List.nil_append] at h ⊢
              exact h)
            have HB6 : Hid (Below (w.heap.size + 1) V w4) := Lib.hid (by rw [← HVS.out]; exact HB4.out)
            go_wp2_with fail
            go_roundw
            case rel => exact ⟨j + 1, _, _, _, by omega, by go_num, rfl, by omega, HA6, HB6⟩
            case measure => simp [intOf]; omega
        · obtain rfl : j = n4 := by omega
          have hO := HO.out
          rw [← H4.out.len, List.take_length] at hO
          have HO9 := Lib.hid hO
          have HLN := Lib.hid H4.out.len
          clear hO
          go_wp2_with fail
          refine (Dg.spec_dig_any id _ _ _ _ _ HO9.out.rd HID.out (by omega)).mono ?_
          rintro e w9 ⟨rfl, hb9⟩
          have HB9 := Lib.hid (HBV.out.trans ((HB.out.trans (hb9.mono HB.out.size)).mono (by rw [HVS.out]; omega)))
          clear hb9
          go_wp2_with fail
          go_ret
          refine val_of ?_ HB9.out
          have e9 : ren (x0, x1, x2, l3, l4) = 4 :: x0 :: x1 :: x2 :: (steps l3 ++ ((l4.length : Int) :: stas l4)) := by simp [ren]
          rw [e9]
          first | rfl | (show Value.int .i64 (Dg.dig id (4 :: x0 :: x1 :: x2 :: (steps l3 ++ ((j : Int) :: stas l4)))) = _; rw [HLN.out])
end Go.Proofs.YtfojilogcecphaaGreat.Rx
