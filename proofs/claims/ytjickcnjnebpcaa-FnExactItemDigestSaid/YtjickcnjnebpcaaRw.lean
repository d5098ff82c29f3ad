/- Renewals written and digested; in the program. -/
import Derived.Test.YtjickcnjnebpcaaWp
import Derived.Test.YtjickcnjnebpcaaTi
import Derived.Test.YtjickcnjnebpcaaDpRenewal
import Derived.Deep.RegionHeld3
namespace Go.Proofs.Ytjickcnjnebpcaa.Rw
open Go.ChangeShapes Go.WideShapes Go.ChangeAt Go.RowKit Sl St Ed Dz Wr Wp Es
def side (b : Bool) : Int := if b then 1 else 0
theorem side_in (b : Bool) : inK .i64 (side b) := by cases b <;> exact ⟨by decide, by decide⟩
def stp (x : Int × Bool) : List Int := [x.1, side x.2]
def sta (x : Int × Int × Int × Int × Int) : List Int := [103, x.1, x.2.1, x.2.2.1, x.2.2.2.1, x.2.2.2.2]
def steps (l : List (Int × Bool)) : List Int := l.flatMap stp
def stas (l : List (Int × Int × Int × Int × Int)) : List Int := l.flatMap sta
theorem steps_take {l : List (Int × Bool)} {k : Nat} {x : Int × Bool} (h : l[k]? = some x) : steps (l.take (k + 1)) = steps (l.take k) ++ stp x := by
  obtain ⟨hk, rfl⟩ := List.getElem?_eq_some_iff.1 h
  unfold steps
  rw [List.take_succ_eq_append_getElem hk, List.flatMap_append, List.flatMap_singleton]
theorem stas_take {l : List (Int × Int × Int × Int × Int)} {k : Nat} {x : Int × Int × Int × Int × Int} (h : l[k]? = some x) : stas (l.take (k + 1)) = stas (l.take k) ++ sta x := by
  obtain ⟨hk, rfl⟩ := List.getElem?_eq_some_iff.1 h
  unfold stas
  rw [List.take_succ_eq_append_getElem hk, List.flatMap_append, List.flatMap_singleton]
theorem steps_len (l : List (Int × Bool)) : (steps l).length = 2 * l.length := by
  induction l with
  | nil => rfl
  | cons x l ih =>
    have e : steps (x :: l) = stp x ++ steps l := by simp [steps]
    rw [e, List.length_append, ih, List.length_cons]
    simp [stp]
    omega
theorem stas_len (l : List (Int × Int × Int × Int × Int)) : (stas l).length = 6 * l.length := by
  induction l with
  | nil => rfl
  | cons x l ih =>
    have e : stas (x :: l) = sta x ++ stas l := by simp [stas]
    rw [e, List.length_append, ih, List.length_cons]
    simp [sta]
    omega
theorem take_le {α : Type} (l : List α) (k : Nat) : (l.take k).length ≤ l.length := by
  rw [List.length_take]
  omega
/-- all that is in a renewal, as numbers -/
def ren (r : DpRenewal.A) : List Int := [4, r.1, r.2.1, r.2.2.1] ++ steps r.2.2.2.1 ++ [(r.2.2.2.2.length : Int)] ++ stas r.2.2.2.2
set_option maxRecDepth 100000 in
theorem side_any (d : Int) (b : Bool) (w : World) : Calls Try.prog 113 #[.agg #[.int .i64 d, .bool b]] w (Val (.int .i64 (side b)) w) := by
  have HB := Lib.hid (box1 w (.cells #[.int .i64 d, .bool b] 106))
  cases b
  all_goals
    go_enter Try.func113, Try.ntmps113
    go_wp2_with fail
    go_ret
    exact val_of rfl HB.out
set_option maxRecDepth 100000 in
set_option maxHeartbeats 8000000 in
theorem writeStamps_any (B lo hi : Nat) (zs : List Int) (xs : List (Int × Int × Int × Int × Int)) (p : Option Addr) (n c : Nat) {S : Nat → Prop} (w : World) (hE : Enc w B lo hi zs) (hr : RdD (flat SlStamp.E SlStamp.InR) S w p n xs) (hp : ∀ b, S b → b ≠ B ∧ b < lo) (hn : zs.length + 6 * n ≤ 10000000) :
    Calls Try.prog 114 #[.pointer (some ⟨B, 0, none⟩), .slice p n c] w (Wrote B lo (zs ++ stas xs) w) := by
  have HE := Lib.hid hE
  have HR := Lib.hid hr
  have HP := Lib.hid hp
  have hBlo := hE.lt
  have hle := hr.le
  clear hE hr hp
  have HE0 : Hid (Enc w B lo hi (zs ++ stas (xs.take 0))) := Lib.hid (by simpa [stas] using HE.out)
  go_enter Try.func114, Try.ntmps114
  go_wp2_with fail
  go_loopw [8] (fun i wr => ∃ k hi' : Nat, k ≤ n ∧ i = .int .i64 k ∧ Hid (Enc wr B lo hi' (zs ++ stas (xs.take k))) ∧ Hid (Turned B lo w wr)) (fun i _ => n - (intOf i).toNat)
  case atStart => exact ⟨0, _, Nat.zero_le _, rfl, HE0, Lib.hid (Turned.refl _ _ _)⟩
  case round =>
    obtain ⟨k, hi', hk, rfl, HK, HT⟩ := hrel
    have hlt3 := HK.out.lt
    by_cases hlt : k < n
    · have HRk := Lib.hid (rdD_turned HR.out HT.out (fun b hb _ => HP.out b hb))
      have HBr := Lib.hid (Below.refl wr.heap.size wr)
      obtain ⟨b, o, x_, cs_, rfl, _, hbw, hx, hc, hrd⟩ := HRk.out.at_ hlt
      obtain ⟨x0, x1, x2, x3, x4⟩ := x_
      obtain ⟨rfl, hin⟩ := hrd
      have HI := Lib.hid hin
      have hcc : ∀ j v, [.int .i64 x0, .int .i64 x1, .int .i64 x2, .int .i64 x3, .int .i64 x4][j]? = some v → wr.cell? ⟨b, o + k * 5 + j, none⟩ = some v := fun j v hv => (HBr.out.cell (p := ⟨b, o + k * 5 + j, none⟩) hbw).trans (hc j v hv)
      have HX := Lib.hid hx
      have HC := Lib.hid hcc
      have u0 : wr.cell? ⟨b, o + k * 5, none⟩ = some (.int .i64 x0) := hcc 0 _ rfl
      have u1 : wr.cell? ⟨b, o + k * 5 + 1, none⟩ = some (.int .i64 x1) := hcc 1 _ rfl
      have u2 : wr.cell? ⟨b, o + k * 5 + 2, none⟩ = some (.int .i64 x2) := hcc 2 _ rfl
      have u3 : wr.cell? ⟨b, o + k * 5 + 3, none⟩ = some (.int .i64 x3) := hcc 3 _ rfl
      have u4 : wr.cell? ⟨b, o + k * 5 + 4, none⟩ = some (.int .i64 x4) := hcc 4 _ rfl
      clear hcc hc hx hin
      have hin := HI.out
      obtain ⟨g0, g1, g2, g3, g4⟩ := hin
      have G0 := Lib.hid g0
      have G1 := Lib.hid g1
      have G2 := Lib.hid g2
      have G3 := Lib.hid g3
      have G4 := Lib.hid g4
      have hlen : (zs ++ stas (xs.take k)).length + 6 ≤ 100000000 := by rw [List.length_append, stas_len]; have := take_le xs k; have := HR.out.len; omega
      have HLEN := Lib.hid hlen
      have HNX := Lib.hid (stas_take HX.out)
      have hx0 := Bx.new wr 127 #[.int .i64 x0, .int .i64 x1, .int .i64 x2, .int .i64 x3, .int .i64 x4]
      have HXb := Lib.hid hx0
      have HK1 := Lib.hid (HK.out.alloc (.cells #[.int .i64 x0, .int .i64 x1, .int .i64 x2, .int .i64 x3, .int .i64 x4] 127))
      clear g0 g1 g2 g3 g4 hlen hx0
      go_wp2_with fail
      refine (Ti.stampInts_any x0 x1 x2 x3 x4 _ G0.out G1.out G2.out G3.out G4.out).mono ?_
      rintro e w1 ⟨q1, m1, d1, rfl, ho, hb⟩
      have HO1 := Lib.hid ho
      have HK2 := Lib.hid (HK1.out.below hb)
      have HX2 := Lib.hid (HXb.out.below hb)
      have HT1 := Lib.hid (Turned.of_below (B := B) (lo := lo) ((box1 wr (.cells #[.int .i64 x0, .int .i64 x1, .int .i64 x2, .int .i64 x3, .int .i64 x4] 127)).trans (hb.mono (by simp))))
      have hm1 := ho.len
      have HM1 := Lib.hid hm1
      clear ho hb hm1 u0 u1 u2 u3 u4
      go_wp2_with fail
      refine (write_any B lo hi' _ _ _ _ _ w1 HK2.out HO1.out.rd (by have h1 := HM1.out; have h2 := HLEN.out; simp only [List.length_cons, List.length_nil] at h1; omega)).mono ?_
      rintro e w2 ⟨rfl, hE2, hT2⟩
      have HE2 := Lib.hid hE2
      have HT2 := Lib.hid hT2
      have hx2 := bx_turned HX2.out hT2 (by omega) (Or.inr (by decide))
      obtain ⟨u0, u1, u2, u3, u4⟩ := SlStamp.bxc hx2
      have HL2 := Lib.hid (lit_rd w2 [x4] (allK_cons G4.out (allK_nil _)) (by simp))
      have HE3 := Lib.hid (hE2.alloc (.cells #[.int .i64 x4] 3))
      clear hE2 hT2 hx2
      go_wp2_with fail
      refine (write_any B lo _ _ _ _ _ [x4] _ HE3.out HL2.out (by have h2 := HLEN.out; rw [List.length_append]; simp only [List.length_cons, List.length_nil]; omega)).mono ?_
      rintro e w3 ⟨rfl, hE4, hT4⟩
      have e2 : zs ++ stas (xs.take (k + 1)) = zs ++ stas (xs.take k) ++ [103, x0, x1, x2, x3] ++ [x4] := by rw [HNX.out]; simp [sta]
      have HE4 : Hid (Enc w3 B lo w3.heap.size (zs ++ stas (xs.take (k + 1)))) := Lib.hid (by rw [e2]; exact hE4)
      clear e2
      have HT5 := Lib.hid (((HT.out.trans HT1.out).trans HT2.out).trans ((Turned.of_below (box1 w2 (.cells #[.int .i64 x4] 3))).trans hT4))
      clear hE4 hT4
      go_wp2_with fail
      go_roundw
      case rel => exact ⟨k + 1, _, by omega, by go_num, HE4, HT5⟩
      case measure => simp [intOf]; omega
    · obtain rfl : k = n := by omega
      have HF : Hid (Enc wr B lo wr.heap.size (zs ++ stas xs)) := Lib.hid (by
        have h := HK.out
        rw [← HR.out.len, List.take_length] at h
        obtain ⟨p9, n9, c9, h1, h2, h3, h4⟩ := h
        exact ⟨p9, n9, c9, h1, h2.wide (Nat.le_refl _) h2.2.2.1 (Nat.le_refl _), h3, Nat.le_trans h4 h2.2.2.1⟩)
      go_wp2_with fail
      go_end0
      exact ⟨rfl, HF.out, HT.out⟩
set_option maxRecDepth 100000 in
set_option maxHeartbeats 8000000 in
theorem writeRenewal_any (B lo hi : Nat) (zs : List Int) (x0 x1 x2 : Int) (l3 : List (Int × Bool)) (p3 : Option Addr) (n3 c3 : Nat) (l4 : List (Int × Int × Int × Int × Int)) (p4 : Option Addr) (n4 c4 : Nat) {S3 S4 : Nat → Prop} (w : World) (hE : Enc w B lo hi zs) (b0 : InI x0) (b1 : InI x1) (b2 : InI x2) (h3 : RdD (flat SlStep.E SlStep.InR) S3 w p3 n3 l3) (h4 : RdD (flat SlStamp.E SlStamp.InR) S4 w p4 n4 l4) (hp3 : ∀ b, S3 b → b ≠ B ∧ b < lo) (hp4 : ∀ b, S4 b → b ≠ B ∧ b < lo) (hn : zs.length + 2 * n3 + 6 * n4 ≤ 9000000) :
    Calls Try.prog 94 #[.pointer (some ⟨B, 0, none⟩), .agg #[.int .i64 x0, .int .i64 x1, .int .i64 x2, .slice p3 n3 c3, .slice p4 n4 c4]] w (Wrote B lo (zs ++ ren (x0, x1, x2, l3, l4)) w) := by
  have hV : Below w.heap.size w ((w.alloc (.cells #[.int .i64 x0, .int .i64 x1, .int .i64 x2, .slice p3 n3 c3, .slice p4 n4 c4] 101)).alloc (.cells #[.int .i64 4, .int .i64 x0, .int .i64 x1, .int .i64 x2] 3)) := (box1 w _).alloc (by simp) _
  have hx := (Bx.new w 101 #[.int .i64 x0, .int .i64 x1, .int .i64 x2, .slice p3 n3 c3, .slice p4 n4 c4]).alloc (.cells #[.int .i64 4, .int .i64 x0, .int .i64 x1, .int .i64 x2] 3)
  have hlit : Rd .i64 ((w.alloc (.cells #[.int .i64 x0, .int .i64 x1, .int .i64 x2, .slice p3 n3 c3, .slice p4 n4 c4] 101)).alloc (.cells #[.int .i64 4, .int .i64 x0, .int .i64 x1, .int .i64 x2] 3)) (some ⟨w.heap.size + 1, 0, none⟩) 4 [4, x0, x1, x2] := by
    have h := lit_rd (w.alloc (.cells #[.int .i64 x0, .int .i64 x1, .int .i64 x2, .slice p3 n3 c3, .slice p4 n4 c4] 101)) [4, x0, x1, x2] (allK_cons ⟨by omega, by omega⟩ (allK_cons b0 (allK_cons b1 (allK_cons b2 (allK_nil _))))) (by simp)
    rw [World.size_alloc] at h
    exact h
  have hlt := hE.lt
  have hle3 := h3.le
  have hle4 := h4.le
  have HV := Lib.hid hV
  have HX := Lib.hid hx
  have HL := Lib.hid hlit
  have HE := Lib.hid (hE.below hV)
  have H3 := Lib.hid (h3.below hV)
  have H4 := Lib.hid (h4.below hV)
  have HP3 := Lib.hid hp3
  have HP4 := Lib.hid hp4
  clear hV hx hlit hE h3 h4 hp3 hp4
  go_enter Try.func94, Try.ntmps94
  go_wp2_with fail
  generalize ((w.alloc (.cells #[.int .i64 x0, .int .i64 x1, .int .i64 x2, .slice p3 n3 c3, .slice p4 n4 c4] 101)).alloc (.cells #[.int .i64 4, .int .i64 x0, .int .i64 x1, .int .i64 x2] 3)) = V at HV HX HL HE H3 H4 ⊢
  refine (write_any B lo hi zs _ _ _ [4, x0, x1, x2] V HE.out HL.out (by omega)).mono ?_
  rintro e w1 ⟨rfl, hE1, hT1⟩
  have hx1 := bx_turned HX.out hT1 (by omega) (Or.inr (by decide))
  have HE1 : Hid (Enc w1 B lo w1.heap.size (zs ++ [4, x0, x1, x2] ++ steps (l3.take 0))) := Lib.hid (by simpa [steps] using hE1)
  have HX1 := Lib.hid hx1
  have H31 := Lib.hid (rdD_turned H3.out hT1 (fun b hb _ => HP3.out b hb))
  have H41 := Lib.hid (rdD_turned H4.out hT1 (fun b hb _ => HP4.out b hb))
  have HT1 := Lib.hid (Turned.pre HV.out hT1)
  have hw1 : w.heap.size < w1.heap.size := hx1.lt
  clear hE1 hT1 hx1
  obtain ⟨v0, v1, v2, v3, v4⟩ := DpRenewal.bxc HX1.out
  go_wp2_with fail
  go_loopw [18] (fun i wr => ∃ k hi' : Nat, k ≤ n3 ∧ i = .int .i64 k ∧ Hid (Enc wr B lo hi' (zs ++ [4, x0, x1, x2] ++ steps (l3.take k))) ∧ Hid (Turned B lo w1 wr)) (fun i _ => n3 - (intOf i).toNat)
  case atStart => exact ⟨0, _, Nat.zero_le _, rfl, HE1, Lib.hid (Turned.refl _ _ _)⟩
  case round =>
    obtain ⟨k, hi', hk, rfl, HK, HT⟩ := hrel
    clear v0 v1 v2 v3 v4
    have hlt3 := HK.out.lt
    have hsz := HT.out.size
    have HXr := Lib.hid (bx_turned HX1.out HT.out (by omega) (Or.inr (by decide)))
    by_cases hltk : k < n3
    · have HRk := Lib.hid (rdD_turned H31.out HT.out (fun b hb _ => HP3.out b hb))
      have HBr := Lib.hid (Below.refl wr.heap.size wr)
      obtain ⟨b, o, x_s, cs_s, rfl, _, hbws, hxs, hcs, hrds⟩ := HRk.out.at_ hltk
      obtain ⟨xs0, xs1⟩ := x_s
      obtain ⟨rfl, hins⟩ := hrds
      have HIs := Lib.hid hins
      have hccs : ∀ j v, [.int .i64 xs0, .bool xs1][j]? = some v → wr.cell? ⟨b, o + k * 2 + j, none⟩ = some v := fun j v hv => (HBr.out.cell (p := ⟨b, o + k * 2 + j, none⟩) hbws).trans (hcs j v hv)
      have HXs := Lib.hid hxs
      have HCs := Lib.hid hccs
      have u0 : wr.cell? ⟨b, o + k * 2, none⟩ = some (.int .i64 xs0) := hccs 0 _ rfl
      have u1 : wr.cell? ⟨b, o + k * 2 + 1, none⟩ = some (.bool xs1) := hccs 1 _ rfl
      clear hccs hcs hxs hins
      have HXb := Lib.hid (Bx.new wr 106 #[.int .i64 xs0, .bool xs1])
      have HK1 := Lib.hid (HK.out.alloc (.cells #[.int .i64 xs0, .bool xs1] 106))
      have HV1 := Lib.hid (box1 wr (.cells #[.int .i64 xs0, .bool xs1] 106))
      have HNX := Lib.hid (steps_take HXs.out)
      have hlen : (zs ++ [4, x0, x1, x2] ++ steps (l3.take k)).length + 2 ≤ 100000000 := by rw [List.length_append, List.length_append, steps_len]; have := take_le l3 k; have := H31.out.len; simp only [List.length_cons, List.length_nil]; omega
      have HLEN := Lib.hid hlen
      have HG0 : Hid (inK .i64 xs0) := Lib.hid HIs.out
      clear hlen
      go_wp2_with fail
      clear u0 u1
      generalize (wr.alloc (.cells #[.int .i64 xs0, .bool xs1] 106)) = V2 at HXb HK1 HV1 ⊢
      go_region_held3 (fun w' => w'.cell? ⟨wr.heap.size, 0, none⟩ = some (.int .i64 xs0) ∧ w'.cell? ⟨wr.heap.size, 1, none⟩ = some (.bool xs1)) (first | exact SlStep.bxc HXb4.out | exact SlStep.bxc (HXb3.out.alloc _) | exact SlStep.bxc HXb3.out | exact SlStep.bxc HXb.out.drew1 | go_keep) (first
        | (go_at_call 113; (with_reducible refine (side_any _ _ _).mono ?_); rintro e w3 ⟨rfl, hb3⟩; have HXb3 := Lib.hid (HXb.out.drew1.below hb3); have HK3 := Lib.hid (HK1.out.drew1.below hb3); have HL3 : Hid (Rd .i64 (w3.alloc (.cells #[.int .i64 xs0, .int .i64 (side xs1)] 3)) (some ⟨w3.heap.size, 0, none⟩) 2 [xs0, side xs1]) := Lib.hid (lit_rd w3 [xs0, side xs1] (allK_cons HG0.out (allK_cons (side_in xs1) (allK_nil _))) (by simp)); have HV3 := Lib.hid (HV1.out.trans ((below_drewN (Below.refl _ V2) 1).mono (Nat.le_refl _) |>.trans (hb3.mono (Nat.le_refl _)) |>.mono HV1.out.size)); clear hb3)
        | (go_at_call 61; (with_reducible refine (write_any B lo hi' _ _ _ _ [xs0, side xs1] _ (HK3.out.alloc _) HL3.out (by have h2 := HLEN.out; omega)).mono ?_); rintro e w4 ⟨rfl, hE4, hT4⟩; have HXb4 := Lib.hid (bx_turned (HXb3.out.alloc (.cells #[.int .i64 xs0, .int .i64 (side xs1)] 3)) hT4 (by omega) (Or.inr (by decide))); have HE4 := Lib.hid hE4; have HT4 := Lib.hid ((HT.out.trans (Turned.of_below (HV3.out.alloc HV3.out.size _))).trans hT4); clear hE4 hT4)
        | fail)
      have HE5 : Hid (Enc w4 B lo w4.heap.size (zs ++ [4, x0, x1, x2] ++ steps (l3.take (k + 1)))) := Lib.hid (by rw [HNX.out, ← List.append_assoc]; exact HE4.out)
      go_wp2_with fail
      go_roundw
      case rel => exact ⟨k + 1, _, by omega, by go_num, HE5, HT4⟩
      case measure => simp [intOf]; omega
    · obtain rfl : k = n3 := by omega
      have hK := HK.out
      rw [← H31.out.len, List.take_length] at hK
      have hlen : (zs ++ [4, x0, x1, x2] ++ steps l3).length + 1 + 6 * n4 ≤ 10000000 := by rw [List.length_append, List.length_append, steps_len]; have := H31.out.len; simp only [List.length_cons, List.length_nil]; omega
      have HLEN := Lib.hid hlen
      have HK1 := Lib.hid (hK.alloc (.cells #[.int .i64 (n4 : Int)] 3))
      have HL1 := Lib.hid (lit_rd wr [(n4 : Int)] (allK_cons ⟨by omega, by omega⟩ (allK_nil _)) (by simp))
      have HX2 := Lib.hid (HXr.out.alloc (.cells #[.int .i64 (n4 : Int)] 3))
      have HV1 := Lib.hid (box1 wr (.cells #[.int .i64 (n4 : Int)] 3))
      have H42 := Lib.hid (rdD_turned H41.out HT.out (fun b hb _ => HP4.out b hb))
      clear hK hlen
      obtain ⟨v0, v1, v2, v3, v4⟩ := DpRenewal.bxc HXr.out
      go_wp2_with fail
      refine (write_any B lo hi' _ _ _ _ [(n4 : Int)] _ HK1.out HL1.out (by have h2 := HLEN.out; simp only [List.length_cons, List.length_nil]; omega)).mono ?_
      rintro e w5 ⟨rfl, hE5, hT5⟩
      have hx5 := bx_turned HX2.out hT5 (by omega) (Or.inr (by decide))
      have HE5 := Lib.hid hE5
      have HT5 := Lib.hid (Turned.pre HV1.out hT5)
      have H45 := Lib.hid (rdD_turned (H42.out.below HV1.out) hT5 (fun b hb _ => HP4.out b hb))
      clear v0 v1 v2 v3 v4
      obtain ⟨v0, v1, v2, v3, v4⟩ := DpRenewal.bxc hx5
      clear hE5 hT5 hx5
      go_wp2_with fail
      refine (writeStamps_any B lo _ _ l4 _ _ _ w5 HE5.out H45.out HP4.out (by have h2 := HLEN.out; rw [List.length_append]; simp only [List.length_cons, List.length_nil]; omega)).mono ?_
      rintro e w6 ⟨rfl, hE6, hT6⟩
      have HE6 := Lib.hid hE6
      have HT6 := Lib.hid (((HT1.out.trans HT.out).trans HT5.out).trans hT6)
      have HLN := Lib.hid H41.out.len
      clear hE6 hT6
      go_wp2_with fail
      go_end0
      refine ⟨rfl, ?_, HT6.out⟩
      have e : zs ++ ren (x0, x1, x2, l3, l4) = zs ++ [4, x0, x1, x2] ++ steps l3 ++ [(n4 : Int)] ++ stas l4 := by simp [ren, HLN.out]
      rw [e]
      exact HE6.out
set_option maxRecDepth 100000 in
set_option maxHeartbeats 8000000 in
theorem digest_any (id : Int) (x0 x1 x2 : Int) (l3 : List (Int × Bool)) (p3 : Option Addr) (n3 c3 : Nat) (l4 : List (Int × Int × Int × Int × Int)) (p4 : Option Addr) (n4 c4 : Nat) {S3 S4 : Nat → Prop} (w : World) (b0 : InI x0) (b1 : InI x1) (b2 : InI x2) (h3' : RdD (flat SlStep.E SlStep.InR) S3 w p3 n3 l3) (h4' : RdD (flat SlStamp.E SlStamp.InR) S4 w p4 n4 l4) (hn3 : n3 ≤ 1048576) (hn4 : n4 ≤ 1048576) :
    Calls Try.prog 64 #[.int .i64 id, .agg #[.int .i64 x0, .int .i64 x1, .int .i64 x2, .slice p3 n3 c3, .slice p4 n4 c4]] w (Val (.int .i64 (Dg.dig id (ren (x0, x1, x2, l3, l4)))) w) := by
  have h3 := fresh h3'
  have h4 := fresh h4'
  clear h3' h4'
  have hB : Below w.heap.size w ((w.alloc (.cells #[.int .i64 x0, .int .i64 x1, .int .i64 x2, .slice p3 n3 c3, .slice p4 n4 c4] 101)).alloc (.cells #[.slice none 0 0] 103)) := (box1 w _).alloc (by simp) _
  have hE : Enc ((w.alloc (.cells #[.int .i64 x0, .int .i64 x1, .int .i64 x2, .slice p3 n3 c3, .slice p4 n4 c4] 101)).alloc (.cells #[.slice none 0 0] 103)) (w.heap.size + 1) (w.heap.size + 1 + 1) (w.heap.size + 1 + 1) [] := by
    have h := Enc.new (w.alloc (.cells #[.int .i64 x0, .int .i64 x1, .int .i64 x2, .slice p3 n3 c3, .slice p4 n4 c4] 101))
    rw [World.size_alloc] at h
    exact h
  have HB := Lib.hid hB
  have HE := Lib.hid hE
  have H3 := Lib.hid (h3.below hB)
  have H4 := Lib.hid (h4.below hB)
  have G0 := Lib.hid b0
  have G1 := Lib.hid b1
  have G2 := Lib.hid b2
  clear hB hE h3 h4 b0 b1 b2
  go_enter Try.func64, Try.ntmps64
  go_wp2_with fail
  generalize ((w.alloc (.cells #[.int .i64 x0, .int .i64 x1, .int .i64 x2, .slice p3 n3 c3, .slice p4 n4 c4] 101)).alloc (.cells #[.slice none 0 0] 103)) = V at HB HE H3 H4 ⊢
  refine (writeRenewal_any (w.heap.size + 1) (w.heap.size + 1 + 1) _ [] x0 x1 x2 l3 _ _ _ l4 _ _ _ V HE.out G0.out G1.out G2.out H3.out H4.out (fun b hb => ⟨by omega, by omega⟩) (fun b hb => ⟨by omega, by omega⟩) (by simp only [List.length_nil]; omega)).mono ?_
  rintro e w1 ⟨rfl, hE1, hT1⟩
  obtain ⟨q2, m2, d2, hc2, hrd2, hm2⟩ := hE1.read
  have HRD := Lib.hid hrd2
  have HB1 := Lib.hid (Turned.on HB.out hT1 (by omega) (by omega) HB.out.size)
  clear hE1 hT1 hrd2 hm2
  go_wp2_with fail
  refine (Dg.dig_any id _ _ _ _ _ HRD.out).mono ?_
  rintro e w2 ⟨rfl, rfl⟩
  go_wp2_with fail
  go_ret
  exact val_of rfl HB1.out
end Go.Proofs.Ytjickcnjnebpcaa.Rw
