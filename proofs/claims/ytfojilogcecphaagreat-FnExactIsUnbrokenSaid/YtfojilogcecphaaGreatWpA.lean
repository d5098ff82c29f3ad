/- Pieces written and digested; in the program. Pieces digested by the reference; leaves of both. Leaves; of both. -/
import Derived.Test.YtfojilogcecphaaGreatSrA
import Derived.Test.YtfojilogcecphaaGreatDg
import Derived.Test.YtfojilogcecphaaGreatDpPiece
import Derived.Test.YtfojilogcecphaaGreatEs
import Derived.LoopTactic
import Derived.Outline
import Derived.Deep.RegionHeld3
namespace Go.Proofs.YtfojilogcecphaaGreat.Wp
open Go.ChangeShapes Go.WideShapes Go.ChangeAt Go.RowKit Sl St Ed Dz Wr Es
def enc1 (x : DpPiece.A) : List Int := x.1 :: x.2.2 :: x.2.1
def pdl (m : Int) (xs : List DpPiece.A) : List Int := 2 :: xs.map fun x => Dg.dig m (enc1 x)
def pd (m : Int) (xs : List DpPiece.A) : Int := Dg.dig m (pdl m xs)
theorem pdl_take {m : Int} {xs : List DpPiece.A} {k : Nat} {x : DpPiece.A} (h : xs[k]? = some x) : pdl m (xs.take (k + 1)) = pdl m (xs.take k) ++ [Dg.dig m (enc1 x)] := by
  obtain ⟨hk, rfl⟩ := List.getElem?_eq_some_iff.1 h
  unfold pdl
  rw [List.take_succ_eq_append_getElem hk, List.map_append]
  rfl
theorem pdl_len {m : Int} {xs : List DpPiece.A} {k : Nat} (h : k ≤ xs.length) : (pdl m (xs.take k)).length = k + 1 := by
  unfold pdl
  rw [List.length_cons, List.length_map, List.length_take, Nat.min_eq_left h]
theorem dig_inK (m : Int) (l : List Int) : inK .i64 (Dg.dig m l) := by
  have := Dg.dig_in m l
  exact ⟨by omega, by omega⟩
theorem lit_rd (w : World) (zs : List Int) (hk : allK .i64 zs) (hn : zs.length ≤ 1000000) : Rd .i64 (w.alloc (.cells (zs.map (Value.int .i64)).toArray 3)) (some ⟨w.heap.size, 0, none⟩) zs.length zs := (litN_own 3 w w.heap.size zs hk (Nat.le_refl _) hn).rd
theorem bx3 {w : World} {g : Nat} {T : TypeId} {x0 x1 x2 : Value} (h : Bx w g T #[x0, x1, x2]) : w.cell? ⟨g, 0, none⟩ = some x0 ∧ w.cell? ⟨g, 1, none⟩ = some x1 ∧ w.cell? ⟨g, 2, none⟩ = some x2 := ⟨h.cell rfl, h.cell rfl, h.cell rfl⟩
set_option maxRecDepth 100000 in
set_option maxHeartbeats 4000000 in
theorem writePiece_any (B lo hi : Nat) (zs : List Int) (k : Int) (l : List Int) (p : Option Addr) (n c : Nat) (m : Int) {S : Nat → Prop} (w : World) (hE : Enc w B lo hi zs) (hr : RdD int S w p n l) (hk : InI k) (hm : InI m) (hp : ∀ b, S b → b ≠ B ∧ b < lo) (hn : zs.length + n ≤ 10000000) :
    Calls Tryz.prog 170 #[.pointer (some ⟨B, 0, none⟩), .agg #[.int .i64 k, .slice p n c, .int .i64 m]] w (Wrote B lo (zs ++ (k :: m :: l)) w) := by
  have hV : Below w.heap.size w ((w.alloc (.cells #[.int .i64 k, .slice p n c, .int .i64 m] 58)).alloc (.cells #[.int .i64 k, .int .i64 m] 3)) := (box1 w _).alloc (by simp) _
  have hx := (Bx.new w 58 #[.int .i64 k, .slice p n c, .int .i64 m]).alloc (.cells #[.int .i64 k, .int .i64 m] 3)
  have hlit : Rd .i64 ((w.alloc (.cells #[.int .i64 k, .slice p n c, .int .i64 m] 58)).alloc (.cells #[.int .i64 k, .int .i64 m] 3)) (some ⟨w.heap.size + 1, 0, none⟩) 2 [k, m] := by
    have h := lit_rd (w.alloc (.cells #[.int .i64 k, .slice p n c, .int .i64 m] 58)) [k, m] (allK_cons hk (allK_cons hm (allK_nil _))) (by simp)
    rw [World.size_alloc] at h
    exact h
  have hlt := hE.lt
  have HV := Lib.hid hV
  have HX := Lib.hid hx
  have HL := Lib.hid hlit
  have HE := Lib.hid (hE.below hV)
  have HR := Lib.hid (hr.below hV)
  have HP := Lib.hid hp
  clear hV hx hlit hE hr hp
  go_enter Tryz.func170, Tryz.ntmps170
  go_wp2_with fail
  generalize ((w.alloc (.cells #[.int .i64 k, .slice p n c, .int .i64 m] 58)).alloc (.cells #[.int .i64 k, .int .i64 m] 3)) = V at HV HX HL HE HR ⊢
  refine (write_any B lo hi zs _ _ _ [k, m] V HE.out HL.out (by omega)).mono ?_
  rintro e w1 ⟨rfl, hE1, hT1⟩
  have HE1 := Lib.hid hE1
  have HT1 := Lib.hid hT1
  have hx1 := bx_turned HX.out hT1 (by omega) (Or.inr (by decide))
  have HR1 := Lib.hid (rdD_turned HR.out hT1 (fun b hb _ => HP.out b hb))
  obtain ⟨u0, u1, u2⟩ := bx3 hx1
  clear hE1 hT1 hx1
  go_wp2_with fail
  refine (write_any B lo _ (zs ++ [k, m]) _ _ _ l w1 HE1.out HR1.out.ints (by simp only [List.length_append, List.length_cons, List.length_nil]; omega)).mono ?_
  rintro e w2 ⟨rfl, hE2, hT2⟩
  have HE2 := Lib.hid hE2
  have HT2 := Lib.hid hT2
  clear hE2 hT2
  go_wp2_with fail
  go_end0
  refine ⟨rfl, ?_, (Turned.pre HV.out HT1.out).trans HT2.out⟩
  have e : zs ++ (k :: m :: l) = zs ++ [k, m] ++ l := by simp
  rw [e]
  exact HE2.out
theorem wide {w w' : World} {B lo hi : Nat} {zs : List Int} (h : Enc w B lo hi zs) (hb : Below w.heap.size w w') : Enc w' B lo hi zs := h.below hb
set_option maxRecDepth 100000 in
set_option maxHeartbeats 8000000 in
theorem digest_any (id : Int) (xs : List DpPiece.A) (p : Option Addr) (n c : Nat) {S : Nat → Prop} (w : World) (hr0 : RdD DpPiece.E S w p n xs) (hm : n + wts DpPiece.E xs ≤ 1048576) : Calls Tryz.prog 145 #[.int .i64 id, .slice p n c] w (Val (.int .i64 (pd id xs)) w) := by
  have hr := fresh hr0
  clear hr0
  have HR := Lib.hid hr
  have HM := Lib.hid hm
  have hn : n ≤ 1048576 := by omega
  clear hr hm
  have hB0 : Below w.heap.size w ((w.alloc (.cells #[.slice none 0 0] 206)).alloc (.cells #[.int .i64 2] 3)) := (box1 w _).alloc (by simp) _
  have hE0 := (Enc.new w).alloc (.cells #[.int .i64 2] 3)
  have hlit : Rd .i64 ((w.alloc (.cells #[.slice none 0 0] 206)).alloc (.cells #[.int .i64 2] 3)) (some ⟨w.heap.size + 1, 0, none⟩) 1 [2] := by
    have h := lit_rd (w.alloc (.cells #[.slice none 0 0] 206)) [2] (allK_cons ⟨by omega, by omega⟩ (allK_nil _)) (by simp)
    rw [World.size_alloc] at h
    exact h
  have HB0 := Lib.hid hB0
  have HE0 := Lib.hid hE0
  have HL := Lib.hid hlit
  clear hB0 hE0 hlit
  go_enter Tryz.func145, Tryz.ntmps145
  go_wp2_with fail
  generalize ((w.alloc (.cells #[.slice none 0 0] 206)).alloc (.cells #[.int .i64 2] 3)) = V at HB0 HE0 HL ⊢
  refine (write_any w.heap.size (w.heap.size + 1) _ [] _ _ _ [2] V HE0.out HL.out (by simp)).mono ?_
  rintro e w1 ⟨rfl, hE, hT⟩
  have HE := Lib.hid hE
  have HB := Lib.hid (Turned.on HB0.out hT (Nat.le_refl _) (by omega) HB0.out.size)
  clear hE hT
  go_wp2_with fail
  go_loopw [13] (fun i wr => ∃ k hi : Nat, k ≤ n ∧ i = .int .i64 k ∧ Hid (Enc wr w.heap.size (w.heap.size + 1) hi (pdl id (xs.take k))) ∧ Hid (Below w.heap.size w wr)) (fun i _ => n - (intOf i).toNat)
  case atStart => exact ⟨0, _, Nat.zero_le _, rfl, HE, HB⟩
  case round =>
    obtain ⟨k, hi, hk, rfl, HK, HB2⟩ := hrel
    have hlt3 := HK.out.lt
    by_cases hlt : k < n
    · skip
      obtain ⟨b, o, x_, cs_, rfl, _, hbw, hx, hc, hrd⟩ := HR.out.at_ hlt
      obtain ⟨x0, l1, x2⟩ := x_
      obtain ⟨p1, n1, c1, rfl, b0, h1, b2⟩ := DpPiece.ex hrd
      have hcc : ∀ j v, [.int .i64 x0, .slice p1 n1 c1, .int .i64 x2][j]? = some v → wr.cell? ⟨b, o + k * 3 + j, none⟩ = some v := fun j v hv => (HB2.out.cell (p := ⟨b, o + k * 3 + j, none⟩) hbw).trans (hc j v hv)
      have HX := Lib.hid hx
      have HC := Lib.hid hcc
      have H1 := Lib.hid (h1.below HB2.out)
      have hn1 := h1.le
      have Gb0 := Lib.hid b0
      have Gb2 := Lib.hid b2
      obtain ⟨u0, u1, u2⟩ := DpPiece.at_cells hcc
      clear hcc hc hx hrd b0 h1 b2
      have hwt := wts_at (E := DpPiece.E) HX.out
      have hl1 := H1.out.len
      have hm1 : n1 ≤ 1048576 := by have h := HM.out; rw [DpPiece.wt_eq] at hwt; omega
      clear hwt hl1
      have sW := HB2.out.size
      have hV : Below wr.heap.size wr ((wr.alloc (.cells #[.int .i64 x0, .slice p1 n1 c1, .int .i64 x2] 58)).alloc (.cells #[.slice none 0 0] 206)) := (box1 wr _).alloc (by simp) _
      have hE1 : Enc ((wr.alloc (.cells #[.int .i64 x0, .slice p1 n1 c1, .int .i64 x2] 58)).alloc (.cells #[.slice none 0 0] 206)) (wr.heap.size + 1) (wr.heap.size + 1 + 1) (wr.heap.size + 1 + 1) [] := by
        have h := Enc.new (wr.alloc (.cells #[.int .i64 x0, .slice p1 n1 c1, .int .i64 x2] 58))
        rw [World.size_alloc] at h
        exact h
      have HV := Lib.hid hV
      have HE1 := Lib.hid hE1
      have HK1 := Lib.hid (HK.out.below hV)
      have HR1 := Lib.hid (H1.out.below hV)
      have HBV := Lib.hid (below_on HB2.out hV)
      clear hV hE1
      go_wp2_with fail
      generalize ((wr.alloc (.cells #[.int .i64 x0, .slice p1 n1 c1, .int .i64 x2] 58)).alloc (.cells #[.slice none 0 0] 206)) = V2 at HV HE1 HK1 HR1 HBV ⊢
      refine (writePiece_any (wr.heap.size + 1) (wr.heap.size + 1 + 1) _ [] x0 l1 _ _ _ x2 V2 HE1.out HR1.out Gb0.out Gb2.out (fun b hb => ⟨by omega, by omega⟩) (by simp only [List.length_nil]; omega)).mono ?_
      rintro e w2 ⟨rfl, hE2, hT2⟩
      have HE2 := Lib.hid hE2
      have HK2 := Lib.hid (HK1.out.young hT2 (by omega) (by omega))
      have HB3 := Lib.hid (Turned.on HBV.out hT2 (by omega) (by omega) (HBV.out.size))
      obtain ⟨q2, m2, d2, hc2, hrd2, hm2⟩ := hE2.read
      have hsz2 := hT2.size
      have HRD := Lib.hid hrd2
      have HMM := Lib.hid hm2
      clear hE2 hT2 hrd2 hm2 u0 u1 u2
      go_wp2_with fail
      refine (Dg.dig_any id _ _ _ _ _ HRD.out).mono ?_
      rintro e w3 ⟨rfl, rfl⟩
      have hlit := lit_rd w2 [Dg.dig id ([] ++ (x0 :: x2 :: l1))] (allK_cons (dig_inK _ _) (allK_nil _)) (by simp)
      have HL2 := Lib.hid hlit
      have HK3 := Lib.hid (HK2.out.alloc (.cells #[.int .i64 (Dg.dig id ([] ++ (x0 :: x2 :: l1)))] 3))
      have HB4 := Lib.hid (HB3.out.alloc HB3.out.size (.cells #[.int .i64 (Dg.dig id ([] ++ (x0 :: x2 :: l1)))] 3))
      have HNX := Lib.hid (pdl_take (m := id) HX.out)
      have hlen := pdl_len (m := id) (xs := xs) (k := k) (by rw [HR.out.len]; omega)
      have HLEN := Lib.hid hlen
      clear hlit hlen hc2
      go_wp2_with fail
      refine (write_any w.heap.size (w.heap.size + 1) hi (pdl id (xs.take k)) _ _ _ _ _ HK3.out HL2.out (by rw [HLEN.out]; show k + 1 + 1 ≤ _; omega)).mono ?_
      rintro e w4 ⟨rfl, hE4, hT4⟩
      have HE4 : Hid (Enc w4 w.heap.size (w.heap.size + 1) w4.heap.size (pdl id (xs.take (k + 1)))) := Lib.hid (by rw [HNX.out]; exact hE4)
      have HB5 := Lib.hid (Turned.on HB4.out hT4 (Nat.le_refl _) (by omega) HB4.out.size)
      clear hE4 hT4
      go_wp2_with fail
      go_roundw
      case rel => exact ⟨k + 1, _, by omega, by go_num, HE4, HB5⟩
      case measure => simp [intOf]; omega
    · obtain rfl : k = n := by omega
      obtain ⟨q2, m2, d2, hc2, hrd2, hm2⟩ := HK.out.read
      have HT : Hid (pdl id (xs.take k) = pdl id xs) := Lib.hid (by rw [← HR.out.len, List.take_length])
      rw [HT.out] at hrd2
      have HRD := Lib.hid hrd2
      clear hrd2 hm2
      go_wp2_with fail
      refine (Dg.dig_any id _ _ _ _ _ HRD.out).mono ?_
      rintro e w3 ⟨rfl, rfl⟩
      go_wp2_with fail
      go_ret
      exact val_of rfl HB2.out
end Go.Proofs.YtfojilogcecphaaGreat.Wp

namespace Go.Proofs.YtfojilogcecphaaGreat.Wq
open Go.ChangeShapes Go.WideShapes Go.ChangeAt Go.RowKit Sl St Ed Dz Wr Wp Es
set_option maxRecDepth 100000 in
set_option maxHeartbeats 8000000 in
theorem spec_digest_any (id : Int) (hid : InI id) (xs : List DpPiece.A) (p : Option Addr) (n c : Nat) {S : Nat → Prop} (w : World) (hr0 : RdD DpPiece.E S w p n xs) (hm : n + wts DpPiece.E xs ≤ 1048576) : Calls Tryz.prog 134 #[.int .i64 id, .slice p n c] w (Val (.int .i64 (pd id xs)) w) := by
  obtain ⟨i0, hi0, hz0, hz1, hz2⟩ := info_parts SlI.info
  have hr := fresh hr0
  clear hr0
  have HR := Lib.hid hr
  have HM := Lib.hid hm
  have HID : Hid (inK .i64 id) := Lib.hid hid
  have hn : n ≤ 1048576 := by omega
  clear hr hm hid
  have HO0 : Hid (Ow .i64 3 (w.alloc (.cells #[.int .i64 2] 3)) w.heap.size (w.alloc (.cells #[.int .i64 2] 3)).heap.size (some ⟨w.heap.size, 0, none⟩) 1 1 (pdl id (xs.take 0))) := Lib.hid (litN_own 3 w w.heap.size [2] (allK_cons ⟨by omega, by omega⟩ (allK_nil _)) (Nat.le_refl _) (by simp))
  have HB0 := Lib.hid (box1 w (.cells #[.int .i64 2] 3))
  go_enter Tryz.func134, Tryz.ntmps134
  go_wp2_with fail
  go_loopw [5, 6] (fun v i wr => ∃ (k c' : Nat) (p' : Option Addr), k ≤ n ∧ i = .int .i64 k ∧ v = .slice p' (k + 1) c' ∧ Hid (Ow .i64 3 wr w.heap.size wr.heap.size p' (k + 1) c' (pdl id (xs.take k))) ∧ Hid (Below w.heap.size w wr)) (fun _ i _ => n - (intOf i).toNat)
  case atStart => exact ⟨0, _, _, Nat.zero_le _, rfl, rfl, HO0, HB0⟩
  case round =>
    obtain ⟨k, c', p', hk, rfl, rfl, HO, HB⟩ := hrel
    by_cases hlt : k < n
    · skip
      obtain ⟨b, o, x_, cs_, rfl, _, hbw, hx, hc, hrd⟩ := HR.out.at_ hlt
      obtain ⟨x0, l1, x2⟩ := x_
      obtain ⟨p1, n1, c1, rfl, b0, h1, b2⟩ := DpPiece.ex hrd
      have hcc : ∀ j v, [.int .i64 x0, .slice p1 n1 c1, .int .i64 x2][j]? = some v → wr.cell? ⟨b, o + k * 3 + j, none⟩ = some v := fun j v hv => (HB.out.cell (p := ⟨b, o + k * 3 + j, none⟩) hbw).trans (hc j v hv)
      have HX := Lib.hid hx
      have HC := Lib.hid hcc
      have H1 := Lib.hid (h1.below HB.out)
      have hn1 := h1.le
      have Gb0 := Lib.hid b0
      have Gb2 := Lib.hid b2
      obtain ⟨u0, u1, u2⟩ := DpPiece.at_cells hcc
      clear hcc hc hx hrd b0 h1 b2
      have hwt := wts_at (E := DpPiece.E) HX.out
      have hl1 := H1.out.len
      have hm1 : n1 ≤ 1048576 := by have h := HM.out; rw [DpPiece.wt_eq] at hwt; omega
      have HNX := Lib.hid (pdl_take (m := id) HX.out)
      clear hwt hl1
      have sW := HB.out.size
      have hbb : b < wr.heap.size := Nat.lt_of_lt_of_le hbw sW
      have HCC : Hid (∀ w' : World, w'.heap[b]? = wr.heap[b]? → w'.cell? ⟨b, o + k * 3, none⟩ = some (.int .i64 x0) ∧ w'.cell? ⟨b, o + k * 3 + 1, none⟩ = some (.slice p1 n1 c1) ∧ w'.cell? ⟨b, o + k * 3 + 2, none⟩ = some (.int .i64 x2)) := Lib.hid fun w' e => DpPiece.at_cells (q := o + k * 3) fun j v hv => (World.cell?_of_block (w := wr) (a := ⟨b, o + k * 3 + j, none⟩) e).trans (HC.out j v hv)
      have hb1 : Below wr.heap.size wr (wr.alloc (.cells #[.int .i64 x0, .int .i64 x2] 3)).drew := below_drewN (box1 wr _) 1
      have HB1 := Lib.hid hb1
      have hL : Ow .i64 3 (wr.alloc (.cells #[.int .i64 x0, .int .i64 x2] 3)).drew wr.heap.size (wr.alloc (.cells #[.int .i64 x0, .int .i64 x2] 3)).drew.heap.size (some ⟨wr.heap.size, 0, none⟩) 2 2 [x0, x2] := (litN_own 3 wr wr.heap.size [x0, x2] (allK_cons Gb0.out (allK_cons Gb2.out (allK_nil _))) (Nat.le_refl _) (by simp)).drew1
      have HL := Lib.hid hL
      have HR1 := Lib.hid (H1.out.ints.below hb1)
      have HO1 := Lib.hid (HO.out.below hb1)
      have i1 : (0 : Int) ≤ (k : Int) := by omega
      have i2 : (k : Int) < (n : Int) := by omega
      clear hb1 hL
      go_wp2_with fail
      go_region_held3 (fun w' => w'.cell? ⟨b, o + k * 3, none⟩ = some (.int .i64 x0) ∧ w'.cell? ⟨b, o + k * 3 + 1, none⟩ = some (.slice p1 n1 c1) ∧ w'.cell? ⟨b, o + k * 3 + 2, none⟩ = some (.int .i64 x2)) (first
        | (revert HG4; intro hh; replace hh := hh.out; exact HCC.out _ hh) | (revert HB3; intro hh; replace hh := hh.out; exact HCC.out _ ((hh.block _ hbb).trans (HB1.out.block _ hbb))) | (revert HB2; intro hh; replace hh := hh.out; exact HCC.out _ ((hh.block _ hbb).trans (HB1.out.block _ hbb))) | exact HCC.out _ (HB1.out.block _ hbb) | exact HCC.out _ rfl | go_keep) (first
        | (refine step_appR (by rfl) (.tmp 26) (.tmp 31) 31 (by rfl) i0 _ 8 Tryz.underlying31 hi0 hz0 hz1 hz2 (by rfl) (by rfl) HL.out _ _ _ _ (by rfl) HR1.out (by simp) (by omega) (by omega) ?_; intro p2 c2 w2 how2 hg2; have HA2 := Lib.hid how2; have HB2 := Lib.hid (HL.out.below_row hg2 (by simp)); have HO2 := Lib.hid (HO1.out.apart HL.out hg2 (Or.inl (Nat.le_refl _))); clear how2 hg2)
        | (go_at_call 133; (with_reducible refine (Dg.spec_dig_any id _ _ _ _ _ HA2.out.rd HID.out (by omega)).mono ?_); rintro e w3 ⟨rfl, hb3⟩; have HO3 := Lib.hid (HO2.out.below hb3); have HB3 := Lib.hid (below_more HB2.out (by simp) hb3); clear hb3)
        | (refine step_appR (by rfl) (.tmp 14) (.tmp 34) 31 (by rfl) i0 _ 8 Tryz.underlying31 hi0 hz0 hz1 hz2 (by rfl) (by rfl) (HO3.out.alloc _) _ _ _ _ (by rfl) (lit_rd w3 [Dg.dig id ([x0, x2] ++ l1)] (allK_cons (dig_inK _ _) (allK_nil _)) (by simp)) (by have := HB3.out.size; have := HB1.out.size; simp only [World.size_alloc]; omega) (by simp only [List.length_singleton]; omega) (by simp only [List.length_singleton]; omega) ?_; intro p4 c4 w4 how4 hg4; have HO4 : Hid (Ow .i64 3 w4 w.heap.size w4.heap.size p4 (k + 1 + 1) c4 (pdl id (xs.take (k + 1)))) := Lib.hid (by rw [HNX.out]; exact how4); have HG4 : Hid (w4.heap[b]? = wr.heap[b]?) := Lib.hid (((hg4.block b (by have := HB3.out.size; have := HB1.out.size; simp only [World.size_alloc]; omega) (fun e => by have := HO3.out.far _ e.symm; omega)).trans (Below.heap_alloc w3 _ b (by have := HB3.out.size; have := HB1.out.size; omega))).trans ((HB3.out.block _ hbb).trans (HB1.out.block _ hbb))); have HB4 : Hid (Below w.heap.size w w4) := Lib.hid (below_row (((HB.out.trans (HB1.out.mono sW)).trans (HB3.out.mono sW)).alloc (by have := HB3.out.size; have := HB1.out.size; omega) _) (HO3.out.alloc _) hg4 (Nat.le_refl _)); clear how4 hg4) | fail)
      go_wp2_with fail
      go_roundw
      case rel => exact ⟨k + 1, _, _, by omega, by go_num, rfl, HO4, HB4⟩
      case measure => simp [intOf]; omega
    · obtain rfl : k = n := by omega
      have HT : Hid (pdl id (xs.take k) = pdl id xs) := Lib.hid (by rw [← HR.out.len, List.take_length])
      have HO' : Hid (Ow .i64 3 wr w.heap.size wr.heap.size p' (k + 1) c' (pdl id xs)) := Lib.hid (by rw [← HT.out]; exact HO.out)
      go_wp2_with fail
      refine (Dg.spec_dig_any id _ _ _ _ _ HO'.out.rd HID.out (by omega)).mono ?_
      rintro e w3 ⟨rfl, hb3⟩
      have HB3 := Lib.hid (below_on HB.out hb3)
      clear hb3
      go_wp2_with fail
      go_ret
      exact val_of rfl HB3.out
end Go.Proofs.YtfojilogcecphaaGreat.Wq

namespace Go.Proofs.YtfojilogcecphaaGreat.Wl
open Go.ChangeShapes Go.WideShapes Go.ChangeAt Go.RowKit Sl St Ed Dz Wr Wp Wq Es
def leaf (id doc : Int) (xs : List DpPiece.A) (before : Int) : Int := Dg.dig id [3, doc, pd id xs, before]
theorem pd_in (id : Int) (xs : List DpPiece.A) : InI (pd id xs) := dig_inK _ _
set_option maxRecDepth 100000 in
set_option maxHeartbeats 4000000 in
theorem leaf_any (id doc : Int) (hdoc : InI doc) (xs : List DpPiece.A) (p : Option Addr) (n c : Nat) (before : Int) (hbef : InI before) {S : Nat → Prop} (w : World) (hr : RdD DpPiece.E S w p n xs) (hm : n + wts DpPiece.E xs ≤ 1048576) : Calls Tryz.prog 112 #[.int .i64 id, .int .i64 doc, .slice p n c, .int .i64 before] w (Val (.int .i64 (leaf id doc xs before)) w) := by
  have HR := Lib.hid hr
  have HM := Lib.hid hm
  have HK := Lib.hid (show allK .i64 [3, doc, pd id xs, before] from allK_cons ⟨by omega, by omega⟩ (allK_cons hdoc (allK_cons (pd_in id xs) (allK_cons hbef (allK_nil _)))))
  clear hr hm hdoc hbef
  go_enter Tryz.func112, Tryz.ntmps112
  go_wp2_with fail
  refine (digest_any id xs _ _ _ _ HR.out HM.out).mono ?_
  rintro e w1 ⟨rfl, hb⟩
  have HB := Lib.hid hb
  clear hb
  have HL := Lib.hid (lit_rd w1 [3, doc, pd id xs, before] HK.out (by simp))
  go_wp2_with fail
  refine (Dg.dig_any id _ _ _ _ _ HL.out).mono ?_
  rintro e w2 ⟨rfl, rfl⟩
  have HB2 := Lib.hid (HB.out.alloc HB.out.size (.cells #[.int .i64 3, .int .i64 doc, .int .i64 (pd id xs), .int .i64 before] 3))
  go_wp2_with fail
  go_ret
  exact val_of rfl HB2.out
set_option maxRecDepth 100000 in
set_option maxHeartbeats 4000000 in
theorem spec_leaf_any (id : Int) (hid : InI id) (doc : Int) (hdoc : InI doc) (xs : List DpPiece.A) (p : Option Addr) (n c : Nat) (before : Int) (hbef : InI before) {S : Nat → Prop} (w : World) (hr : RdD DpPiece.E S w p n xs) (hm : n + wts DpPiece.E xs ≤ 1048576) : Calls Tryz.prog 101 #[.int .i64 id, .int .i64 doc, .slice p n c, .int .i64 before] w (Val (.int .i64 (leaf id doc xs before)) w) := by
  have HR := Lib.hid hr
  have HM := Lib.hid hm
  have HID : Hid (inK .i64 id) := Lib.hid hid
  have HK := Lib.hid (show allK .i64 [3, doc, pd id xs, before] from allK_cons ⟨by omega, by omega⟩ (allK_cons hdoc (allK_cons (pd_in id xs) (allK_cons hbef (allK_nil _)))))
  clear hr hm hdoc hbef hid
  go_enter Tryz.func101, Tryz.ntmps101
  go_wp2_with fail
  refine (spec_digest_any id HID.out xs _ _ _ _ HR.out HM.out).mono ?_
  rintro e w1 ⟨rfl, hb⟩
  have HB := Lib.hid hb
  clear hb
  have HL := Lib.hid (lit_rd w1 [3, doc, pd id xs, before] HK.out (by simp))
  have HB1 := Lib.hid (HB.out.alloc HB.out.size (.cells #[.int .i64 3, .int .i64 doc, .int .i64 (pd id xs), .int .i64 before] 3))
  go_wp2_with fail
  refine (Dg.spec_dig_any id _ _ _ _ _ HL.out HID.out (by simp)).mono ?_
  rintro e w2 ⟨rfl, hb⟩
  have HB2 := Lib.hid (below_on HB1.out hb)
  clear hb
  go_wp2_with fail
  go_ret
  exact val_of rfl HB2.out
end Go.Proofs.YtfojilogcecphaaGreat.Wl
