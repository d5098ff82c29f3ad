/- A new document: the program's. -/
import Derived.Test.YtjlckfbacphblaaDr
import Derived.Test.YtjlckfbacphblaaHs
import Derived.Test.YtjlckfbacphblaaDs
import Derived.Deep.RegionLaw
namespace Go.Proofs.Ytjlckfbacphblaa.Dn
open Go.ChangeShapes Go.WideShapes Go.ChangeAt Go.RowKit Sl St Dm Dk SlDoc Mk Dt Dr Ints Hs

def saltAt (t seed : Int) (i : Nat) : Int := maxI 1 (khash seed [t, (i : Int)])
theorem saltAt_in (t seed : Int) (i : Nat) : 1 ≤ saltAt t seed i ∧ saltAt t seed i ≤ 2147483646 := by
  have h := khash_in seed [t, (i : Int)]
  unfold saltAt maxI
  omega
def saltsN (t seed : Int) (k : Nat) : List Int := (List.range k).map (saltAt t seed)
theorem salts_next (t seed : Int) (k : Nat) : saltsN t seed k ++ [saltAt t seed k] = saltsN t seed (k + 1) := by
  unfold saltsN
  rw [List.range_succ, List.map_append]
  rfl
theorem salts_len (t seed : Int) (k : Nat) : (saltsN t seed k).length = k := by simp [saltsN]
def mkB (t seed : Int) (parts : List ByteArray) : Bool := docOk (t, parts, saltsN t seed parts.length) && validB seed
def mkD (t seed : Int) (parts : List ByteArray) : Dc := if mkB t seed parts = true then (t, parts, saltsN t seed parts.length) else (0, [], [])
theorem mk_yes {t seed : Int} {parts : List ByteArray} (h1 : docOk (t, parts, saltsN t seed parts.length) = true) (h2 : validB seed = true) : mkB t seed parts = true ∧ mkD t seed parts = (t, parts, saltsN t seed parts.length) := by
  have h : mkB t seed parts = true := by unfold mkB; rw [h1, h2]; rfl
  exact ⟨h, by unfold mkD; rw [h]; simp⟩
theorem mk_no {t seed : Int} {parts : List ByteArray} (h : docOk (t, parts, saltsN t seed parts.length) = false ∨ validB seed = false) : mkB t seed parts = false ∧ mkD t seed parts = (0, [], []) := by
  have h1 : mkB t seed parts = false := by
    unfold mkB
    rcases h with h | h
    · rw [h]; rfl
    · rw [h]; simp
  exact ⟨h1, by unfold mkD; rw [h1]; simp⟩
/-- on the way: the result's box, the document's box B with the salts of k parts, what lay before -/
def Way (t seed : Int) (parts : List ByteArray) (n c1 : Nat) (p1 : Option Addr) (B k d : Nat) (q : Option Addr) (w wr : World) : Prop :=
  Bx wr w.heap.size 27 #[.int .i64 0, .slice none 0 0, .slice none 0 0] ∧ Bx wr B 27 #[.int .i64 t, .slice p1 n c1, .slice q k d] ∧ OwS SlStr.E 9 wr (w.heap.size + 1) B p1 n c1 parts ∧ Ow .i64 3 wr (B + 1) wr.heap.size q k d (saltsN t seed k) ∧ Below w.heap.size w wr ∧ w.heap.size + 1 ≤ B
theorem Way.next {t seed : Int} {parts : List ByteArray} {n c1 : Nat} {p1 : Option Addr} {B k d c4 : Nat} {q p4 : Option Addr} {w wr w3 w4 : World} (h : Way t seed parts n c1 p1 B k d q w wr) (hb : Below wr.heap.size wr w3) (hg : w3.grownBy w4 (Value.slice q k d).ownBlock) (how : Ow .i64 3 w4 (B + 1) w4.heap.size p4 (k + 1) c4 (saltsN t seed k ++ [saltAt t seed k])) : Way t seed parts n c1 p1 B (k + 1) c4 p4 w (w4.setCell ⟨B, 2, none⟩ (.slice p4 (k + 1) c4)) := by
  obtain ⟨h1, h2, h3, h4, h5, h6⟩ := h
  have hf := (h4.below hb).far
  have hS : w4.grownBy (w4.setCell ⟨B, 2, none⟩ (.slice p4 (k + 1) c4)) (some B) := grown_set _ _ _
  rw [salts_next] at how
  refine ⟨((h1.below hb).grown hg (fun e => by have := hf _ e.symm; omega)).far (by show w.heap.size ≠ B; omega) _, ((h2.below hb).grown hg (fun e => by have := hf _ e.symm; omega)).set_ 2 _, ((h3.below hb).kept hg (fun g e => by have := hf g e; omega)).kept hS (fun g e => by cases e; omega), (how.kept hS (fun g e => by cases e; omega)).wide (Nat.le_refl _) hS.size (Nat.le_refl _), ?_, h6⟩
  exact ((below_on h5 hb).grown hg (below_on h5 hb).size (fun g e => by have := hf g e; omega)).grown hS ((below_on h5 hb).grown hg (below_on h5 hb).size (fun g e => by have := hf g e; omega)).size (fun g e => by cases e; omega)
/-- a literal of two ints -/
theorem lit2 (w : World) (x y : Int) (hx : inK .i64 x) (hy : inK .i64 y) : Rd .i64 (w.alloc (.cells #[.int .i64 x, .int .i64 y] 3)) (some ⟨w.heap.size, 0, none⟩) 2 [x, y] := by
  have h := Ow.of_row (k := .i64) (lo := w.heap.size) (World.ownsRow_lit (e := 3) w #[.int .i64 x, .int .i64 y] 2 (Nat.le_refl _) (by unfold maxLen; omega) rfl) (zs := [x, y]) (fun z hz => by
    simp only [List.mem_cons, List.not_mem_nil, or_false] at hz
    rcases hz with rfl | rfl
    · exact hx
    · exact hy)
  exact h.rd
theorem max_salt (t seed : Int) (k : Nat) (v : Int) (hv : saltAt t seed k = v) (w : World) : Calls Try.prog 51 #[.int .i64 1, .int .i64 (khash seed [t, (k : Int)])] w fun e w' => e = .returned (.int .i64 v) ∧ Below w.heap.size w w' := by
  refine (max_any _ _ _).mono ?_
  rintro e w1 ⟨rfl, rfl⟩
  exact ⟨by rw [← hv]; rfl, box1 _ _⟩
set_option maxRecDepth 100000 in
set_option maxHeartbeats 8000000 in
theorem mk_any (t : Int) (p : Option Addr) (n c : Nat) (parts : List ByteArray) (seed : Int) (w : World) (hr : RdS SlStr.E w p n parts) (hn : n ≤ 1048576) (ht : inK .i64 t) :
    Calls Try.prog 14 #[.int .i64 t, .slice p n c, .int .i64 seed] w (GivesDB (mkD t seed parts) (mkB t seed parts) w) := by
  obtain ⟨i0, hi, hz0, hz1, hz2⟩ := info_parts SlI.info
  have HT := Lib.hid ht
  have HP := Lib.hid hr
  have hl := hr.len
  have HR := Lib.hid (Bx.new w 27 #[.int .i64 0, .slice none 0 0, .slice none 0 0])
  have HB := Lib.hid (box1 w (.cells #[.int .i64 0, .slice none 0 0, .slice none 0 0] 27))
  clear hr ht
  go_enter Try.func14, Try.ntmps14
  go_wp2_with fail
  refine (cloneS_any p n c parts _ (HP.out.below HB.out) hn).mono ?_
  rintro e w1 ⟨p1, n1, c1, rfl, ho, hb⟩
  obtain rfl : n = n1 := by rw [← hl]; exact ho.len
  have hs1 := hb.size
  rw [World.size_alloc] at ho hs1
  have HM : Hid (Way t seed parts n c1 p1 w1.heap.size 0 0 none w (w1.alloc (.cells #[.int .i64 t, .slice p1 n c1, .slice none 0 0] 27))) := Lib.hid
    ⟨(HR.out.below hb).alloc _, Bx.new _ _ _, ho.alloc _, (Ow.nil_ .i64 3 (w1.alloc (.cells #[.int .i64 t, .slice p1 n c1, .slice none 0 0] 27)) (w1.heap.size + 1) (by simp)).wide (Nat.le_refl _) (by simp) (Nat.le_refl _), (below_on HB.out hb).alloc (below_on HB.out hb).size _, hs1⟩
  clear ho hb
  go_wp2_with fail
  go_loopw [9, 16] (fun _ x wr => ∃ (k d : Nat) (q : Option Addr), k ≤ n ∧ x = .int .i64 k ∧ Hid (Way t seed parts n c1 p1 w1.heap.size k d q w wr)) (fun _ x _ => n - (intOf x).toNat)
  case atStart => exact ⟨0, 0, none, Nat.zero_le _, rfl, HM⟩
  case round =>
    obtain ⟨k, d, q, hk, rfl, HK⟩ := hrel
    by_cases hlt : k < n
    · have HX := Lib.hid HK.out.2.1
      have HS := Lib.hid HK.out.2.2.2.1
      have hbs := HX.out.lt
      have HV := Lib.hid (saltAt_in t seed k)
      obtain ⟨v, hv⟩ : ∃ v, saltAt t seed k = v := ⟨_, rfl⟩
      have HE := Lib.hid hv
      rw [hv] at HV
      have HL := Lib.hid (lit2 wr.drew t k HT.out ⟨by omega, by omega⟩)
      have HB0 : Hid (Below wr.heap.size wr (wr.alloc (.cells #[.int .i64 t, .int .i64 k] 3)).drew) := Lib.hid (below_drewN (box1 wr (.cells #[.int .i64 t, .int .i64 k] 3)) 1)
      have x2 := HX.out.cell (j := 2) rfl
      clear hv
      go_wp2_with fail
      go_region_law (first
        | (go_simp; go_at_call 52; refine (khash_any seed _ _ _ _ _ HL.out).mono ?_; rintro e w2 ⟨rfl, rfl⟩)
        | (go_simp; go_at_call 51; refine (max_salt t seed k v HE.out _).mono ?_; rintro e w3 ⟨rfl, hb3⟩; have HB3 := Lib.hid (below_on HB0.out hb3); have x3 := (HX.out.below HB3.out).cell (j := 2) rfl; have x3a := ((HX.out.below HB3.out).alloc (.cells #[.int .i64 v] 3)).cell (j := 2) rfl; have HS3 := Lib.hid (HS.out.below HB3.out); clear hb3)
        | (refine Ds.step_appI rfl (.tmp 20) (.tmp 27) 25 rfl i0 _ 8 Try.underlying25 hi hz0 hz1 hz2 rfl rfl (HS3.out.alloc _) w3.heap.size 1 v rfl (by go_simp) ⟨by have := HV.out; omega, by have := HV.out; omega⟩ (Nat.le_trans (by omega) (Nat.le_trans HB3.out.size (by simp))) (by omega) (by omega) ?_; intro p4 c4 w4 how4 hg4; have HO4 := Lib.hid how4; have hgb := grown_pre (box1 w3 (.cells #[.int .i64 v] 3)) hg4; have HG4 := Lib.hid hgb; have HX4 := Lib.hid ((HX.out.below HB3.out).grown hgb (fun e => by have := HS3.out.far _ e.symm; omega)); have x4 := HX4.out.cell (j := 2) rfl; have f4 := HX4.out.free 2; clear how4 hg4 hgb))
      all_goals
        have HN := Lib.hid (HK.out.next HB3.out HG4.out (by rw [HE.out]; exact HO4.out))
        go_wp2_with fail
        go_roundw
        case rel => exact ⟨k + 1, _, _, by omega, by go_num, HN⟩
        case measure => simp [intOf]; omega
    · obtain rfl : k = n := by omega
      have HX := Lib.hid HK.out.2.1
      have hRl := HK.out.1.lt
      have h6 := HK.out.2.2.2.2.2
      have hsz := HK.out.2.2.2.2.1.size
      obtain ⟨x0, x1, x2⟩ := bx3 HX.out
      have HMK := Lib.hid (mk_yes (t := t) (seed := seed) (parts := parts))
      have HMN := Lib.hid (mk_no (t := t) (seed := seed) (parts := parts))
      rw [hl] at HMK HMN
      rcases hα : docOk (t, parts, saltsN t seed k) with _ | _
      · obtain ⟨e1, e2⟩ := HMN.out (Or.inl hα)
        have HA := Lib.hid hα
        have HE1 := Lib.hid e1
        have HE2 := Lib.hid e2
        clear hα e1 e2
        go_wp2_with fail
        refine (isDoc_any t _ _ _ _ _ _ parts (saltsN t seed k) _ HK.out.2.2.1.rd HK.out.2.2.2.1.rd).mono ?_
        rintro e w2 ⟨rfl, hb⟩
        rw [HA.out]
        have HR2 := Lib.hid (HK.out.1.below hb)
        have HB2 := Lib.hid (below_on HK.out.2.2.2.2.1 hb)
        obtain ⟨r, ho2, hb2⟩ := gives_at (D := (0, [], [])) HR2.out HB2.out (Nat.le_refl _) (OwD.none_ w2 w2.heap.size (Nat.le_refl _)) HB2.out.size (by left; exact HR2.out.lt)
        have HO4 := Lib.hid ho2
        have HB5 := Lib.hid hb2
        obtain ⟨r0, r1, r2⟩ := r
        have f0 := HR2.out.free 0
        have f1 := HR2.out.free 1
        have f2 := HR2.out.free 2
        obtain ⟨z0, z1, z2⟩ := bx3 HR2.out
        clear hb ho2 hb2 x0 x1 x2
        go_wp2_with fail
        exact bodyPost_ret (v := .tuple #[.agg #[.int .i64 0, .slice none 0 0, .slice none 0 0], .bool false]) (by simp [results, Try.results14, go_sem, r0, r1, r2]) rfl ⟨_, _, _, _, _, _, by rw [HE1.out, HE2.out], by rw [HE2.out]; exact HO4.out, HB5.out⟩
      · rcases hγ : validB seed with _ | _
        · obtain ⟨e1, e2⟩ := HMN.out (Or.inr hγ)
          have HA := Lib.hid hα
          have HV := Lib.hid hγ
          have HE1 := Lib.hid e1
          have HE2 := Lib.hid e2
          clear hα hγ e1 e2
          go_wp2_with fail
          refine (isDoc_any t _ _ _ _ _ _ parts (saltsN t seed k) _ HK.out.2.2.1.rd HK.out.2.2.2.1.rd).mono ?_
          rintro e w2 ⟨rfl, hb⟩
          rw [HA.out]
          have HR2 := Lib.hid (HK.out.1.below hb)
          have HB2 := Lib.hid (below_on HK.out.2.2.2.2.1 hb)
          clear hb
          go_wp2_with fail
          refine (valid_any seed _).mono ?_
          rintro e w3 ⟨rfl, hb⟩
          rw [HV.out]
          have HR3 := Lib.hid (HR2.out.below hb)
          have HB3 := Lib.hid (below_on HB2.out hb)
          obtain ⟨r, ho2, hb2⟩ := gives_at (D := (0, [], [])) HR3.out HB3.out (Nat.le_refl _) (OwD.none_ w3 w3.heap.size (Nat.le_refl _)) HB3.out.size (by left; exact HR3.out.lt)
          have HO4 := Lib.hid ho2
          have HB5 := Lib.hid hb2
          obtain ⟨r0, r1, r2⟩ := r
          have f0 := HR3.out.free 0
          have f1 := HR3.out.free 1
          have f2 := HR3.out.free 2
          obtain ⟨z0, z1, z2⟩ := bx3 HR3.out
          clear hb ho2 hb2 x0 x1 x2
          go_wp2_with fail
          exact bodyPost_ret (v := .tuple #[.agg #[.int .i64 0, .slice none 0 0, .slice none 0 0], .bool false]) (by simp [results, Try.results14, go_sem, r0, r1, r2]) rfl ⟨_, _, _, _, _, _, by rw [HE1.out, HE2.out], by rw [HE2.out]; exact HO4.out, HB5.out⟩
        · obtain ⟨e1, e2⟩ := HMK.out hα hγ
          have HA := Lib.hid hα
          have HV := Lib.hid hγ
          have HE1 := Lib.hid e1
          have HE2 := Lib.hid e2
          clear hα hγ e1 e2
          go_wp2_with fail
          refine (isDoc_any t _ _ _ _ _ _ parts (saltsN t seed k) _ HK.out.2.2.1.rd HK.out.2.2.2.1.rd).mono ?_
          rintro e w2 ⟨rfl, hb⟩
          rw [HA.out]
          have HR2 := Lib.hid (HK.out.1.below hb)
          have HX2 := Lib.hid (HX.out.below hb)
          have HB2 := Lib.hid (below_on HK.out.2.2.2.2.1 hb)
          have HD2 := Lib.hid (show OwD w2 (w.heap.size + 1) w2.heap.size p1 k c1 q k d parts (saltsN t seed k) from ⟨by have := HR2.out.lt; omega, (HK.out.2.2.1.below hb).wide (Nat.le_refl _) (by have := HX2.out.lt; omega) (Nat.le_refl _), (HK.out.2.2.2.1.below hb).wide (by omega) hb.size (Nat.le_refl _)⟩)
          clear hb
          go_wp2_with fail
          refine (valid_any seed _).mono ?_
          rintro e w3 ⟨rfl, hb⟩
          rw [HV.out]
          have HR3 := Lib.hid (HR2.out.below hb)
          have HX3 := Lib.hid (HX2.out.below hb)
          have HB3 := Lib.hid (below_on HB2.out hb)
          obtain ⟨r, ho2, hb2⟩ := gives_at (D := (t, parts, saltsN t seed k)) HR3.out HB3.out (Nat.le_refl _) (HD2.out.below hb) (by omega) (by left; omega)
          have HO4 := Lib.hid ho2
          have HB5 := Lib.hid hb2
          obtain ⟨r0, r1, r2⟩ := r
          have f0 := HR3.out.free 0
          have f1 := HR3.out.free 1
          have f2 := HR3.out.free 2
          obtain ⟨z0, z1, z2⟩ := bx3 HR3.out
          clear hb ho2 hb2 x0 x1 x2
          obtain ⟨y0, y1, y2⟩ := bx3 HX3.out
          go_wp2_with fail
          exact bodyPost_ret (v := .tuple #[.agg #[.int .i64 t, .slice p1 k c1, .slice q k d], .bool true]) (by simp [results, Try.results14, go_sem, r0, r1, r2]) rfl ⟨_, _, _, _, _, _, by rw [HE1.out, HE2.out], by rw [HE2.out]; exact HO4.out, HB5.out⟩
end Go.Proofs.Ytjlckfbacphblaa.Dn
