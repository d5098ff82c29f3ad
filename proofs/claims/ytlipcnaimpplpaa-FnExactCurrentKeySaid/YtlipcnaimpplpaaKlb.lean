/- The line of keys in the program (a jump back to a label), and the key at its end, in both. -/
import Derived.Test.YtlipcnaimpplpaaKla
import Derived.ScopeJumps
import Derived.WalkMore
import Derived.LoopTactic
import Derived.Outline
namespace Go.Proofs.Ytlipcnaimpplpaa.Kl
open Go.ChangeShapes Go.WideShapes Go.ChangeAt Go.RowKit Sl St Fnd Kn Kr Ki Km Ko SlSuccession Nx Hx
/-- the number of elements in the box -/
def dlen (g : Nat) (w : World) : Nat := match w.cell? ⟨g, 0, none⟩ with
  | some (.slice _ n _) => n
  | _ => 0
theorem dl_len {g : Nat} {out : List Int} {w : World} (h : Dl g out w) : dlen g w = out.length := by
  obtain ⟨p, n, c, hb, ho⟩ := h
  unfold dlen
  rw [hb.cell (j := 0) rfl]
  exact ho.len.symm
theorem Dl.below {g : Nat} {out : List Int} {w w' : World} (h : Dl g out w) (hb : Below w.heap.size w w') : Dl g out w' := by
  obtain ⟨p, n, c, hx, ho⟩ := h
  exact ⟨p, n, c, hx.below hb, (ho.below hb).wide (Nat.le_refl _) hb.size (Nat.le_refl _)⟩
theorem dl_same {g : Nat} {out : List Int} {w w' : World} (h : Dl g out w) (hb : Below w.heap.size w w') : dlen g w' = dlen g w := by rw [dl_len h, dl_len (h.below hb)]
theorem dl_len_lt {g : Nat} {out : List Int} {x : Int} {w w' : World} (h : Dl g out w) (h' : Dl g (out ++ [x]) w') : dlen g w < dlen g w' := by
  rw [dl_len h, dl_len h', List.length_append]
  simp
theorem dl_new (w : World) : Dl w.heap.size [] (w.alloc (.cells #[.slice none 0 0] 80)) := ⟨none, 0, 0, Bx.new _ _ _, (Ow.nil_ .i64 3 (w.alloc (.cells #[.slice none 0 0] 80)) (w.heap.size + 1) (by rw [World.size_alloc]; exact Nat.le_refl _)).wide (Nat.le_refl _) (by rw [World.size_alloc]; exact Nat.le_refl _) (Nat.le_refl _)⟩
set_option maxRecDepth 100000 in
set_option maxHeartbeats 8000000 in
theorem keyLine_any (p : Option Addr) (n c : Nat) (ks : List I5) (hR : ∀ x ∈ ks, SlKey.InR x) (q : Option Addr) (m c' : Nat) (xs : List I4) (hX : ∀ x ∈ xs, InR x) (key t : Int) (hk : inK .i64 key) (w : World) (hr : RdS SlKey.E w p n ks) (hs : RdS E w q m xs) (hm : m ≤ 10000000) : Calls Try.prog 20 #[.slice p n c, .slice q m c', .int .i64 key, .int .i64 t] w (SlI.Makes (lineOf ks xs key t) w) := by
  have HR := Lib.hid hr
  have HS := Lib.hid hs
  have HL : Hid (xs.length ≤ 10000000 ∧ xs.length ≤ m) := Lib.hid (by have := hs.len; omega)
  have HD0 := Lib.hid (dl_new w)
  have HB0 := Lib.hid (Ki.box1 w (.cells #[.slice none 0 0] 80))
  have HKK := Lib.hid hk
  clear hr hs hk
  go_enter Try.func20, Try.ntmps20
  go_wp2_with fail
  by_cases hf : find ks key < 0
  · have HE : Hid (lineOf ks xs key t = []) := Lib.hid (by unfold lineOf; rw [if_pos hf])
    refine wp_scope_jumps 0 (fun _ _ => False) (fun _ w' => m + 3 - dlen w.heap.size w') rfl ?_ ?_
    · go_wp2_with fail
      refine (FKey.find_any _ _ _ _ _ _ (HR.out.below HB0.out)).mono ?_
      rintro e w1 ⟨rfl, hb1⟩
      have HB1 := Lib.hid (below_on HB0.out hb1)
      have HD1 := Lib.hid (HD0.out.below hb1)
      clear hb1
      obtain ⟨p1, n1, c1, hbx, ho⟩ := HD1.out
      have x0 := hbx.cell (j := 0) rfl
      have HOW := Lib.hid (ho.wide (lo' := w.heap.size) (Nat.le_succ _) (Nat.le_refl _) (Nat.le_refl _))
      clear hbx ho
      go_wp2_with fail
      simp only [Exit.jump]
      go_ret
      exact ⟨_, _, _, rfl, by rw [HE.out]; exact HOW.out, HB1.out⟩
    · rintro a' w' hj
      exact hj.elim
  have HE : Hid (lineOf ks xs key t = line ks xs key t) := Lib.hid (by unfold lineOf; rw [if_neg hf])
  have hf0 : (0 : Int) ≤ find ks key := by omega
  refine wp_scope_jumps 0 (fun a' w' => ∃ (y : Int) (out : List Int) (u4 u5 u6 u7 u8 u10 u11 u12 u13 u14 u15 u16 u17 u18 u19 u20 u21 u22 u23 u24 u25 u26 u27 u28 : Value), a' = { tmps := #[.slice p n c, .slice q m c', .int .i64 y, .int .i64 t, u4, u5, u6, u7, u8, .pointer (some ⟨w.heap.size, 0, none⟩), u10, u11, u12, u13, u14, u15, u16, u17, u18, u19, u20, u21, u22, u23, u24, u25, u26, u27, u28], defers := [] } ∧ inK .i64 y ∧ Way ks xs key t y out ∧ Dl w.heap.size out w' ∧ Below w.heap.size w w') (fun _ w' => m + 3 - dlen w.heap.size w') rfl ?_ ?_
  · go_wp2_with fail
    refine (FKey.find_any _ _ _ _ _ _ (HR.out.below HB0.out)).mono ?_
    rintro e w1 ⟨rfl, hb1⟩
    have HB := Lib.hid (below_on HB0.out hb1)
    have HD := Lib.hid (HD0.out.below hb1)
    have HW := Lib.hid (Way.start ks xs key t)
    have HY := HKK
    clear hb1
    go_wp2_with fail
    go_step3
    by_cases h0 : key = 0
    · have HDn := Lib.hid (HE.out.trans (HW.out.done (.inl h0)).symm)
      have h00 : (key != 0) = false := by simp [h0]
      have h01 : (key == 0) = true := by simp [h0]
      have HBF := HB
      clear h0
      obtain ⟨p1, n1, c1, hbx, ho⟩ := HD.out
      have x0 := hbx.cell (j := 0) rfl
      have HOW := Lib.hid (ho.wide (lo' := w.heap.size) (Nat.le_succ _) (Nat.le_refl _) (Nat.le_refl _))
      clear hbx ho
      go_wp2_with fail
      simp only [Exit.jump]
      go_ret
      exact ⟨_, _, _, rfl, by rw [HDn.out]; exact HOW.out, HBF.out⟩
    have h00 : (key != 0) = true := bne_iff_ne.2 h0
    have h01 : (key == 0) = false := beq_eq_false_iff_ne.2 h0
    rcases hh : hasI [] key with _ | _
    · have HN := Lib.hid (HW.out.next h0 hh)
      have HH := Lib.hid hh
      have HNI := Lib.hid (next_inK (ks := ks) hX key t)
      have hlen : ([] : List Int).length ≤ 20000000 := by have h1 := HW.out.len; have h2 := HL.out; omega
      clear hh h0
      go_wp2_with fail
      refine (add_new w.heap.size [] key _ HD.out HH.out HY.out hlen).mono ?_
      rintro e w2 ⟨rfl, hd2, hb2⟩
      have HB2 := Lib.hid (HB.out.trans hb2)
      have HD2 := Lib.hid hd2
      clear hd2 hb2 hlen
      go_wp2_with fail
      refine (next_any p n c ks hR q m c' xs hX key t _ (HR.out.below HB2.out) (HS.out.below HB2.out)).mono ?_
      rintro e w3 ⟨rfl, hb3⟩
      have HB3 := Lib.hid (HB2.out.trans (hb3.mono HB2.out.size))
      have HD3 := Lib.hid (HD2.out.below hb3)
      clear hb3
      generalize next ks xs key t = y2 at HN HNI ⊢
      go_wp2_with fail
      go_step3
      exact ⟨rfl, ⟨y2, [] ++ [key], _, _, _, _, _, _, _, _, _, _, _, _, _, _, _, _, _, _, _, _, _, _, _, _, rfl, HNI.out, HN.out, HD3.out, HB3.out⟩⟩
    · have HDn := Lib.hid (HE.out.trans (HW.out.done (.inr hh)).symm)
      have HH := Lib.hid hh
      have HBF := HB
      clear hh h0
      go_wp2_with fail
      refine (add_there w.heap.size [] key _ HD.out HH.out).mono ?_
      rintro e w2 ⟨rfl, rfl⟩
      obtain ⟨p1, n1, c1, hbx, ho⟩ := HD.out
      have x0 := hbx.cell (j := 0) rfl
      have HOW := Lib.hid (ho.wide (lo' := w.heap.size) (Nat.le_succ _) (Nat.le_refl _) (Nat.le_refl _))
      clear hbx ho
      go_wp2_with fail
      simp only [Exit.jump]
      go_ret
      exact ⟨_, _, _, rfl, by rw [HDn.out]; exact HOW.out, HBF.out⟩
  · rintro a' w' ⟨y, out, u4, u5, u6, u7, u8, u10, u11, u12, u13, u14, u15, u16, u17, u18, u19, u20, u21, u22, u23, u24, u25, u26, u27, u28, rfl, hy, hw, hd, hb⟩
    have HY := Lib.hid hy
    have HW := Lib.hid hw
    have HD := Lib.hid hd
    have HB := Lib.hid hb
    clear hy hw hd hb
    by_cases h0 : y = 0
    · have HDn := Lib.hid (HE.out.trans (HW.out.done (.inl h0)).symm)
      have h00 : (y != 0) = false := by simp [h0]
      have h01 : (y == 0) = true := by simp [h0]
      have HBF := HB
      clear h0
      obtain ⟨p1, n1, c1, hbx, ho⟩ := HD.out
      have x0 := hbx.cell (j := 0) rfl
      have HOW := Lib.hid (ho.wide (lo' := w.heap.size) (Nat.le_succ _) (Nat.le_refl _) (Nat.le_refl _))
      clear hbx ho
      go_wp2_with fail
      simp only [Exit.jump]
      go_ret
      exact ⟨_, _, _, rfl, by rw [HDn.out]; exact HOW.out, HBF.out⟩
    have h00 : (y != 0) = true := bne_iff_ne.2 h0
    have h01 : (y == 0) = false := beq_eq_false_iff_ne.2 h0
    rcases hh : hasI out y with _ | _
    · have HN := Lib.hid (HW.out.next h0 hh)
      have HH := Lib.hid hh
      have HNI := Lib.hid (next_inK (ks := ks) hX y t)
      have hlen : (out : List Int).length ≤ 20000000 := by have h1 := HW.out.len; have h2 := HL.out; omega
      clear hh h0
      go_wp2_with fail
      refine (add_new w.heap.size out y _ HD.out HH.out HY.out hlen).mono ?_
      rintro e w2 ⟨rfl, hd2, hb2⟩
      have HB2 := Lib.hid (HB.out.trans hb2)
      have HD2 := Lib.hid hd2
      have HLt := Lib.hid (dl_len_lt (out := out) (x := y) HD.out hd2)
      clear hd2 hb2 hlen
      go_wp2_with fail
      refine (next_any p n c ks hR q m c' xs hX y t _ (HR.out.below HB2.out) (HS.out.below HB2.out)).mono ?_
      rintro e w3 ⟨rfl, hb3⟩
      have HB3 := Lib.hid (HB2.out.trans (hb3.mono HB2.out.size))
      have HD3 := Lib.hid (HD2.out.below hb3)
      have HLt3 : Hid (dlen w.heap.size w3 = dlen w.heap.size w2) := Lib.hid (dl_same HD2.out hb3)
      have HMax : Hid (dlen w.heap.size w2 ≤ m + 2) := Lib.hid (by have h1 := HN.out.len; have h2 := HL.out; have h3 := dl_len HD2.out; omega)
      clear hb3
      generalize next ks xs y t = y2 at HN HNI ⊢
      go_wp2_with fail
      go_step3
      exact ⟨rfl, ⟨y2, out ++ [y], _, _, _, _, _, _, _, _, _, _, _, _, _, _, _, _, _, _, _, _, _, _, _, _, rfl, HNI.out, HN.out, HD3.out, HB3.out⟩, by have h1 := HLt.out; have h2 := HLt3.out; have h3 := HMax.out; show m + 3 - dlen w.heap.size w3 < m + 3 - dlen w.heap.size _; omega⟩
    · have HDn := Lib.hid (HE.out.trans (HW.out.done (.inr hh)).symm)
      have HH := Lib.hid hh
      have HBF := HB
      clear hh h0
      go_wp2_with fail
      refine (add_there w.heap.size out y _ HD.out HH.out).mono ?_
      rintro e w2 ⟨rfl, rfl⟩
      obtain ⟨p1, n1, c1, hbx, ho⟩ := HD.out
      have x0 := hbx.cell (j := 0) rfl
      have HOW := Lib.hid (ho.wide (lo' := w.heap.size) (Nat.le_succ _) (Nat.le_refl _) (Nat.le_refl _))
      clear hbx ho
      go_wp2_with fail
      simp only [Exit.jump]
      go_ret
      exact ⟨_, _, _, rfl, by rw [HDn.out]; exact HOW.out, HBF.out⟩
theorem lineF_len (ks : List I5) (xs : List I4) (key0 t : Int) : ∀ (f : Nat) (key : Int) (out : List Int), Way ks xs key0 t key out → (lineF ks xs t f key out).length ≤ xs.length + 1
  | 0, _, _, h => h.len
  | f + 1, key, out, h => by
    unfold lineF
    by_cases hc : key = 0 ∨ hasI out key = true
    · rw [if_pos hc]; exact h.len
    · rw [if_neg hc]
      have hc' : key ≠ 0 ∧ hasI out key = false := ⟨fun e => hc (.inl e), by rcases hh : hasI out key with _ | _; rfl; exact absurd (.inr hh) hc⟩
      exact lineF_len ks xs key0 t f _ _ (h.next hc'.1 hc'.2)
theorem lineOf_len (ks : List I5) (xs : List I4) (key t : Int) : (lineOf ks xs key t).length ≤ xs.length + 1 := by
  unfold lineOf
  split
  · simp
  · exact lineF_len ks xs key t _ _ _ (Way.start ks xs key t)
/-! ### the key at the end -/
def cur : List Int → Int
  | [] => 0
  | x :: l => (x :: l).getD l.length 0
set_option maxRecDepth 100000 in
set_option maxHeartbeats 4000000 in
theorem current_any (p : Option Addr) (n c : Nat) (ks : List I5) (hR : ∀ x ∈ ks, SlKey.InR x) (q : Option Addr) (m c' : Nat) (xs : List I4) (hX : ∀ x ∈ xs, InR x) (key t : Int) (hk : inK .i64 key) (w : World) (hr : RdS SlKey.E w p n ks) (hs : RdS E w q m xs) (hm : m ≤ 10000000) : Calls Try.prog 26 #[.slice p n c, .slice q m c', .int .i64 key, .int .i64 t] w (Val (.int .i64 (cur (lineOf ks xs key t))) w) := by
  have HR := Lib.hid hr
  have HS := Lib.hid hs
  have HKK := Lib.hid hk
  obtain ⟨ms, hms⟩ : ∃ ms, lineOf ks xs key t = ms := ⟨_, rfl⟩
  have HMs := Lib.hid hms
  rw [hms]
  clear hr hs hk hms
  go_enter Try.func26, Try.ntmps26
  go_wp2_with fail
  refine (keyLine_any p n c ks hR q m c' xs hX key t HKK.out w HR.out HS.out hm).mono ?_
  rintro e w1 ⟨p1, n1, c1, rfl, ho1, hb⟩
  rw [HMs.out] at ho1
  have HB1 := Lib.hid hb
  clear hb HMs
  cases ms with
  | nil =>
    obtain rfl : n1 = 0 := ho1.len.symm
    clear ho1
    go_wp2_with fail
    go_ret
    exact ⟨rfl, HB1.out⟩
  | cons y ys =>
    have hl : ys.length + 1 = n1 := ho1.len
    obtain ⟨l, hl0⟩ : ∃ l, ys.length = l := ⟨_, rfl⟩
    rw [hl0] at hl
    subst hl
    have e0 : (((l + 1 : Nat) : Int) == 0) = false := beq_eq_false_iff_ne.2 (by omega)
    have e3 : (((l : Int) + 1) == 0) = false := beq_eq_false_iff_ne.2 (by omega)
    have hle := ho1.rd.le
    obtain ⟨b, o, rfl, hbb, hc⟩ := ho1.rd.at_ (i := l) (by omega)
    have HV : Hid (cur (y :: ys) = (y :: ys).getD l 0) := Lib.hid (by rw [← hl0]; rfl)
    generalize (y :: ys).getD l 0 = v at hc HV
    have jw : IntKind.i64.wrap (l : Int) = (l : Int) := IntWalk.i64_in _ (by omega)
    have j1 : (0 : Int) ≤ (l : Int) := by omega
    have j2 : (l : Int) < ((l + 1 : Nat) : Int) := by omega
    clear ho1 hl0 hbb
    go_wp2_with fail
    go_ret
    exact ⟨by rw [HV.out]; first | done | rfl, HB1.out⟩
set_option maxRecDepth 100000 in
set_option maxHeartbeats 4000000 in
theorem spec_current_any (p : Option Addr) (n c : Nat) (ks : List I5) (hR : ∀ x ∈ ks, SlKey.InR x) (q : Option Addr) (m c' : Nat) (xs : List I4) (hX : ∀ x ∈ xs, InR x) (key t : Int) (hk : inK .i64 key) (w : World) (hr : RdS SlKey.E w p n ks) (hs : RdS E w q m xs) (hm : m ≤ 10000000) : Calls Try.prog 25 #[.slice p n c, .slice q m c', .int .i64 key, .int .i64 t] w (Val (.int .i64 (cur (lineOf ks xs key t))) w) := by
  have HR := Lib.hid hr
  have HS := Lib.hid hs
  have HKK := Lib.hid hk
  obtain ⟨ms, hms⟩ : ∃ ms, lineOf ks xs key t = ms := ⟨_, rfl⟩
  have HMs := Lib.hid hms
  rw [hms]
  clear hr hs hk hms
  go_enter Try.func25, Try.ntmps25
  go_wp2_with fail
  refine (spec_keyLine_any p n c ks hR q m c' xs hX key t HKK.out w HR.out HS.out hm).mono ?_
  rintro e w1 ⟨p1, n1, c1, rfl, ho1, hb⟩
  rw [HMs.out] at ho1
  have HB1 := Lib.hid hb
  clear hb HMs
  cases ms with
  | nil =>
    obtain rfl : n1 = 0 := ho1.len.symm
    clear ho1
    go_wp2_with fail
    go_ret
    exact ⟨rfl, HB1.out⟩
  | cons y ys =>
    have hl : ys.length + 1 = n1 := ho1.len
    obtain ⟨l, hl0⟩ : ∃ l, ys.length = l := ⟨_, rfl⟩
    rw [hl0] at hl
    subst hl
    have e0 : (((l + 1 : Nat) : Int) == 0) = false := beq_eq_false_iff_ne.2 (by omega)
    have e3 : (((l : Int) + 1) == 0) = false := beq_eq_false_iff_ne.2 (by omega)
    have hle := ho1.rd.le
    obtain ⟨b, o, rfl, hbb, hc⟩ := ho1.rd.at_ (i := l) (by omega)
    have HV : Hid (cur (y :: ys) = (y :: ys).getD l 0) := Lib.hid (by rw [← hl0]; rfl)
    generalize (y :: ys).getD l 0 = v at hc HV
    have jw : IntKind.i64.wrap (l : Int) = (l : Int) := IntWalk.i64_in _ (by omega)
    have j1 : (0 : Int) ≤ (l : Int) := by omega
    have j2 : (l : Int) < ((l + 1 : Nat) : Int) := by omega
    clear ho1 hl0 hbb
    go_wp2_with fail
    go_ret
    exact ⟨by rw [HV.out]; first | done | rfl, HB1.out⟩
end Go.Proofs.Ytlipcnaimpplpaa.Kl
