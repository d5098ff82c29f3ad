/- Contract: the program's MeetAll. -/
import Derived.Test.YtcenbbbghhmpfaaJi
namespace Go.Proofs.Ytcenbbbghhmpfaa.Jm
open Go.ChangeShapes Go.WideShapes Go.ChangeAt Go.RowKit Sl St Jn Sps SlSpan Jo Ji

/-- on the way: met so far, in the own row; what is left of both lists lies apart -/
def MMem (A B M : List Sp) (pa : Option Addr) (na : Nat) (pb : Option Addr) (nb : Nat) (g m cc : Nat) (w wr : World) : Prop :=
  OwS E 28 wr w.heap.size wr.heap.size (some ⟨g, 0, none⟩) m cc M ∧ RdS E wr pa na A ∧ RdS E wr pb nb B ∧ (∀ b o, pa = some ⟨b, o, none⟩ → b ≠ g ∧ b < wr.heap.size) ∧ (∀ b o, pb = some ⟨b, o, none⟩ → b ≠ g ∧ b < wr.heap.size) ∧ Below w.heap.size w wr
def MWay (A B M : List Sp) (i j : Nat) (pa : Option Addr) (na : Nat) (pb : Option Addr) (nb : Nat) (g m cc : Nat) (w wr : World) : Prop :=
  MMem (A.drop i) (B.drop j) M pa na pb nb g m cc w wr ∧ Two A B i j M
theorem MMem.on {A B M : List Sp} {pa pb : Option Addr} {na nb g m cc : Nat} {w wr w2 : World} (h : MMem A B M pa na pb nb g m cc w wr) (hb : Below wr.heap.size wr w2) : MMem A B M pa na pb nb g m cc w w2 :=
  ⟨(h.1.below hb).wide (Nat.le_refl _) hb.size (Nat.le_refl _), h.2.1.below hb, h.2.2.1.below hb, fun b o e => ⟨(h.2.2.2.1 b o e).1, Nat.lt_of_lt_of_le (h.2.2.2.1 b o e).2 hb.size⟩, fun b o e => ⟨(h.2.2.2.2.1 b o e).1, Nat.lt_of_lt_of_le (h.2.2.2.2.1 b o e).2 hb.size⟩, below_on h.2.2.2.2.2 hb⟩
theorem MMem.app {A B M : List Sp} {pa pb : Option Addr} {na nb g m cc g3 c3 : Nat} {w wr w3 : World} {x : Sp} (h : MMem A B M pa na pb nb g m cc w wr) (how : OwS E 28 w3 w.heap.size w3.heap.size (some ⟨g3, 0, none⟩) (m + 1) c3 (M ++ [x])) (hg : wr.grownBy w3 (Value.slice (some ⟨g, 0, none⟩) m cc).ownBlock) (hat : (Value.slice (some ⟨g, 0, none⟩) m cc).ownBlock = some g3 ∨ g3 = wr.heap.size) : MMem A B (M ++ [x]) pa na pb nb g3 (m + 1) c3 w w3 := by
  have e0 : (Value.slice (some ⟨g, 0, none⟩) m cc).ownBlock = some g := rfl
  rw [e0] at hg hat
  have ap : ∀ b, b ≠ g ∧ b < wr.heap.size → b ≠ g3 ∧ b < w3.heap.size := fun b ⟨h1, h2⟩ => by
    have h4 := hg.size
    refine ⟨?_, by omega⟩
    rcases hat with hat | hat
    · simp only [Option.some.injEq] at hat
      omega
    · omega
  exact ⟨how, h.2.1.grown hg (fun b o e hh => (h.2.2.2.1 b o e).1 (by simpa using hh)), h.2.2.1.grown hg (fun b o e hh => (h.2.2.2.2.1 b o e).1 (by simpa using hh)), fun b o e => ap b (h.2.2.2.1 b o e), fun b o e => ap b (h.2.2.2.2.1 b o e), h.2.2.2.2.2.grown hg h.2.2.2.2.2.size (fun k e => by cases e; exact (h.1.far g rfl).1)⟩
theorem MMem.left {A B M : List Sp} {pa pb pa' : Option Addr} {k nb g m cc : Nat} {w wr : World} (h : MMem A B M pa (k + 1) pb nb g m cc w wr) (hp : 0 < k → ∀ b o, pa = some ⟨b, o, none⟩ → pa' = some ⟨b, o + 2, none⟩) (hq : ∀ b o, pa' = some ⟨b, o, none⟩ → ∃ o', pa = some ⟨b, o', none⟩) : MMem (A.drop 1) B M pa' k pb nb g m cc w wr := by
  have h1 := h.2.1.cut (lo := 1) (m := k) (p' := pa') (by omega) (fun h0 b o e => by rw [hp h0 b o e]; rfl)
  have h2 := h.2.1.len
  rw [List.take_of_length_le (by rw [List.length_drop]; omega)] at h1
  exact ⟨h.1, h1, h.2.2.1, fun b o e => by obtain ⟨o', e'⟩ := hq b o e; exact h.2.2.2.1 b o' e', h.2.2.2.2⟩
theorem MMem.right {A B M : List Sp} {pa pb pb' : Option Addr} {na k g m cc : Nat} {w wr : World} (h : MMem A B M pa na pb (k + 1) g m cc w wr) (hp : 0 < k → ∀ b o, pb = some ⟨b, o, none⟩ → pb' = some ⟨b, o + 2, none⟩) (hq : ∀ b o, pb' = some ⟨b, o, none⟩ → ∃ o', pb = some ⟨b, o', none⟩) : MMem A (B.drop 1) M pa na pb' k g m cc w wr := by
  have h1 := h.2.2.1.cut (lo := 1) (m := k) (p' := pb') (by omega) (fun h0 b o e => by rw [hp h0 b o e]; rfl)
  have h2 := h.2.2.1.len
  rw [List.take_of_length_le (by rw [List.length_drop]; omega)] at h1
  exact ⟨h.1, h.2.1, h1, h.2.2.2.1, fun b o e => by obtain ⟨o', e'⟩ := hq b o e; exact h.2.2.2.2.1 b o' e', h.2.2.2.2.2⟩
theorem MMem.drewN {A B M : List Sp} {pa pb : Option Addr} {na nb g m cc : Nat} {w wr : World} (h : MMem A B M pa na pb nb g m cc w wr) (q : Nat) : MMem A B M pa na pb nb g m cc w (wr.drewN q) := h.on (below_drewN (Below.refl _ _) q)
def slen : Value → Nat
  | .slice _ n _ => n
  | _ => 0
theorem drop_first {L : List Sp} {i : Nat} (h : i < L.length) : L[i] = (L.drop i).getD 0 zero := by
  rw [List.getD_eq_getElem?_getD, List.getElem?_drop, Nat.add_zero, List.getElem?_eq_getElem h]
  rfl
theorem MMem.heads {A B M : List Sp} {i j b o b' o' na nb g m cc : Nat} {w wr : World} {x y : Sp} (h : MMem (A.drop i) (B.drop j) M (some ⟨b, o, none⟩) na (some ⟨b', o', none⟩) nb g m cc w wr) (hna : 0 < na) (hnb : 0 < nb) (hA : i < A.length) (hx : A[i] = x) (hB : j < B.length) (hy : B[j] = y) : At wr b o x ∧ At wr b' o' y := by
  obtain ⟨b1, o1, e1, _, h1⟩ := rd_at h.2.1 hna
  obtain ⟨b2, o2, e2, _, h2⟩ := rd_at h.2.2.1 hnb
  simp only [Option.some.injEq, Addr.mk.injEq, and_true] at e1 e2
  obtain ⟨rfl, rfl⟩ := e1
  obtain ⟨rfl, rfl⟩ := e2
  rw [← drop_first hA, hx] at h1
  rw [← drop_first hB, hy] at h2
  exact ⟨h1, h2⟩
theorem own_apart {w wr : World} {T : TypeId} {lo hi n c g : Nat} {p : Option Addr} {xs : List Sp} (h : OwS E T w lo hi p n c xs) (hg : g < lo) (hs : hi ≤ wr.heap.size) : ∀ b o, p = some ⟨b, o, none⟩ → b ≠ g ∧ b < wr.heap.size := by
  intro b o e
  rcases h.form with ⟨h1, _⟩ | ⟨g', h1, h2, h3, _⟩
  · rw [h1] at e; cases e
  · rw [h1] at e
    simp only [Option.some.injEq, Addr.mk.injEq, and_true] at e
    omega
set_option maxRecDepth 100000 in
set_option maxHeartbeats 8000000 in
theorem meetAll_any (p p' : Option Addr) (n n' c c' : Nat) (xs ys : List Sp) (w : World) (hr : RdS E w p n xs) (hr' : RdS E w p' n' ys) (hn : n ≤ 1048576) (hn' : n' ≤ 1048576) : Calls Try.prog 21 #[.slice p n c, .slice p' n' c'] w (Makes (join (mall xs ys)) w) := by
  obtain ⟨i0, hi, hz0, hz1, hz2⟩ := info_parts info
  have HR := Lib.hid (hr.alloc (.cells #[] 28))
  have HR' := Lib.hid (hr'.alloc (.cells #[] 28))
  have HL := Lib.hid hr.len
  have HL' := Lib.hid hr'.len
  clear hr hr'
  go_enter Try.func21, Try.ntmps21
  go_wp2_with fail
  refine (join_any _ _ _ _ _ HR.out (by omega)).mono ?_
  rintro e w1 ⟨pa, na, ca, rfl, ho1, hb1⟩
  have HO1 := Lib.hid ho1
  have HB1 := Lib.hid hb1
  have HR1 := Lib.hid (HR'.out.below hb1)
  clear ho1 hb1
  go_wp2_with fail
  refine (join_any _ _ _ _ _ HR1.out (by omega)).mono ?_
  rintro e w2 ⟨pb, nb, cb, rfl, ho2, hb2⟩
  have HO2 := Lib.hid ho2
  have HOA := Lib.hid (HO1.out.below hb2)
  have HB2 : Hid (Below w.heap.size w w2) := Lib.hid (below_on (((Below.refl w.heap.size w).alloc (Nat.le_refl _) _).trans (HB1.out.mono (by simp))) hb2)
  have HM2 : Hid (MWay (join xs) (join ys) [] 0 0 pa na pb nb w.heap.size 0 0 w w2) := Lib.hid (by
    have h := ((empty_own 28 w w.heap.size (Nat.le_refl _)).below HB1.out).below hb2
    have h1 := HB1.out.size
    rw [World.size_alloc] at h1
    have h2 := hb2.size
    refine ⟨⟨h.wide (Nat.le_refl _) (by rw [World.size_alloc]; omega) (Nat.le_refl _), HOA.out.rd, HO2.out.rd, own_apart HOA.out (by rw [World.size_alloc]; omega) h2, own_apart HO2.out (by omega) (Nat.le_refl _), HB2.out⟩, Two.start _ _⟩)
  have hna := HO1.out.le
  have hnb := HO2.out.le
  have hlen : na ≤ 1048576 ∧ nb ≤ 1048576 := by
    have h1 := HO1.out.len
    have h2 := HO2.out.len
    have h3 := join_len xs
    have h4 := join_len ys
    have h5 := HL.out
    have h6 := HL'.out
    omega
  obtain ⟨hna1, hna2⟩ := hna
  obtain ⟨hnb1, hnb2⟩ := hnb
  obtain ⟨hlen1, hlen2⟩ := hlen
  clear ho2 hb2
  have hla : Hid ((join xs).length = na) := Lib.hid HO1.out.len
  have hlb : Hid ((join ys).length = nb) := Lib.hid HO2.out.len
  obtain ⟨la, hla0⟩ : ∃ la, la = na := ⟨_, rfl⟩
  obtain ⟨lb, hlb0⟩ : ∃ lb, lb = nb := ⟨_, rfl⟩
  have HLA : Hid ((join xs).length = la) := Lib.hid (by rw [hla.out, hla0])
  have HLB : Hid ((join ys).length = lb) := Lib.hid (by rw [hlb.out, hlb0])
  have hla1 : la ≤ 1048576 := by omega
  have hlb1 : lb ≤ 1048576 := by omega
  clear hla hlb HO1 HO2 HOA HB1 HR1 HB2
  go_wp2_with fail
  go_loopw [0, 1, 5] (fun va vb vm wr => ∃ (i j na ca nb cb g m cc : Nat) (pa pb : Option Addr) (M : List Sp), va = .slice pa na ca ∧ vb = .slice pb nb cb ∧ vm = .slice (some ⟨g, 0, none⟩) m cc ∧ na ≤ ca ∧ ca ≤ 9223372036854775807 ∧ nb ≤ cb ∧ cb ≤ 9223372036854775807 ∧ i + na = la ∧ j + nb = lb ∧ Hid (MWay (join xs) (join ys) M i j pa na pb nb g m cc w wr)) (fun va vb _ _ => slen va + slen vb)
  case atStart => exact ⟨0, 0, _, _, _, _, _, _, _, _, _, [], rfl, rfl, rfl, hna1, hna2, hnb1, hnb2, by omega, by omega, HM2⟩
  case round =>
    clear hla0 hlb0 HM2 hna1 hna2 hnb1 hnb2 hlen1 hlen2 HR HR'
    obtain ⟨i, j, na, ca, nb, cb, g, m, cc, pa, pb, M, rfl, rfl, rfl, hna1, hna2, hnb1, hnb2, hia, hjb, HK⟩ := hrel
    have hM := HK.out.1.1.len
    have hM2 := HK.out.2.len
    have hm : m ≤ 2097152 := by omega
    have hsz := HK.out.1.2.2.2.2.2.size
    have hgw : g < wr.heap.size := (HK.out.1.1.far g rfl).2
    clear hM hM2
    rcases Nat.eq_zero_or_pos na with h0 | hna0
    · subst h0
      go_wp2_with fail
      go_ret
      have hd := HK.out.2.done (Or.inl (by rw [HLA.out]; omega)) (join_has xs) (join_has ys)
      have ho := HK.out.1.1
      rw [hd] at ho
      exact ⟨_, _, _, rfl, ho, HK.out.1.2.2.2.2.2⟩
    rcases Nat.eq_zero_or_pos nb with h0 | hnb0
    · subst h0
      go_wp2_with fail
      go_ret
      have hd := HK.out.2.done (Or.inr (by rw [HLB.out]; omega)) (join_has xs) (join_has ys)
      have ho := HK.out.1.1
      rw [hd] at ho
      exact ⟨_, _, _, rfl, ho, HK.out.1.2.2.2.2.2⟩
    obtain ⟨b, o, rfl, hb, hat⟩ := rd_at HK.out.1.2.1 hna0
    obtain ⟨b', o', rfl, hb', hat'⟩ := rd_at HK.out.1.2.2.1 hnb0
    have hiA : i < (join xs).length := by rw [HLA.out]; omega
    have hjB : j < (join ys).length := by rw [HLB.out]; omega
    obtain ⟨⟨xa, xb⟩, hx, HX⟩ : ∃ x, ((join xs).drop i).getD 0 zero = x ∧ Hid ((join xs)[i] = x) := ⟨_, rfl, Lib.hid (drop_first hiA)⟩
    obtain ⟨⟨ya, yb⟩, hy, HY⟩ : ∃ x, ((join ys).drop j).getD 0 zero = x ∧ Hid ((join ys)[j] = x) := ⟨_, rfl, Lib.hid (drop_first hjB)⟩
    rw [hx] at hat
    rw [hy] at hat'
    simp only [Nat.zero_mul, Nat.add_zero] at hat hat'
    have HAT := Lib.hid hat
    have HAT' := Lib.hid hat'
    obtain ⟨c0, c1⟩ := hat
    obtain ⟨d0, d1⟩ := hat'
    simp only at c0 c1 d0 d1
    clear hx hy
    have hbn : b ≠ wr.heap.size := by omega
    have hbn' : b' ≠ wr.heap.size := by omega
    obtain ⟨⟨ra, rb⟩, hR⟩ : ∃ r, meetR (xa, xb) (ya, yb) = r := ⟨_, rfl⟩
    have HRr := Lib.hid hR
    clear hR
    rcases hmt : meets (xa, xb) (ya, yb) with _ | _
    · have HMt := Lib.hid hmt
      have HMO : Hid (more (join xs)[i] (join ys)[j] = []) := Lib.hid (by rw [HX.out, HY.out]; unfold more; rw [hmt]; rfl)
      clear hmt
      go_wp2_with fail
      go_region_held3 (fun w' => w'.cell? ⟨b, o, none⟩ = some (.int .i64 xa) ∧ w'.cell? ⟨b, o + 1, none⟩ = some (.int .i64 xb) ∧ w'.cell? ⟨b', o', none⟩ = some (.int .i64 ya) ∧ w'.cell? ⟨b', o' + 1, none⟩ = some (.int .i64 yb)) (first | exact ⟨hat2.1, hat2.2, hat3.1, hat3.2⟩ | exact ⟨(at_alloc hat2 hl2 _).1, (at_alloc hat2 hl2 _).2, (at_alloc hat3 hl3 _).1, (at_alloc hat3 hl3 _).2⟩ | exact ⟨(at_alloc (w := wr.drew) HAT.out hb _).1, (at_alloc (w := wr.drew) HAT.out hb _).2, (at_alloc (w := wr.drew) HAT'.out hb' _).1, (at_alloc (w := wr.drew) HAT'.out hb' _).2⟩ | exact ⟨(at_two hat2 hbn _ _).1, (at_two hat2 hbn _ _).2, (at_two hat3 hbn' _ _).1, (at_two hat3 hbn' _ _).2⟩ | go_keep) (first
        | (go_at_call 25; refine (meet_any _ _ _ _ _).mono ?_; rintro e w2 ⟨rfl, hb2⟩; rw [HMt.out, HRr.out]; have HB2 := Lib.hid ((below_drewN (Below.refl wr.heap.size wr) 1).trans hb2); have hat2 := HAT.out.below HB2.out hb; have hat3 := HAT'.out.below HB2.out hb'; have hl2 := Nat.lt_of_lt_of_le hb HB2.out.size; have hl3 := Nat.lt_of_lt_of_le hb' HB2.out.size; have HC1 := Lib.hid (HB2.out.alloc HB2.out.size (.cells #[.int .i64 ra, .int .i64 rb] 28)); have HBX := Lib.hid (Bx.new w2 28 #[.int .i64 ra, .int .i64 rb]); clear hb2)
        | (go_at_call 25; refine (meet_any _ _ _ _ _).mono ?_; rintro e w2 ⟨rfl, hb2⟩; rw [HMt.out, HRr.out]; have HB2 := Lib.hid (((below_drewN (Below.refl wr.heap.size wr) 1).alloc (Nat.le_refl _) _).trans (hb2.mono (by simp))); have hat2 := HAT.out.below HB2.out hb; have hat3 := HAT'.out.below HB2.out hb'; have HXB : Hid (Bx w2 wr.heap.size 28 #[.int .i64 0, .int .i64 0]) := Lib.hid ((Bx.new wr.drew _ _).below hb2); obtain ⟨q0, q1, q2, q3⟩ := HXB.out.two; have HC1 := Lib.hid ((HB2.out.setCell (p := ⟨wr.heap.size, 0, none⟩) (Nat.le_refl _) (.int .i64 ra)).setCell (p := ⟨wr.heap.size, 1, none⟩) (Nat.le_refl _) (.int .i64 rb)); have HBX := Lib.hid ((HXB.out.set_ 0 (.int .i64 ra)).set_ 1 (.int .i64 rb)); clear hb2))
      all_goals
        clear c0 c1 d0 d1
        have HQ : Hid (MMem ((join xs).drop i) ((join ys).drop j) (M ++ more (join xs)[i] (join ys)[j]) (some ⟨b, o, none⟩) na (some ⟨b', o', none⟩) nb g m cc w _) := Lib.hid (by rw [HMO.out, List.append_nil]; exact HK.out.1.on HC1.out)
        clear HC1 HBX
      all_goals
        obtain ⟨⟨e0, e1⟩, ⟨f0, f1⟩⟩ := HQ.out.heads hna0 hnb0 hiA HX.out hjB HY.out
        simp only at e0 e1 f0 f1
        have HTW := Lib.hid HK.out.2
        clear HK HAT HAT'
        by_cases hlt : xb < yb
        · have HLT : Hid ((join xs)[i].2 < (join ys)[j].2) := Lib.hid (by rw [HX.out, HY.out]; exact hlt)
          have hd : decide (xb < yb) = true := decide_eq_true hlt
          obtain ⟨s, rfl⟩ : ∃ s, na = s + 1 := ⟨na - 1, by omega⟩
          have hT : Two (join xs) (join ys) (i + 1) j _ := HTW.out.left (join_can _) (join_can _) hiA hjB HLT.out
          have HT := Lib.hid hT
          clear hT HTW
          go_wp2_with fail
          go_quiet (fail)
          go_wp2_with fail
          refine ⟨⟨i + 1, j, s, ca - 1, nb, cb, _, _, _, _, _, _, rfl, rfl, rfl, by omega, by omega, hnb1, hnb2, by omega, hjb, Lib.hid ⟨?_, HT.out⟩⟩, by simp [slen]⟩
          have h := (HQ.out.drewN nq).left (pa' := if ca = 1 then some ⟨b, o, none⟩ else some ⟨b, o + 2, none⟩) (fun h0 b1 o1 e => by rw [if_neg (by omega)]; cases e; rfl) (fun b1 o1 e => by split at e <;> cases e <;> exact ⟨_, rfl⟩)
          rw [List.drop_drop] at h
          exact h
        · have HLT : Hid (¬ (join xs)[i].2 < (join ys)[j].2) := Lib.hid (by rw [HX.out, HY.out]; exact hlt)
          have hd : decide (xb < yb) = false := decide_eq_false hlt
          obtain ⟨s, rfl⟩ : ∃ s, nb = s + 1 := ⟨nb - 1, by omega⟩
          have hT : Two (join xs) (join ys) i (j + 1) _ := HTW.out.right (join_can _) (join_can _) hiA hjB HLT.out
          have HT := Lib.hid hT
          clear hT HTW
          go_wp2_with fail
          go_quiet (fail)
          go_wp2_with fail
          refine ⟨⟨i, j + 1, na, ca, s, cb - 1, _, _, _, _, _, _, rfl, rfl, rfl, hna1, hna2, by omega, by omega, hia, by omega, Lib.hid ⟨?_, HT.out⟩⟩, by simp [slen]⟩
          have h := (HQ.out.drewN nq).right (pb' := if cb = 1 then some ⟨b', o', none⟩ else some ⟨b', o' + 2, none⟩) (fun h0 b1 o1 e => by rw [if_neg (by omega)]; cases e; rfl) (fun b1 o1 e => by split at e <;> cases e <;> exact ⟨_, rfl⟩)
          rw [List.drop_drop] at h
          exact h
    · have HMt := Lib.hid hmt
      have HMO : Hid (more (join xs)[i] (join ys)[j] = [(ra, rb)]) := Lib.hid (by rw [HX.out, HY.out]; unfold more; rw [hmt, if_pos rfl, ← meetR_yes hmt, HRr.out])
      clear hmt
      go_wp2_with fail
      go_region_held3 (fun w' => w'.cell? ⟨b, o, none⟩ = some (.int .i64 xa) ∧ w'.cell? ⟨b, o + 1, none⟩ = some (.int .i64 xb) ∧ w'.cell? ⟨b', o', none⟩ = some (.int .i64 ya) ∧ w'.cell? ⟨b', o' + 1, none⟩ = some (.int .i64 yb)) (first | exact ⟨hat2.1, hat2.2, hat3.1, hat3.2⟩ | exact ⟨(at_alloc hat2 hl2 _).1, (at_alloc hat2 hl2 _).2, (at_alloc hat3 hl3 _).1, (at_alloc hat3 hl3 _).2⟩ | exact ⟨(at_alloc (w := wr.drew) HAT.out hb _).1, (at_alloc (w := wr.drew) HAT.out hb _).2, (at_alloc (w := wr.drew) HAT'.out hb' _).1, (at_alloc (w := wr.drew) HAT'.out hb' _).2⟩ | exact ⟨(at_two hat2 hbn _ _).1, (at_two hat2 hbn _ _).2, (at_two hat3 hbn' _ _).1, (at_two hat3 hbn' _ _).2⟩ | go_keep) (first
        | (go_at_call 25; refine (meet_any _ _ _ _ _).mono ?_; rintro e w2 ⟨rfl, hb2⟩; rw [HMt.out, HRr.out]; have HB2 := Lib.hid ((below_drewN (Below.refl wr.heap.size wr) 1).trans hb2); have hat2 := HAT.out.below HB2.out hb; have hat3 := HAT'.out.below HB2.out hb'; have hl2 := Nat.lt_of_lt_of_le hb HB2.out.size; have hl3 := Nat.lt_of_lt_of_le hb' HB2.out.size; have HC1 := Lib.hid (HB2.out.alloc HB2.out.size (.cells #[.int .i64 ra, .int .i64 rb] 28)); have HBX := Lib.hid (Bx.new w2 28 #[.int .i64 ra, .int .i64 rb]); clear hb2)
        | (go_at_call 25; refine (meet_any _ _ _ _ _).mono ?_; rintro e w2 ⟨rfl, hb2⟩; rw [HMt.out, HRr.out]; have HB2 := Lib.hid (((below_drewN (Below.refl wr.heap.size wr) 1).alloc (Nat.le_refl _) _).trans (hb2.mono (by simp))); have hat2 := HAT.out.below HB2.out hb; have hat3 := HAT'.out.below HB2.out hb'; have HXB : Hid (Bx w2 wr.heap.size 28 #[.int .i64 0, .int .i64 0]) := Lib.hid ((Bx.new wr.drew _ _).below hb2); obtain ⟨q0, q1, q2, q3⟩ := HXB.out.two; have HC1 := Lib.hid ((HB2.out.setCell (p := ⟨wr.heap.size, 0, none⟩) (Nat.le_refl _) (.int .i64 ra)).setCell (p := ⟨wr.heap.size, 1, none⟩) (Nat.le_refl _) (.int .i64 rb)); have HBX := Lib.hid ((HXB.out.set_ 0 (.int .i64 ra)).set_ 1 (.int .i64 rb)); clear hb2))
      all_goals
        obtain ⟨z0, z1, z2, z3⟩ := HBX.out.two
        clear c0 c1 d0 d1
        go_wp2_with (first
          | (at_builtin; refine wpList_appL rfl (.tmp 32) (.tmp 34) 24 rfl i0 _ 16 Try.underlying24 hi hz0 hz1 hz2 rfl rfl ((HK.out.1.on HC1.out).1.alloc _) (w2.heap.size + 1) 1 (ra, rb) rfl (one_rdG _ _ (w2.heap.size + 1) (ra, rb) (by simp)) (Nat.le_trans (HK.out.1.on HC1.out).2.2.2.2.2.size (by simp)) (by omega) (by omega) ?_; intro g3 c3 w3 how3 hg3 hat3; have HQ := Lib.hid (((HK.out.1.on HC1.out).on ((Below.refl _ _).alloc (Nat.le_refl _) _)).app how3 hg3 hat3); clear how3 hg3 hat3)
          | (at_builtin; refine wpList_appL rfl (.tmp 32) (.tmp 34) 24 rfl i0 _ 16 Try.underlying24 hi hz0 hz1 hz2 rfl rfl ((HK.out.1.on HC1.out).1.alloc _) w2.heap.size 1 (ra, rb) rfl (one_rdG _ _ w2.heap.size (ra, rb) (by simp [World.setCell])) (Nat.le_trans (HK.out.1.on HC1.out).2.2.2.2.2.size (by simp)) (by omega) (by omega) ?_; intro g3 c3 w3 how3 hg3 hat3; have HQ := Lib.hid (((HK.out.1.on HC1.out).on ((Below.refl _ _).alloc (Nat.le_refl _) _)).app how3 hg3 hat3); clear how3 hg3 hat3))
        rw [← HMO.out] at HQ
        obtain ⟨⟨e0, e1⟩, ⟨f0, f1⟩⟩ := HQ.out.heads hna0 hnb0 hiA HX.out hjB HY.out
        simp only at e0 e1 f0 f1
        have HTW := Lib.hid HK.out.2
        clear HK HAT HAT'
        by_cases hlt : xb < yb
        · have HLT : Hid ((join xs)[i].2 < (join ys)[j].2) := Lib.hid (by rw [HX.out, HY.out]; exact hlt)
          have hd : decide (xb < yb) = true := decide_eq_true hlt
          obtain ⟨s, rfl⟩ : ∃ s, na = s + 1 := ⟨na - 1, by omega⟩
          have hT : Two (join xs) (join ys) (i + 1) j _ := HTW.out.left (join_can _) (join_can _) hiA hjB HLT.out
          have HT := Lib.hid hT
          clear hT HTW
          go_wp2_with fail
          go_quiet (fail)
          go_wp2_with fail
          refine ⟨⟨i + 1, j, s, ca - 1, nb, cb, _, _, _, _, _, _, rfl, rfl, rfl, by omega, by omega, hnb1, hnb2, by omega, hjb, Lib.hid ⟨?_, HT.out⟩⟩, by simp [slen]⟩
          have h := (HQ.out.drewN nq).left (pa' := if ca = 1 then some ⟨b, o, none⟩ else some ⟨b, o + 2, none⟩) (fun h0 b1 o1 e => by rw [if_neg (by omega)]; cases e; rfl) (fun b1 o1 e => by split at e <;> cases e <;> exact ⟨_, rfl⟩)
          rw [List.drop_drop] at h
          exact h
        · have HLT : Hid (¬ (join xs)[i].2 < (join ys)[j].2) := Lib.hid (by rw [HX.out, HY.out]; exact hlt)
          have hd : decide (xb < yb) = false := decide_eq_false hlt
          obtain ⟨s, rfl⟩ : ∃ s, nb = s + 1 := ⟨nb - 1, by omega⟩
          have hT : Two (join xs) (join ys) i (j + 1) _ := HTW.out.right (join_can _) (join_can _) hiA hjB HLT.out
          have HT := Lib.hid hT
          clear hT HTW
          go_wp2_with fail
          go_quiet (fail)
          go_wp2_with fail
          refine ⟨⟨i, j + 1, na, ca, s, cb - 1, _, _, _, _, _, _, rfl, rfl, rfl, hna1, hna2, by omega, by omega, hia, by omega, Lib.hid ⟨?_, HT.out⟩⟩, by simp [slen]⟩
          have h := (HQ.out.drewN nq).right (pb' := if cb = 1 then some ⟨b', o', none⟩ else some ⟨b', o' + 2, none⟩) (fun h0 b1 o1 e => by rw [if_neg (by omega)]; cases e; rfl) (fun b1 o1 e => by split at e <;> cases e <;> exact ⟨_, rfl⟩)
          rw [List.drop_drop] at h
          exact h
end Go.Proofs.Ytcenbbbghhmpfaa.Jm
