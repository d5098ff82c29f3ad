/- The size of a strand; in the program and in the reference. -/
import Derived.Test.YtapijjdjaamldaaDpStrand
import Derived.Test.YtapijjdjaamldaaRz
import Derived.Test.YtapijjdjaamldaaEs
import Derived.LoopTactic
import Derived.Outline
namespace Go.Proofs.Ytapijjdjaamldaa.Sz
open Go.ChangeShapes Go.WideShapes Go.ChangeAt Go.RowKit Sl St Ed Dz Rz Es
theorem grown_trans {w w1 w2 : World} {g : Nat} (h : w.grownBy w1 (some g)) (h' : w1.grownBy w2 (some g)) : w.grownBy w2 (some g) :=
  ⟨h'.os.trans h.os, h'.tape.trans h.tape, h'.output.trans h.output, Nat.le_trans h.size h'.size, fun i hi hne => (h'.block i (Nat.lt_of_lt_of_le hi h.size) hne).trans (h.block i hi hne)⟩
theorem grown_refl (w : World) (g : Nat) : w.grownBy w (some g) := ⟨rfl, rfl, rfl, Nat.le_refl _, fun _ _ _ => rfl⟩
theorem fresh {α : Type} {E : Ent α} {S0 : Nat → Prop} {w : World} {p : Option Addr} {n : Nat} {xs : List α} (h : RdD E S0 w p n xs) : RdD E (fun b => b < w.heap.size) w p n xs :=
  h.keep (Nat.le_refl _) fun _ _ hlt => ⟨hlt, rfl⟩
def lI (x : DpPiece.A) : Nat := x.2.1.length
def lP (r : DpRenewal.A) : Nat := r.2.2.2.1.length
def lS (r : DpRenewal.A) : Nat := r.2.2.2.2.length
theorem sI_le (xs : List DpPiece.A) : sumBy lI xs ≤ wts DpPiece.E xs := by
  have h := sumBy_bound (E := DpPiece.E) (f := lI) 0 1 (fun x => by obtain ⟨x0, l1, x2⟩ := x; rw [DpPiece.wt_eq]; show l1.length ≤ _; omega) xs
  omega
theorem sP_le (xs : List DpRenewal.A) : sumBy lP xs ≤ wts DpRenewal.E xs := by
  have h := sumBy_bound (E := DpRenewal.E) (f := lP) 0 1 (fun x => by obtain ⟨x0, x1, x2, l3, l4⟩ := x; rw [DpRenewal.wt_eq]; show l3.length ≤ _; omega) xs
  omega
theorem sS_le (xs : List DpRenewal.A) : sumBy lS xs ≤ wts DpRenewal.E xs := by
  have h := sumBy_bound (E := DpRenewal.E) (f := lS) 0 1 (fun x => by obtain ⟨x0, x1, x2, l3, l4⟩ := x; rw [DpRenewal.wt_eq]; show l4.length ≤ _; omega) xs
  omega
set_option maxRecDepth 100000 in
set_option maxHeartbeats 4000000 in
theorem countPiece_any (g : Nat) (a b c d e : Int) (x0 : Int) (p1 : Option Addr) (n1 c1 : Nat) (x2 : Int) (w : World) (hg : Bx w g 129 #[.int .i64 a, .int .i64 b, .int .i64 c, .int .i64 d, .int .i64 e]) (hd : Few d) (he : Few e) (h1 : n1 ≤ 1048576) :
    Calls Try.prog 132 #[.pointer (some ⟨g, 0, none⟩), .agg #[.int .i64 x0, .slice p1 n1 c1, .int .i64 x2]] w (Counts g a b c (d + 1) (e + n1) w) := by
  obtain ⟨d1, d2⟩ := hd
  obtain ⟨e1, e2⟩ := he
  have hlt := hg.lt
  have HV : Hid (w.grownBy (w.alloc (.cells #[.int .i64 x0, .slice p1 n1 c1, .int .i64 x2] 27)) (some g)) := Lib.hid (grown_alloc ⟨rfl, rfl, rfl, Nat.le_refl _, fun _ _ _ => rfl⟩ _)
  have HG := Lib.hid (hg.alloc (.cells #[.int .i64 x0, .slice p1 n1 c1, .int .i64 x2] 27))
  have HX := Lib.hid (Bx.new w 27 #[.int .i64 x0, .slice p1 n1 c1, .int .i64 x2])
  clear hg
  go_enter Try.func132, Try.ntmps132
  go_wp2_with fail
  generalize (w.alloc (.cells #[.int .i64 x0, .slice p1 n1 c1, .int .i64 x2] 27)) = V at HV HG HX ⊢
  obtain ⟨u0, u1, u2, u3, u4⟩ := DpRenewal.bxc HG.out
  obtain ⟨y0, y1, y2⟩ := DpPiece.bxc HX.out
  have f3 := HG.out.free 3
  have f4 := HG.out.free 4
  have hne : g ≠ w.heap.size := Nat.ne_of_lt hlt
  go_region
  go_wp2_with fail
  go_region
  go_end0
  refine ⟨rfl, ((HG.out.set_ 3 _).set_ 4 _), ?_⟩
  exact grown_drew (grown_drew (grown_set (grown_set HV.out)))
set_option maxRecDepth 100000 in
set_option maxHeartbeats 4000000 in
theorem eachPiece_any (g : Nat) (a b c d e : Int) (xs : List DpPiece.A) (p : Option Addr) (n cap : Nat) {S : Nat → Prop} (w : World) (hg : Bx w g 129 #[.int .i64 a, .int .i64 b, .int .i64 c, .int .i64 d, .int .i64 e]) (hr : RdD DpPiece.E S w p n xs) (hS : ¬ S g) (hm : n + wts DpPiece.E xs ≤ 1048576) (hd0 : 0 ≤ d) (hd1 : d ≤ 549755813888) (he0 : 0 ≤ e) (he1 : e ≤ 549755813888) :
    Calls Try.prog 131 #[.slice p n cap, .func (.func 132) #[.pointer (some ⟨g, 0, none⟩)] #[]] w (Counts g (a) (b) (c) (d + (n : Int)) (e + (sumBy lI xs : Nat)) w) := by
  have HR := Lib.hid hr
  have HG := Lib.hid hg
  have HS := Lib.hid hS
  have HM := Lib.hid hm
  have hn : n ≤ 1048576 := by omega
  clear hr hg hS hm
  go_enter Try.func131, Try.ntmps131
  go_wp2_with fail
  go_loopw [8] (fun i wr => ∃ k : Nat, k ≤ n ∧ i = .int .i64 k ∧ Hid (Bx wr g 129 #[.int .i64 (a), .int .i64 (b), .int .i64 (c), .int .i64 (d + (k : Int)), .int .i64 (e + (sumBy lI (xs.take k) : Nat))]) ∧ Hid (w.grownBy wr (some g))) (fun i _ => n - (intOf i).toNat)
  case atStart => exact ⟨0, Nat.zero_le _, rfl, Lib.hid (by simpa [sumBy] using HG.out), Lib.hid (grown_refl _ _)⟩
  case round =>
    obtain ⟨k, hk, rfl, HK, HT⟩ := hrel
    by_cases hlt : k < n
    · have HRk := Lib.hid (HR.out.grown HT.out (fun b hb _ e => by cases e; exact HS.out hb))
      have HBr := Lib.hid (Below.refl wr.heap.size wr)
      obtain ⟨bb, oo, x_, cs_, rfl, _, hbw, hx, hc, hrd⟩ := HRk.out.at_ hlt
      obtain ⟨x0, l1, x2⟩ := x_
      obtain ⟨p1, n1, c1, rfl, b0, h1, b2⟩ := DpPiece.ex hrd
      have hcc : ∀ jj v, [.int .i64 x0, .slice p1 n1 c1, .int .i64 x2][jj]? = some v → wr.cell? ⟨bb, oo + k * 3 + jj, none⟩ = some v := fun jj v hv => (HBr.out.cell (p := ⟨bb, oo + k * 3 + jj, none⟩) hbw).trans (hc jj v hv)
      have HX := Lib.hid hx
      have HC := Lib.hid hcc
      have H1 := Lib.hid (h1.below HBr.out)
      have hn1 := h1.le
      have Gb0 := Lib.hid b0
      have Gb2 := Lib.hid b2
      obtain ⟨u0, u1, u2⟩ := DpPiece.at_cells hcc
      clear hcc hc hx hrd b0 h1 b2
      have hwt := wts_at (E := DpPiece.E) HX.out
      have hl1 := H1.out.len
      have hm1 : n1 ≤ 1048576 := by have h := HM.out; rw [DpPiece.wt_eq] at hwt; omega
      have hs := sumBy_take (f := lI) HX.out
      have hsl : sumBy lI (xs.take (k + 1)) = sumBy lI (xs.take k) + n1 := by rw [hs]; show _ + l1.length = _; rw [hl1]
      have hle := sumBy_le (f := lI) xs (k + 1)
      have hle2 := sI_le xs
      have hsb : sumBy lI (xs.take k) ≤ 1048576 := by have h := HM.out; omega
      have HSL := Lib.hid hsl
      clear hwt hl1 hs hsl hle hle2
      have HK1 := Lib.hid (HK.out.alloc (.cells #[.int .i64 x0, .slice p1 n1 c1, .int .i64 x2] 27))
      have HT1 := Lib.hid (grown_alloc HT.out (.cells #[.int .i64 x0, .slice p1 n1 c1, .int .i64 x2] 27))
      go_wp2_with fail
      refine (countPiece_any g a b c (d + (k : Int)) (e + (sumBy lI (xs.take k) : Nat)) x0 _ _ _ x2 _ HK1.out ⟨by omega, by omega⟩ ⟨by omega, by omega⟩ hm1).mono ?_
      rintro e w2 ⟨rfl, hb2, hg2⟩
      have HK2 := Lib.hid hb2
      have HT2 := Lib.hid (grown_trans HT1.out hg2)
      clear hb2 hg2 u0 u1 u2
      go_wp2_with fail
      go_roundw
      case rel => exact ⟨k + 1, by omega, by go_num, Lib.hid (by have h := HK2.out; rw [HSL.out]; have e1 : d + ((k + 1 : Nat) : Int) = d + (k : Int) + 1 := (by omega); have e2 : e + ((sumBy lI (xs.take k) + n1 : Nat) : Int) = e + (sumBy lI (xs.take k) : Nat) + (n1 : Int) := (by omega); rw [e1, e2]; exact h), HT2⟩
      case measure => simp [intOf]; omega
    · obtain rfl : k = n := by omega
      have hK := HK.out
      rw [← HR.out.len, List.take_length, HR.out.len] at hK
      have HK2 := Lib.hid hK
      clear hK
      go_wp2_with fail
      go_end0
      exact ⟨rfl, HK2.out, HT.out⟩
set_option maxRecDepth 100000 in
set_option maxHeartbeats 4000000 in
theorem eachRenewal_any (g : Nat) (a b c d e : Int) (xs : List DpRenewal.A) (p : Option Addr) (n cap : Nat) {S : Nat → Prop} (w : World) (hg : Bx w g 129 #[.int .i64 a, .int .i64 b, .int .i64 c, .int .i64 d, .int .i64 e]) (hr : RdD DpRenewal.E S w p n xs) (hS : ¬ S g) (hm : n + wts DpRenewal.E xs ≤ 1048576) (ha0 : 0 ≤ a) (ha1 : a ≤ 549755813888) (hb0 : 0 ≤ b) (hb1 : b ≤ 549755813888) (hc0 : 0 ≤ c) (hc1 : c ≤ 549755813888) :
    Calls Try.prog 133 #[.slice p n cap, .func (.func 134) #[.pointer (some ⟨g, 0, none⟩)] #[]] w (Counts g (a + (n : Int)) (b + (sumBy lP xs : Nat)) (c + (sumBy lS xs : Nat)) (d) (e) w) := by
  have HR := Lib.hid hr
  have HG := Lib.hid hg
  have HS := Lib.hid hS
  have HM := Lib.hid hm
  have hn : n ≤ 1048576 := by omega
  clear hr hg hS hm
  go_enter Try.func133, Try.ntmps133
  go_wp2_with fail
  go_loopw [8] (fun i wr => ∃ k : Nat, k ≤ n ∧ i = .int .i64 k ∧ Hid (Bx wr g 129 #[.int .i64 (a + (k : Int)), .int .i64 (b + (sumBy lP (xs.take k) : Nat)), .int .i64 (c + (sumBy lS (xs.take k) : Nat)), .int .i64 (d), .int .i64 (e)]) ∧ Hid (w.grownBy wr (some g))) (fun i _ => n - (intOf i).toNat)
  case atStart => exact ⟨0, Nat.zero_le _, rfl, Lib.hid (by simpa [sumBy] using HG.out), Lib.hid (grown_refl _ _)⟩
  case round =>
    obtain ⟨k, hk, rfl, HK, HT⟩ := hrel
    by_cases hlt : k < n
    · have HRk := Lib.hid (HR.out.grown HT.out (fun b hb _ e => by cases e; exact HS.out hb))
      have HBr := Lib.hid (Below.refl wr.heap.size wr)
      obtain ⟨bb, oo, x_, cs_, rfl, _, hbw, hx, hc, hrd⟩ := HRk.out.at_ hlt
      obtain ⟨x0, x1, x2, l3, l4⟩ := x_
      obtain ⟨p3, n3, c3, p4, n4, c4, rfl, b0, b1, b2, h3, h4⟩ := DpRenewal.ex hrd
      have hcc : ∀ jj v, [.int .i64 x0, .int .i64 x1, .int .i64 x2, .slice p3 n3 c3, .slice p4 n4 c4][jj]? = some v → wr.cell? ⟨bb, oo + k * 5 + jj, none⟩ = some v := fun jj v hv => (HBr.out.cell (p := ⟨bb, oo + k * 5 + jj, none⟩) hbw).trans (hc jj v hv)
      have HX := Lib.hid hx
      have HC := Lib.hid hcc
      have H3 := Lib.hid (h3.below HBr.out)
      have hn3 := h3.le
      have H4 := Lib.hid (h4.below HBr.out)
      have hn4 := h4.le
      have Gb0 := Lib.hid b0
      have Gb1 := Lib.hid b1
      have Gb2 := Lib.hid b2
      obtain ⟨u0, u1, u2, u3, u4⟩ := DpRenewal.at_cells hcc
      clear hcc hc hx hrd b0 b1 b2 h3 h4
      have hwt := wts_at (E := DpRenewal.E) HX.out
      have hl3 := H3.out.len
      have hl4 := H4.out.len
      have hm3 : n3 ≤ 1048576 := by have h := HM.out; rw [DpRenewal.wt_eq] at hwt; omega
      have hm4 : n4 ≤ 1048576 := by have h := HM.out; rw [DpRenewal.wt_eq] at hwt; omega
      have hp : sumBy lP (xs.take (k + 1)) = sumBy lP (xs.take k) + n3 := by rw [sumBy_take (f := lP) HX.out]; show _ + l3.length = _; rw [hl3]
      have hs : sumBy lS (xs.take (k + 1)) = sumBy lS (xs.take k) + n4 := by rw [sumBy_take (f := lS) HX.out]; show _ + l4.length = _; rw [hl4]
      have hpb : sumBy lP (xs.take k) ≤ 1048576 := by have h := HM.out; have := sumBy_le (f := lP) xs k; have := sP_le xs; omega
      have hsb : sumBy lS (xs.take k) ≤ 1048576 := by have h := HM.out; have := sumBy_le (f := lS) xs k; have := sS_le xs; omega
      have HP := Lib.hid hp
      have HSS := Lib.hid hs
      clear hwt hl3 hl4 hp hs
      have HK1 := Lib.hid (HK.out.alloc (.cells #[.int .i64 x0, .int .i64 x1, .int .i64 x2, .slice p3 n3 c3, .slice p4 n4 c4] 127))
      have HT1 := Lib.hid (grown_alloc HT.out (.cells #[.int .i64 x0, .int .i64 x1, .int .i64 x2, .slice p3 n3 c3, .slice p4 n4 c4] 127))
      go_wp2_with fail
      refine (countRenewal_any g (a + (k : Int)) (b + (sumBy lP (xs.take k) : Nat)) (c + (sumBy lS (xs.take k) : Nat)) d e x0 x1 x2 _ _ _ _ _ _ _ HK1.out ⟨by omega, by omega⟩ ⟨by omega, by omega⟩ ⟨by omega, by omega⟩ hm3 hm4).mono ?_
      rintro e w2 ⟨rfl, hb2, hg2⟩
      have HK2 := Lib.hid hb2
      have HT2 := Lib.hid (grown_trans HT1.out hg2)
      clear hb2 hg2 u0 u1 u2 u3 u4
      go_wp2_with fail
      go_roundw
      case rel => exact ⟨k + 1, by omega, by go_num, Lib.hid (by have h := HK2.out; rw [HP.out, HSS.out]; have e1 : a + ((k + 1 : Nat) : Int) = a + (k : Int) + 1 := (by omega); have e2 : b + ((sumBy lP (xs.take k) + n3 : Nat) : Int) = b + (sumBy lP (xs.take k) : Nat) + (n3 : Int) := (by omega); have e3 : c + ((sumBy lS (xs.take k) + n4 : Nat) : Int) = c + (sumBy lS (xs.take k) : Nat) + (n4 : Int) := (by omega); rw [e1, e2, e3]; exact h), HT2⟩
      case measure => simp [intOf]; omega
    · obtain rfl : k = n := by omega
      have hK := HK.out
      rw [← HR.out.len, List.take_length, HR.out.len] at hK
      have HK2 := Lib.hid hK
      clear hK
      go_wp2_with fail
      go_end0
      exact ⟨rfl, HK2.out, HT.out⟩
set_option maxRecDepth 100000 in
set_option maxHeartbeats 4000000 in
theorem countStrand_any (g : Nat) (a b c d e : Int) (l0 : List DpPiece.A) (p0 : Option Addr) (n0 c0 : Nat) (l1 : List DpRenewal.A) (p1 : Option Addr) (n1 c1 : Nat) {S0 S1 : Nat → Prop} (w : World) (hg : Bx w g 129 #[.int .i64 a, .int .i64 b, .int .i64 c, .int .i64 d, .int .i64 e]) (h0 : RdD DpPiece.E S0 w p0 n0 l0) (h1 : RdD DpRenewal.E S1 w p1 n1 l1) (hS0 : ¬ S0 g) (hS1 : ¬ S1 g) (hm : DpStrand.E.wt (l0, l1) ≤ 1048576)
    (ha0 : 0 ≤ a) (ha1 : a ≤ 549755813888) (hb0 : 0 ≤ b) (hb1 : b ≤ 549755813888) (hc0 : 0 ≤ c) (hc1 : c ≤ 549755813888) (hd0 : 0 ≤ d) (hd1 : d ≤ 549755813888) (he0 : 0 ≤ e) (he1 : e ≤ 549755813888) :
    Calls Try.prog 87 #[.pointer (some ⟨g, 0, none⟩), .agg #[.slice p0 n0 c0, .slice p1 n1 c1]] w (Counts g (a + (n1 : Int)) (b + (sumBy lP l1 : Nat)) (c + (sumBy lS l1 : Nat)) (d + (n0 : Int)) (e + (sumBy lI l0 : Nat)) w) := by
  rw [DpStrand.wt_eq, h0.len, h1.len] at hm
  have m0 : n0 + wts DpPiece.E l0 ≤ 1048576 := by omega
  have m1 : n1 + wts DpRenewal.E l1 ≤ 1048576 := by omega
  have hne : g ≠ w.heap.size := Nat.ne_of_lt hg.lt
  have HG := Lib.hid (hg.alloc (.cells #[.slice p0 n0 c0, .slice p1 n1 c1] 53))
  have HX := Lib.hid (Bx.new w 53 #[.slice p0 n0 c0, .slice p1 n1 c1])
  have H0 := Lib.hid (h0.alloc (.cells #[.slice p0 n0 c0, .slice p1 n1 c1] 53))
  have H1 := Lib.hid (h1.alloc (.cells #[.slice p0 n0 c0, .slice p1 n1 c1] 53))
  have HT := Lib.hid (grown_alloc (grown_refl w g) (.cells #[.slice p0 n0 c0, .slice p1 n1 c1] 53))
  have HS0 := Lib.hid hS0
  have HS1 := Lib.hid hS1
  clear hg h0 h1 hS0 hS1 hm
  go_enter Try.func87, Try.ntmps87
  go_wp2_with fail
  generalize (w.alloc (.cells #[.slice p0 n0 c0, .slice p1 n1 c1] 53)) = V at HG HX H0 H1 HT ⊢
  refine (eachPiece_any g a b c d e l0 _ _ _ V HG.out H0.out HS0.out m0 hd0 hd1 he0 he1).mono ?_
  rintro e1 w1 ⟨rfl, hb2, hg2⟩
  have HG1 := Lib.hid hb2
  have HT1 := Lib.hid (grown_trans HT.out hg2)
  have HX1 := Lib.hid (HX.out.grown hg2 (fun e => by cases e; exact hne rfl))
  have H11 := Lib.hid (H1.out.grown hg2 (fun b hb _ e => by cases e; exact HS1.out hb))
  clear hb2 hg2
  obtain ⟨x0, x1⟩ := DpStrand.bxc HX1.out
  go_wp2_with fail
  refine (eachRenewal_any g a b c _ _ l1 _ _ _ w1 HG1.out H11.out HS1.out m1 ha0 ha1 hb0 hb1 hc0 hc1).mono ?_
  rintro e2 w2 ⟨rfl, hb3, hg3⟩
  have HG2 := Lib.hid hb3
  have HT2 := Lib.hid (grown_trans HT1.out hg3)
  clear hb3 hg3
  go_wp2_with fail
  go_end0
  exact ⟨rfl, HG2.out, HT2.out⟩
def stz (l0 : List DpPiece.A) (l1 : List DpRenewal.A) : Int := (l1.length : Int) * 3 + (sumBy lP l1 : Nat) * 2 + (sumBy lS l1 : Nat) * 6 + (l0.length : Int) * 2 + (sumBy lI l0 : Nat)
set_option maxRecDepth 100000 in
set_option maxHeartbeats 8000000 in
theorem spec_size_any' (l0 : List DpPiece.A) (p0 : Option Addr) (n0 c0 : Nat) (l1 : List DpRenewal.A) (p1 : Option Addr) (n1 c1 : Nat) {S0 S1 : Nat → Prop} (w : World) (h0 : RdD DpPiece.E S0 w p0 n0 l0) (h1 : RdD DpRenewal.E S1 w p1 n1 l1) (hm : DpStrand.E.wt (l0, l1) ≤ 1048576) :
    Calls Try.prog 86 #[.agg #[.slice p0 n0 c0, .slice p1 n1 c1]] w (Val (.int .i64 (stz l0 l1)) w) := by
  have hb := box1 w (.cells #[.slice p0 n0 c0, .slice p1 n1 c1] 53)
  have HBV := Lib.hid hb
  have HX := Lib.hid (Bx.new w 53 #[.slice p0 n0 c0, .slice p1 n1 c1])
  have H0 := Lib.hid (h0.below hb)
  have H1 := Lib.hid (h1.below hb)
  rw [DpStrand.wt_eq, h0.len, h1.len] at hm
  have m0 : n0 + wts DpPiece.E l0 ≤ 1048576 := by omega
  have m1 : n1 + wts DpRenewal.E l1 ≤ 1048576 := by omega
  have M0 := Lib.hid m0
  have M1 := Lib.hid m1
  have k0 : n0 ≤ 1048576 := by omega
  have k1 : n1 ≤ 1048576 := by omega
  have L0 := Lib.hid h0.len
  have L1 := Lib.hid h1.len
  clear hb h0 h1 hm m0 m1
  go_enter Try.func86, Try.ntmps86
  go_wp2_with fail
  generalize (w.alloc (.cells #[.slice p0 n0 c0, .slice p1 n1 c1] 53)) = V at HBV HX H0 H1 ⊢
  obtain ⟨v0, v1⟩ := DpStrand.bxc HX.out
  go_loopw [3, 4] (fun s i wr => ∃ k t : Nat, k ≤ n0 ∧ i = .int .i64 k ∧ s = .int .i64 (2 * (k : Int) + t) ∧ t ≤ 1048576 ∧ Hid (t = sumBy lI (l0.take k)) ∧ Hid (Below V.heap.size V wr)) (fun _ i _ => n0 - (intOf i).toNat)
  case atStart => exact ⟨0, 0, Nat.zero_le _, rfl, rfl, by omega, Lib.hid rfl, Lib.hid (Below.refl _ _)⟩
  case round =>
    obtain ⟨k, t, hk, rfl, rfl, ht, HT, HB⟩ := hrel
    clear v0 v1
    obtain ⟨v0, v1⟩ := DpStrand.bxc (HX.out.below HB.out)
    by_cases hlt : k < n0
    · skip
      obtain ⟨b, o, x_q, cs_q, rfl, _, hbwq, hxq, hcq, hrdq⟩ := H0.out.at_ hlt
      obtain ⟨xq0, lq1, xq2⟩ := x_q
      obtain ⟨pq1, nq1, cq1, rfl, bq0, hq1, bq2⟩ := DpPiece.ex hrdq
      have hccq : ∀ jj v, [.int .i64 xq0, .slice pq1 nq1 cq1, .int .i64 xq2][jj]? = some v → wr.cell? ⟨b, o + k * 3 + jj, none⟩ = some v := fun jj v hv => (HB.out.cell (p := ⟨b, o + k * 3 + jj, none⟩) hbwq).trans (hcq jj v hv)
      have HXq := Lib.hid hxq
      have HCq := Lib.hid hccq
      have Hq1 := Lib.hid (hq1.below HB.out)
      have hnq1 := hq1.le
      have Gbq0 := Lib.hid bq0
      have Gbq2 := Lib.hid bq2
      obtain ⟨u0, u1, u2⟩ := DpPiece.at_cells hccq
      clear hccq hcq hxq hrdq bq0 hq1 bq2
      have hwt := wts_at (E := DpPiece.E) HXq.out
      have hl1 := Hq1.out.len
      have hs := sumBy_take (f := lI) HXq.out
      have hsl : t + nq1 = sumBy lI (l0.take (k + 1)) := by rw [hs, HT.out]; show _ = _ + lq1.length; rw [hl1]
      have hsb : t + nq1 ≤ 1048576 := by rw [hsl]; have h := M0.out; have := sumBy_le (f := lI) l0 (k + 1); have := sI_le l0; omega
      have HN := Lib.hid hsl
      clear hwt hl1 hs hsl
      go_wp2_with fail
      go_roundw
      case rel => exact ⟨k + 1, t + nq1, by omega, by go_num, by first | go_num | (congr 1; omega), hsb, HN, HB⟩
      case measure => simp [intOf]; omega
    · obtain rfl : k = n0 := by omega
      have hT := HT.out
      rw [← L0.out, List.take_length] at hT
      have HT0 := Lib.hid hT
      clear hT HT
      go_wp2_with fail
      go_loopw [3, 5] (fun s i wr => ∃ j tp ts : Nat, j ≤ n1 ∧ i = .int .i64 j ∧ s = .int .i64 (2 * (k : Int) + t + 3 * (j : Int) + 2 * (tp : Int) + 6 * (ts : Int)) ∧ tp ≤ 1048576 ∧ ts ≤ 1048576 ∧ Hid (tp = sumBy lP (l1.take j)) ∧ Hid (ts = sumBy lS (l1.take j)) ∧ Hid (Below V.heap.size V wr)) (fun _ i _ => n1 - (intOf i).toNat)
      case atStart => exact ⟨0, 0, 0, Nat.zero_le _, rfl, by first | rfl | (congr 1; omega), by omega, by omega, Lib.hid rfl, Lib.hid rfl, HB⟩
      case round =>
        obtain ⟨j, tp, ts, hj, rfl, rfl, htp, hts, HP, HS, HB⟩ := hrel
        clear v0 v1
        obtain ⟨v0, v1⟩ := DpStrand.bxc (HX.out.below HB.out)
        by_cases hlt2 : j < n1
        · skip
          obtain ⟨b, o, x_r, cs_r, rfl, _, hbwr, hxr, hcr, hrdr⟩ := H1.out.at_ hlt2
          obtain ⟨xr0, xr1, xr2, lr3, lr4⟩ := x_r
          obtain ⟨pr3, nr3, cr3, pr4, nr4, cr4, rfl, br0, br1, br2, hr3, hr4⟩ := DpRenewal.ex hrdr
          have hccr : ∀ jj v, [.int .i64 xr0, .int .i64 xr1, .int .i64 xr2, .slice pr3 nr3 cr3, .slice pr4 nr4 cr4][jj]? = some v → wr.cell? ⟨b, o + j * 5 + jj, none⟩ = some v := fun jj v hv => (HB.out.cell (p := ⟨b, o + j * 5 + jj, none⟩) hbwr).trans (hcr jj v hv)
          have HXr := Lib.hid hxr
          have HCr := Lib.hid hccr
          have Hr3 := Lib.hid (hr3.below HB.out)
          have hnr3 := hr3.le
          have Hr4 := Lib.hid (hr4.below HB.out)
          have hnr4 := hr4.le
          have Gbr0 := Lib.hid br0
          have Gbr1 := Lib.hid br1
          have Gbr2 := Lib.hid br2
          obtain ⟨u0, u1, u2, u3, u4⟩ := DpRenewal.at_cells hccr
          clear hccr hcr hxr hrdr br0 br1 br2 hr3 hr4
          have hwt := wts_at (E := DpRenewal.E) HXr.out
          have hl3 := Hr3.out.len
          have hl4 := Hr4.out.len
          have hm3 : nr3 ≤ 1048576 := by have h := M1.out; rw [DpRenewal.wt_eq] at hwt; omega
          have hm4 : nr4 ≤ 1048576 := by have h := M1.out; rw [DpRenewal.wt_eq] at hwt; omega
          have hp : tp + nr3 = sumBy lP (l1.take (j + 1)) := by rw [sumBy_take (f := lP) HXr.out, HP.out]; show _ = _ + lr3.length; rw [hl3]
          have hs : ts + nr4 = sumBy lS (l1.take (j + 1)) := by rw [sumBy_take (f := lS) HXr.out, HS.out]; show _ = _ + lr4.length; rw [hl4]
          have hpb : tp + nr3 ≤ 1048576 := by rw [hp]; have h := M1.out; have := sumBy_le (f := lP) l1 (j + 1); have := sP_le l1; omega
          have hsb : ts + nr4 ≤ 1048576 := by rw [hs]; have h := M1.out; have := sumBy_le (f := lS) l1 (j + 1); have := sS_le l1; omega
          have HP1 := Lib.hid hp
          have HS1 := Lib.hid hs
          have HE : Hid (rsz nr3 nr4 = 3 + 2 * (nr3 : Int) + 6 * (nr4 : Int)) := Lib.hid rfl
          clear hwt hl3 hl4 hp hs
          go_wp2_with fail
          refine (Rz.spec_size_any _ _ _ _ _ _ _ _ _ _ hm3 hm4).mono ?_
          rintro e w2 ⟨rfl, hb2⟩
          rw [HE.out]
          have HB2 := Lib.hid (below_on HB.out hb2)
          clear hb2 u0 u1 u2 u3 u4
          go_wp2_with fail
          go_roundw
          case rel => exact ⟨j + 1, tp + nr3, ts + nr4, by omega, by go_num, by congr 1; omega, hpb, hsb, HP1, HS1, HB2⟩
          case measure => simp [intOf]; omega
        · obtain rfl : j = n1 := by omega
          have hP := HP.out
          have hS := HS.out
          rw [← L1.out, List.take_length] at hP hS
          have HV : Hid (stz l0 l1 = 2 * (k : Int) + t + 3 * (j : Int) + 2 * (tp : Int) + 6 * (ts : Int)) := Lib.hid (by unfold stz; rw [← hP, ← hS, L0.out, L1.out, ← HT0.out]; omega)
          clear hP hS
          have HBf := Lib.hid (HBV.out.trans (HB.out.mono HBV.out.size))
          go_wp2_with fail
          go_ret
          refine val_of ?_ HBf.out
          rw [HV.out]
          rfl
end Go.Proofs.Ytapijjdjaamldaa.Sz
