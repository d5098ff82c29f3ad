/- Contract of partsOf: a pointer to each part that is shown, nil for each hidden one. -/
import Derived.Test.YtjlckfbacphblaaRm
import Derived.RegionTactic
namespace Go.Proofs.Ytjlckfbacphblaa.Rp
open Go.ChangeShapes Go.WideShapes Go.ChangeAt Go.RowKit Sl St Tn Dk SlRed Rk

def E : En (Option Addr) := ⟨fun a => [.pointer a], 1, fun _ => rfl, fun x v h => by simp only [List.mem_cons, List.not_mem_nil, or_false] at h; subst h; rfl, by decide⟩
theorem C_eq : E.C = 1 := rfl
theorem info : (Try.prog.info? 89).map (fun i => (i.zero, i.size, i.bytes)) = some (some (.pointer none), 1, 8) := by kernel_rfl
/-- what a part that is shown lies as -/
def part (D : Rc) (i : Nat) : Array Value := #[.string (D.ps.getD i ByteArray.empty), .int .i64 (D.ss.getD i 0)]
def One (w : World) (D : Rc) (i : Nat) (q : Option Addr) : Prop := (D.sh.getD i false = false ∧ q = none) ∨ (D.sh.getD i false = true ∧ ∃ g, q = some ⟨g, 0, none⟩ ∧ Bx w g 91 (part D i))
def RdP (w : World) (p : Option Addr) (n : Nat) (D : Rc) : Prop := ∃ qs : List (Option Addr), RdS E w p n qs ∧ ∀ i q, qs[i]? = some q → One w D i q
theorem RdP.at_ {w : World} {p : Option Addr} {n k : Nat} {D : Rc} (h : RdP w p n D) (hk : k < n) : ∃ b o q, p = some ⟨b, o, none⟩ ∧ b < w.heap.size ∧ w.cell? ⟨b, o + k, none⟩ = some (.pointer q) ∧ One w D k q := by
  obtain ⟨qs, h1, h2⟩ := h
  obtain ⟨b, o, x, e, hb, hx, hc⟩ := h1.at_ hk
  have h0 := hc 0 _ rfl
  rw [C_eq, Nat.mul_one, Nat.add_zero] at h0
  exact ⟨b, o, x, e, hb, h0, h2 k x hx⟩
/-- after k parts -/
def PMid (n : Nat) (D : Rc) (B k : Nat) (w wr : World) : Prop :=
  Below B w wr ∧ B + 1 ≤ w.heap.size + 1 ∧ ∃ qs : List (Option Addr), OwS E 89 wr B wr.heap.size (some ⟨B, 0, none⟩) n n qs ∧ (∀ i q, qs[i]? = some q → k ≤ i → q = none) ∧
    ∀ i q, qs[i]? = some q → i < k → (D.sh.getD i false = false ∧ q = none) ∨ (D.sh.getD i false = true ∧ ∃ g, B < g ∧ q = some ⟨g, 0, none⟩ ∧ Bx wr g 91 (part D i))
theorem PMid.hid {n : Nat} {D : Rc} {B k : Nat} {w wr : World} (h : PMid n D B k w wr) (hs : D.sh.getD k false = false) : PMid n D B (k + 1) w wr := by
  obtain ⟨a1, a0, qs, a2, a3, a4⟩ := h
  refine ⟨a1, a0, qs, a2, fun i q e hi => a3 i q e (by omega), fun i q e hi => ?_⟩
  rcases Nat.lt_succ_iff_lt_or_eq.1 hi with h | rfl
  · exact a4 i q e h
  · exact Or.inl ⟨hs, a3 i q e (Nat.le_refl _)⟩
theorem PMid.show {n : Nat} {D : Rc} {B k : Nat} {w wr : World} (h : PMid n D B k w wr) (hs : D.sh.getD k false = true) (hk : k < n) (hB : B < wr.heap.size) : PMid n D B (k + 1) w (((wr.setCell ⟨B, k, none⟩ (.pointer (some ⟨wr.heap.size, 0, none⟩))).alloc (.cells (part D k) 91)).drew) := by
  obtain ⟨a1, a0, qs, a2, a3, a4⟩ := h
  obtain ⟨b1, b2⟩ := a2.elem (i := k) hk (some ⟨wr.heap.size, 0, none⟩)
  have e : wr.setCells B (k * E.C) (E.of (some ⟨wr.heap.size, 0, none⟩)) = wr.setCell ⟨B, k, none⟩ (.pointer (some ⟨wr.heap.size, 0, none⟩)) := by rw [C_eq, Nat.mul_one]; rfl
  rw [e] at b1 b2
  have hl := a2.len
  have hsz : (wr.setCell ⟨B, k, none⟩ (.pointer (some ⟨wr.heap.size, 0, none⟩))).heap.size = wr.heap.size := by simp [World.setCell]
  have hnew := Bx.new (wr.setCell ⟨B, k, none⟩ (.pointer (some ⟨wr.heap.size, 0, none⟩))) 91 (part D k)
  rw [hsz] at hnew
  refine ⟨below_drewN ((a1.setCell (Nat.le_refl _) _).alloc (by rw [hsz]; omega) _) 1, a0, qs.set k (some ⟨wr.heap.size, 0, none⟩), ?_, fun i q e hi => ?_, fun i q e hi => ?_⟩
  · exact (OwS.drew1 (b1.alloc _)).wide (Nat.le_refl _) (by show wr.heap.size ≤ (World.alloc _ _).heap.size; rw [World.size_alloc, hsz]; omega) (Nat.le_refl _)
  · rw [List.getElem?_set_ne (by omega)] at e
    exact a3 i q e (by omega)
  · by_cases hik : i = k
    · subst hik
      rw [List.getElem?_set_self (by omega), Option.some.injEq] at e
      exact Or.inr ⟨hs, wr.heap.size, hB, e.symm, hnew.drew1⟩
    · rw [List.getElem?_set_ne (Ne.symm hik)] at e
      rcases a4 i q e (by omega) with h | ⟨h1, g, h2, h3, h4⟩
      · exact Or.inl h
      · exact Or.inr ⟨h1, g, h2, h3, ((h4.far (q := ⟨B, k, none⟩) (by show g ≠ B; omega) _).alloc _).drew1⟩
/-- The call answers a new slice of pointers to the parts, of n elements; it reads so though older blocks turn. -/
def MakesP (D : Rc) (n : Nat) (w : World) (e : Ending) (w' : World) : Prop := ∃ p c, e = .returned (.slice p n c) ∧ Stay w.heap.size (fun w => RdP w p n D) w' ∧ Below w.heap.size w w'
theorem PMid.done {n : Nat} {D : Rc} {B : Nat} {w wr : World} (h : PMid n D B n w wr) {l : Nat} (hl : l ≤ B) : Stay l (fun w => RdP w (some ⟨B, 0, none⟩) n D) wr := fun w' ht => by
  obtain ⟨a1, a0, qs, a2, a3, a4⟩ := h
  refine ⟨qs, (owS_far a2 ht fun g e => by left; omega).rd, fun i q e => ?_⟩
  have hi : i < n := by
    have := (List.getElem?_eq_some_iff.1 e).1
    have := a2.len
    omega
  rcases a4 i q e hi with h | ⟨h1, g, h2, h3, h4⟩
  · exact Or.inl h
  · exact Or.inr ⟨h1, g, h3, bx_turn h4 ht (by omega)⟩
theorem PMid.start {n : Nat} {D : Rc} {w w1 : World} (hown : w1.ownsRow w.heap.size 89 1 (.slice (some ⟨w.heap.size, 0, none⟩) n n) n (madeCells (Value.cells (.pointer none)) (n * 1)).toList) (hg : w.grownBy w1 none) : PMid n D w.heap.size 0 w w1 := by
  have e := made_fl (E := E) (.pointer none) none rfl n
  rw [C_eq] at e
  rw [e] at hown
  refine ⟨(Below.refl _ _).grown hg (Nat.le_refl _) (fun _ h => by cases h), Nat.le_refl _, _, OwS.of_row hown, fun i q e hi => ?_, fun i q e hi => by omega⟩
  have := List.mem_of_getElem? e
  exact List.eq_of_mem_replicate this
theorem PMid.cell {n : Nat} {D : Rc} {B k j : Nat} {w wr : World} (h : PMid n D B k w wr) (hj : j < n) : ∃ q : Option Addr, wr.cell? ⟨B, j, none⟩ = some (.pointer q) := by
  obtain ⟨a1, a0, qs, a2, a3, a4⟩ := h
  have hl := a2.len
  have h0 := a2.cell (i := j) (j := 0) (List.getElem?_eq_getElem (by omega)) rfl
  rw [C_eq, Nat.mul_one, Nat.add_zero] at h0
  exact ⟨_, h0⟩
theorem PMid.free {n : Nat} {D : Rc} {B k j : Nat} {w wr : World} (h : PMid n D B k w wr) : wr.frozen? ⟨B, j, none⟩ = false := by
  obtain ⟨a1, a0, qs, a2, a3, a4⟩ := h
  exact a2.free
set_option maxRecDepth 100000 in
set_option maxHeartbeats 4000000 in
theorem parts_any (a : Ra) (D : Rc) (w : World) (h : RdR w a D) (hn : a.shn ≤ 1048576) (h1 : a.psn = a.shn) (h2 : a.ssn = a.shn) : Calls Try.prog 72 #[a.val] w (MakesP D a.shn w) := by
  obtain ⟨i0, hi, hz0, hz1, hz2⟩ := info_parts info
  obtain ⟨t, msp, msn, msc, shp, shn, shc, psp, psn, psc, ssp, ssn, ssc, dsp, dsn, dsc⟩ := a
  obtain ⟨dt, dms, dsh, dps, dss, dds⟩ := D
  obtain ⟨e0, _, r2, r3, r4, _⟩ := h
  dsimp only at e0 r2 r3 r4 hn h1 h2
  subst e0
  subst h1
  subst h2
  have HX := Lib.hid (Bx.new w 43 #[.int .i64 t, .slice msp msn msc, .slice shp ssn shc, .slice psp ssn psc, .slice ssp ssn ssc, .slice dsp dsn dsc])
  have HB := Lib.hid (box1 w (.cells #[.int .i64 t, .slice msp msn msc, .slice shp ssn shc, .slice psp ssn psc, .slice ssp ssn ssc, .slice dsp dsn dsc] 43))
  have H2 := Lib.hid (r2.below HB.out)
  have H3 := Lib.hid (r3.below HB.out)
  have H4 := Lib.hid (r4.below HB.out)
  clear r2 r3 r4
  have hs1 : (w.alloc (.cells #[.int .i64 t, .slice msp msn msc, .slice shp ssn shc, .slice psp ssn psc, .slice ssp ssn ssc, .slice dsp dsn dsc] 43)).heap.size = w.heap.size + 1 := by simp
  simp only [Ra.val, Ra.cells]
  go_enter Try.func72, Try.ntmps72
  go_wp2_with (refine wpList_make_full _ rfl _ _ 97 rfl (w.alloc (.cells #[.int .i64 t, .slice msp msn msc, .slice shp ssn shc, .slice psp ssn psc, .slice ssp ssn ssc, .slice dsp dsn dsc] 43)).heap.size 89 i0 _ 1 Try.underlying97 hi hz0 hz1 .i64 .i64 _ _ ssn rfl rfl rfl rfl (by rw [hz2]; omega) (by unfold maxLen; omega) (Nat.le_refl _) ?_; intro w1 hown1 hg1; have HX1 := Lib.hid (HX.out.grown hg1 (fun e => by cases e)); obtain ⟨x0, x1, x2, x3, x4, x5⟩ := bx6 HX1.out; have HM := Lib.hid (PMid.start (D := ⟨t, dms, dsh, dps, dss, dds⟩) hown1 hg1); have hs1 := hg1.size; rw [World.size_alloc] at hs1; have hlt1 := hown1.lt _ rfl; clear hown1 hg1)
  clear x0 x1 x2 x3 x4 x5
  rw [World.size_alloc] at HM hlt1
  go_loopw [13] (fun i wr => ∃ k : Nat, k ≤ ssn ∧ i = .int .i64 k ∧ w1.heap.size ≤ wr.heap.size ∧ Hid (PMid ssn ⟨t, dms, dsh, dps, dss, dds⟩ (w.heap.size + 1) k (w.alloc (.cells #[.int .i64 t, .slice msp msn msc, .slice shp ssn shc, .slice psp ssn psc, .slice ssp ssn ssc, .slice dsp dsn dsc] 43)) wr)) (fun i _ => ssn - (intOf i).toNat)
  case atStart => exact ⟨0, Nat.zero_le _, rfl, Nat.le_refl _, HM⟩
  case round =>
    obtain ⟨k, hk, rfl, hsw, HK⟩ := hrel
    have HBw : Hid (Below (w.heap.size + 1) (w.alloc (.cells #[.int .i64 t, .slice msp msn msc, .slice shp ssn shc, .slice psp ssn psc, .slice ssp ssn ssc, .slice dsp dsn dsc] 43)) wr) := Lib.hid HK.out.1
    have HBf : Hid (Below (w.alloc (.cells #[.int .i64 t, .slice msp msn msc, .slice shp ssn shc, .slice psp ssn psc, .slice ssp ssn ssc, .slice dsp dsn dsc] 43)).heap.size (w.alloc (.cells #[.int .i64 t, .slice msp msn msc, .slice shp ssn shc, .slice psp ssn psc, .slice ssp ssn ssc, .slice dsp dsn dsc] 43)) wr) := Lib.hid (by rw [World.size_alloc]; exact HK.out.1)
    have HXr := Lib.hid (HX.out.below HBf.out)
    by_cases hlt : k < ssn
    · obtain ⟨b, o, rfl, hb, hc⟩ := SlBool.rd_at (H2.out.below HBf.out) hlt
      rcases hx : dsh.getD k false with _ | _
      · have HN := Lib.hid (HK.out.hid hx)
        rw [hx] at hc
        clear hx
        go_wp2_with fail
        go_roundw
        case rel => exact ⟨k + 1, by omega, by go_num, hsw, HN⟩
        case measure => simp [intOf]; omega
      · have HN := Lib.hid (HK.out.show hx hlt (by omega))
        rw [hx] at hc
        clear hx
        obtain ⟨b3, o3, rfl, hb3, hc3⟩ := SlStr.rd_at (H3.out.below HBf.out) hlt
        obtain ⟨b4, o4, rfl, hb4, hc4⟩ := (H4.out.below HBf.out).at_ hlt
        have HPT : Hid (part ⟨t, dms, dsh, dps, dss, dds⟩ k = #[.string (dps.getD k ByteArray.empty), .int .i64 (dss.getD k 0)]) := Lib.hid rfl
        generalize dps.getD k ByteArray.empty = x at hc3 HPT
        generalize dss.getD k 0 = y at hc4 HPT
        rw [HPT.out] at HN
        obtain ⟨x0, x1, x2, x3, x4, x5⟩ := bx6 HXr.out
        have i1 : (0 : Int) ≤ (k : Int) := by omega
        have i2 : (k : Int) < (ssn : Int) := by omega
        obtain ⟨qz, hd⟩ := HK.out.cell hlt
        have hf := HK.out.free (j := k)
        have hne : w.heap.size + 1 < wr.heap.size := by omega
        go_wp2_with fail
        go_region
        go_wp2_with fail
        go_roundw
        case rel => exact ⟨k + 1, by omega, by go_num, by simp [World.setCell]; omega, HN⟩
        case measure => simp [intOf]; omega
    · obtain rfl : k = ssn := by omega
      go_wp2_with fail
      go_ret
      exact ⟨_, _, rfl, HK.out.done (by omega), HB.out.trans (HBw.out.mono (by omega))⟩
end Go.Proofs.Ytjlckfbacphblaa.Rp
