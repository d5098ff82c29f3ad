/- Contracts of the laws' helpers over Step, by value and in slices: copies, equality, marks written and found. -/
import Derived.Test.YtfojilogcecphaaGreatStI
import Derived.Test.YtfojilogcecphaaGreatStM
import Derived.Test.YtfojilogcecphaaGreatBx
import Derived.Test.YtfojilogcecphaaGreatInt
import Derived.Deep.Grids
import Derived.LoopTactic
import Derived.Outline
namespace Go.Proofs.YtfojilogcecphaaGreat.SlStep
open Go.ChangeShapes Go.WideShapes Go.ChangeAt Go.RowKit Sl St

def E : En (Int × Bool) := ⟨fun x => [.int .i64 x.1, .bool x.2], 2, fun _ => rfl, fun x v h => by simp only [List.mem_cons, List.not_mem_nil, or_false] at h; rcases h with rfl | rfl <;> rfl, by decide⟩
theorem C_eq : E.C = 2 := rfl
theorem of_eq (x : (Int × Bool)) : E.of x = [.int .i64 x.1, .bool x.2] := rfl
def zero : (Int × Bool) := (0, false)
theorem info : (Tryz.prog.info? 188).map (fun i => (i.zero, i.size, i.bytes)) = some (some (.agg #[.int .i64 0, .bool false]), 2, 16) := by kernel_rfl
/-- every number is an int of 64 bits -/
def InR (x : Int × Bool) : Prop := -9223372036854775808 ≤ x.1 ∧ x.1 ≤ 9223372036854775807
set_option maxRecDepth 100000 in
/-- what an element's cells give -/
theorem open_el {H : Type} {enc : TypeId × Value → H} {W : World} {fuel : Nat} {cs : List Value} {x : DataW H × List MemPlace} (hl : cs.length = 2) (h : DataW.trod enc Tryz.prog W 0 (fun _ => true) true fuel 196 cs = some x) :
    ∃ z : Int × Bool, cs = E.of z ∧ InR z := by
  have hi : ∃ f0 f1 : Field, Tryz.prog.underlying 196 = some (.struct #[f0, f1]) ∧ f0.offset = 0 ∧ f1.offset = 1 ∧ f0.type = 3 ∧ f1.type = 4 ∧ Tryz.prog.cellsOf 3 = 1 ∧ Tryz.prog.cellsOf 4 = 1 := ⟨_, _, Tryz.underlying196, by kernel_rfl, by kernel_rfl, by kernel_rfl, by kernel_rfl, by kernel_rfl, by kernel_rfl⟩
  obtain ⟨f0, f1, hs, o0, o1, t0, t1, c0, c1⟩ := hi
  obtain ⟨xs, n, _, _, _, hlen, hf⟩ := DataW.trod_struct hs h
  match xs, hlen with
  | [y0, y1], _ =>
    have h0 := hf 0 f0 rfl
    have h1 := hf 1 f1 rfl
    simp only [List.getElem?_cons_zero, List.getElem?_cons_succ] at h0 h1
    rw [o0, t0, c0] at h0
    rw [o1, t1, c1] at h1
    obtain ⟨e0, e1, rfl⟩ : ∃ e0 e1, cs = [e0, e1] := by
      match cs, hl with
      | [e0, e1], _ => exact ⟨e0, e1, rfl⟩
    simp only [List.drop_zero, List.take_succ_cons, List.take_zero, List.drop_succ_cons] at h0 h1
    obtain ⟨k, hz0, _, w0⟩ := DataW.trod_int Tryz.underlying3 h0
    obtain ⟨q, hz1, _⟩ := DataW.trod_bool Tryz.underlying4 h1
    simp only [List.cons.injEq, and_true] at hz0 hz1
    exact ⟨(k, q), by rw [of_eq, hz0, hz1], bounds_i64 w0⟩
set_option maxRecDepth 100000 in
/-- what a slice that came in gives -/
theorem open_argR {H : Type} {enc : TypeId × Value → H} {W : World} {base : Nat} {v : Value} {d : DataW H} {pl : List MemPlace} (h : DataW.Trod enc Tryz.prog W 0 (fun _ => true) true 122 v d pl) (hk : Value.okWide Tryz.prog W .any base 122 v) :
    ∃ p n c xs, v = .slice p n c ∧ RdS E W p n xs ∧ ∀ x ∈ xs, InR x := by
  have hC : Tryz.prog.cellsOf 196 = 2 := by kernel_rfl
  obtain ⟨a1, len, cap, rfl⟩ := okWide_slice Tryz.underlying122 hk
  obtain ⟨fuel, hf⟩ := h
  rcases Go.Deep.open_slice Tryz.underlying122 hf with ⟨hcs, _⟩ | ⟨a, len', cap', m, n', D, Pl, hcs, _, hl, hm, hmm, _, hel⟩
  · simp only [Value.cells, List.cons.injEq, Value.slice.injEq, and_true] at hcs
    obtain ⟨rfl, rfl, rfl⟩ := hcs
    exact ⟨_, _, _, [], rfl, RdS.nil_ _ _ _, fun x hx => by cases hx⟩
  · simp only [Value.cells, List.cons.injEq, Value.slice.injEq, and_true] at hcs
    obtain ⟨rfl, rfl, rfl⟩ := hcs
    have hle : len ≤ m := by rw [hmm]; split <;> omega
    have key : ∀ i, i < len → ∃ z : Int × Bool, W.cells? 0 (a.add (i * 2)) 2 = some (E.of z) ∧ InR z := by
      intro i hil
      obtain ⟨cs', hc, ht'⟩ := hel i (by omega)
      rw [hC] at hc
      obtain ⟨_, hcl, _⟩ := World.cells?_some hc
      obtain ⟨z, hcf, hr⟩ := open_el hcl ht'
      exact ⟨z, by rw [hc, hcf], hr⟩
    have ch : ∃ f : Nat → Int × Bool, ∀ i, i < len → W.cells? 0 (a.add (i * 2)) 2 = some (E.of (f i)) ∧ InR (f i) :=
      ⟨fun i => if h : i < len then Classical.choose (key i h) else zero, fun i hil => by simp only [dif_pos hil]; exact Classical.choose_spec (key i hil)⟩
    obtain ⟨f, hfz⟩ := ch
    have cell : ∀ i, i < len → ∀ j v, (E.of (f i))[j]? = some v → W.cell? (a.add (i * 2 + j)) = some v := by
      intro i hil j v hv
      obtain ⟨_, _, hat⟩ := World.cells?_some (hfz i hil).1
      have hj : j < 2 := (List.getElem?_eq_some_iff.1 hv).1
      have h1 := hat j hj
      rw [hv] at h1
      rw [← Go.Deep.add_add]
      exact h1
    refine ⟨_, len, cap, (List.range len).map f, rfl, ⟨by simp, by omega, fun hpos => ?_⟩, fun x hx => ?_⟩
    · obtain ⟨ab, ao, spot⟩ := a
      have c0 := cell 0 hpos 0 _ rfl
      have hspot : spot = none := by simpa [Addr.add] using World.cell?_spot c0
      subst hspot
      rw [Addr.add_lit] at c0
      refine ⟨ab, ao, rfl, World.block_lt_of_cell? W _ c0, fun i x hx j v hv => ?_⟩
      have hi : i < len := by
        have := (List.getElem?_eq_some_iff.1 hx).1
        simpa using this
      rw [List.getElem?_map, List.getElem?_range hi, Option.map_some, Option.some.injEq] at hx
      subst hx
      have h1 := cell i hi j v hv
      rw [Addr.add_lit, ← Nat.add_assoc] at h1
      exact h1
    · simp only [List.mem_map, List.mem_range] at hx
      obtain ⟨i, hi, rfl⟩ := hx
      exact (hfz i hi).2
set_option maxRecDepth 100000 in
theorem open_arg {H : Type} {enc : TypeId × Value → H} {W : World} {base : Nat} {v : Value} {d : DataW H} {pl : List MemPlace} (h : DataW.Trod enc Tryz.prog W 0 (fun _ => true) true 122 v d pl) (hk : Value.okWide Tryz.prog W .any base 122 v) :
    ∃ p n c xs, v = .slice p n c ∧ RdS E W p n xs := by
  obtain ⟨p, n, c, xs, e, h, _⟩ := open_argR h hk
  exact ⟨p, n, c, xs, e, h⟩
/-- The call answers a value; what lay before is as it was. -/
def Val (v : Value) (w : World) (e : Ending) (w' : World) : Prop := e = .returned v ∧ Below w.heap.size w w'
/-- The call answers a new slice, not nil, that reads as xs; what lay before is as it was. -/
def Makes (xs : List (Int × Bool)) (w : World) (e : Ending) (w' : World) : Prop := ∃ p n c, e = .returned (.slice p n c) ∧ OwS E 188 w' w.heap.size w'.heap.size p n c xs ∧ Below w.heap.size w w'
/-- The call answers true; what lay before is as it was. -/
def Yes (w : World) (e : Ending) (w' : World) : Prop := e = .returned (.bool true) ∧ Below w.heap.size w w'
set_option maxRecDepth 100000 in
set_option maxHeartbeats 1000000 in
theorem val_any (x0 : Int) (x1 : Bool) (w : World) : Calls Tryz.prog 135 #[.agg #[.int .i64 x0, .bool x1]] w (Val (.agg #[.int .i64 x0, .bool x1]) w) := by
  go_enter Tryz.func135, Tryz.ntmps135
  go_wp2_with fail
  exact bodyPost_ret (v := .agg #[.int .i64 x0, .bool x1]) (by simp [results, Tryz.results135, go_sem]) rfl ⟨rfl, (((Below.refl _ _).alloc (Nat.le_refl _) _).alloc (by simp) _).alloc (by simp; omega) _⟩
set_option maxRecDepth 100000 in
set_option maxHeartbeats 1000000 in
theorem same_any (x0 : Int) (x1 : Bool) (w : World) : Calls Tryz.prog 149 #[.agg #[.int .i64 x0, .bool x1], .agg #[.int .i64 x0, .bool x1]] w (Yes w) := by
  go_enter Tryz.func149, Tryz.ntmps149
  go_wp2_with fail
  go_ret
  exact ⟨rfl, ((Below.refl _ _).alloc (Nat.le_refl _) _).alloc (by simp) _⟩

theorem bxc {w : World} {g : Nat} {T : TypeId} {x0 x1 : Value} (h : Bx w g T #[x0, x1]) : w.cell? ⟨g, 0, none⟩ = some x0 ∧ w.cell? ⟨g, 1, none⟩ = some x1 := ⟨h.cell rfl, h.cell rfl⟩
/-! ### slices -/
/-- an element's cells at an address -/
def At (w : World) (b q : Nat) (x : (Int × Bool)) : Prop := w.cell? ⟨b, q, none⟩ = some (.int .i64 x.1) ∧ w.cell? ⟨b, q + 1, none⟩ = some (.bool x.2)
theorem rd_at {w : World} {p : Option Addr} {n k : Nat} {xs : List (Int × Bool)} (h : RdS E w p n xs) (hk : k < n) : ∃ b o, p = some ⟨b, o, none⟩ ∧ b < w.heap.size ∧ At w b (o + k * 2) (xs.getD k zero) := by
  obtain ⟨b, o, x, e, hb, hx, hc⟩ := h.at_ hk
  have hd : xs.getD k zero = x := by rw [List.getD_eq_getElem?_getD, hx]; rfl
  rw [hd]
  exact ⟨b, o, e, hb, hc 0 _ rfl, hc 1 _ rfl⟩
theorem At.below {w w' : World} {b q : Nat} {x : (Int × Bool)} (h : At w b q x) (hb : Below w.heap.size w w') (hlt : b < w.heap.size) : At w' b q x :=
  ⟨(hb.cell (p := ⟨b, q, none⟩) hlt).trans h.1, (hb.cell (p := ⟨b, q + 1, none⟩) hlt).trans h.2⟩
/-- the copy after j elements -/
def Mid (xs : List (Int × Bool)) (n j : Nat) (w wr : World) : Prop := OwS E 188 wr w.heap.size wr.heap.size (some ⟨w.heap.size, 0, none⟩) n n (xs.take j ++ List.replicate (n - j) zero) ∧ Below w.heap.size w wr
theorem Mid.start {xs : List (Int × Bool)} {n : Nat} {w w1 : World} (hown : w1.ownsRow w.heap.size 188 2 (.slice (some ⟨w.heap.size, 0, none⟩) n n) n (madeCells (Value.cells (.agg #[.int .i64 0, .bool false])) (n * 2)).toList) (hg : w.grownBy w1 none) : Mid xs n 0 w w1 := by
  have e := made_fl (E := E) (.agg #[.int .i64 0, .bool false]) zero rfl n
  rw [C_eq] at e
  rw [e] at hown
  exact ⟨OwS.of_row hown, (Below.refl _ _).grown hg (Nat.le_refl _) (fun _ h => by cases h)⟩
theorem Mid.next {xs : List (Int × Bool)} {n j : Nat} {w wr w2 : World} {x : (Int × Bool)} (h : Mid xs n j w wr) (hb : Below wr.heap.size wr w2) (hj : j < n) (hl : xs.length = n) (hx : xs.getD j zero = x) : Mid xs n (j + 1) w (w2.setCells w.heap.size (j * 2) (E.of x)) := by
  have h2 := h.1.below hb
  obtain ⟨h3, h4⟩ := h2.elem (i := j) hj x
  have hw : xs[j]'(by omega) = x := by rw [← hx, List.getD_eq_getElem?_getD, List.getElem?_eq_getElem (by omega)]; rfl
  clear hx
  subst hw hl
  rw [set_mid hj] at h3
  exact ⟨h3.wide (Nat.le_refl _) (Nat.le_trans h3.2.2.1 (Nat.le_refl _)) (Nat.le_refl _), (below_on h.2 hb).grown h4 (Nat.le_trans h.2.size hb.size) (fun k e => by cases e; exact Nat.le_refl _)⟩
theorem Mid.done {xs : List (Int × Bool)} {n : Nat} {w wr : World} (h : Mid xs n n w wr) (hl : xs.length = n) : Makes xs w (.returned (.slice (some ⟨w.heap.size, 0, none⟩) n n)) wr := by
  subst hl
  obtain ⟨h1, h2⟩ := h
  rw [List.take_length, Nat.sub_self, List.replicate_zero, List.append_nil] at h1
  exact ⟨_, _, _, rfl, h1, h2⟩
theorem Mid.cells {xs : List (Int × Bool)} {n j : Nat} {w wr : World} (h : Mid xs n j w wr) (hj : j < n) (hl : xs.length = n) : At wr w.heap.size (j * 2) zero := by
  have hx : (xs.take j ++ List.replicate (n - j) zero)[j]? = some zero := by
    rw [List.getElem?_append_right (by rw [List.length_take]; omega), List.length_take, List.getElem?_replicate, if_pos (by omega)]
  exact ⟨h.1.cell (j := 0) hx rfl, h.1.cell (j := 1) hx rfl⟩
set_option maxRecDepth 100000 in
set_option maxHeartbeats 2000000 in
theorem to_any (p : Option Addr) (n c : Nat) (xs : List (Int × Bool)) (w : World) (hr : RdS E w p n xs) (hn : n ≤ 4398046511104) : Calls Tryz.prog 102 #[.slice p n c] w (Makes xs w) := by
  obtain ⟨i0, hi, hz0, hz1, hz2⟩ := info_parts info
  have HR := Lib.hid hr
  have HL := Lib.hid hr.len
  have hle := hr.le
  clear hr
  go_enter Tryz.func102, Tryz.ntmps102
  go_wp2_with (refine wpList_make_full _ rfl _ _ 100 rfl w.heap.size 188 i0 _ 2 Tryz.underlying100 hi hz0 hz1 .i64 .i64 _ _ n rfl rfl rfl rfl (by rw [hz2]; omega) (by unfold maxLen; omega) (Nat.le_refl _) ?_; intro w1 hown1 hg1)
  have HM := Lib.hid (Mid.start (xs := xs) hown1 hg1)
  clear hown1 hg1
  go_loopw [4] (fun i wr => ∃ k : Nat, k ≤ n ∧ i = .int .i64 k ∧ Hid (Mid xs n k w wr)) (fun i _ => n - (intOf i).toNat)
  case atStart => exact ⟨0, Nat.zero_le _, rfl, HM⟩
  case round =>
    obtain ⟨k, hk, rfl, HK⟩ := hrel
    by_cases hlt : k < n
    · obtain ⟨b, o, rfl, hb, hat⟩ := rd_at (HR.out.below HK.out.2) hlt
      have hbw : b < w.heap.size := by
        obtain ⟨b', o', e, hb', _⟩ := rd_at HR.out hlt
        simp only [Option.some.injEq, Addr.mk.injEq, and_true] at e
        omega
      generalize hx : xs.getD k zero = x at hat
      have HX := Lib.hid hx
      obtain ⟨hc0, hc1⟩ := hat
      clear hx
      go_wp2_with fail
      refine (val_any _ _ _).mono ?_
      rintro e w2 ⟨rfl, hb2⟩
      obtain ⟨hd0, hd1⟩ := (HK.out.cells hlt HL.out).below hb2 (Nat.lt_of_lt_of_le (HK.out.1.far _ rfl).2 (Nat.le_refl _))
      have hf0 := (HK.out.1.below hb2).free (i := k * 2); have hf1 := (HK.out.1.below hb2).free (i := k * 2 + 1)
      have HM2 := Lib.hid (HK.out.next hb2 hlt HL.out HX.out)
      clear hb2
      go_wp2_with fail
      go_roundw
      case rel => exact ⟨k + 1, by omega, by go_num, HM2⟩
      case measure => simp [intOf]; omega
    · obtain rfl : k = n := by omega
      go_wp2_with fail
      go_ret
      exact HK.out.done HL.out
/-- all cells of two elements -/
def At2 (w : World) (b q b' q' : Nat) (z0 : Int) (z1 : Bool) : Prop := w.cell? ⟨b, q, none⟩ = some (.int .i64 z0) ∧ w.cell? ⟨b', q', none⟩ = some (.int .i64 z0) ∧ w.cell? ⟨b, q + 1, none⟩ = some (.bool z1) ∧ w.cell? ⟨b', q' + 1, none⟩ = some (.bool z1)
theorem At2.mk {w : World} {b q b' q' : Nat} {x : (Int × Bool)} (h : At w b q x) (h' : At w b' q' x) : At2 w b q b' q' x.1 x.2 := by
  obtain ⟨h0, h1⟩ := h
  obtain ⟨g0, g1⟩ := h'
  exact ⟨h0, g0, h1, g1⟩
theorem At2.below {w w' : World} {b q b' q' : Nat} {z0 : Int} {z1 : Bool} (h : At2 w b q b' q' z0 z1) (hb : Below w.heap.size w w') (l1 : b < w.heap.size) (l2 : b' < w.heap.size) : At2 w' b q b' q' z0 z1 := by
  obtain ⟨h0, g0, h1, g1⟩ := h
  exact ⟨(hb.cell (p := ⟨b, q, none⟩) l1).trans h0, (hb.cell (p := ⟨b', q', none⟩) l2).trans g0, (hb.cell (p := ⟨b, q + 1, none⟩) l1).trans h1, (hb.cell (p := ⟨b', q' + 1, none⟩) l2).trans g1⟩
set_option maxRecDepth 100000 in
set_option maxHeartbeats 4000000 in
theorem eq_any (p p' : Option Addr) (n c c' : Nat) (xs : List (Int × Bool)) (w : World) (hr : RdS E w p n xs) (hr' : RdS E w p' n xs) : Calls Tryz.prog 114 #[.slice p n c, .slice p' n c'] w (Yes w) := by
  have HR := Lib.hid hr
  have HR' := Lib.hid hr'
  have hle := hr.le
  clear hr hr'
  go_enter Tryz.func114, Tryz.ntmps114
  go_wp2_with fail
  go_loopw [5] (fun i wr => ∃ k : Nat, k ≤ n ∧ i = .int .i64 k ∧ Hid (Below w.heap.size w wr)) (fun i _ => n - (intOf i).toNat)
  case atStart => exact ⟨0, Nat.zero_le _, rfl, Below.refl _ _⟩
  case round =>
    obtain ⟨k, hk, rfl, HB⟩ := hrel
    by_cases hlt : k < n
    · obtain ⟨b, o, rfl, hb, hat⟩ := rd_at (HR.out.below HB.out) hlt
      obtain ⟨b', o', rfl, hb', hat'⟩ := rd_at (HR'.out.below HB.out) hlt
      have h2 := At2.mk hat hat'
      generalize (xs.getD k zero).1 = z0 at h2; generalize (xs.getD k zero).2 = z1 at h2
      have HH := Lib.hid h2
      clear hat hat'
      obtain ⟨h0, g0, h1, g1⟩ := h2
      have i1 : (0 : Int) ≤ (k : Int) := by omega
      have i2 : (k : Int) < (n : Int) := by omega
      go_wp2_with fail
      go_region_held3 (fun w' => w'.cell? ⟨b, o + k * 2, none⟩ = some (.int .i64 z0) ∧ w'.cell? ⟨b', o' + k * 2, none⟩ = some (.int .i64 z0) ∧ w'.cell? ⟨b, o + k * 2 + 1, none⟩ = some (.bool z1) ∧ w'.cell? ⟨b', o' + k * 2 + 1, none⟩ = some (.bool z1)) (first | exact HH.out | exact HH2.out | go_keep) (first
        | (go_at_call 149; refine (same_any _ _ _).mono ?_; rintro e w2 ⟨rfl, hb2⟩; have HH2 := Lib.hid (At2.below (w := wr.drew) HH.out hb2 hb hb'); have HB2 := Lib.hid (below_on (below_drewN HB.out 1) hb2); clear hb2))
      go_wp2_with fail
      go_roundw
      case rel => exact ⟨k + 1, by omega, by go_num, HB2⟩
      case measure => simp [intOf]; omega
    · obtain rfl : k = n := by omega
      go_wp2_with fail
      go_ret
      exact ⟨rfl, HB.out⟩

/-! ### sizes -/
theorem sz_big (p : Option Addr) (n c : Nat) (left : Int) (w : World) (h0 : 0 ≤ left) (h1 : left ≤ 1048576) (h : left < n) (hn : n ≤ 9223372036854775807) : Calls Tryz.prog 95 #[.slice p n c, .int .i64 left] w fun e w' => e = .returned (.int .i64 (-1)) ∧ w = w' := by
  go_enter Tryz.func95, Tryz.ntmps95
  go_wp2_with fail
  go_ret
  exact ⟨rfl, rfl⟩
theorem sz_fits (p : Option Addr) (n c : Nat) (left : Int) (w : World) (h1 : left ≤ 1048576) (h : n ≤ left) : Calls Tryz.prog 95 #[.slice p n c, .int .i64 left] w fun e w' => e = .returned (.int .i64 (left - n)) ∧ w = w' := by
  go_enter Tryz.func95, Tryz.ntmps95
  go_wp2_with fail
  go_ret
  exact ⟨rfl, rfl⟩
end Go.Proofs.YtfojilogcecphaaGreat.SlStep
