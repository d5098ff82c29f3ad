/- Contracts of the laws' helpers over Authority, by value and in slices: copies, equality, marks written and found. -/
import Derived.Test.YtfojilogcecphaaGreatFnd
import Derived.Test.YtfojilogcecphaaGreatStI
import Derived.Test.YtfojilogcecphaaGreatStM
import Derived.Test.YtfojilogcecphaaGreatBx
import Derived.Test.YtfojilogcecphaaGreatInt
import Derived.LoopTactic
import Derived.Outline
namespace Go.Proofs.YtfojilogcecphaaGreat.SlAuthority
open Go.ChangeShapes Go.WideShapes Go.ChangeAt Go.RowKit Sl St Fnd

def E : En I3 := ⟨fun x => [.int .i64 x.1, .int .i64 x.2.1, .int .i64 x.2.2], 3, fun _ => rfl, fun x v h => by simp only [List.mem_cons, List.not_mem_nil, or_false] at h; rcases h with rfl | rfl | rfl <;> rfl, by decide⟩
theorem C_eq : E.C = 3 := rfl
theorem of_eq (x : I3) : E.of x = [.int .i64 x.1, .int .i64 x.2.1, .int .i64 x.2.2] := rfl
def zero : I3 := (0, 0, 0)
theorem info : (Tryz.prog.info? 134).map (fun i => (i.zero, i.size, i.bytes)) = some (some (.agg #[.int .i64 0, .int .i64 0, .int .i64 0]), 3, 24) := by kernel_rfl
/-- the element of numbers -/
def mk (f : Nat → Int) : I3 := (f 0, f 1, f 2)
theorem of_mk (f : Nat → Int) : E.of (mk f) = ints 3 f := rfl
theorem agg_ints (f : Nat → Int) : Value.agg (ints 3 f).toArray = .agg #[.int .i64 (f 0), .int .i64 (f 1), .int .i64 (f 2)] := rfl
set_option maxRecDepth 100000 in
/-- what a struct that came in gives -/
theorem open_val {H : Type} {enc : TypeId × Value → H} {W : World} {base : Nat} {v : Value} {d : DataW H} {pl : List MemPlace} (h : DataW.Trod enc Tryz.prog W 0 (fun _ => true) true 136 v d pl) (hk : Value.okWide Tryz.prog W .any base 136 v) :
    ∃ x0 x1 x2 : Int, v = .agg #[.int .i64 x0, .int .i64 x1, .int .i64 x2] ∧ (-9223372036854775808 ≤ x0 ∧ x0 ≤ 9223372036854775807) ∧ (-9223372036854775808 ≤ x1 ∧ x1 ≤ 9223372036854775807) ∧ (-9223372036854775808 ≤ x2 ∧ x2 ≤ 9223372036854775807) := by
  have hi : ∃ fs, Tryz.prog.underlying 136 = some (.struct fs) ∧ intFields Tryz.prog fs = true ∧ fs.size = 3 ∧ Tryz.prog.cellsOf 136 = fs.size := ⟨_, Tryz.underlying136, by kernel_rfl, by kernel_rfl, by kernel_rfl⟩
  obtain ⟨fs, h1, h2, h3, h4⟩ := hi
  obtain ⟨f, rfl, hr⟩ := open_ints_val h1 h2 h4 hk h
  rw [h3] at hr ⊢
  exact ⟨f 0, f 1, f 2, agg_ints f, hr 0 (by decide), hr 1 (by decide), hr 2 (by decide)⟩
/-- every field is an int of 64 bits -/
def InR (x : I3) : Prop := (-9223372036854775808 ≤ x.1 ∧ x.1 ≤ 9223372036854775807) ∧ (-9223372036854775808 ≤ x.2.1 ∧ x.2.1 ≤ 9223372036854775807) ∧ (-9223372036854775808 ≤ x.2.2 ∧ x.2.2 ≤ 9223372036854775807)
set_option maxRecDepth 100000 in
/-- what a slice that came in gives -/
theorem open_argR {H : Type} {enc : TypeId × Value → H} {W : World} {base : Nat} {v : Value} {d : DataW H} {pl : List MemPlace} (h : DataW.Trod enc Tryz.prog W 0 (fun _ => true) true 23 v d pl) (hk : Value.okWide Tryz.prog W .any base 23 v) :
    ∃ p n c xs, v = .slice p n c ∧ RdS E W p n xs ∧ ∀ x ∈ xs, InR x := by
  have hi : ∃ fs, Tryz.prog.underlying 136 = some (.struct fs) ∧ intFields Tryz.prog fs = true ∧ fs.size = 3 ∧ Tryz.prog.cellsOf 136 = fs.size := ⟨_, Tryz.underlying136, by kernel_rfl, by kernel_rfl, by kernel_rfl⟩
  obtain ⟨fs, h1, h2, h3, h4⟩ := hi
  obtain ⟨p, n, c, rfl, hn, f, hrg, hc⟩ := open_ints_slice Tryz.underlying23 h1 h2 h4 hk h
  rw [h3] at hc hrg
  refine ⟨p, n, c, (List.range n).map fun i => mk (f i), rfl, ⟨by simp, hn, fun hpos => ?_⟩, fun x hx => ?_⟩
  rotate_left
  · simp only [List.mem_map, List.mem_range] at hx
    obtain ⟨i, hi, rfl⟩ := hx
    exact ⟨hrg i hi 0 (by decide), hrg i hi 1 (by decide), hrg i hi 2 (by decide)⟩
  obtain ⟨b, o, e, hb, hc⟩ := hc hpos (by decide)
  refine ⟨b, o, e, hb, fun i x hx j v hv => ?_⟩
  have hi : i < n := by
    have := (List.getElem?_eq_some_iff.1 hx).1
    simpa using this
  rw [List.getElem?_map, List.getElem?_range hi, Option.map_some, Option.some.injEq] at hx
  subst hx
  have hj : j < 3 := by
    have := (List.getElem?_eq_some_iff.1 hv).1
    rw [E.len] at this
    exact this
  have hv2 : (ints 3 (f i))[j]? = some v := hv
  rw [St.ints_at _ hj, Option.some.injEq] at hv2
  subst hv2
  exact hc i hi j hj
set_option maxRecDepth 100000 in
theorem open_arg {H : Type} {enc : TypeId × Value → H} {W : World} {base : Nat} {v : Value} {d : DataW H} {pl : List MemPlace} (h : DataW.Trod enc Tryz.prog W 0 (fun _ => true) true 23 v d pl) (hk : Value.okWide Tryz.prog W .any base 23 v) :
    ∃ p n c xs, v = .slice p n c ∧ RdS E W p n xs := by
  obtain ⟨p, n, c, xs, e, h, _⟩ := open_argR h hk
  exact ⟨p, n, c, xs, e, h⟩
/-- The call answers a value; what lay before is as it was. -/
def Val (v : Value) (w : World) (e : Ending) (w' : World) : Prop := e = .returned v ∧ Below w.heap.size w w'
/-- The call answers a new slice, not nil, that reads as xs; what lay before is as it was. -/
def Makes (xs : List I3) (w : World) (e : Ending) (w' : World) : Prop := ∃ p n c, e = .returned (.slice p n c) ∧ OwS E 134 w' w.heap.size w'.heap.size p n c xs ∧ Below w.heap.size w w'
/-- The call answers true; what lay before is as it was. -/
def Yes (w : World) (e : Ending) (w' : World) : Prop := e = .returned (.bool true) ∧ Below w.heap.size w w'
set_option maxRecDepth 100000 in
set_option maxHeartbeats 1000000 in
theorem val_any (x0 x1 x2 : Int) (w : World) : Calls Tryz.prog 72 #[.agg #[.int .i64 x0, .int .i64 x1, .int .i64 x2]] w (Val (.agg #[.int .i64 x0, .int .i64 x1, .int .i64 x2]) w) := by
  go_enter Tryz.func72, Tryz.ntmps72
  go_wp2_with fail
  exact bodyPost_ret (v := .agg #[.int .i64 x0, .int .i64 x1, .int .i64 x2]) (by simp [results, Tryz.results72, go_sem]) rfl ⟨rfl, (((Below.refl _ _).alloc (Nat.le_refl _) _).alloc (by simp) _).alloc (by simp; omega) _⟩
set_option maxRecDepth 100000 in
set_option maxHeartbeats 1000000 in
theorem same_any (x0 x1 x2 : Int) (w : World) : Calls Tryz.prog 83 #[.agg #[.int .i64 x0, .int .i64 x1, .int .i64 x2], .agg #[.int .i64 x0, .int .i64 x1, .int .i64 x2]] w (Yes w) := by
  go_enter Tryz.func83, Tryz.ntmps83
  go_wp2_with fail
  go_ret
  exact ⟨rfl, ((Below.refl _ _).alloc (Nat.le_refl _) _).alloc (by simp) _⟩

theorem bxc {w : World} {g : Nat} {T : TypeId} {x0 x1 x2 : Value} (h : Bx w g T #[x0, x1, x2]) : w.cell? ⟨g, 0, none⟩ = some x0 ∧ w.cell? ⟨g, 1, none⟩ = some x1 ∧ w.cell? ⟨g, 2, none⟩ = some x2 := ⟨h.cell rfl, h.cell rfl, h.cell rfl⟩
/-! ### slices -/
/-- an element's cells at an address -/
def At (w : World) (b q : Nat) (x : I3) : Prop := w.cell? ⟨b, q, none⟩ = some (.int .i64 x.1) ∧ w.cell? ⟨b, q + 1, none⟩ = some (.int .i64 x.2.1) ∧ w.cell? ⟨b, q + 2, none⟩ = some (.int .i64 x.2.2)
theorem rd_at {w : World} {p : Option Addr} {n k : Nat} {xs : List I3} (h : RdS E w p n xs) (hk : k < n) : ∃ b o, p = some ⟨b, o, none⟩ ∧ b < w.heap.size ∧ At w b (o + k * 3) (xs.getD k zero) := by
  obtain ⟨b, o, x, e, hb, hx, hc⟩ := h.at_ hk
  have hd : xs.getD k zero = x := by rw [List.getD_eq_getElem?_getD, hx]; rfl
  rw [hd]
  exact ⟨b, o, e, hb, hc 0 _ rfl, hc 1 _ rfl, hc 2 _ rfl⟩
theorem At.below {w w' : World} {b q : Nat} {x : I3} (h : At w b q x) (hb : Below w.heap.size w w') (hlt : b < w.heap.size) : At w' b q x :=
  ⟨(hb.cell (p := ⟨b, q, none⟩) hlt).trans h.1, (hb.cell (p := ⟨b, q + 1, none⟩) hlt).trans h.2.1, (hb.cell (p := ⟨b, q + 2, none⟩) hlt).trans h.2.2⟩
/-- the copy after j elements -/
def Mid (xs : List I3) (n j : Nat) (w wr : World) : Prop := OwS E 134 wr w.heap.size wr.heap.size (some ⟨w.heap.size, 0, none⟩) n n (xs.take j ++ List.replicate (n - j) zero) ∧ Below w.heap.size w wr
theorem Mid.start {xs : List I3} {n : Nat} {w w1 : World} (hown : w1.ownsRow w.heap.size 134 3 (.slice (some ⟨w.heap.size, 0, none⟩) n n) n (madeCells (Value.cells (.agg #[.int .i64 0, .int .i64 0, .int .i64 0])) (n * 3)).toList) (hg : w.grownBy w1 none) : Mid xs n 0 w w1 := by
  have e := made_fl (E := E) (.agg #[.int .i64 0, .int .i64 0, .int .i64 0]) zero rfl n
  rw [C_eq] at e
  rw [e] at hown
  exact ⟨OwS.of_row hown, (Below.refl _ _).grown hg (Nat.le_refl _) (fun _ h => by cases h)⟩
theorem Mid.next {xs : List I3} {n j : Nat} {w wr w2 : World} {x : I3} (h : Mid xs n j w wr) (hb : Below wr.heap.size wr w2) (hj : j < n) (hl : xs.length = n) (hx : xs.getD j zero = x) : Mid xs n (j + 1) w (w2.setCells w.heap.size (j * 3) (E.of x)) := by
  have h2 := h.1.below hb
  obtain ⟨h3, h4⟩ := h2.elem (i := j) hj x
  have hw : xs[j]'(by omega) = x := by rw [← hx, List.getD_eq_getElem?_getD, List.getElem?_eq_getElem (by omega)]; rfl
  clear hx
  subst hw hl
  rw [set_mid hj] at h3
  exact ⟨h3.wide (Nat.le_refl _) (Nat.le_trans h3.2.2.1 (Nat.le_refl _)) (Nat.le_refl _), (below_on h.2 hb).grown h4 (Nat.le_trans h.2.size hb.size) (fun k e => by cases e; exact Nat.le_refl _)⟩
theorem Mid.done {xs : List I3} {n : Nat} {w wr : World} (h : Mid xs n n w wr) (hl : xs.length = n) : Makes xs w (.returned (.slice (some ⟨w.heap.size, 0, none⟩) n n)) wr := by
  subst hl
  obtain ⟨h1, h2⟩ := h
  rw [List.take_length, Nat.sub_self, List.replicate_zero, List.append_nil] at h1
  exact ⟨_, _, _, rfl, h1, h2⟩
theorem Mid.cells {xs : List I3} {n j : Nat} {w wr : World} (h : Mid xs n j w wr) (hj : j < n) (hl : xs.length = n) : At wr w.heap.size (j * 3) zero := by
  have hx : (xs.take j ++ List.replicate (n - j) zero)[j]? = some zero := by
    rw [List.getElem?_append_right (by rw [List.length_take]; omega), List.length_take, List.getElem?_replicate, if_pos (by omega)]
  exact ⟨h.1.cell (j := 0) hx rfl, h.1.cell (j := 1) hx rfl, h.1.cell (j := 2) hx rfl⟩
set_option maxRecDepth 100000 in
set_option maxHeartbeats 2000000 in
theorem to_any (p : Option Addr) (n c : Nat) (xs : List I3) (w : World) (hr : RdS E w p n xs) (hn : n ≤ 2932031007402) : Calls Tryz.prog 42 #[.slice p n c] w (Makes xs w) := by
  obtain ⟨i0, hi, hz0, hz1, hz2⟩ := info_parts info
  have HR := Lib.hid hr
  have HL := Lib.hid hr.len
  have hle := hr.le
  clear hr
  go_enter Tryz.func42, Tryz.ntmps42
  go_wp2_with (refine wpList_make_full _ rfl _ _ 36 rfl w.heap.size 134 i0 _ 3 Tryz.underlying36 hi hz0 hz1 .i64 .i64 _ _ n rfl rfl rfl rfl (by rw [hz2]; omega) (by unfold maxLen; omega) (Nat.le_refl _) ?_; intro w1 hown1 hg1)
  have HM := Lib.hid (Mid.start (xs := xs) hown1 hg1)
  clear hown1 hg1
  go_loopw [4] (fun i wr => ∃ k : Nat, k ≤ n ∧ i = .int .i64 k ∧ Hid (Mid xs n k w wr)) (fun i _ => n - (intOf i).toNat)
  case atStart => exact ⟨0, Nat.zero_le _, rfl, HM⟩
  case round =>
    obtain ⟨k, hk, rfl, HK⟩ := hrel
    by_cases hlt : k < n
    · obtain ⟨b, o, rfl, hb, hat⟩ := rd_at (HR.out.below HK.out.2) hlt
      have hbw : b < w.heap.size := by
        obtain ⟨b', o', e, hb', _⟩ := rd_at HR.out hlt
        simp only [Option.some.injEq, Addr.mk.injEq, and_true] at e
        omega
      generalize hx : xs.getD k zero = x at hat
      have HX := Lib.hid hx
      obtain ⟨hc0, hc1, hc2⟩ := hat
      clear hx
      go_wp2_with fail
      refine (val_any _ _ _ _).mono ?_
      rintro e w2 ⟨rfl, hb2⟩
      obtain ⟨hd0, hd1, hd2⟩ := (HK.out.cells hlt HL.out).below hb2 (Nat.lt_of_lt_of_le (HK.out.1.far _ rfl).2 (Nat.le_refl _))
      have hf0 := (HK.out.1.below hb2).free (i := k * 3); have hf1 := (HK.out.1.below hb2).free (i := k * 3 + 1); have hf2 := (HK.out.1.below hb2).free (i := k * 3 + 2)
      have HM2 := Lib.hid (HK.out.next hb2 hlt HL.out HX.out)
      clear hb2
      go_wp2_with fail
      go_roundw
      case rel => exact ⟨k + 1, by omega, by go_num, HM2⟩
      case measure => simp [intOf]; omega
    · obtain rfl : k = n := by omega
      go_wp2_with fail
      go_ret
      exact HK.out.done HL.out
/-- all cells of two elements -/
def At2 (w : World) (b q b' q' : Nat) (z0 z1 z2 : Int) : Prop := w.cell? ⟨b, q, none⟩ = some (.int .i64 z0) ∧ w.cell? ⟨b', q', none⟩ = some (.int .i64 z0) ∧ w.cell? ⟨b, q + 1, none⟩ = some (.int .i64 z1) ∧ w.cell? ⟨b', q' + 1, none⟩ = some (.int .i64 z1) ∧ w.cell? ⟨b, q + 2, none⟩ = some (.int .i64 z2) ∧ w.cell? ⟨b', q' + 2, none⟩ = some (.int .i64 z2)
theorem At2.mk {w : World} {b q b' q' : Nat} {x : I3} (h : At w b q x) (h' : At w b' q' x) : At2 w b q b' q' x.1 x.2.1 x.2.2 := by
  obtain ⟨h0, h1, h2⟩ := h
  obtain ⟨g0, g1, g2⟩ := h'
  exact ⟨h0, g0, h1, g1, h2, g2⟩
theorem At2.below {w w' : World} {b q b' q' : Nat} {z0 z1 z2 : Int} (h : At2 w b q b' q' z0 z1 z2) (hb : Below w.heap.size w w') (l1 : b < w.heap.size) (l2 : b' < w.heap.size) : At2 w' b q b' q' z0 z1 z2 := by
  obtain ⟨h0, g0, h1, g1, h2, g2⟩ := h
  exact ⟨(hb.cell (p := ⟨b, q, none⟩) l1).trans h0, (hb.cell (p := ⟨b', q', none⟩) l2).trans g0, (hb.cell (p := ⟨b, q + 1, none⟩) l1).trans h1, (hb.cell (p := ⟨b', q' + 1, none⟩) l2).trans g1, (hb.cell (p := ⟨b, q + 2, none⟩) l1).trans h2, (hb.cell (p := ⟨b', q' + 2, none⟩) l2).trans g2⟩
set_option maxRecDepth 100000 in
set_option maxHeartbeats 4000000 in
theorem eq_any (p p' : Option Addr) (n c c' : Nat) (xs : List I3) (w : World) (hr : RdS E w p n xs) (hr' : RdS E w p' n xs) : Calls Tryz.prog 49 #[.slice p n c, .slice p' n c'] w (Yes w) := by
  have HR := Lib.hid hr
  have HR' := Lib.hid hr'
  have hle := hr.le
  clear hr hr'
  go_enter Tryz.func49, Tryz.ntmps49
  go_wp2_with fail
  go_loopw [5] (fun i wr => ∃ k : Nat, k ≤ n ∧ i = .int .i64 k ∧ Hid (Below w.heap.size w wr)) (fun i _ => n - (intOf i).toNat)
  case atStart => exact ⟨0, Nat.zero_le _, rfl, Below.refl _ _⟩
  case round =>
    obtain ⟨k, hk, rfl, HB⟩ := hrel
    by_cases hlt : k < n
    · obtain ⟨b, o, rfl, hb, hat⟩ := rd_at (HR.out.below HB.out) hlt
      obtain ⟨b', o', rfl, hb', hat'⟩ := rd_at (HR'.out.below HB.out) hlt
      have h2 := At2.mk hat hat'
      generalize (xs.getD k zero).1 = z0 at h2; generalize (xs.getD k zero).2.1 = z1 at h2; generalize (xs.getD k zero).2.2 = z2 at h2
      have HH := Lib.hid h2
      clear hat hat'
      obtain ⟨h0, g0, h1, g1, h2, g2⟩ := h2
      have i1 : (0 : Int) ≤ (k : Int) := by omega
      have i2 : (k : Int) < (n : Int) := by omega
      go_wp2_with fail
      go_region_held3 (fun w' => w'.cell? ⟨b, o + k * 3, none⟩ = some (.int .i64 z0) ∧ w'.cell? ⟨b', o' + k * 3, none⟩ = some (.int .i64 z0) ∧ w'.cell? ⟨b, o + k * 3 + 1, none⟩ = some (.int .i64 z1) ∧ w'.cell? ⟨b', o' + k * 3 + 1, none⟩ = some (.int .i64 z1) ∧ w'.cell? ⟨b, o + k * 3 + 2, none⟩ = some (.int .i64 z2) ∧ w'.cell? ⟨b', o' + k * 3 + 2, none⟩ = some (.int .i64 z2)) (first | exact HH.out | exact HH2.out | go_keep) (first
        | (go_at_call 83; refine (same_any _ _ _ _).mono ?_; rintro e w2 ⟨rfl, hb2⟩; have HH2 := Lib.hid (At2.below (w := wr.drew) HH.out hb2 hb hb'); have HB2 := Lib.hid (below_on (below_drewN HB.out 1) hb2); clear hb2))
      go_wp2_with fail
      go_roundw
      case rel => exact ⟨k + 1, by omega, by go_num, HB2⟩
      case measure => simp [intOf]; omega
    · obtain rfl : k = n := by omega
      go_wp2_with fail
      go_ret
      exact ⟨rfl, HB.out⟩

/-! ### marks -/
/-- n elements that bear the numbers from m on -/
def marks (m : Int) (n : Nat) : List I3 := (List.range n).map fun i => mk fun j => m + ((i * 3 + j : Nat) : Int)
theorem marks_len (m : Int) (n : Nat) : (marks m n).length = n := by simp [marks]
theorem marks_at (m : Int) {n k : Nat} (h : k < n) : (marks m n).getD k zero = mk fun j => m + ((k * 3 + j : Nat) : Int) := by
  rw [List.getD_eq_getElem?_getD, marks, List.getElem?_map, List.getElem?_range h]
  rfl
theorem marks_set (m : Int) (xs : List I3) (j : Nat) (h : j < xs.length) {x : I3} (hx : x = mk fun q => m + ((j * 3 + q : Nat) : Int)) : (marks m j ++ xs.drop j).set j x = marks m (j + 1) ++ xs.drop (j + 1) := by
  subst hx
  rw [List.drop_eq_getElem_cons h, List.set_append_right _ _ (by rw [marks_len]; exact Nat.le_refl _), marks_len, Nat.sub_self, List.set_cons_zero]
  simp [marks, List.range_succ]
/-- the slice after j marks -/
def MarkMid (lo hi : Nat) (p : Option Addr) (n c : Nat) (xs : List I3) (m : Int) (j : Nat) (w wr : World) : Prop :=
  OwS E 134 wr lo hi p n c (marks m j ++ xs.drop j) ∧ w.grownBy wr (Value.slice p n c).ownBlock
theorem MarkMid.next {lo hi g n c j : Nat} {xs : List I3} {m : Int} {w wr : World} (h : MarkMid lo hi (some ⟨g, 0, none⟩) n c xs m j w wr) (hj : j < n) (hl : xs.length = n) {x : I3} (hx : x = mk fun q => m + ((j * 3 + q : Nat) : Int)) : MarkMid lo hi (some ⟨g, 0, none⟩) n c xs m (j + 1) w (wr.setCells g (j * 3) (E.of x)) := by
  obtain ⟨h1, h2⟩ := h.1.elem (i := j) hj x
  rw [marks_set m xs j (by omega) hx] at h1
  exact ⟨h1, ⟨h2.os.trans h.2.os, h2.tape.trans h.2.tape, h2.output.trans h.2.output, Nat.le_trans h.2.size h2.size, fun i hi hne => (h2.block i (Nat.lt_of_lt_of_le hi h.2.size) hne).trans (h.2.block i hi hne)⟩⟩
theorem MarkMid.cells {lo hi g n c j : Nat} {xs : List I3} {m : Int} {w wr : World} (h : MarkMid lo hi (some ⟨g, 0, none⟩) n c xs m j w wr) (hj : j < n) (hl : xs.length = n) : At wr g (j * 3) xs[j] := by
  have hx : (marks m j ++ xs.drop j)[j]? = some xs[j] := by
    rw [List.getElem?_append_right (by rw [marks_len]; exact Nat.le_refl _), marks_len, Nat.sub_self, List.drop_eq_getElem_cons (by omega)]
    rfl
  exact ⟨h.1.cell (j := 0) hx rfl, h.1.cell (j := 1) hx rfl, h.1.cell (j := 2) hx rfl⟩
/-- The call answers the next mark; the slice bears the marks; no other block has turned. -/
def Marked (lo hi : Nat) (p : Option Addr) (n c : Nat) (m : Int) (w : World) (e : Ending) (w' : World) : Prop := e = .returned (.int .i64 (m + (n * 3 : Nat))) ∧ OwS E 134 w' lo hi p n c (marks m n) ∧ w.grownBy w' (Value.slice p n c).ownBlock
theorem MarkMid.done {lo hi n c : Nat} {p : Option Addr} {xs : List I3} {m : Int} {w wr : World} (h : MarkMid lo hi p n c xs m n w wr) (hl : xs.length = n) : Marked lo hi p n c m w (.returned (.int .i64 (m + (n * 3 : Nat)))) wr := by
  subst hl
  obtain ⟨h1, h2⟩ := h
  rw [List.drop_length, List.append_nil] at h1
  exact ⟨rfl, h1, h2⟩
/-! ### sizes -/
theorem sz_big (p : Option Addr) (n c : Nat) (left : Int) (w : World) (h0 : 0 ≤ left) (h1 : left ≤ 1048576) (h : left < n) (hn : n ≤ 9223372036854775807) : Calls Tryz.prog 36 #[.slice p n c, .int .i64 left] w fun e w' => e = .returned (.int .i64 (-1)) ∧ w = w' := by
  go_enter Tryz.func36, Tryz.ntmps36
  go_wp2_with fail
  go_ret
  exact ⟨rfl, rfl⟩
theorem sz_fits (p : Option Addr) (n c : Nat) (left : Int) (w : World) (h1 : left ≤ 1048576) (h : n ≤ left) : Calls Tryz.prog 36 #[.slice p n c, .int .i64 left] w fun e w' => e = .returned (.int .i64 (left - n)) ∧ w = w' := by
  go_enter Tryz.func36, Tryz.ntmps36
  go_wp2_with fail
  go_ret
  exact ⟨rfl, rfl⟩
end Go.Proofs.YtfojilogcecphaaGreat.SlAuthority
