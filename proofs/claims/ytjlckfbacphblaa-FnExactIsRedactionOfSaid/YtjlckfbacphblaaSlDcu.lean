/- Contracts of the laws' helpers over Document: opened, copied, compared, measured. -/
import Derived.Test.YtjlckfbacphblaaSlBool
import Derived.Test.YtjlckfbacphblaaSlL
import Derived.Test.YtjlckfbacphblaaDk
import Derived.Test.YtjlckfbacphblaaSlDoc
import Derived.OpenShut
namespace Go.Proofs.Ytjlckfbacphblaa.SlDcu
open Go.ChangeShapes Go.WideShapes Go.ChangeAt Go.RowKit Sl St Tn Dk

/-- the value's addresses and lengths -/
structure Ra where
  t : Int
  psp : Option Addr
  psn : Nat
  psc : Nat
  ssp : Option Addr
  ssn : Nat
  ssc : Nat
/-- what it reads as -/
structure Rc where
  t : Int
  ps : List ByteArray
  ss : List Int
def Ra.cells (a : Ra) : Array Value := #[.int .i64 a.t, .slice a.psp a.psn a.psc, .slice a.ssp a.ssn a.ssc]
def Ra.val (a : Ra) : Value := .agg a.cells
def zeros : Array Value := #[.int .i64 0, .slice none 0 0, .slice none 0 0]
def RdR (w : World) (a : Ra) (D : Rc) : Prop := a.t = D.t ∧ RdS SlStr.E w a.psp a.psn D.ps ∧ Rd .i64 w a.ssp a.ssn D.ss
section
variable {w w' : World} {a : Ra} {D : Rc}
theorem RdR.below (h : RdR w a D) (hb : Below w.heap.size w w') : RdR w' a D := by
  obtain ⟨h0, h1, h2⟩ := h
  exact ⟨h0, h1.below hb, h2.below hb⟩
theorem RdR.drewN (h : RdR w a D) (q : Nat) : RdR (w.drewN q) a D := h.below (below_drewN (Below.refl _ _) q)
theorem RdR.alloc (h : RdR w a D) (o : Obj) : RdR (w.alloc o) a D := h.below ((Below.refl _ _).alloc (Nat.le_refl _) _)
end
/-- the ints in range, the strings of a size -/
def Wf (D : Rc) : Prop := (-9223372036854775808 ≤ D.t ∧ D.t ≤ 9223372036854775807) ∧ (∀ s ∈ D.ps, s.size ≤ 9223372036854775807)
set_option maxRecDepth 100000 in
theorem open_cells {H : Type} {enc : TypeId × Value → H} {W : World} {fuel : Nat} {cs : List Value} {x : DataW H × List MemPlace} (h : DataW.trod enc Try.prog W 0 (fun _ => true) true fuel 53 cs = some x) (hl : cs.length = 3) : ∃ (a : Ra) (D : Rc), cs = a.cells.toList ∧ RdR W a D ∧ Wf D := by
  have hi : ∃ f0 f1 f2 : Field, Try.prog.underlying 53 = some (.struct #[f0, f1, f2]) ∧ f0.offset = 0 ∧ f1.offset = 1 ∧ f2.offset = 2 ∧ f0.type = 3 ∧ f1.type = 24 ∧ f2.type = 25 ∧ Try.prog.cellsOf 3 = 1 ∧ Try.prog.cellsOf 24 = 1 ∧ Try.prog.cellsOf 25 = 1 := ⟨_, _, _, Try.underlying53, by kernel_rfl, by kernel_rfl, by kernel_rfl, by kernel_rfl, by kernel_rfl, by kernel_rfl, by kernel_rfl, by kernel_rfl, by kernel_rfl⟩
  obtain ⟨f0, f1, f2, hs, o0, o1, o2, t0, t1, t2, c0, c1, c2⟩ := hi
  obtain ⟨xs, n', _, rfl, _, hlen, hf⟩ := DataW.trod_struct hs h
  match xs, hlen, cs, hl with
  | [y0, y1, y2], _, [a0, a1, a2], _ =>
    have g0 := hf 0 f0 rfl
    rw [o0, t0, c0] at g0
    have g1 := hf 1 f1 rfl
    rw [o1, t1, c1] at g1
    have g2 := hf 2 f2 rfl
    rw [o2, t2, c2] at g2
    simp only [List.drop_zero, List.drop_succ_cons, List.take_succ_cons, List.take_zero, List.getElem?_cons_zero, List.getElem?_cons_succ] at g0 g1 g2
    obtain ⟨z0, e0, _, w0⟩ := DataW.trod_int Try.underlying3 g0
    obtain ⟨p1, n1, b1, x1, e1, r1, s1⟩ := SlStr.open_cells g1
    obtain ⟨p2, n2, b2, x2, e2, r2⟩ := SlStr.open_cellsI g2
    simp only [List.cons.injEq, and_true] at e0 e1 e2
    exact ⟨⟨z0, p1, n1, b1, p2, n2, b2⟩, ⟨z0, x1, x2⟩, by rw [e0, e1, e2]; rfl, ⟨rfl, r1, r2⟩, ⟨bounds_i64 w0, s1⟩⟩
set_option maxRecDepth 100000 in
theorem open_val {H : Type} {enc : TypeId × Value → H} {W : World} {base : Nat} {v : Value} {X : DataW H} {pl : List MemPlace} (h : DataW.Trod enc Try.prog W 0 (fun _ => true) true 53 v X pl) (hk : Value.okWide Try.prog W .any base 53 v) : ∃ (a : Ra) (D : Rc), v = a.val ∧ RdR W a D ∧ Wf D := by
  have hi : ∃ fs, Try.prog.underlying 53 = some (.struct fs) ∧ Try.prog.cellsOf 53 = 3 := ⟨_, Try.underlying53, by kernel_rfl⟩
  obtain ⟨fs, hs, hC⟩ := hi
  obtain ⟨cs, rfl, hsz⟩ := okWide_struct hs hk
  obtain ⟨fuel, hf⟩ := h
  obtain ⟨a, D, e, h1, h2⟩ := open_cells hf (by simp only [Value.cells, Array.length_toList]; rw [hsz, hC])
  simp only [Value.cells] at e
  have e2 : cs = a.cells := Array.ext' e
  exact ⟨a, D, by rw [e2]; rfl, h1, h2⟩
theorem bx3 {w : World} {g : Nat} {T : TypeId} {x0 x1 x2 : Value} (h : Bx w g T #[x0, x1, x2]) : w.cell? ⟨g, 0, none⟩ = some x0 ∧ w.cell? ⟨g, 1, none⟩ = some x1 ∧ w.cell? ⟨g, 2, none⟩ = some x2 := ⟨h.cell rfl, h.cell rfl, h.cell rfl⟩
/-! ### what stays though some blocks turn -/
def Stay (B : Nat) (F : World → Prop) (w : World) : Prop := ∀ w', Turn (fun i => i < B) w w' → F w'
theorem Stay.now {B : Nat} {F : World → Prop} {w : World} (h : Stay B F w) : F w := h w (Turn.refl _ _)
theorem Stay.on {B : Nat} {F : World → Prop} {w w' : World} (h : Stay B F w) (ht : Turn (fun i => i < B) w w') : Stay B F w' := fun _ hx => h _ (ht.trans hx)
theorem Stay.below {B : Nat} {F : World → Prop} {w w' : World} (h : Stay B F w) (hb : Below w.heap.size w w') : Stay B F w' := h.on (Turn.of_below hb _)
theorem Stay.set {B : Nat} {F : World → Prop} {w : World} (h : Stay B F w) {g j : Nat} (hg : g < B) (v : Value) : Stay B F (w.setCell ⟨g, j, none⟩ v) := h.on ((Turn.refl (fun i => i < B) w).set hg v)
theorem stayI {B : Nat} {w : World} {k : IntKind} {T : TypeId} {lo hi n c : Nat} {p : Option Addr} {xs : List Int} (h : Ow k T w lo hi p n c xs) (hB : B ≤ lo) : Stay B (fun w => Rd k w p n xs) w := fun _ ht => (owI_far h ht fun g e => by left; omega).rd
theorem stayS {α : Type} {E : En α} {B : Nat} {w : World} {T : TypeId} {lo hi n c : Nat} {p : Option Addr} {xs : List α} (h : OwS E T w lo hi p n c xs) (hB : B ≤ lo) : Stay B (fun w => RdS E w p n xs) w := fun _ ht => (owS_far h ht fun g e => by left; omega).rd
theorem stayL {B : Nat} {w : World} {lo hi n c : Nat} {p : Option Addr} {xs : List (List Int)} (h : SlL.OwL w lo hi p n c xs) (hB : B ≤ lo) : Stay B (fun w => SlL.RdL w p n xs) w := fun _ ht => (h.far ht fun g e => by left; omega).rd
/-! ### the measure -/
theorem szB_any (p : Option Addr) (m d : Nat) (left : Nat) (w : World) (h1 : left ≤ 1048576) (hn : m ≤ 9223372036854775807) : Calls Try.prog 87 #[.slice p m d, .int .i64 left] w fun e w' => e = .returned (.int .i64 (SlL.szl m left)) ∧ w = w' := by
  by_cases h : m ≤ left
  · refine (SlBool.sz_fits p m d left w (by omega) (by omega)).mono ?_
    rintro e w' ⟨rfl, rfl⟩
    exact ⟨by rw [SlL.szl_fit h], rfl⟩
  · refine (SlBool.sz_big p m d left w (by omega) (by omega) (by omega) hn).mono ?_
    rintro e w' ⟨rfl, rfl⟩
    exact ⟨by rw [SlL.szl_big h], rfl⟩
theorem szS_any (p : Option Addr) (n c : Nat) (xs : List ByteArray) (left : Nat) (w : World) (hr : RdS SlStr.E w p n xs) (hs : ∀ s ∈ xs, s.size ≤ 9223372036854775807) (h1 : left ≤ 1048576) : Calls Try.prog 74 #[.slice p n c, .int .i64 left] w fun e w' => e = .returned (.int .i64 (SlL.szl (n + SlStr.tot xs) left)) ∧ w = w' := by
  refine (SlStr.sz_any p n c xs left w hr hs h1).mono ?_
  rintro e w' ⟨rfl, rfl⟩
  refine ⟨?_, rfl⟩
  have hl := hr.len
  unfold SlStr.szI SlL.szl
  rw [hl]
  by_cases h : n + SlStr.tot xs ≤ left
  · rw [if_pos h, if_pos h]
    congr 2
    omega
  · rw [if_neg h, if_neg h]
theorem szL_any (p : Option Addr) (n c : Nat) (xs : List (List Int)) (left : Nat) (w : World) (hr : SlL.RdL w p n xs) (h1 : left ≤ 1048576) : Calls Try.prog 88 #[.slice p n c, .int .i64 left] w fun e w' => e = .returned (.int .i64 (SlL.szl (n + SlL.tl xs) left)) ∧ w = w' := by
  refine (SlL.sz_any p n c xs left w hr h1).mono ?_
  rintro e w' ⟨rfl, rfl⟩
  refine ⟨?_, rfl⟩
  have hl := hr.len
  unfold SlL.szI SlL.szl
  rw [hl]
  by_cases h : n + SlL.tl xs ≤ left
  · rw [if_pos h, if_pos h]
    congr 2
    omega
  · rw [if_neg h, if_neg h]
def size (D : Rc) : Nat := (D.ps.length + SlStr.tot D.ps) + D.ss.length
set_option maxRecDepth 100000 in
set_option maxHeartbeats 4000000 in
theorem sz_any (a : Ra) (D : Rc) (left : Nat) (w : World) (h : RdR w a D) (hw : Wf D) (hleft : left ≤ 1048576) : Calls Try.prog 27 #[a.val, .int .i64 left] w fun e w' => e = .returned (.int .i64 (SlL.szl (size D) left)) ∧ Below w.heap.size w w' := by
  obtain ⟨t, psp, psn, psc, ssp, ssn, ssc⟩ := a
  obtain ⟨dt, dps, dss⟩ := D
  obtain ⟨et, rps, rss⟩ := h
  dsimp only at et rps rss
  subst et
  obtain ⟨_, sps⟩ := hw
  have lps := rps.len
  have bps := rps.le
  obtain ⟨τps, hτps⟩ : ∃ τ, SlStr.tot dps = τ := ⟨_, rfl⟩
  have lss := rss.len
  have bss := rss.le
  have HSZ : Hid (size ⟨t, dps, dss⟩ = (psn + τps) + ssn) := Lib.hid (by unfold size; dsimp only; rw [lps, lss, hτps])
  have Hps := Lib.hid rps
  have Hss := Lib.hid rss
  have Tps := Lib.hid hτps
  clear rps lps rss lss hτps
  have HB := Lib.hid (box1 w (.cells #[.int .i64 t, .slice psp psn psc, .slice ssp ssn ssc] 53))
  simp only [Ra.val, Ra.cells]
  by_cases qps : (psn + τps) ≤ left
  rotate_left
  · go_enter Try.func27, Try.ntmps27
    have Vps : Hid (SlL.szl (psn + τps) (left) = -1) := Lib.hid (SlL.szl_big qps)
    go_wp2_with fail
    refine (szS_any _ _ _ dps (left) _ (Hps.out.below HB.out) sps (by omega)).mono ?_
    rintro e w1 ⟨rfl, rfl⟩
    rw [Tps.out]
    rw [Vps.out]
    go_wp2_with fail
    go_ret
    exact ⟨by rw [HSZ.out, SlL.szl_big (by omega)]; rfl, HB.out⟩
  have Vps : Hid (SlL.szl (psn + τps) (left) = ((left - (psn + τps) : Nat) : Int)) := Lib.hid (by rw [SlL.szl_fit qps]; omega)
  by_cases qss : ssn ≤ left - (psn + τps)
  rotate_left
  · go_enter Try.func27, Try.ntmps27
    go_wp2_with fail
    refine (szS_any _ _ _ dps (left) _ (Hps.out.below HB.out) sps (by omega)).mono ?_
    rintro e w1 ⟨rfl, rfl⟩
    rw [Tps.out]
    rw [Vps.out]
    have Vss : Hid (SlL.szl ssn (left - (psn + τps)) = -1) := Lib.hid (SlL.szl_big qss)
    go_wp2_with fail
    refine (SlL.szI_any _ _ _ (left - (psn + τps)) _ (by omega) (by omega)).mono ?_
    rintro e w1 ⟨rfl, rfl⟩
    rw [Vss.out]
    go_wp2_with fail
    go_ret
    exact ⟨by rw [HSZ.out, SlL.szl_big (by omega)]; rfl, HB.out⟩
  have Vss : Hid (SlL.szl ssn (left - (psn + τps)) = ((left - (psn + τps) - ssn : Nat) : Int)) := Lib.hid (by rw [SlL.szl_fit qss]; omega)
  go_enter Try.func27, Try.ntmps27
  go_wp2_with fail
  refine (szS_any _ _ _ dps (left) _ (Hps.out.below HB.out) sps (by omega)).mono ?_
  rintro e w1 ⟨rfl, rfl⟩
  rw [Tps.out]
  rw [Vps.out]
  go_wp2_with fail
  refine (SlL.szI_any _ _ _ (left - (psn + τps)) _ (by omega) (by omega)).mono ?_
  rintro e w1 ⟨rfl, rfl⟩
  rw [Vss.out]
  go_wp2_with fail
  go_ret
  have hv : SlL.szl (size ⟨t, dps, dss⟩) left = ((left - (psn + τps) - ssn : Nat) : Int) := by rw [HSZ.out, SlL.szl_fit (by omega)]; omega
  exact ⟨by rw [hv]; rfl, HB.out⟩
/-! ### a copy -/
/-- The call answers a value that reads as D; what lay before is as it was. -/
def Makes (D : Rc) (w : World) (e : Ending) (w' : World) : Prop := ∃ a : Ra, e = .returned a.val ∧ RdR w' a D ∧ Below w.heap.size w w'
/-- the world behind the three boxes and the first store -/
def bxs (t : Int) (psp : Option Addr) (psn : Nat) (psc : Nat) (ssp : Option Addr) (ssn : Nat) (ssc : Nat) (w : World) : World := ((w.alloc (.cells #[.int .i64 t, .slice psp psn psc, .slice ssp ssn ssc] 53)).alloc (.cells #[.int .i64 0, .slice none 0 0, .slice none 0 0] 27)).alloc (.cells #[.int .i64 t, .slice none 0 0, .slice none 0 0] 27)
theorem bxs_def (t : Int) (psp : Option Addr) (psn : Nat) (psc : Nat) (ssp : Option Addr) (ssn : Nat) (ssc : Nat) (w : World) : ((w.alloc (.cells #[.int .i64 t, .slice psp psn psc, .slice ssp ssn ssc] 53)).alloc (.cells #[.int .i64 0, .slice none 0 0, .slice none 0 0] 27)).alloc (.cells #[.int .i64 t, .slice none 0 0, .slice none 0 0] 27) = bxs t psp psn psc ssp ssn ssc w := rfl
theorem bxs_at (t : Int) (psp : Option Addr) (psn : Nat) (psc : Nat) (ssp : Option Addr) (ssn : Nat) (ssc : Nat) (w : World) : Bx (bxs t psp psn psc ssp ssn ssc w) w.heap.size 53 #[.int .i64 t, .slice psp psn psc, .slice ssp ssn ssc] ∧ Bx (bxs t psp psn psc ssp ssn ssc w) (w.heap.size + 1) 27 #[.int .i64 0, .slice none 0 0, .slice none 0 0] ∧ Bx (bxs t psp psn psc ssp ssn ssc w) (w.heap.size + 1 + 1) 27 #[.int .i64 t, .slice none 0 0, .slice none 0 0] ∧ Below w.heap.size w (bxs t psp psn psc ssp ssn ssc w) ∧ (bxs t psp psn psc ssp ssn ssc w).heap.size = w.heap.size + 3 := by
  have b0 := ((Bx.new w 53 #[.int .i64 t, .slice psp psn psc, .slice ssp ssn ssc]).alloc (.cells #[.int .i64 0, .slice none 0 0, .slice none 0 0] 27)).alloc (.cells #[.int .i64 t, .slice none 0 0, .slice none 0 0] 27)
  have b1 := (Bx.new (w.alloc (.cells #[.int .i64 t, .slice psp psn psc, .slice ssp ssn ssc] 53)) 27 #[.int .i64 0, .slice none 0 0, .slice none 0 0]).alloc (.cells #[.int .i64 t, .slice none 0 0, .slice none 0 0] 27)
  have b2 := Bx.new ((w.alloc (.cells #[.int .i64 t, .slice psp psn psc, .slice ssp ssn ssc] 53)).alloc (.cells #[.int .i64 0, .slice none 0 0, .slice none 0 0] 27)) 27 #[.int .i64 t, .slice none 0 0, .slice none 0 0]
  rw [World.size_alloc] at b1
  rw [World.size_alloc, World.size_alloc] at b2
  exact ⟨b0, b1, b2, (((Below.refl w.heap.size w).alloc (Nat.le_refl _) _).alloc (by simp) _).alloc (by simp; omega) _, by simp [bxs]⟩
set_option maxRecDepth 100000 in
set_option maxHeartbeats 8000000 in
theorem to_any (a : Ra) (D : Rc) (w : World) (h : RdR w a D) (hsz : size D ≤ 1048576) : Calls Try.prog 29 #[a.val] w (Makes D w) := by
  obtain ⟨t, psp, psn, psc, ssp, ssn, ssc⟩ := a
  obtain ⟨dt, dps, dss⟩ := D
  obtain ⟨et, rps, rss⟩ := h
  dsimp only at et rps rss
  subst et
  have lps := rps.len
  have lss := rss.len
  unfold size at hsz
  dsimp only at hsz
  have qps : psn ≤ 1048576 := by omega
  have qss : ssn ≤ 1048576 := by omega
  have Hps := Lib.hid rps
  have Hss := Lib.hid rss
  clear hsz rps lps rss lss
  obtain ⟨b0, b1, b2, bb, bs⟩ := bxs_at t psp psn psc ssp ssn ssc w
  have HA := Lib.hid b0
  have HR := Lib.hid b1
  have HO := Lib.hid b2
  have HB := Lib.hid bb
  have hsz0 := bs
  clear b0 b1 b2 bb bs
  simp only [Ra.val, Ra.cells]
  go_enter Try.func29, Try.ntmps29
  go_wp2_with fail
  rw [bxs_def]
  refine (SlStr.to_any _ _ _ dps _ (Hps.out.below HB.out) (by omega)).mono ?_
  rintro e w1 ⟨pps, nps, cps, rfl, ho, hb⟩
  have hs1 := hb.size
  replace HA := Lib.hid (HA.out.below hb)
  replace HR := Lib.hid (HR.out.below hb)
  replace HO := Lib.hid (HO.out.below hb)
  replace HB := Lib.hid (below_on HB.out hb)
  have Kps : Hid (Stay (w.heap.size + 3) (fun w => RdS SlStr.E w pps nps dps) w1) := Lib.hid (stayS ho (by omega))
  have HS : Hid ((w1.setCell ⟨w.heap.size + 1 + 1, 1, none⟩ (.slice pps nps cps)).heap.size = w1.heap.size) := Lib.hid (by simp [World.setCell])
  have hsz1 : w.heap.size + 3 ≤ (w1.setCell ⟨w.heap.size + 1 + 1, 1, none⟩ (.slice pps nps cps)).heap.size := by rw [HS.out]; omega
  obtain ⟨a0, a1, a2⟩ := bx3 HA.out
  have of := HO.out.free 1
  have oc := HO.out.cell (j := 1) rfl
  replace HA := Lib.hid (HA.out.far (q := ⟨w.heap.size + 1 + 1, 1, none⟩) (by simp; omega) (.slice pps nps cps))
  replace HR := Lib.hid (HR.out.far (q := ⟨w.heap.size + 1 + 1, 1, none⟩) (by simp) (.slice pps nps cps))
  replace HO := Lib.hid (HO.out.set_ 1 (.slice pps nps cps))
  replace HB := Lib.hid (HB.out.setCell (p := ⟨w.heap.size + 1 + 1, 1, none⟩) (by simp; omega) (.slice pps nps cps))
  replace Kps := Lib.hid (Kps.out.set (g := w.heap.size + 1 + 1) (j := 1) (by omega) (.slice pps nps cps))
  clear hb ho HS hs1
  go_wp2_with fail
  clear a0 a1 a2 of oc
  refine (SlI.to_any _ _ _ dss _ (Hss.out.below HB.out) (by omega)).mono ?_
  rintro e w2 ⟨pss, nss, css, rfl, ho, hb⟩
  have hs2 := hb.size
  replace HA := Lib.hid (HA.out.below hb)
  replace HR := Lib.hid (HR.out.below hb)
  replace HO := Lib.hid (HO.out.below hb)
  replace HB := Lib.hid (below_on HB.out hb)
  replace Kps := Lib.hid (Kps.out.below hb)
  have Kss : Hid (Stay (w.heap.size + 3) (fun w => Rd .i64 w pss nss dss) w2) := Lib.hid (stayI ho (by omega))
  have HS : Hid ((w2.setCell ⟨w.heap.size + 1 + 1, 2, none⟩ (.slice pss nss css)).heap.size = w2.heap.size) := Lib.hid (by simp [World.setCell])
  have hsz2 : w.heap.size + 3 ≤ (w2.setCell ⟨w.heap.size + 1 + 1, 2, none⟩ (.slice pss nss css)).heap.size := by rw [HS.out]; omega
  obtain ⟨a0, a1, a2⟩ := bx3 HA.out
  have of := HO.out.free 2
  have oc := HO.out.cell (j := 2) rfl
  replace HA := Lib.hid (HA.out.far (q := ⟨w.heap.size + 1 + 1, 2, none⟩) (by simp; omega) (.slice pss nss css))
  replace HR := Lib.hid (HR.out.far (q := ⟨w.heap.size + 1 + 1, 2, none⟩) (by simp) (.slice pss nss css))
  replace HO := Lib.hid (HO.out.set_ 2 (.slice pss nss css))
  replace HB := Lib.hid (HB.out.setCell (p := ⟨w.heap.size + 1 + 1, 2, none⟩) (by simp; omega) (.slice pss nss css))
  replace Kps := Lib.hid (Kps.out.set (g := w.heap.size + 1 + 1) (j := 2) (by omega) (.slice pss nss css))
  replace Kss := Lib.hid (Kss.out.set (g := w.heap.size + 1 + 1) (j := 2) (by omega) (.slice pss nss css))
  clear hb ho HS hs2
  clear a0 a1 a2
  obtain ⟨W, hW⟩ : ∃ W, w2.setCell ⟨w.heap.size + 1 + 1, 2, none⟩ (.slice pss nss css) = W := ⟨_, rfl⟩
  have HW := Lib.hid hW
  rw [hW] at HR HO HB Kps Kss
  clear hW
  obtain ⟨o0, o1, o2⟩ := bx3 HO.out
  obtain ⟨r0, r1, r2⟩ := bx3 HR.out
  have rf0 := HR.out.free 0
  have rf1 := HR.out.free 1
  have rf2 := HR.out.free 2
  have HT := Lib.hid ((((Turn.refl _ W).set (S := fun i => i < w.heap.size + 3) (g := w.heap.size + 1) (j := 0) (by show w.heap.size + 1 < w.heap.size + 3; omega) (.int .i64 t)).set (S := fun i => i < w.heap.size + 3) (g := w.heap.size + 1) (j := 1) (by show w.heap.size + 1 < w.heap.size + 3; omega) (.slice pps nps cps)).set (S := fun i => i < w.heap.size + 3) (g := w.heap.size + 1) (j := 2) (by show w.heap.size + 1 < w.heap.size + 3; omega) (.slice pss nss css))
  have HF : Hid (Below w.heap.size w _) := Lib.hid (((HB.out.setCell (p := ⟨w.heap.size + 1, 0, none⟩) (by simp) (.int .i64 t)).setCell (p := ⟨w.heap.size + 1, 1, none⟩) (by simp) (.slice pps nps cps)).setCell (p := ⟨w.heap.size + 1, 2, none⟩) (by simp) (.slice pss nss css))
  have HD : Hid (RdR _ ⟨t, pps, nps, cps, pss, nss, css⟩ ⟨t, dps, dss⟩) := Lib.hid ⟨rfl, (Kps.out.on HT.out).now, (Kss.out.on HT.out).now⟩
  clear HT Kps Kss
  have hx : 3 ≤ 3 := Nat.le_refl _
  go_wp2_with (rw [HW.out])
  exact bodyPost_ret (v := .agg #[.int .i64 t, .slice pps nps cps, .slice pss nss css]) (by simp [results, Try.results29, go_sem, r0, r1, r2]) rfl ⟨_, rfl, HD.out, HF.out⟩
/-! ### equality -/
/-- The call answers true; what lay before is as it was. -/
def Yes (w : World) (e : Ending) (w' : World) : Prop := e = .returned (.bool true) ∧ Below w.heap.size w w'
set_option maxRecDepth 100000 in
set_option maxHeartbeats 8000000 in
theorem eq_any (a b : Ra) (D : Rc) (w : World) (h : RdR w a D) (h' : RdR w b D) : Calls Try.prog 32 #[a.val, b.val] w (Yes w) := by
  obtain ⟨t, psp, psn, psc, ssp, ssn, ssc⟩ := a
  obtain ⟨t', psp', psn', psc', ssp', ssn', ssc'⟩ := b
  obtain ⟨dt, dps, dss⟩ := D
  obtain ⟨et, rps, rss⟩ := h
  obtain ⟨gt, sps, sss⟩ := h'
  dsimp only at et gt rps sps rss sss
  subst gt
  subst et
  obtain rfl : psn = psn' := rps.len.symm.trans sps.len
  have Hps := Lib.hid rps
  have Gps := Lib.hid sps
  obtain rfl : ssn = ssn' := rss.len.symm.trans sss.len
  have Hss := Lib.hid rss
  have Gss := Lib.hid sss
  clear rps sps rss sss
  have HB := Lib.hid ((box1 w (.cells #[.int .i64 t, .slice psp psn psc, .slice ssp ssn ssc] 27)).alloc (by simp) (.cells #[.int .i64 t, .slice psp' psn psc', .slice ssp' ssn ssc'] 27))
  have HX := Lib.hid ((Bx.new w 27 #[.int .i64 t, .slice psp psn psc, .slice ssp ssn ssc]).alloc (.cells #[.int .i64 t, .slice psp' psn psc', .slice ssp' ssn ssc'] 27))
  have hy := Bx.new (w.alloc (.cells #[.int .i64 t, .slice psp psn psc, .slice ssp ssn ssc] 27)) 27 #[.int .i64 t, .slice psp' psn psc', .slice ssp' ssn ssc']
  rw [World.size_alloc] at hy
  have HY := Lib.hid hy
  clear hy
  simp only [Ra.val, Ra.cells]
  go_enter Try.func32, Try.ntmps32
  go_wp2_with fail
  refine (SlStr.eq_any _ _ _ _ _ dps _ (Hps.out.below HB.out) (Gps.out.below HB.out)).mono ?_
  rintro e w1 ⟨rfl, hb⟩
  replace HB := Lib.hid (below_on HB.out hb)
  replace HX := Lib.hid (HX.out.below hb)
  replace HY := Lib.hid (HY.out.below hb)
  clear hb
  obtain ⟨x0, x1, x2⟩ := bx3 HX.out
  obtain ⟨y0, y1, y2⟩ := bx3 HY.out
  go_wp2_with fail
  clear x0 y0 x1 y1 x2 y2
  refine (SlI.eq_any _ _ _ _ _ dss _ (Hss.out.below HB.out) (Gss.out.below HB.out)).mono ?_
  rintro e w2 ⟨rfl, hb⟩
  replace HB := Lib.hid (below_on HB.out hb)
  replace HX := Lib.hid (HX.out.below hb)
  replace HY := Lib.hid (HY.out.below hb)
  clear hb
  go_wp2_with fail
  go_ret
  exact ⟨rfl, HB.out⟩
/-! ### the same, written out -/
def MakesX (D : Rc) (w : World) (e : Ending) (w' : World) : Prop := ∃ (t : Int) (psp : Option Addr) (psn : Nat) (psc : Nat) (ssp : Option Addr) (ssn : Nat) (ssc : Nat), e = .returned (.agg #[.int .i64 t, .slice psp psn psc, .slice ssp ssn ssc]) ∧ RdR w' ⟨t, psp, psn, psc, ssp, ssn, ssc⟩ D ∧ Below w.heap.size w w'
theorem to_x (t : Int) (psp : Option Addr) (psn : Nat) (psc : Nat) (ssp : Option Addr) (ssn : Nat) (ssc : Nat) (D : Rc) (w : World) (h : RdR w ⟨t, psp, psn, psc, ssp, ssn, ssc⟩ D) (hsz : size D ≤ 1048576) : Calls Try.prog 29 #[.agg #[.int .i64 t, .slice psp psn psc, .slice ssp ssn ssc]] w (MakesX D w) := (to_any ⟨t, psp, psn, psc, ssp, ssn, ssc⟩ D w h hsz).mono fun e w' ⟨b, h1, h2, h3⟩ => by
  obtain ⟨t, psp, psn, psc, ssp, ssn, ssc⟩ := b
  exact ⟨_, _, _, _, _, _, _, h1, h2, h3⟩
theorem eq_x (t : Int) (psp : Option Addr) (psn : Nat) (psc : Nat) (ssp : Option Addr) (ssn : Nat) (ssc : Nat) (t' : Int) (psp' : Option Addr) (psn' : Nat) (psc' : Nat) (ssp' : Option Addr) (ssn' : Nat) (ssc' : Nat) (D : Rc) (w : World) (h : RdR w ⟨t, psp, psn, psc, ssp, ssn, ssc⟩ D) (h' : RdR w ⟨t', psp', psn', psc', ssp', ssn', ssc'⟩ D) : Calls Try.prog 32 #[.agg #[.int .i64 t, .slice psp psn psc, .slice ssp ssn ssc], .agg #[.int .i64 t', .slice psp' psn' psc', .slice ssp' ssn' ssc']] w (Yes w) := eq_any ⟨t, psp, psn, psc, ssp, ssn, ssc⟩ ⟨t', psp', psn', psc', ssp', ssn', ssc'⟩ D w h h'
theorem sz_x (t : Int) (psp : Option Addr) (psn : Nat) (psc : Nat) (ssp : Option Addr) (ssn : Nat) (ssc : Nat) (L : Int) (D : Rc) (left : Nat) (hL : L = (left : Int)) (w : World) (h : RdR w ⟨t, psp, psn, psc, ssp, ssn, ssc⟩ D) (hw : Wf D) (hleft : left ≤ 1048576) : Calls Try.prog 27 #[.agg #[.int .i64 t, .slice psp psn psc, .slice ssp ssn ssc], .int .i64 L] w fun e w' => e = .returned (.int .i64 (SlL.szl (size D) left)) ∧ Below w.heap.size w w' := by
  subst hL
  exact sz_any ⟨t, psp, psn, psc, ssp, ssn, ssc⟩ D left w h hw hleft
theorem sz_fit (t : Int) (psp : Option Addr) (psn : Nat) (psc : Nat) (ssp : Option Addr) (ssn : Nat) (ssc : Nat) (L : Int) (D : Rc) (left : Nat) (hL : L = (left : Int)) (w : World) (h : RdR w ⟨t, psp, psn, psc, ssp, ssn, ssc⟩ D) (hw : Wf D) (hleft : left ≤ 1048576) (hs : size D ≤ left) : Calls Try.prog 27 #[.agg #[.int .i64 t, .slice psp psn psc, .slice ssp ssn ssc], .int .i64 L] w fun e w' => e = .returned (.int .i64 (L - (size D : Nat))) ∧ Below w.heap.size w w' := by
  subst hL
  refine (sz_any ⟨t, psp, psn, psc, ssp, ssn, ssc⟩ D left w h hw hleft).mono ?_
  rintro e w' ⟨rfl, hb⟩
  exact ⟨by rw [SlL.szl_fit hs], hb⟩
theorem sz_big (t : Int) (psp : Option Addr) (psn : Nat) (psc : Nat) (ssp : Option Addr) (ssn : Nat) (ssc : Nat) (L : Int) (D : Rc) (left : Nat) (hL : L = (left : Int)) (w : World) (h : RdR w ⟨t, psp, psn, psc, ssp, ssn, ssc⟩ D) (hw : Wf D) (hleft : left ≤ 1048576) (hs : ¬ size D ≤ left) : Calls Try.prog 27 #[.agg #[.int .i64 t, .slice psp psn psc, .slice ssp ssn ssc], .int .i64 L] w fun e w' => e = .returned (.int .i64 (-1)) ∧ Below w.heap.size w w' := by
  subst hL
  refine (sz_any ⟨t, psp, psn, psc, ssp, ssn, ssc⟩ D left w h hw hleft).mono ?_
  rintro e w' ⟨rfl, hb⟩
  exact ⟨by rw [SlL.szl_big hs], hb⟩
set_option maxRecDepth 100000 in
theorem open_x {H : Type} {enc : TypeId × Value → H} {W : World} {base : Nat} {v : Value} {X : DataW H} {pl : List MemPlace} (h : DataW.Trod enc Try.prog W 0 (fun _ => true) true 53 v X pl) (hk : Value.okWide Try.prog W .any base 53 v) : ∃ (t : Int) (psp : Option Addr) (psn : Nat) (psc : Nat) (ssp : Option Addr) (ssn : Nat) (ssc : Nat) (D : Rc), v = .agg #[.int .i64 t, .slice psp psn psc, .slice ssp ssn ssc] ∧ RdR W ⟨t, psp, psn, psc, ssp, ssn, ssc⟩ D ∧ Wf D := by
  obtain ⟨b, D, h1, h2, h3⟩ := open_val h hk
  obtain ⟨t, psp, psn, psc, ssp, ssn, ssc⟩ := b
  exact ⟨_, _, _, _, _, _, _, D, h1, h2, h3⟩
set_option maxRecDepth 100000 in
theorem two3 {w : World} {g g' : Nat} {T T' : TypeId} {x0 x1 x2 y0 y1 y2 : Value} (h : Bx w g T #[x0, x1, x2]) (h' : Bx w g' T' #[y0, y1, y2]) : w.cell? ⟨g, 0, none⟩ = some x0 ∧ w.cell? ⟨g, 1, none⟩ = some x1 ∧ w.cell? ⟨g, 2, none⟩ = some x2 ∧ w.cell? ⟨g', 0, none⟩ = some y0 ∧ w.cell? ⟨g', 1, none⟩ = some y1 ∧ w.cell? ⟨g', 2, none⟩ = some y2 := by
  obtain ⟨a0, a1, a2⟩ := bx3 h
  obtain ⟨b0, b1, b2⟩ := bx3 h'
  exact ⟨a0, a1, a2, b0, b1, b2⟩
end Go.Proofs.Ytjlckfbacphblaa.SlDcu
