/- Contracts of the laws' helpers over Redacted: opened, copied, compared, measured. -/
import Derived.Test.YtjlckfbacphblaaSlBool
import Derived.Test.YtjlckfbacphblaaSlL
import Derived.Test.YtjlckfbacphblaaDk
import Derived.Test.YtjlckfbacphblaaSlDoc
import Derived.OpenShut
namespace Go.Proofs.Ytjlckfbacphblaa.SlRed
open Go.ChangeShapes Go.WideShapes Go.ChangeAt Go.RowKit Sl St Tn Dk

/-- the value's addresses and lengths -/
structure Ra where
  t : Int
  msp : Option Addr
  msn : Nat
  msc : Nat
  shp : Option Addr
  shn : Nat
  shc : Nat
  psp : Option Addr
  psn : Nat
  psc : Nat
  ssp : Option Addr
  ssn : Nat
  ssc : Nat
  dsp : Option Addr
  dsn : Nat
  dsc : Nat
/-- what it reads as -/
structure Rc where
  t : Int
  ms : List Int
  sh : List Bool
  ps : List ByteArray
  ss : List Int
  ds : List (List Int)
def Ra.cells (a : Ra) : Array Value := #[.int .i64 a.t, .slice a.msp a.msn a.msc, .slice a.shp a.shn a.shc, .slice a.psp a.psn a.psc, .slice a.ssp a.ssn a.ssc, .slice a.dsp a.dsn a.dsc]
def Ra.val (a : Ra) : Value := .agg a.cells
def zeros : Array Value := #[.int .i64 0, .slice none 0 0, .slice none 0 0, .slice none 0 0, .slice none 0 0, .slice none 0 0]
def RdR (w : World) (a : Ra) (D : Rc) : Prop := a.t = D.t ∧ Rd .i64 w a.msp a.msn D.ms ∧ RdS SlBool.E w a.shp a.shn D.sh ∧ RdS SlStr.E w a.psp a.psn D.ps ∧ Rd .i64 w a.ssp a.ssn D.ss ∧ SlL.RdL w a.dsp a.dsn D.ds
section
variable {w w' : World} {a : Ra} {D : Rc}
theorem RdR.below (h : RdR w a D) (hb : Below w.heap.size w w') : RdR w' a D := by
  obtain ⟨h0, h1, h2, h3, h4, h5⟩ := h
  exact ⟨h0, h1.below hb, h2.below hb, h3.below hb, h4.below hb, h5.below hb⟩
theorem RdR.drewN (h : RdR w a D) (q : Nat) : RdR (w.drewN q) a D := h.below (below_drewN (Below.refl _ _) q)
theorem RdR.alloc (h : RdR w a D) (o : Obj) : RdR (w.alloc o) a D := h.below ((Below.refl _ _).alloc (Nat.le_refl _) _)
end
/-- the ints in range, the strings of a size -/
def Wf (D : Rc) : Prop := (-9223372036854775808 ≤ D.t ∧ D.t ≤ 9223372036854775807) ∧ (∀ s ∈ D.ps, s.size ≤ 9223372036854775807)
set_option maxRecDepth 100000 in
theorem open_cells {H : Type} {enc : TypeId × Value → H} {W : World} {fuel : Nat} {cs : List Value} {x : DataW H × List MemPlace} (h : DataW.trod enc Try.prog W 0 (fun _ => true) true fuel 63 cs = some x) (hl : cs.length = 6) : ∃ (a : Ra) (D : Rc), cs = a.cells.toList ∧ RdR W a D ∧ Wf D := by
  have hi : ∃ f0 f1 f2 f3 f4 f5 : Field, Try.prog.underlying 63 = some (.struct #[f0, f1, f2, f3, f4, f5]) ∧ f0.offset = 0 ∧ f1.offset = 1 ∧ f2.offset = 2 ∧ f3.offset = 3 ∧ f4.offset = 4 ∧ f5.offset = 5 ∧ f0.type = 3 ∧ f1.type = 25 ∧ f2.type = 40 ∧ f3.type = 24 ∧ f4.type = 25 ∧ f5.type = 41 ∧ Try.prog.cellsOf 3 = 1 ∧ Try.prog.cellsOf 25 = 1 ∧ Try.prog.cellsOf 40 = 1 ∧ Try.prog.cellsOf 24 = 1 ∧ Try.prog.cellsOf 25 = 1 ∧ Try.prog.cellsOf 41 = 1 := ⟨_, _, _, _, _, _, Try.underlying63, by kernel_rfl, by kernel_rfl, by kernel_rfl, by kernel_rfl, by kernel_rfl, by kernel_rfl, by kernel_rfl, by kernel_rfl, by kernel_rfl, by kernel_rfl, by kernel_rfl, by kernel_rfl, by kernel_rfl, by kernel_rfl, by kernel_rfl, by kernel_rfl, by kernel_rfl, by kernel_rfl⟩
  obtain ⟨f0, f1, f2, f3, f4, f5, hs, o0, o1, o2, o3, o4, o5, t0, t1, t2, t3, t4, t5, c0, c1, c2, c3, c4, c5⟩ := hi
  obtain ⟨xs, n', _, rfl, _, hlen, hf⟩ := DataW.trod_struct hs h
  match xs, hlen, cs, hl with
  | [y0, y1, y2, y3, y4, y5], _, [a0, a1, a2, a3, a4, a5], _ =>
    have g0 := hf 0 f0 rfl
    rw [o0, t0, c0] at g0
    have g1 := hf 1 f1 rfl
    rw [o1, t1, c1] at g1
    have g2 := hf 2 f2 rfl
    rw [o2, t2, c2] at g2
    have g3 := hf 3 f3 rfl
    rw [o3, t3, c3] at g3
    have g4 := hf 4 f4 rfl
    rw [o4, t4, c4] at g4
    have g5 := hf 5 f5 rfl
    rw [o5, t5, c5] at g5
    simp only [List.drop_zero, List.drop_succ_cons, List.take_succ_cons, List.take_zero, List.getElem?_cons_zero, List.getElem?_cons_succ] at g0 g1 g2 g3 g4 g5
    obtain ⟨z0, e0, _, w0⟩ := DataW.trod_int Try.underlying3 g0
    obtain ⟨p1, n1, b1, x1, e1, r1⟩ := SlStr.open_cellsI g1
    obtain ⟨p2, n2, b2, x2, e2, r2⟩ := SlBool.open_cells g2
    obtain ⟨p3, n3, b3, x3, e3, r3, s3⟩ := SlStr.open_cells g3
    obtain ⟨p4, n4, b4, x4, e4, r4⟩ := SlStr.open_cellsI g4
    obtain ⟨p5, n5, b5, x5, e5, r5⟩ := SlL.open_cells g5
    simp only [List.cons.injEq, and_true] at e0 e1 e2 e3 e4 e5
    exact ⟨⟨z0, p1, n1, b1, p2, n2, b2, p3, n3, b3, p4, n4, b4, p5, n5, b5⟩, ⟨z0, x1, x2, x3, x4, x5⟩, by rw [e0, e1, e2, e3, e4, e5]; rfl, ⟨rfl, r1, r2, r3, r4, r5⟩, ⟨bounds_i64 w0, s3⟩⟩
set_option maxRecDepth 100000 in
theorem open_val {H : Type} {enc : TypeId × Value → H} {W : World} {base : Nat} {v : Value} {X : DataW H} {pl : List MemPlace} (h : DataW.Trod enc Try.prog W 0 (fun _ => true) true 63 v X pl) (hk : Value.okWide Try.prog W .any base 63 v) : ∃ (a : Ra) (D : Rc), v = a.val ∧ RdR W a D ∧ Wf D := by
  have hi : ∃ fs, Try.prog.underlying 63 = some (.struct fs) ∧ Try.prog.cellsOf 63 = 6 := ⟨_, Try.underlying63, by kernel_rfl⟩
  obtain ⟨fs, hs, hC⟩ := hi
  obtain ⟨cs, rfl, hsz⟩ := okWide_struct hs hk
  obtain ⟨fuel, hf⟩ := h
  obtain ⟨a, D, e, h1, h2⟩ := open_cells hf (by simp only [Value.cells, Array.length_toList]; rw [hsz, hC])
  simp only [Value.cells] at e
  have e2 : cs = a.cells := Array.ext' e
  exact ⟨a, D, by rw [e2]; rfl, h1, h2⟩
theorem bx6 {w : World} {g : Nat} {T : TypeId} {x0 x1 x2 x3 x4 x5 : Value} (h : Bx w g T #[x0, x1, x2, x3, x4, x5]) : w.cell? ⟨g, 0, none⟩ = some x0 ∧ w.cell? ⟨g, 1, none⟩ = some x1 ∧ w.cell? ⟨g, 2, none⟩ = some x2 ∧ w.cell? ⟨g, 3, none⟩ = some x3 ∧ w.cell? ⟨g, 4, none⟩ = some x4 ∧ w.cell? ⟨g, 5, none⟩ = some x5 := ⟨h.cell rfl, h.cell rfl, h.cell rfl, h.cell rfl, h.cell rfl, h.cell rfl⟩
/-! ### what stays though some blocks turn -/
def Stay (B : Nat) (F : World → Prop) (w : World) : Prop := ∀ w', Turn (fun i => i < B) w w' → F w'
theorem Stay.now {B : Nat} {F : World → Prop} {w : World} (h : Stay B F w) : F w := h w (Turn.refl _ _)
theorem Stay.on {B : Nat} {F : World → Prop} {w w' : World} (h : Stay B F w) (ht : Turn (fun i => i < B) w w') : Stay B F w' := fun _ hx => h _ (ht.trans hx)
theorem Stay.below {B : Nat} {F : World → Prop} {w w' : World} (h : Stay B F w) (hb : Below w.heap.size w w') : Stay B F w' := h.on (Turn.of_below hb _)
theorem Stay.set {B : Nat} {F : World → Prop} {w : World} (h : Stay B F w) {g j : Nat} (hg : g < B) (v : Value) : Stay B F (w.setCell ⟨g, j, none⟩ v) := h.on ((Turn.refl (fun i => i < B) w).set hg v)
theorem stayI {B : Nat} {w : World} {k : IntKind} {T : TypeId} {lo hi n c : Nat} {p : Option Addr} {xs : List Int} (h : Ow k T w lo hi p n c xs) (hB : B ≤ lo) : Stay B (fun w => Rd k w p n xs) w := fun _ ht => (owI_far h ht fun g e => by left; omega).rd
theorem stayS {α : Type} {E : En α} {B : Nat} {w : World} {T : TypeId} {lo hi n c : Nat} {p : Option Addr} {xs : List α} (h : OwS E T w lo hi p n c xs) (hB : B ≤ lo) : Stay B (fun w => RdS E w p n xs) w := fun _ ht => (owS_far h ht fun g e => by left; omega).rd
theorem stayL {B : Nat} {w : World} {lo hi n c : Nat} {p : Option Addr} {xs : List (List Int)} (h : SlL.OwL w lo hi p n c xs) (hB : B ≤ lo) : Stay B (fun w => SlL.RdL w p n xs) w := fun _ ht => (h.far ht fun g e => by left; omega).rd
/-! ### the measure -/
theorem szB_any (p : Option Addr) (m d : Nat) (left : Nat) (w : World) (h1 : left ≤ 1048576) (hn : m ≤ 9223372036854775807) : Calls Try.prog 87 #[.slice p m d, .int .i64 left] w fun e w' => e = .returned (.int .i64 (SlL.szl m left)) ∧ w = w' := by
  by_cases h : m ≤ left
  · refine (SlBool.sz_fits p m d left w (by omega) (by omega)).mono ?_
    rintro e w' ⟨rfl, rfl⟩
    exact ⟨by rw [SlL.szl_fit h], rfl⟩
  · refine (SlBool.sz_big p m d left w (by omega) (by omega) (by omega) hn).mono ?_
    rintro e w' ⟨rfl, rfl⟩
    exact ⟨by rw [SlL.szl_big h], rfl⟩
theorem szS_any (p : Option Addr) (n c : Nat) (xs : List ByteArray) (left : Nat) (w : World) (hr : RdS SlStr.E w p n xs) (hs : ∀ s ∈ xs, s.size ≤ 9223372036854775807) (h1 : left ≤ 1048576) : Calls Try.prog 74 #[.slice p n c, .int .i64 left] w fun e w' => e = .returned (.int .i64 (SlL.szl (n + SlStr.tot xs) left)) ∧ w = w' := by
  refine (SlStr.sz_any p n c xs left w hr hs h1).mono ?_
  rintro e w' ⟨rfl, rfl⟩
  refine ⟨?_, rfl⟩
  have hl := hr.len
  unfold SlStr.szI SlL.szl
  rw [hl]
  by_cases h : n + SlStr.tot xs ≤ left
  · rw [if_pos h, if_pos h]
    congr 2
    omega
  · rw [if_neg h, if_neg h]
theorem szL_any (p : Option Addr) (n c : Nat) (xs : List (List Int)) (left : Nat) (w : World) (hr : SlL.RdL w p n xs) (h1 : left ≤ 1048576) : Calls Try.prog 88 #[.slice p n c, .int .i64 left] w fun e w' => e = .returned (.int .i64 (SlL.szl (n + SlL.tl xs) left)) ∧ w = w' := by
  refine (SlL.sz_any p n c xs left w hr h1).mono ?_
  rintro e w' ⟨rfl, rfl⟩
  refine ⟨?_, rfl⟩
  have hl := hr.len
  unfold SlL.szI SlL.szl
  rw [hl]
  by_cases h : n + SlL.tl xs ≤ left
  · rw [if_pos h, if_pos h]
    congr 2
    omega
  · rw [if_neg h, if_neg h]
def size (D : Rc) : Nat := D.ms.length + D.sh.length + (D.ps.length + SlStr.tot D.ps) + D.ss.length + (D.ds.length + SlL.tl D.ds)
set_option maxRecDepth 100000 in
set_option maxHeartbeats 4000000 in
theorem sz_any (a : Ra) (D : Rc) (left : Nat) (w : World) (h : RdR w a D) (hw : Wf D) (hleft : left ≤ 1048576) : Calls Try.prog 37 #[a.val, .int .i64 left] w fun e w' => e = .returned (.int .i64 (SlL.szl (size D) left)) ∧ Below w.heap.size w w' := by
  obtain ⟨t, msp, msn, msc, shp, shn, shc, psp, psn, psc, ssp, ssn, ssc, dsp, dsn, dsc⟩ := a
  obtain ⟨dt, dms, dsh, dps, dss, dds⟩ := D
  obtain ⟨et, rms, rsh, rps, rss, rds⟩ := h
  dsimp only at et rms rsh rps rss rds
  subst et
  obtain ⟨_, sps⟩ := hw
  have lms := rms.len
  have bms := rms.le
  have lsh := rsh.len
  have bsh := rsh.le
  have lps := rps.len
  have bps := rps.le
  obtain ⟨τps, hτps⟩ : ∃ τ, SlStr.tot dps = τ := ⟨_, rfl⟩
  have lss := rss.len
  have bss := rss.le
  have lds := rds.len
  have bds := rds.le
  obtain ⟨τds, hτds⟩ : ∃ τ, SlL.tl dds = τ := ⟨_, rfl⟩
  have HSZ : Hid (size ⟨t, dms, dsh, dps, dss, dds⟩ = msn + shn + (psn + τps) + ssn + (dsn + τds)) := Lib.hid (by unfold size; dsimp only; rw [lms, lsh, lps, lss, lds, hτps, hτds])
  have Hms := Lib.hid rms
  have Hsh := Lib.hid rsh
  have Hps := Lib.hid rps
  have Hss := Lib.hid rss
  have Hds := Lib.hid rds
  have Tps := Lib.hid hτps
  have Tds := Lib.hid hτds
  clear rms lms rsh lsh rps lps rss lss rds lds hτps hτds
  have HB := Lib.hid (box1 w (.cells #[.int .i64 t, .slice msp msn msc, .slice shp shn shc, .slice psp psn psc, .slice ssp ssn ssc, .slice dsp dsn dsc] 63))
  simp only [Ra.val, Ra.cells]
  by_cases qms : msn ≤ left
  rotate_left
  · go_enter Try.func37, Try.ntmps37
    have Vms : Hid (SlL.szl msn (left) = -1) := Lib.hid (SlL.szl_big qms)
    go_wp2_with fail
    refine (SlL.szI_any _ _ _ (left) _ (by omega) (by omega)).mono ?_
    rintro e w1 ⟨rfl, rfl⟩
    rw [Vms.out]
    go_wp2_with fail
    go_ret
    exact ⟨by rw [HSZ.out, SlL.szl_big (by omega)]; rfl, HB.out⟩
  have Vms : Hid (SlL.szl msn (left) = ((left - msn : Nat) : Int)) := Lib.hid (by rw [SlL.szl_fit qms]; omega)
  by_cases qsh : shn ≤ left - msn
  rotate_left
  · go_enter Try.func37, Try.ntmps37
    go_wp2_with fail
    refine (SlL.szI_any _ _ _ (left) _ (by omega) (by omega)).mono ?_
    rintro e w1 ⟨rfl, rfl⟩
    rw [Vms.out]
    have Vsh : Hid (SlL.szl shn (left - msn) = -1) := Lib.hid (SlL.szl_big qsh)
    go_wp2_with fail
    refine (szB_any _ _ _ (left - msn) _ (by omega) (by omega)).mono ?_
    rintro e w1 ⟨rfl, rfl⟩
    rw [Vsh.out]
    go_wp2_with fail
    go_ret
    exact ⟨by rw [HSZ.out, SlL.szl_big (by omega)]; rfl, HB.out⟩
  have Vsh : Hid (SlL.szl shn (left - msn) = ((left - msn - shn : Nat) : Int)) := Lib.hid (by rw [SlL.szl_fit qsh]; omega)
  by_cases qps : (psn + τps) ≤ left - msn - shn
  rotate_left
  · go_enter Try.func37, Try.ntmps37
    go_wp2_with fail
    refine (SlL.szI_any _ _ _ (left) _ (by omega) (by omega)).mono ?_
    rintro e w1 ⟨rfl, rfl⟩
    rw [Vms.out]
    go_wp2_with fail
    refine (szB_any _ _ _ (left - msn) _ (by omega) (by omega)).mono ?_
    rintro e w1 ⟨rfl, rfl⟩
    rw [Vsh.out]
    have Vps : Hid (SlL.szl (psn + τps) (left - msn - shn) = -1) := Lib.hid (SlL.szl_big qps)
    go_wp2_with fail
    refine (szS_any _ _ _ dps (left - msn - shn) _ (Hps.out.below HB.out) sps (by omega)).mono ?_
    rintro e w1 ⟨rfl, rfl⟩
    rw [Tps.out]
    rw [Vps.out]
    go_wp2_with fail
    go_ret
    exact ⟨by rw [HSZ.out, SlL.szl_big (by omega)]; rfl, HB.out⟩
  have Vps : Hid (SlL.szl (psn + τps) (left - msn - shn) = ((left - msn - shn - (psn + τps) : Nat) : Int)) := Lib.hid (by rw [SlL.szl_fit qps]; omega)
  by_cases qss : ssn ≤ left - msn - shn - (psn + τps)
  rotate_left
  · go_enter Try.func37, Try.ntmps37
    go_wp2_with fail
    refine (SlL.szI_any _ _ _ (left) _ (by omega) (by omega)).mono ?_
    rintro e w1 ⟨rfl, rfl⟩
    rw [Vms.out]
    go_wp2_with fail
    refine (szB_any _ _ _ (left - msn) _ (by omega) (by omega)).mono ?_
    rintro e w1 ⟨rfl, rfl⟩
    rw [Vsh.out]
    go_wp2_with fail
    refine (szS_any _ _ _ dps (left - msn - shn) _ (Hps.out.below HB.out) sps (by omega)).mono ?_
    rintro e w1 ⟨rfl, rfl⟩
    rw [Tps.out]
    rw [Vps.out]
    have Vss : Hid (SlL.szl ssn (left - msn - shn - (psn + τps)) = -1) := Lib.hid (SlL.szl_big qss)
    go_wp2_with fail
    refine (SlL.szI_any _ _ _ (left - msn - shn - (psn + τps)) _ (by omega) (by omega)).mono ?_
    rintro e w1 ⟨rfl, rfl⟩
    rw [Vss.out]
    go_wp2_with fail
    go_ret
    exact ⟨by rw [HSZ.out, SlL.szl_big (by omega)]; rfl, HB.out⟩
  have Vss : Hid (SlL.szl ssn (left - msn - shn - (psn + τps)) = ((left - msn - shn - (psn + τps) - ssn : Nat) : Int)) := Lib.hid (by rw [SlL.szl_fit qss]; omega)
  by_cases qds : (dsn + τds) ≤ left - msn - shn - (psn + τps) - ssn
  rotate_left
  · go_enter Try.func37, Try.ntmps37
    go_wp2_with fail
    refine (SlL.szI_any _ _ _ (left) _ (by omega) (by omega)).mono ?_
    rintro e w1 ⟨rfl, rfl⟩
    rw [Vms.out]
    go_wp2_with fail
    refine (szB_any _ _ _ (left - msn) _ (by omega) (by omega)).mono ?_
    rintro e w1 ⟨rfl, rfl⟩
    rw [Vsh.out]
    go_wp2_with fail
    refine (szS_any _ _ _ dps (left - msn - shn) _ (Hps.out.below HB.out) sps (by omega)).mono ?_
    rintro e w1 ⟨rfl, rfl⟩
    rw [Tps.out]
    rw [Vps.out]
    go_wp2_with fail
    refine (SlL.szI_any _ _ _ (left - msn - shn - (psn + τps)) _ (by omega) (by omega)).mono ?_
    rintro e w1 ⟨rfl, rfl⟩
    rw [Vss.out]
    have Vds : Hid (SlL.szl (dsn + τds) (left - msn - shn - (psn + τps) - ssn) = -1) := Lib.hid (SlL.szl_big qds)
    go_wp2_with fail
    refine (szL_any _ _ _ dds (left - msn - shn - (psn + τps) - ssn) _ (Hds.out.below HB.out) (by omega)).mono ?_
    rintro e w1 ⟨rfl, rfl⟩
    rw [Tds.out]
    rw [Vds.out]
    go_wp2_with fail
    go_ret
    exact ⟨by rw [HSZ.out, SlL.szl_big (by omega)]; rfl, HB.out⟩
  have Vds : Hid (SlL.szl (dsn + τds) (left - msn - shn - (psn + τps) - ssn) = ((left - msn - shn - (psn + τps) - ssn - (dsn + τds) : Nat) : Int)) := Lib.hid (by rw [SlL.szl_fit qds]; omega)
  go_enter Try.func37, Try.ntmps37
  go_wp2_with fail
  refine (SlL.szI_any _ _ _ (left) _ (by omega) (by omega)).mono ?_
  rintro e w1 ⟨rfl, rfl⟩
  rw [Vms.out]
  go_wp2_with fail
  refine (szB_any _ _ _ (left - msn) _ (by omega) (by omega)).mono ?_
  rintro e w1 ⟨rfl, rfl⟩
  rw [Vsh.out]
  go_wp2_with fail
  refine (szS_any _ _ _ dps (left - msn - shn) _ (Hps.out.below HB.out) sps (by omega)).mono ?_
  rintro e w1 ⟨rfl, rfl⟩
  rw [Tps.out]
  rw [Vps.out]
  go_wp2_with fail
  refine (SlL.szI_any _ _ _ (left - msn - shn - (psn + τps)) _ (by omega) (by omega)).mono ?_
  rintro e w1 ⟨rfl, rfl⟩
  rw [Vss.out]
  go_wp2_with fail
  refine (szL_any _ _ _ dds (left - msn - shn - (psn + τps) - ssn) _ (Hds.out.below HB.out) (by omega)).mono ?_
  rintro e w1 ⟨rfl, rfl⟩
  rw [Tds.out]
  rw [Vds.out]
  go_wp2_with fail
  go_ret
  have hv : SlL.szl (size ⟨t, dms, dsh, dps, dss, dds⟩) left = ((left - msn - shn - (psn + τps) - ssn - (dsn + τds) : Nat) : Int) := by rw [HSZ.out, SlL.szl_fit (by omega)]; omega
  exact ⟨by rw [hv]; rfl, HB.out⟩
/-! ### a copy -/
/-- The call answers a value that reads as D; what lay before is as it was. -/
def Makes (D : Rc) (w : World) (e : Ending) (w' : World) : Prop := ∃ a : Ra, e = .returned a.val ∧ RdR w' a D ∧ Below w.heap.size w w'
/-- the world behind the three boxes and the first store -/
def bxs (t : Int) (msp : Option Addr) (msn : Nat) (msc : Nat) (shp : Option Addr) (shn : Nat) (shc : Nat) (psp : Option Addr) (psn : Nat) (psc : Nat) (ssp : Option Addr) (ssn : Nat) (ssc : Nat) (dsp : Option Addr) (dsn : Nat) (dsc : Nat) (w : World) : World := ((w.alloc (.cells #[.int .i64 t, .slice msp msn msc, .slice shp shn shc, .slice psp psn psc, .slice ssp ssn ssc, .slice dsp dsn dsc] 63)).alloc (.cells #[.int .i64 0, .slice none 0 0, .slice none 0 0, .slice none 0 0, .slice none 0 0, .slice none 0 0] 43)).alloc (.cells #[.int .i64 t, .slice none 0 0, .slice none 0 0, .slice none 0 0, .slice none 0 0, .slice none 0 0] 43)
theorem bxs_def (t : Int) (msp : Option Addr) (msn : Nat) (msc : Nat) (shp : Option Addr) (shn : Nat) (shc : Nat) (psp : Option Addr) (psn : Nat) (psc : Nat) (ssp : Option Addr) (ssn : Nat) (ssc : Nat) (dsp : Option Addr) (dsn : Nat) (dsc : Nat) (w : World) : ((w.alloc (.cells #[.int .i64 t, .slice msp msn msc, .slice shp shn shc, .slice psp psn psc, .slice ssp ssn ssc, .slice dsp dsn dsc] 63)).alloc (.cells #[.int .i64 0, .slice none 0 0, .slice none 0 0, .slice none 0 0, .slice none 0 0, .slice none 0 0] 43)).alloc (.cells #[.int .i64 t, .slice none 0 0, .slice none 0 0, .slice none 0 0, .slice none 0 0, .slice none 0 0] 43) = bxs t msp msn msc shp shn shc psp psn psc ssp ssn ssc dsp dsn dsc w := rfl
theorem bxs_at (t : Int) (msp : Option Addr) (msn : Nat) (msc : Nat) (shp : Option Addr) (shn : Nat) (shc : Nat) (psp : Option Addr) (psn : Nat) (psc : Nat) (ssp : Option Addr) (ssn : Nat) (ssc : Nat) (dsp : Option Addr) (dsn : Nat) (dsc : Nat) (w : World) : Bx (bxs t msp msn msc shp shn shc psp psn psc ssp ssn ssc dsp dsn dsc w) w.heap.size 63 #[.int .i64 t, .slice msp msn msc, .slice shp shn shc, .slice psp psn psc, .slice ssp ssn ssc, .slice dsp dsn dsc] ∧ Bx (bxs t msp msn msc shp shn shc psp psn psc ssp ssn ssc dsp dsn dsc w) (w.heap.size + 1) 43 #[.int .i64 0, .slice none 0 0, .slice none 0 0, .slice none 0 0, .slice none 0 0, .slice none 0 0] ∧ Bx (bxs t msp msn msc shp shn shc psp psn psc ssp ssn ssc dsp dsn dsc w) (w.heap.size + 1 + 1) 43 #[.int .i64 t, .slice none 0 0, .slice none 0 0, .slice none 0 0, .slice none 0 0, .slice none 0 0] ∧ Below w.heap.size w (bxs t msp msn msc shp shn shc psp psn psc ssp ssn ssc dsp dsn dsc w) ∧ (bxs t msp msn msc shp shn shc psp psn psc ssp ssn ssc dsp dsn dsc w).heap.size = w.heap.size + 3 := by
  have b0 := ((Bx.new w 63 #[.int .i64 t, .slice msp msn msc, .slice shp shn shc, .slice psp psn psc, .slice ssp ssn ssc, .slice dsp dsn dsc]).alloc (.cells #[.int .i64 0, .slice none 0 0, .slice none 0 0, .slice none 0 0, .slice none 0 0, .slice none 0 0] 43)).alloc (.cells #[.int .i64 t, .slice none 0 0, .slice none 0 0, .slice none 0 0, .slice none 0 0, .slice none 0 0] 43)
  have b1 := (Bx.new (w.alloc (.cells #[.int .i64 t, .slice msp msn msc, .slice shp shn shc, .slice psp psn psc, .slice ssp ssn ssc, .slice dsp dsn dsc] 63)) 43 #[.int .i64 0, .slice none 0 0, .slice none 0 0, .slice none 0 0, .slice none 0 0, .slice none 0 0]).alloc (.cells #[.int .i64 t, .slice none 0 0, .slice none 0 0, .slice none 0 0, .slice none 0 0, .slice none 0 0] 43)
  have b2 := Bx.new ((w.alloc (.cells #[.int .i64 t, .slice msp msn msc, .slice shp shn shc, .slice psp psn psc, .slice ssp ssn ssc, .slice dsp dsn dsc] 63)).alloc (.cells #[.int .i64 0, .slice none 0 0, .slice none 0 0, .slice none 0 0, .slice none 0 0, .slice none 0 0] 43)) 43 #[.int .i64 t, .slice none 0 0, .slice none 0 0, .slice none 0 0, .slice none 0 0, .slice none 0 0]
  rw [World.size_alloc] at b1
  rw [World.size_alloc, World.size_alloc] at b2
  exact ⟨b0, b1, b2, (((Below.refl w.heap.size w).alloc (Nat.le_refl _) _).alloc (by simp) _).alloc (by simp; omega) _, by simp [bxs]⟩
set_option maxRecDepth 100000 in
set_option maxHeartbeats 8000000 in
theorem to_any (a : Ra) (D : Rc) (w : World) (h : RdR w a D) (hsz : size D ≤ 1048576) : Calls Try.prog 39 #[a.val] w (Makes D w) := by
  obtain ⟨t, msp, msn, msc, shp, shn, shc, psp, psn, psc, ssp, ssn, ssc, dsp, dsn, dsc⟩ := a
  obtain ⟨dt, dms, dsh, dps, dss, dds⟩ := D
  obtain ⟨et, rms, rsh, rps, rss, rds⟩ := h
  dsimp only at et rms rsh rps rss rds
  subst et
  have lms := rms.len
  have lsh := rsh.len
  have lps := rps.len
  have lss := rss.len
  have lds := rds.len
  unfold size at hsz
  dsimp only at hsz
  have Hqds : Hid (∀ k, k < dsn → (dds.getD k []).length ≤ 1048576) := Lib.hid fun k hk => by have := SlL.tl_row (xs := dds) (k := k) (by omega); omega
  have qms : msn ≤ 1048576 := by omega
  have qsh : shn ≤ 1048576 := by omega
  have qps : psn ≤ 1048576 := by omega
  have qss : ssn ≤ 1048576 := by omega
  have qds : dsn ≤ 1048576 := by omega
  have Hms := Lib.hid rms
  have Hsh := Lib.hid rsh
  have Hps := Lib.hid rps
  have Hss := Lib.hid rss
  have Hds := Lib.hid rds
  clear hsz rms lms rsh lsh rps lps rss lss rds lds
  obtain ⟨b0, b1, b2, bb, bs⟩ := bxs_at t msp msn msc shp shn shc psp psn psc ssp ssn ssc dsp dsn dsc w
  have HA := Lib.hid b0
  have HR := Lib.hid b1
  have HO := Lib.hid b2
  have HB := Lib.hid bb
  have hsz0 := bs
  clear b0 b1 b2 bb bs
  simp only [Ra.val, Ra.cells]
  go_enter Try.func39, Try.ntmps39
  go_wp2_with fail
  rw [bxs_def]
  refine (SlI.to_any _ _ _ dms _ (Hms.out.below HB.out) (by omega)).mono ?_
  rintro e w1 ⟨pms, nms, cms, rfl, ho, hb⟩
  have hs1 := hb.size
  replace HA := Lib.hid (HA.out.below hb)
  replace HR := Lib.hid (HR.out.below hb)
  replace HO := Lib.hid (HO.out.below hb)
  replace HB := Lib.hid (below_on HB.out hb)
  have Kms : Hid (Stay (w.heap.size + 3) (fun w => Rd .i64 w pms nms dms) w1) := Lib.hid (stayI ho (by omega))
  have HS : Hid ((w1.setCell ⟨w.heap.size + 1 + 1, 1, none⟩ (.slice pms nms cms)).heap.size = w1.heap.size) := Lib.hid (by simp [World.setCell])
  have hsz1 : w.heap.size + 3 ≤ (w1.setCell ⟨w.heap.size + 1 + 1, 1, none⟩ (.slice pms nms cms)).heap.size := by rw [HS.out]; omega
  obtain ⟨a0, a1, a2, a3, a4, a5⟩ := bx6 HA.out
  have of := HO.out.free 1
  have oc := HO.out.cell (j := 1) rfl
  replace HA := Lib.hid (HA.out.far (q := ⟨w.heap.size + 1 + 1, 1, none⟩) (by simp; omega) (.slice pms nms cms))
  replace HR := Lib.hid (HR.out.far (q := ⟨w.heap.size + 1 + 1, 1, none⟩) (by simp) (.slice pms nms cms))
  replace HO := Lib.hid (HO.out.set_ 1 (.slice pms nms cms))
  replace HB := Lib.hid (HB.out.setCell (p := ⟨w.heap.size + 1 + 1, 1, none⟩) (by simp; omega) (.slice pms nms cms))
  replace Kms := Lib.hid (Kms.out.set (g := w.heap.size + 1 + 1) (j := 1) (by omega) (.slice pms nms cms))
  clear hb ho HS hs1
  go_wp2_with fail
  clear a0 a1 a2 a3 a4 a5 of oc
  refine (SlBool.to_any _ _ _ dsh _ (Hsh.out.below HB.out) (by omega)).mono ?_
  rintro e w2 ⟨psh, nsh, csh, rfl, ho, hb⟩
  have hs2 := hb.size
  replace HA := Lib.hid (HA.out.below hb)
  replace HR := Lib.hid (HR.out.below hb)
  replace HO := Lib.hid (HO.out.below hb)
  replace HB := Lib.hid (below_on HB.out hb)
  replace Kms := Lib.hid (Kms.out.below hb)
  have Ksh : Hid (Stay (w.heap.size + 3) (fun w => RdS SlBool.E w psh nsh dsh) w2) := Lib.hid (stayS ho (by omega))
  have HS : Hid ((w2.setCell ⟨w.heap.size + 1 + 1, 2, none⟩ (.slice psh nsh csh)).heap.size = w2.heap.size) := Lib.hid (by simp [World.setCell])
  have hsz2 : w.heap.size + 3 ≤ (w2.setCell ⟨w.heap.size + 1 + 1, 2, none⟩ (.slice psh nsh csh)).heap.size := by rw [HS.out]; omega
  obtain ⟨a0, a1, a2, a3, a4, a5⟩ := bx6 HA.out
  have of := HO.out.free 2
  have oc := HO.out.cell (j := 2) rfl
  replace HA := Lib.hid (HA.out.far (q := ⟨w.heap.size + 1 + 1, 2, none⟩) (by simp; omega) (.slice psh nsh csh))
  replace HR := Lib.hid (HR.out.far (q := ⟨w.heap.size + 1 + 1, 2, none⟩) (by simp) (.slice psh nsh csh))
  replace HO := Lib.hid (HO.out.set_ 2 (.slice psh nsh csh))
  replace HB := Lib.hid (HB.out.setCell (p := ⟨w.heap.size + 1 + 1, 2, none⟩) (by simp; omega) (.slice psh nsh csh))
  replace Kms := Lib.hid (Kms.out.set (g := w.heap.size + 1 + 1) (j := 2) (by omega) (.slice psh nsh csh))
  replace Ksh := Lib.hid (Ksh.out.set (g := w.heap.size + 1 + 1) (j := 2) (by omega) (.slice psh nsh csh))
  clear hb ho HS hs2
  go_wp2_with fail
  clear a0 a1 a2 a3 a4 a5 of oc
  refine (SlStr.to_any _ _ _ dps _ (Hps.out.below HB.out) (by omega)).mono ?_
  rintro e w3 ⟨pps, nps, cps, rfl, ho, hb⟩
  have hs3 := hb.size
  replace HA := Lib.hid (HA.out.below hb)
  replace HR := Lib.hid (HR.out.below hb)
  replace HO := Lib.hid (HO.out.below hb)
  replace HB := Lib.hid (below_on HB.out hb)
  replace Kms := Lib.hid (Kms.out.below hb)
  replace Ksh := Lib.hid (Ksh.out.below hb)
  have Kps : Hid (Stay (w.heap.size + 3) (fun w => RdS SlStr.E w pps nps dps) w3) := Lib.hid (stayS ho (by omega))
  have HS : Hid ((w3.setCell ⟨w.heap.size + 1 + 1, 3, none⟩ (.slice pps nps cps)).heap.size = w3.heap.size) := Lib.hid (by simp [World.setCell])
  have hsz3 : w.heap.size + 3 ≤ (w3.setCell ⟨w.heap.size + 1 + 1, 3, none⟩ (.slice pps nps cps)).heap.size := by rw [HS.out]; omega
  obtain ⟨a0, a1, a2, a3, a4, a5⟩ := bx6 HA.out
  have of := HO.out.free 3
  have oc := HO.out.cell (j := 3) rfl
  replace HA := Lib.hid (HA.out.far (q := ⟨w.heap.size + 1 + 1, 3, none⟩) (by simp; omega) (.slice pps nps cps))
  replace HR := Lib.hid (HR.out.far (q := ⟨w.heap.size + 1 + 1, 3, none⟩) (by simp) (.slice pps nps cps))
  replace HO := Lib.hid (HO.out.set_ 3 (.slice pps nps cps))
  replace HB := Lib.hid (HB.out.setCell (p := ⟨w.heap.size + 1 + 1, 3, none⟩) (by simp; omega) (.slice pps nps cps))
  replace Kms := Lib.hid (Kms.out.set (g := w.heap.size + 1 + 1) (j := 3) (by omega) (.slice pps nps cps))
  replace Ksh := Lib.hid (Ksh.out.set (g := w.heap.size + 1 + 1) (j := 3) (by omega) (.slice pps nps cps))
  replace Kps := Lib.hid (Kps.out.set (g := w.heap.size + 1 + 1) (j := 3) (by omega) (.slice pps nps cps))
  clear hb ho HS hs3
  go_wp2_with fail
  clear a0 a1 a2 a3 a4 a5 of oc
  refine (SlI.to_any _ _ _ dss _ (Hss.out.below HB.out) (by omega)).mono ?_
  rintro e w4 ⟨pss, nss, css, rfl, ho, hb⟩
  have hs4 := hb.size
  replace HA := Lib.hid (HA.out.below hb)
  replace HR := Lib.hid (HR.out.below hb)
  replace HO := Lib.hid (HO.out.below hb)
  replace HB := Lib.hid (below_on HB.out hb)
  replace Kms := Lib.hid (Kms.out.below hb)
  replace Ksh := Lib.hid (Ksh.out.below hb)
  replace Kps := Lib.hid (Kps.out.below hb)
  have Kss : Hid (Stay (w.heap.size + 3) (fun w => Rd .i64 w pss nss dss) w4) := Lib.hid (stayI ho (by omega))
  have HS : Hid ((w4.setCell ⟨w.heap.size + 1 + 1, 4, none⟩ (.slice pss nss css)).heap.size = w4.heap.size) := Lib.hid (by simp [World.setCell])
  have hsz4 : w.heap.size + 3 ≤ (w4.setCell ⟨w.heap.size + 1 + 1, 4, none⟩ (.slice pss nss css)).heap.size := by rw [HS.out]; omega
  obtain ⟨a0, a1, a2, a3, a4, a5⟩ := bx6 HA.out
  have of := HO.out.free 4
  have oc := HO.out.cell (j := 4) rfl
  replace HA := Lib.hid (HA.out.far (q := ⟨w.heap.size + 1 + 1, 4, none⟩) (by simp; omega) (.slice pss nss css))
  replace HR := Lib.hid (HR.out.far (q := ⟨w.heap.size + 1 + 1, 4, none⟩) (by simp) (.slice pss nss css))
  replace HO := Lib.hid (HO.out.set_ 4 (.slice pss nss css))
  replace HB := Lib.hid (HB.out.setCell (p := ⟨w.heap.size + 1 + 1, 4, none⟩) (by simp; omega) (.slice pss nss css))
  replace Kms := Lib.hid (Kms.out.set (g := w.heap.size + 1 + 1) (j := 4) (by omega) (.slice pss nss css))
  replace Ksh := Lib.hid (Ksh.out.set (g := w.heap.size + 1 + 1) (j := 4) (by omega) (.slice pss nss css))
  replace Kps := Lib.hid (Kps.out.set (g := w.heap.size + 1 + 1) (j := 4) (by omega) (.slice pss nss css))
  replace Kss := Lib.hid (Kss.out.set (g := w.heap.size + 1 + 1) (j := 4) (by omega) (.slice pss nss css))
  clear hb ho HS hs4
  go_wp2_with fail
  clear a0 a1 a2 a3 a4 a5 of oc
  refine (SlL.to_any _ _ _ dds _ (Hds.out.below HB.out) (by omega) Hqds.out).mono ?_
  rintro e w5 ⟨pds, nds, cds, rfl, ho, hb⟩
  have hs5 := hb.size
  replace HA := Lib.hid (HA.out.below hb)
  replace HR := Lib.hid (HR.out.below hb)
  replace HO := Lib.hid (HO.out.below hb)
  replace HB := Lib.hid (below_on HB.out hb)
  replace Kms := Lib.hid (Kms.out.below hb)
  replace Ksh := Lib.hid (Ksh.out.below hb)
  replace Kps := Lib.hid (Kps.out.below hb)
  replace Kss := Lib.hid (Kss.out.below hb)
  have Kds : Hid (Stay (w.heap.size + 3) (fun w => SlL.RdL w pds nds dds) w5) := Lib.hid (stayL ho (by omega))
  have HS : Hid ((w5.setCell ⟨w.heap.size + 1 + 1, 5, none⟩ (.slice pds nds cds)).heap.size = w5.heap.size) := Lib.hid (by simp [World.setCell])
  have hsz5 : w.heap.size + 3 ≤ (w5.setCell ⟨w.heap.size + 1 + 1, 5, none⟩ (.slice pds nds cds)).heap.size := by rw [HS.out]; omega
  obtain ⟨a0, a1, a2, a3, a4, a5⟩ := bx6 HA.out
  have of := HO.out.free 5
  have oc := HO.out.cell (j := 5) rfl
  replace HA := Lib.hid (HA.out.far (q := ⟨w.heap.size + 1 + 1, 5, none⟩) (by simp; omega) (.slice pds nds cds))
  replace HR := Lib.hid (HR.out.far (q := ⟨w.heap.size + 1 + 1, 5, none⟩) (by simp) (.slice pds nds cds))
  replace HO := Lib.hid (HO.out.set_ 5 (.slice pds nds cds))
  replace HB := Lib.hid (HB.out.setCell (p := ⟨w.heap.size + 1 + 1, 5, none⟩) (by simp; omega) (.slice pds nds cds))
  replace Kms := Lib.hid (Kms.out.set (g := w.heap.size + 1 + 1) (j := 5) (by omega) (.slice pds nds cds))
  replace Ksh := Lib.hid (Ksh.out.set (g := w.heap.size + 1 + 1) (j := 5) (by omega) (.slice pds nds cds))
  replace Kps := Lib.hid (Kps.out.set (g := w.heap.size + 1 + 1) (j := 5) (by omega) (.slice pds nds cds))
  replace Kss := Lib.hid (Kss.out.set (g := w.heap.size + 1 + 1) (j := 5) (by omega) (.slice pds nds cds))
  replace Kds := Lib.hid (Kds.out.set (g := w.heap.size + 1 + 1) (j := 5) (by omega) (.slice pds nds cds))
  clear hb ho HS hs5
  clear a0 a1 a2 a3 a4 a5
  obtain ⟨W, hW⟩ : ∃ W, w5.setCell ⟨w.heap.size + 1 + 1, 5, none⟩ (.slice pds nds cds) = W := ⟨_, rfl⟩
  have HW := Lib.hid hW
  rw [hW] at HR HO HB Kms Ksh Kps Kss Kds
  clear hW
  obtain ⟨o0, o1, o2, o3, o4, o5⟩ := bx6 HO.out
  obtain ⟨r0, r1, r2, r3, r4, r5⟩ := bx6 HR.out
  have rf0 := HR.out.free 0
  have rf1 := HR.out.free 1
  have rf2 := HR.out.free 2
  have rf3 := HR.out.free 3
  have rf4 := HR.out.free 4
  have rf5 := HR.out.free 5
  have HT := Lib.hid (((((((Turn.refl _ W).set (S := fun i => i < w.heap.size + 3) (g := w.heap.size + 1) (j := 0) (by show w.heap.size + 1 < w.heap.size + 3; omega) (.int .i64 t)).set (S := fun i => i < w.heap.size + 3) (g := w.heap.size + 1) (j := 1) (by show w.heap.size + 1 < w.heap.size + 3; omega) (.slice pms nms cms)).set (S := fun i => i < w.heap.size + 3) (g := w.heap.size + 1) (j := 2) (by show w.heap.size + 1 < w.heap.size + 3; omega) (.slice psh nsh csh)).set (S := fun i => i < w.heap.size + 3) (g := w.heap.size + 1) (j := 3) (by show w.heap.size + 1 < w.heap.size + 3; omega) (.slice pps nps cps)).set (S := fun i => i < w.heap.size + 3) (g := w.heap.size + 1) (j := 4) (by show w.heap.size + 1 < w.heap.size + 3; omega) (.slice pss nss css)).set (S := fun i => i < w.heap.size + 3) (g := w.heap.size + 1) (j := 5) (by show w.heap.size + 1 < w.heap.size + 3; omega) (.slice pds nds cds))
  have HF : Hid (Below w.heap.size w _) := Lib.hid ((((((HB.out.setCell (p := ⟨w.heap.size + 1, 0, none⟩) (by simp) (.int .i64 t)).setCell (p := ⟨w.heap.size + 1, 1, none⟩) (by simp) (.slice pms nms cms)).setCell (p := ⟨w.heap.size + 1, 2, none⟩) (by simp) (.slice psh nsh csh)).setCell (p := ⟨w.heap.size + 1, 3, none⟩) (by simp) (.slice pps nps cps)).setCell (p := ⟨w.heap.size + 1, 4, none⟩) (by simp) (.slice pss nss css)).setCell (p := ⟨w.heap.size + 1, 5, none⟩) (by simp) (.slice pds nds cds))
  have HD : Hid (RdR _ ⟨t, pms, nms, cms, psh, nsh, csh, pps, nps, cps, pss, nss, css, pds, nds, cds⟩ ⟨t, dms, dsh, dps, dss, dds⟩) := Lib.hid ⟨rfl, (Kms.out.on HT.out).now, (Ksh.out.on HT.out).now, (Kps.out.on HT.out).now, (Kss.out.on HT.out).now, (Kds.out.on HT.out).now⟩
  clear HT Kms Ksh Kps Kss Kds
  have hx : 6 ≤ 6 := Nat.le_refl _
  go_wp2_with (rw [HW.out])
  exact bodyPost_ret (v := .agg #[.int .i64 t, .slice pms nms cms, .slice psh nsh csh, .slice pps nps cps, .slice pss nss css, .slice pds nds cds]) (by simp [results, Try.results39, go_sem, r0, r1, r2, r3, r4, r5]) rfl ⟨_, rfl, HD.out, HF.out⟩
/-! ### equality -/
/-- The call answers true; what lay before is as it was. -/
def Yes (w : World) (e : Ending) (w' : World) : Prop := e = .returned (.bool true) ∧ Below w.heap.size w w'
set_option maxRecDepth 100000 in
set_option maxHeartbeats 8000000 in
theorem eq_any (a b : Ra) (D : Rc) (w : World) (h : RdR w a D) (h' : RdR w b D) : Calls Try.prog 30 #[a.val, b.val] w (Yes w) := by
  obtain ⟨t, msp, msn, msc, shp, shn, shc, psp, psn, psc, ssp, ssn, ssc, dsp, dsn, dsc⟩ := a
  obtain ⟨t', msp', msn', msc', shp', shn', shc', psp', psn', psc', ssp', ssn', ssc', dsp', dsn', dsc'⟩ := b
  obtain ⟨dt, dms, dsh, dps, dss, dds⟩ := D
  obtain ⟨et, rms, rsh, rps, rss, rds⟩ := h
  obtain ⟨gt, sms, ssh, sps, sss, sds⟩ := h'
  dsimp only at et gt rms sms rsh ssh rps sps rss sss rds sds
  subst gt
  subst et
  obtain rfl : msn = msn' := rms.len.symm.trans sms.len
  have Hms := Lib.hid rms
  have Gms := Lib.hid sms
  obtain rfl : shn = shn' := rsh.len.symm.trans ssh.len
  have Hsh := Lib.hid rsh
  have Gsh := Lib.hid ssh
  obtain rfl : psn = psn' := rps.len.symm.trans sps.len
  have Hps := Lib.hid rps
  have Gps := Lib.hid sps
  obtain rfl : ssn = ssn' := rss.len.symm.trans sss.len
  have Hss := Lib.hid rss
  have Gss := Lib.hid sss
  obtain rfl : dsn = dsn' := rds.len.symm.trans sds.len
  have Hds := Lib.hid rds
  have Gds := Lib.hid sds
  clear rms sms rsh ssh rps sps rss sss rds sds
  have HB := Lib.hid ((box1 w (.cells #[.int .i64 t, .slice msp msn msc, .slice shp shn shc, .slice psp psn psc, .slice ssp ssn ssc, .slice dsp dsn dsc] 43)).alloc (by simp) (.cells #[.int .i64 t, .slice msp' msn msc', .slice shp' shn shc', .slice psp' psn psc', .slice ssp' ssn ssc', .slice dsp' dsn dsc'] 43))
  have HX := Lib.hid ((Bx.new w 43 #[.int .i64 t, .slice msp msn msc, .slice shp shn shc, .slice psp psn psc, .slice ssp ssn ssc, .slice dsp dsn dsc]).alloc (.cells #[.int .i64 t, .slice msp' msn msc', .slice shp' shn shc', .slice psp' psn psc', .slice ssp' ssn ssc', .slice dsp' dsn dsc'] 43))
  have hy := Bx.new (w.alloc (.cells #[.int .i64 t, .slice msp msn msc, .slice shp shn shc, .slice psp psn psc, .slice ssp ssn ssc, .slice dsp dsn dsc] 43)) 43 #[.int .i64 t, .slice msp' msn msc', .slice shp' shn shc', .slice psp' psn psc', .slice ssp' ssn ssc', .slice dsp' dsn dsc']
  rw [World.size_alloc] at hy
  have HY := Lib.hid hy
  clear hy
  simp only [Ra.val, Ra.cells]
  go_enter Try.func30, Try.ntmps30
  go_wp2_with fail
  refine (SlI.eq_any _ _ _ _ _ dms _ (Hms.out.below HB.out) (Gms.out.below HB.out)).mono ?_
  rintro e w1 ⟨rfl, hb⟩
  replace HB := Lib.hid (below_on HB.out hb)
  replace HX := Lib.hid (HX.out.below hb)
  replace HY := Lib.hid (HY.out.below hb)
  clear hb
  obtain ⟨x0, x1, x2, x3, x4, x5⟩ := bx6 HX.out
  obtain ⟨y0, y1, y2, y3, y4, y5⟩ := bx6 HY.out
  go_wp2_with fail
  clear x0 y0 x1 y1 x2 y2 x3 y3 x4 y4 x5 y5
  refine (SlBool.eq_any _ _ _ _ _ dsh _ (Hsh.out.below HB.out) (Gsh.out.below HB.out)).mono ?_
  rintro e w2 ⟨rfl, hb⟩
  replace HB := Lib.hid (below_on HB.out hb)
  replace HX := Lib.hid (HX.out.below hb)
  replace HY := Lib.hid (HY.out.below hb)
  clear hb
  obtain ⟨x0, x1, x2, x3, x4, x5⟩ := bx6 HX.out
  obtain ⟨y0, y1, y2, y3, y4, y5⟩ := bx6 HY.out
  go_wp2_with fail
  clear x0 y0 x1 y1 x2 y2 x3 y3 x4 y4 x5 y5
  refine (SlStr.eq_any _ _ _ _ _ dps _ (Hps.out.below HB.out) (Gps.out.below HB.out)).mono ?_
  rintro e w3 ⟨rfl, hb⟩
  replace HB := Lib.hid (below_on HB.out hb)
  replace HX := Lib.hid (HX.out.below hb)
  replace HY := Lib.hid (HY.out.below hb)
  clear hb
  obtain ⟨x0, x1, x2, x3, x4, x5⟩ := bx6 HX.out
  obtain ⟨y0, y1, y2, y3, y4, y5⟩ := bx6 HY.out
  go_wp2_with fail
  clear x0 y0 x1 y1 x2 y2 x3 y3 x4 y4 x5 y5
  refine (SlI.eq_any _ _ _ _ _ dss _ (Hss.out.below HB.out) (Gss.out.below HB.out)).mono ?_
  rintro e w4 ⟨rfl, hb⟩
  replace HB := Lib.hid (below_on HB.out hb)
  replace HX := Lib.hid (HX.out.below hb)
  replace HY := Lib.hid (HY.out.below hb)
  clear hb
  obtain ⟨x0, x1, x2, x3, x4, x5⟩ := bx6 HX.out
  obtain ⟨y0, y1, y2, y3, y4, y5⟩ := bx6 HY.out
  go_wp2_with fail
  clear x0 y0 x1 y1 x2 y2 x3 y3 x4 y4 x5 y5
  refine (SlL.eq_any _ _ _ _ _ dds _ (Hds.out.below HB.out) (Gds.out.below HB.out)).mono ?_
  rintro e w5 ⟨rfl, hb⟩
  replace HB := Lib.hid (below_on HB.out hb)
  replace HX := Lib.hid (HX.out.below hb)
  replace HY := Lib.hid (HY.out.below hb)
  clear hb
  go_wp2_with fail
  go_ret
  exact ⟨rfl, HB.out⟩
/-! ### the same, written out -/
def MakesX (D : Rc) (w : World) (e : Ending) (w' : World) : Prop := ∃ (t : Int) (msp : Option Addr) (msn : Nat) (msc : Nat) (shp : Option Addr) (shn : Nat) (shc : Nat) (psp : Option Addr) (psn : Nat) (psc : Nat) (ssp : Option Addr) (ssn : Nat) (ssc : Nat) (dsp : Option Addr) (dsn : Nat) (dsc : Nat), e = .returned (.agg #[.int .i64 t, .slice msp msn msc, .slice shp shn shc, .slice psp psn psc, .slice ssp ssn ssc, .slice dsp dsn dsc]) ∧ RdR w' ⟨t, msp, msn, msc, shp, shn, shc, psp, psn, psc, ssp, ssn, ssc, dsp, dsn, dsc⟩ D ∧ Below w.heap.size w w'
theorem to_x (t : Int) (msp : Option Addr) (msn : Nat) (msc : Nat) (shp : Option Addr) (shn : Nat) (shc : Nat) (psp : Option Addr) (psn : Nat) (psc : Nat) (ssp : Option Addr) (ssn : Nat) (ssc : Nat) (dsp : Option Addr) (dsn : Nat) (dsc : Nat) (D : Rc) (w : World) (h : RdR w ⟨t, msp, msn, msc, shp, shn, shc, psp, psn, psc, ssp, ssn, ssc, dsp, dsn, dsc⟩ D) (hsz : size D ≤ 1048576) : Calls Try.prog 39 #[.agg #[.int .i64 t, .slice msp msn msc, .slice shp shn shc, .slice psp psn psc, .slice ssp ssn ssc, .slice dsp dsn dsc]] w (MakesX D w) := (to_any ⟨t, msp, msn, msc, shp, shn, shc, psp, psn, psc, ssp, ssn, ssc, dsp, dsn, dsc⟩ D w h hsz).mono fun e w' ⟨b, h1, h2, h3⟩ => by
  obtain ⟨t, msp, msn, msc, shp, shn, shc, psp, psn, psc, ssp, ssn, ssc, dsp, dsn, dsc⟩ := b
  exact ⟨_, _, _, _, _, _, _, _, _, _, _, _, _, _, _, _, h1, h2, h3⟩
theorem eq_x (t : Int) (msp : Option Addr) (msn : Nat) (msc : Nat) (shp : Option Addr) (shn : Nat) (shc : Nat) (psp : Option Addr) (psn : Nat) (psc : Nat) (ssp : Option Addr) (ssn : Nat) (ssc : Nat) (dsp : Option Addr) (dsn : Nat) (dsc : Nat) (t' : Int) (msp' : Option Addr) (msn' : Nat) (msc' : Nat) (shp' : Option Addr) (shn' : Nat) (shc' : Nat) (psp' : Option Addr) (psn' : Nat) (psc' : Nat) (ssp' : Option Addr) (ssn' : Nat) (ssc' : Nat) (dsp' : Option Addr) (dsn' : Nat) (dsc' : Nat) (D : Rc) (w : World) (h : RdR w ⟨t, msp, msn, msc, shp, shn, shc, psp, psn, psc, ssp, ssn, ssc, dsp, dsn, dsc⟩ D) (h' : RdR w ⟨t', msp', msn', msc', shp', shn', shc', psp', psn', psc', ssp', ssn', ssc', dsp', dsn', dsc'⟩ D) : Calls Try.prog 30 #[.agg #[.int .i64 t, .slice msp msn msc, .slice shp shn shc, .slice psp psn psc, .slice ssp ssn ssc, .slice dsp dsn dsc], .agg #[.int .i64 t', .slice msp' msn' msc', .slice shp' shn' shc', .slice psp' psn' psc', .slice ssp' ssn' ssc', .slice dsp' dsn' dsc']] w (Yes w) := eq_any ⟨t, msp, msn, msc, shp, shn, shc, psp, psn, psc, ssp, ssn, ssc, dsp, dsn, dsc⟩ ⟨t', msp', msn', msc', shp', shn', shc', psp', psn', psc', ssp', ssn', ssc', dsp', dsn', dsc'⟩ D w h h'
theorem sz_x (t : Int) (msp : Option Addr) (msn : Nat) (msc : Nat) (shp : Option Addr) (shn : Nat) (shc : Nat) (psp : Option Addr) (psn : Nat) (psc : Nat) (ssp : Option Addr) (ssn : Nat) (ssc : Nat) (dsp : Option Addr) (dsn : Nat) (dsc : Nat) (L : Int) (D : Rc) (left : Nat) (hL : L = (left : Int)) (w : World) (h : RdR w ⟨t, msp, msn, msc, shp, shn, shc, psp, psn, psc, ssp, ssn, ssc, dsp, dsn, dsc⟩ D) (hw : Wf D) (hleft : left ≤ 1048576) : Calls Try.prog 37 #[.agg #[.int .i64 t, .slice msp msn msc, .slice shp shn shc, .slice psp psn psc, .slice ssp ssn ssc, .slice dsp dsn dsc], .int .i64 L] w fun e w' => e = .returned (.int .i64 (SlL.szl (size D) left)) ∧ Below w.heap.size w w' := by
  subst hL
  exact sz_any ⟨t, msp, msn, msc, shp, shn, shc, psp, psn, psc, ssp, ssn, ssc, dsp, dsn, dsc⟩ D left w h hw hleft
theorem sz_fit (t : Int) (msp : Option Addr) (msn : Nat) (msc : Nat) (shp : Option Addr) (shn : Nat) (shc : Nat) (psp : Option Addr) (psn : Nat) (psc : Nat) (ssp : Option Addr) (ssn : Nat) (ssc : Nat) (dsp : Option Addr) (dsn : Nat) (dsc : Nat) (L : Int) (D : Rc) (left : Nat) (hL : L = (left : Int)) (w : World) (h : RdR w ⟨t, msp, msn, msc, shp, shn, shc, psp, psn, psc, ssp, ssn, ssc, dsp, dsn, dsc⟩ D) (hw : Wf D) (hleft : left ≤ 1048576) (hs : size D ≤ left) : Calls Try.prog 37 #[.agg #[.int .i64 t, .slice msp msn msc, .slice shp shn shc, .slice psp psn psc, .slice ssp ssn ssc, .slice dsp dsn dsc], .int .i64 L] w fun e w' => e = .returned (.int .i64 (L - (size D : Nat))) ∧ Below w.heap.size w w' := by
  subst hL
  refine (sz_any ⟨t, msp, msn, msc, shp, shn, shc, psp, psn, psc, ssp, ssn, ssc, dsp, dsn, dsc⟩ D left w h hw hleft).mono ?_
  rintro e w' ⟨rfl, hb⟩
  exact ⟨by rw [SlL.szl_fit hs], hb⟩
theorem sz_big (t : Int) (msp : Option Addr) (msn : Nat) (msc : Nat) (shp : Option Addr) (shn : Nat) (shc : Nat) (psp : Option Addr) (psn : Nat) (psc : Nat) (ssp : Option Addr) (ssn : Nat) (ssc : Nat) (dsp : Option Addr) (dsn : Nat) (dsc : Nat) (L : Int) (D : Rc) (left : Nat) (hL : L = (left : Int)) (w : World) (h : RdR w ⟨t, msp, msn, msc, shp, shn, shc, psp, psn, psc, ssp, ssn, ssc, dsp, dsn, dsc⟩ D) (hw : Wf D) (hleft : left ≤ 1048576) (hs : ¬ size D ≤ left) : Calls Try.prog 37 #[.agg #[.int .i64 t, .slice msp msn msc, .slice shp shn shc, .slice psp psn psc, .slice ssp ssn ssc, .slice dsp dsn dsc], .int .i64 L] w fun e w' => e = .returned (.int .i64 (-1)) ∧ Below w.heap.size w w' := by
  subst hL
  refine (sz_any ⟨t, msp, msn, msc, shp, shn, shc, psp, psn, psc, ssp, ssn, ssc, dsp, dsn, dsc⟩ D left w h hw hleft).mono ?_
  rintro e w' ⟨rfl, hb⟩
  exact ⟨by rw [SlL.szl_big hs], hb⟩
set_option maxRecDepth 100000 in
theorem open_x {H : Type} {enc : TypeId × Value → H} {W : World} {base : Nat} {v : Value} {X : DataW H} {pl : List MemPlace} (h : DataW.Trod enc Try.prog W 0 (fun _ => true) true 63 v X pl) (hk : Value.okWide Try.prog W .any base 63 v) : ∃ (t : Int) (msp : Option Addr) (msn : Nat) (msc : Nat) (shp : Option Addr) (shn : Nat) (shc : Nat) (psp : Option Addr) (psn : Nat) (psc : Nat) (ssp : Option Addr) (ssn : Nat) (ssc : Nat) (dsp : Option Addr) (dsn : Nat) (dsc : Nat) (D : Rc), v = .agg #[.int .i64 t, .slice msp msn msc, .slice shp shn shc, .slice psp psn psc, .slice ssp ssn ssc, .slice dsp dsn dsc] ∧ RdR W ⟨t, msp, msn, msc, shp, shn, shc, psp, psn, psc, ssp, ssn, ssc, dsp, dsn, dsc⟩ D ∧ Wf D := by
  obtain ⟨b, D, h1, h2, h3⟩ := open_val h hk
  obtain ⟨t, msp, msn, msc, shp, shn, shc, psp, psn, psc, ssp, ssn, ssc, dsp, dsn, dsc⟩ := b
  exact ⟨_, _, _, _, _, _, _, _, _, _, _, _, _, _, _, _, D, h1, h2, h3⟩
set_option maxRecDepth 100000 in
theorem two6 {w : World} {g g' : Nat} {T T' : TypeId} {x0 x1 x2 x3 x4 x5 y0 y1 y2 y3 y4 y5 : Value} (h : Bx w g T #[x0, x1, x2, x3, x4, x5]) (h' : Bx w g' T' #[y0, y1, y2, y3, y4, y5]) : w.cell? ⟨g, 0, none⟩ = some x0 ∧ w.cell? ⟨g, 1, none⟩ = some x1 ∧ w.cell? ⟨g, 2, none⟩ = some x2 ∧ w.cell? ⟨g, 3, none⟩ = some x3 ∧ w.cell? ⟨g, 4, none⟩ = some x4 ∧ w.cell? ⟨g, 5, none⟩ = some x5 ∧ w.cell? ⟨g', 0, none⟩ = some y0 ∧ w.cell? ⟨g', 1, none⟩ = some y1 ∧ w.cell? ⟨g', 2, none⟩ = some y2 ∧ w.cell? ⟨g', 3, none⟩ = some y3 ∧ w.cell? ⟨g', 4, none⟩ = some y4 ∧ w.cell? ⟨g', 5, none⟩ = some y5 := by
  obtain ⟨a0, a1, a2, a3, a4, a5⟩ := bx6 h
  obtain ⟨b0, b1, b2, b3, b4, b5⟩ := bx6 h'
  exact ⟨a0, a1, a2, a3, a4, a5, b0, b1, b2, b3, b4, b5⟩
end Go.Proofs.Ytjlckfbacphblaa.SlRed
