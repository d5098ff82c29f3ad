/- The item with an Id; in the program and in the reference. -/
import Derived.Test.YtkmgnicngcandaaDpArchive
import Derived.Test.YtkmgnicngcandaaFi
import Derived.Test.YtkmgnicngcandaaQt
import Derived.Laws.EntriesVeiled
import Derived.LoopTactic
import Derived.Outline
namespace Go.Proofs.Ytkmgnicngcandaa.Ft
open Go.ChangeShapes Go.WideShapes Go.ChangeAt Go.RowKit Sl St Ed Dz Es Fnd Fi
def isId (id : Int) (x : DpItem.A) : Bool := decide (x.1 = id)
def findI (xs : List DpItem.A) (id : Int) : Int := first (isId id) xs
set_option maxRecDepth 100000 in
theorem itemId_any (xe0 : Int) (xe1 : Int) (xe2 : Int) (pe3 : Option Addr) (ne3 ce3 : Nat) (pe4 : Option Addr) (ne4 ce4 : Nat) (xe5 : Int) (xe6 : Int) (xe7 : Int) (xe8 : Int) (xe9 : Int) (xe10 : Int) (xe11 : Int) (xe12 : Int) (xe13 : Int) (pe14 : Option Addr) (ne14 ce14 : Nat) (pe15 : Option Addr) (ne15 ce15 : Nat) (w : World) : Calls Try.prog 47 #[.agg #[.int .i64 xe0, .int .i64 xe1, .int .i64 xe2, .slice pe3 ne3 ce3, .slice pe4 ne4 ce4, .int .i64 xe5, .int .i64 xe6, .int .i64 xe7, .int .i64 xe8, .int .i64 xe9, .int .i64 xe10, .int .i64 xe11, .int .i64 xe12, .int .i64 xe13, .slice pe14 ne14 ce14, .slice pe15 ne15 ce15]] w (Val (.int .i64 xe0) w) := by
  have HB := Lib.hid (box1 w (.cells #[.int .i64 xe0, .int .i64 xe1, .int .i64 xe2, .slice pe3 ne3 ce3, .slice pe4 ne4 ce4, .int .i64 xe5, .int .i64 xe6, .int .i64 xe7, .int .i64 xe8, .int .i64 xe9, .int .i64 xe10, .int .i64 xe11, .int .i64 xe12, .int .i64 xe13, .slice pe14 ne14 ce14, .slice pe15 ne15 ce15] 43))
  go_enter Try.func47, Try.ntmps47
  go_wp2_with fail
  go_ret
  exact val_of rfl HB.out
set_option maxRecDepth 100000 in
set_option maxHeartbeats 8000000 in
theorem clo_any (g g' : Nat) (id : Int) (z : Value) (xe0 : Int) (xe1 : Int) (xe2 : Int) (le3 : List ByteArray) (pe3 : Option Addr) (ne3 ce3 : Nat) (le4 : List Int) (pe4 : Option Addr) (ne4 ce4 : Nat) (xe5 : Int) (xe6 : Int) (xe7 : Int) (xe8 : Int) (xe9 : Int) (xe10 : Int) (xe11 : Int) (xe12 : Int) (xe13 : Int) (le14 : List DpPiece.A) (pe14 : Option Addr) (ne14 ce14 : Nat) (le15 : List DpRenewal.A) (pe15 : Option Addr) (ne15 ce15 : Nat) (w : World) (hg : Bx w g 149 #[z, .func (.func 47) #[] #[]]) (hn : Bx w g' 3 #[.int .i64 id]) : Calls Try.prog 120 #[.agg #[.int .i64 xe0, .int .i64 xe1, .int .i64 xe2, .slice pe3 ne3 ce3, .slice pe4 ne4 ce4, .int .i64 xe5, .int .i64 xe6, .int .i64 xe7, .int .i64 xe8, .int .i64 xe9, .int .i64 xe10, .int .i64 xe11, .int .i64 xe12, .int .i64 xe13, .slice pe14 ne14 ce14, .slice pe15 ne15 ce15], .pointer (some ⟨g, 0, none⟩), .pointer (some ⟨g', 0, none⟩)] w (Val (.bool (isId id (xe0, xe1, (xe2, le3, le4), (xe5, xe6, xe7, xe8, xe9, xe10, xe11, xe12, xe13), (le14, le15)))) w) := by
  have hb := box1 w (.cells #[.int .i64 xe0, .int .i64 xe1, .int .i64 xe2, .slice pe3 ne3 ce3, .slice pe4 ne4 ce4, .int .i64 xe5, .int .i64 xe6, .int .i64 xe7, .int .i64 xe8, .int .i64 xe9, .int .i64 xe10, .int .i64 xe11, .int .i64 xe12, .int .i64 xe13, .slice pe14 ne14 ce14, .slice pe15 ne15 ce15] 43)
  have HBV := Lib.hid hb
  have HX := Lib.hid (Bx.new w 43 #[.int .i64 xe0, .int .i64 xe1, .int .i64 xe2, .slice pe3 ne3 ce3, .slice pe4 ne4 ce4, .int .i64 xe5, .int .i64 xe6, .int .i64 xe7, .int .i64 xe8, .int .i64 xe9, .int .i64 xe10, .int .i64 xe11, .int .i64 xe12, .int .i64 xe13, .slice pe14 ne14 ce14, .slice pe15 ne15 ce15])
  have HG := Lib.hid (hg.below hb)
  have HN := Lib.hid (hn.below hb)
  clear hb hg hn
  go_enter Try.func120, Try.ntmps120
  go_wp2_with fail
  generalize (w.alloc (.cells #[.int .i64 xe0, .int .i64 xe1, .int .i64 xe2, .slice pe3 ne3 ce3, .slice pe4 ne4 ce4, .int .i64 xe5, .int .i64 xe6, .int .i64 xe7, .int .i64 xe8, .int .i64 xe9, .int .i64 xe10, .int .i64 xe11, .int .i64 xe12, .int .i64 xe13, .slice pe14 ne14 ce14, .slice pe15 ne15 ce15] 43)) = V at HBV HX HG HN ⊢
  have HC : Hid (∀ w', Qt.Keeps (V) w' → w'.cell? ⟨g, 1, none⟩ = some (.func (.func 47) #[] #[]) ∧ w'.cell? ⟨g', 0, none⟩ = some (.int .i64 id) ∧ w'.cell? ⟨w.heap.size, 0, none⟩ = some (.int .i64 xe0) ∧ w'.cell? ⟨w.heap.size, 1, none⟩ = some (.int .i64 xe1) ∧ w'.cell? ⟨w.heap.size, 2, none⟩ = some (.int .i64 xe2) ∧ w'.cell? ⟨w.heap.size, 3, none⟩ = some (.slice pe3 ne3 ce3) ∧ w'.cell? ⟨w.heap.size, 4, none⟩ = some (.slice pe4 ne4 ce4) ∧ w'.cell? ⟨w.heap.size, 5, none⟩ = some (.int .i64 xe5) ∧ w'.cell? ⟨w.heap.size, 6, none⟩ = some (.int .i64 xe6) ∧ w'.cell? ⟨w.heap.size, 7, none⟩ = some (.int .i64 xe7) ∧ w'.cell? ⟨w.heap.size, 8, none⟩ = some (.int .i64 xe8) ∧ w'.cell? ⟨w.heap.size, 9, none⟩ = some (.int .i64 xe9) ∧ w'.cell? ⟨w.heap.size, 10, none⟩ = some (.int .i64 xe10) ∧ w'.cell? ⟨w.heap.size, 11, none⟩ = some (.int .i64 xe11) ∧ w'.cell? ⟨w.heap.size, 12, none⟩ = some (.int .i64 xe12) ∧ w'.cell? ⟨w.heap.size, 13, none⟩ = some (.int .i64 xe13) ∧ w'.cell? ⟨w.heap.size, 14, none⟩ = some (.slice pe14 ne14 ce14) ∧ w'.cell? ⟨w.heap.size, 15, none⟩ = some (.slice pe15 ne15 ce15)) := Lib.hid fun w' hw => ⟨(HG.out.below hw).cell rfl, (HN.out.below hw).cell rfl, DpItem.bxc (HX.out.below hw)⟩
  refine Qt.region (Qt.Keeps (V)) (by kernel_rfl) (by kernel_rfl) (Qt.Keeps.drew _) ?_
  repeat (first
    | go_big_quiet_skip
    | (go_big_quiet_want
       refine Qt.val (v := ?_) (fun w hw => ?_) ?_
       rotate_left
       · obtain ⟨c1, c0, y0, y1, y2, y3, y4, y5, y6, y7, y8, y9, y10, y11, y12, y13, y14, y15⟩ := HC.out w hw
         go_simp
         rfl
       simp only [Act.put, List.setIfInBounds_toArray, List.set_cons_zero, List.set_cons_succ]
       go_big_quiet_on)
    | (go_big_quiet_want
       refine Qt.call (v := .int .i64 xe0) (f := 47) (args := #[.agg #[.int .i64 xe0, .int .i64 xe1, .int .i64 xe2, .slice pe3 ne3 ce3, .slice pe4 ne4 ce4, .int .i64 xe5, .int .i64 xe6, .int .i64 xe7, .int .i64 xe8, .int .i64 xe9, .int .i64 xe10, .int .i64 xe11, .int .i64 xe12, .int .i64 xe13, .slice pe14 ne14 ce14, .slice pe15 ne15 ce15]]) (fun w hw => ?_) (fun w hw => ?_) ?_
       · go_simp
       · refine (itemId_any _ _ _ _ _ _ _ _ _ _ _ _ _ _ _ _ _ _ _ _ _ _ _ _ _).mono ?_
         rintro e w1 ⟨rfl, hb1⟩
         skip
         exact ⟨rfl, hw.then hb1⟩
       simp only [Act.put, List.setIfInBounds_toArray, List.set_cons_zero, List.set_cons_succ]
       go_big_quiet_on))
  refine wpQuiet_nil ?_
  intro w2 hw2
  have HB := Lib.hid (below_on HBV.out hw2)
  clear hw2
  go_wp2_with fail
  go_ret
  exact val_of rfl HB.out
set_option maxRecDepth 100000 in
set_option maxHeartbeats 8000000 in
theorem index_any (g g' : Nat) (id : Int) (z : Value) (xs : List DpItem.A) (p : Option Addr) (n c : Nat) {S : Nat → Prop} (w : World) (hr : RdD DpItem.E S w p n xs) (hg : Bx w g 149 #[z, .func (.func 47) #[] #[]]) (hn : Bx w g' 3 #[.int .i64 id]) : Calls Try.prog 119 #[.slice p n c, .func (.func 120) #[] #[.pointer (some ⟨g, 0, none⟩), .pointer (some ⟨g', 0, none⟩)]] w (Val (.int .i64 (findI xs id)) w) := by
  have HR := Lib.hid hr
  have hle := hr.le
  have HG := Lib.hid hg
  have HN := Lib.hid hn
  clear hr hg hn
  go_enter Try.func119, Try.ntmps119
  go_wp2_with fail
  go_loopw [8] (fun i wr => ∃ k : Nat, k ≤ n ∧ i = .int .i64 k ∧ Hid (noneB (isId id) xs k) ∧ Hid (Below w.heap.size w wr)) (fun i _ => n - (intOf i).toNat)
  case atStart => exact ⟨0, Nat.zero_le _, rfl, Lib.hid (noneB_zero _), Lib.hid (Below.refl _ _)⟩
  case round =>
    obtain ⟨k, hk, rfl, HU, HB⟩ := hrel
    by_cases hlt : k < n
    · skip
      obtain ⟨b, o, x_e, cs_e, rfl, _, hbwe, hxe, hce, hrde⟩ := HR.out.at_ hlt
      obtain ⟨xe0, xe1, ⟨xe2, le3, le4⟩, ⟨xe5, xe6, xe7, xe8, xe9, xe10, xe11, xe12, xe13⟩, ⟨le14, le15⟩⟩ := x_e
      obtain ⟨pe3, ne3, ce3, pe4, ne4, ce4, pe14, ne14, ce14, pe15, ne15, ce15, rfl, be0, be1, be2, he3, he4, be5, he14, he15⟩ := DpItem.ex hrde
      have hcce : ∀ jj v, [.int .i64 xe0, .int .i64 xe1, .int .i64 xe2, .slice pe3 ne3 ce3, .slice pe4 ne4 ce4, .int .i64 xe5, .int .i64 xe6, .int .i64 xe7, .int .i64 xe8, .int .i64 xe9, .int .i64 xe10, .int .i64 xe11, .int .i64 xe12, .int .i64 xe13, .slice pe14 ne14 ce14, .slice pe15 ne15 ce15][jj]? = some v → wr.cell? ⟨b, o + k * 16 + jj, none⟩ = some v := fun jj v hv => (HB.out.cell (p := ⟨b, o + k * 16 + jj, none⟩) hbwe).trans (hce jj v hv)
      have HXe := Lib.hid hxe
      have HCe := Lib.hid hcce
      have He3 := Lib.hid (he3.below HB.out)
      have hne3 := he3.le
      have He4 := Lib.hid (he4.below HB.out)
      have hne4 := he4.le
      have He14 := Lib.hid (he14.below HB.out)
      have hne14 := he14.le
      have He15 := Lib.hid (he15.below HB.out)
      have hne15 := he15.le
      have Gbe0 := Lib.hid be0
      have Gbe1 := Lib.hid be1
      have Gbe2 := Lib.hid be2
      have Gbe5 := Lib.hid be5
      obtain ⟨u0, u1, u2, u3, u4, u5, u6, u7, u8, u9, u10, u11, u12, u13, u14, u15⟩ := DpItem.at_cells hcce
      clear hcce hce hxe hrde be0 be1 be2 he3 he4 be5 he14 he15
      go_wp2_with fail
      refine (clo_any g g' id z xe0 xe1 xe2 le3 _ _ _ le4 _ _ _ xe5 xe6 xe7 xe8 xe9 xe10 xe11 xe12 xe13 le14 _ _ _ le15 _ _ _ _ (HG.out.below HB.out) (HN.out.below HB.out)).mono ?_
      rintro e1 w1 ⟨rfl, hb⟩
      obtain ⟨β, hβ⟩ : ∃ b, isId id (xe0, xe1, (xe2, le3, le4), (xe5, xe6, xe7, xe8, xe9, xe10, xe11, xe12, xe13), (le14, le15)) = b := ⟨_, rfl⟩
      rw [hβ]
      have HP := Lib.hid hβ
      have HB1 := Lib.hid (below_on HB.out hb)
      clear hβ hb u0 u1 u2 u3 u4 u5 u6 u7 u8 u9 u10 u11 u12 u13 u14 u15
      cases β
      · have HU1 := Lib.hid (noneB_next HU.out HXe.out HP.out)
        go_wp2_with fail
        go_roundw
        case rel => exact ⟨k + 1, by omega, by go_num, HU1, HB1⟩
        case measure => simp [intOf]; omega
      · have HA : Hid (findI xs id = k) := Lib.hid (first_yes HU.out HXe.out HP.out)
        go_wp2_with fail
        go_ret
        exact val_of (by rw [HA.out]; first | done | rfl) HB1.out
    · obtain rfl : k = n := by omega
      have HA : Hid (findI xs id = -1) := Lib.hid (first_no HU.out HR.out.len)
      go_wp2_with fail
      go_ret
      exact val_of (by rw [HA.out]; first | done | rfl) HB.out
set_option maxRecDepth 100000 in
set_option maxHeartbeats 4000000 in
theorem by_any (x0 : Int) (p1 : Option Addr) (n1 c1 : Nat) (w : World) : Calls Try.prog 94 #[.agg #[.int .i64 x0, .slice p1 n1 c1]] w (Val (.agg #[.slice p1 n1 c1, .func (.func 47) #[] #[]]) w) := by
  have hb : Below w.heap.size w (((w.alloc (.cells #[.int .i64 x0, .slice p1 n1 c1] 54)).alloc (.cells #[.slice p1 n1 c1, .func (.func 47) #[] #[]] 149))) := (box1 w _).alloc (by simp) _
  have HB := Lib.hid hb
  clear hb
  go_enter Try.func94, Try.ntmps94
  go_wp2_with fail
  exact bodyPost_ret (v := .agg #[.slice p1 n1 c1, .func (.func 47) #[] #[]]) (by simp [results, Try.results94, go_sem]) rfl ⟨rfl, HB.out⟩
set_option maxRecDepth 100000 in
set_option maxHeartbeats 4000000 in
theorem list_any (id : Int) (l1 : List DpItem.A) (p1 : Option Addr) (n1 c1 : Nat) {S : Nat → Prop} (w : World) (hr : RdD DpItem.E S w p1 n1 l1) : Calls Try.prog 95 #[.agg #[.slice p1 n1 c1, .func (.func 47) #[] #[]], .int .i64 id] w (Val (.int .i64 (findI l1 id)) w) := by
  have hb : Below w.heap.size w ((w.alloc (.cells #[.slice p1 n1 c1, .func (.func 47) #[] #[]] 149)).alloc (.cells #[.int .i64 id] 3)) := (box1 w _).alloc (by simp) _
  have hy := Bx.new (w.alloc (.cells #[.slice p1 n1 c1, .func (.func 47) #[] #[]] 149)) 3 #[.int .i64 id]
  rw [World.size_alloc] at hy
  have HBV := Lib.hid hb
  have HG := Lib.hid ((Bx.new w 149 #[.slice p1 n1 c1, .func (.func 47) #[] #[]]).alloc (.cells #[.int .i64 id] 3))
  have HN := Lib.hid hy
  have HR := Lib.hid (hr.below hb)
  clear hb hy hr
  go_enter Try.func95, Try.ntmps95
  go_wp2_with fail
  refine (index_any _ _ id _ l1 _ _ _ _ HR.out HG.out HN.out).mono ?_
  rintro e1 w1 ⟨rfl, hb⟩
  have HB := Lib.hid (below_on HBV.out hb)
  clear hb
  go_wp2_with fail
  go_ret
  exact val_of rfl HB.out
set_option maxRecDepth 100000 in
set_option maxHeartbeats 4000000 in
theorem find_any (x0 : Int) (l1 : List DpItem.A) (p1 : Option Addr) (n1 c1 : Nat) (id : Int) {S : Nat → Prop} (w : World) (hr : RdD DpItem.E S w p1 n1 l1) : Calls Try.prog 62 #[.agg #[.int .i64 x0, .slice p1 n1 c1], .int .i64 id] w (Val (.int .i64 (findI l1 id)) w) := by
  have hb := box1 w (.cells #[.int .i64 x0, .slice p1 n1 c1] 54)
  have HBV := Lib.hid hb
  have HX := Lib.hid (Bx.new w 54 #[.int .i64 x0, .slice p1 n1 c1])
  have HR := Lib.hid (hr.below hb)
  clear hb hr
  go_enter Try.func62, Try.ntmps62
  go_wp2_with fail
  refine (by_any _ _ _ _ _).mono ?_
  rintro e1 w1 ⟨rfl, hb⟩
  have HB := Lib.hid (below_on HBV.out hb)
  have HR1 := Lib.hid (HR.out.below hb)
  clear hb
  go_wp2_with fail
  refine (list_any id l1 _ _ _ _ HR1.out).mono ?_
  rintro e2 w2 ⟨rfl, hb⟩
  have HB2 := Lib.hid (below_on HB.out hb)
  clear hb
  go_wp2_with fail
  go_ret
  exact val_of rfl HB2.out
set_option maxRecDepth 100000 in
set_option maxHeartbeats 8000000 in
theorem spec_find_any (x0 : Int) (l1 : List DpItem.A) (p1 : Option Addr) (n1 c1 : Nat) (id : Int) {S : Nat → Prop} (w : World) (hr : RdD DpItem.E S w p1 n1 l1) : Calls Try.prog 57 #[.agg #[.int .i64 x0, .slice p1 n1 c1], .int .i64 id] w (Val (.int .i64 (findI l1 id)) w) := by
  have hb := box1 w (.cells #[.int .i64 x0, .slice p1 n1 c1] 54)
  have HBV := Lib.hid hb
  have HX := Lib.hid (Bx.new w 54 #[.int .i64 x0, .slice p1 n1 c1])
  have HR := Lib.hid (hr.below hb)
  have hle := hr.le
  clear hb hr
  go_enter Try.func57, Try.ntmps57
  go_wp2_with fail
  generalize (w.alloc (.cells #[.int .i64 x0, .slice p1 n1 c1] 54)) = V at HBV HX HR ⊢
  go_loopw [5] (fun i wr => ∃ k : Nat, k ≤ n1 ∧ i = .int .i64 k ∧ Hid (noneB (isId id) l1 k) ∧ Hid (Below V.heap.size V wr)) (fun i _ => n1 - (intOf i).toNat)
  case atStart => exact ⟨0, Nat.zero_le _, rfl, Lib.hid (noneB_zero _), Lib.hid (Below.refl _ _)⟩
  case round =>
    obtain ⟨k, hk, rfl, HU, HB⟩ := hrel
    obtain ⟨v0, v1⟩ := DpArchive.bxc (HX.out.below HB.out)
    by_cases hlt : k < n1
    · skip
      obtain ⟨b, o, x_e, cs_e, rfl, _, hbwe, hxe, hce, hrde⟩ := HR.out.at_ hlt
      obtain ⟨xe0, xe1, ⟨xe2, le3, le4⟩, ⟨xe5, xe6, xe7, xe8, xe9, xe10, xe11, xe12, xe13⟩, ⟨le14, le15⟩⟩ := x_e
      obtain ⟨pe3, ne3, ce3, pe4, ne4, ce4, pe14, ne14, ce14, pe15, ne15, ce15, rfl, be0, be1, be2, he3, he4, be5, he14, he15⟩ := DpItem.ex hrde
      have hcce : ∀ jj v, [.int .i64 xe0, .int .i64 xe1, .int .i64 xe2, .slice pe3 ne3 ce3, .slice pe4 ne4 ce4, .int .i64 xe5, .int .i64 xe6, .int .i64 xe7, .int .i64 xe8, .int .i64 xe9, .int .i64 xe10, .int .i64 xe11, .int .i64 xe12, .int .i64 xe13, .slice pe14 ne14 ce14, .slice pe15 ne15 ce15][jj]? = some v → wr.cell? ⟨b, o + k * 16 + jj, none⟩ = some v := fun jj v hv => (HB.out.cell (p := ⟨b, o + k * 16 + jj, none⟩) hbwe).trans (hce jj v hv)
      have HXe := Lib.hid hxe
      have HCe := Lib.hid hcce
      have He3 := Lib.hid (he3.below HB.out)
      have hne3 := he3.le
      have He4 := Lib.hid (he4.below HB.out)
      have hne4 := he4.le
      have He14 := Lib.hid (he14.below HB.out)
      have hne14 := he14.le
      have He15 := Lib.hid (he15.below HB.out)
      have hne15 := he15.le
      have Gbe0 := Lib.hid be0
      have Gbe1 := Lib.hid be1
      have Gbe2 := Lib.hid be2
      have Gbe5 := Lib.hid be5
      obtain ⟨u0, u1, u2, u3, u4, u5, u6, u7, u8, u9, u10, u11, u12, u13, u14, u15⟩ := DpItem.at_cells hcce
      clear hcce hce hxe hrde be0 be1 be2 he3 he4 be5 he14 he15
      by_cases hid : xe0 = id
      · have HA : Hid (findI l1 id = k) := Lib.hid (first_yes HU.out HXe.out (decide_eq_true hid))
        have HBf := Lib.hid (HBV.out.trans (HB.out.mono HBV.out.size))
        have e1 : (xe0 == id) = true := beq_iff_eq.2 hid
        clear hid
        go_wp2_with fail
        go_ret
        exact val_of (by rw [HA.out]; first | done | rfl) HBf.out
      · have HU1 := Lib.hid (noneB_next HU.out HXe.out (decide_eq_false hid))
        have e1 : (xe0 == id) = false := beq_eq_false_iff_ne.2 hid
        clear hid
        go_wp2_with fail
        go_roundw
        case rel => exact ⟨k + 1, by omega, by go_num, HU1, HB⟩
        case measure => simp [intOf]; omega
    · obtain rfl : k = n1 := by omega
      have HA : Hid (findI l1 id = -1) := Lib.hid (first_no HU.out HR.out.len)
      have HBf := Lib.hid (HBV.out.trans (HB.out.mono HBV.out.size))
      go_wp2_with fail
      go_ret
      exact val_of (by rw [HA.out]; first | done | rfl) HBf.out
end Go.Proofs.Ytkmgnicngcandaa.Ft
