/- Contracts of documents: valid or not; in the program and in the reference. -/
import Derived.Test.YtjaholcmaafenaaDm
import Derived.Test.YtjaholcmaafenaaInt
import Derived.Test.YtjaholcmaafenaaBx
import Derived.LoopTactic
import Derived.Outline
namespace Go.Proofs.Ytjaholcmaafenaa.Dk
open Go.ChangeShapes Go.WideShapes Go.ChangeAt Go.RowKit Sl St Dm Ints

/-- The call answers b; what lay before is as it was. -/
def Tells (b : Bool) (w : World) (e : Ending) (w' : World) : Prop := e = .returned (.bool b) ∧ Below w.heap.size w w'
theorem tells {b b' : Bool} {w w' : World} (h : b' = b) (hb : Below w.heap.size w w') : Tells b w (.returned (.bool b')) w' := ⟨by rw [h], hb⟩
theorem box1 (w : World) (o : Obj) : Below w.heap.size w (w.alloc o) := (Below.refl _ _).alloc (Nat.le_refl _) _
theorem bx3 {w : World} {g : Nat} {T : TypeId} {x y z : Value} (h : Bx w g T #[x, y, z]) : w.cell? ⟨g, 0, none⟩ = some x ∧ w.cell? ⟨g, 1, none⟩ = some y ∧ w.cell? ⟨g, 2, none⟩ = some z := ⟨h.cell rfl, h.cell rfl, h.cell rfl⟩
theorem title_any (t : Int) (w : World) : Calls Try.prog 177 #[.int .i64 t] w fun e w' => e = .returned (.bool (inB t 0 999)) ∧ w = w' := by
  go_enter Try.func177, Try.ntmps177
  go_wp2_with fail
  refine (inRange_any _ _ _ _ (inB_def _ _ _) _).mono ?_
  rintro e w1 ⟨rfl, rfl⟩
  go_wp2_with fail
  go_ret
  exact ⟨rfl, rfl⟩
/-- a document's reading: its parts and its salts -/
def RdD (w : World) (p : Option Addr) (n : Nat) (q : Option Addr) (m : Nat) (D : Dc) : Prop := RdS SlStr.E w p n D.2.1 ∧ Rd .i64 w q m D.2.2
theorem RdD.below {w w' : World} {p q : Option Addr} {n m : Nat} {D : Dc} (h : RdD w p n q m D) (hb : Below w.heap.size w w') : RdD w' p n q m D := ⟨h.1.below hb, h.2.below hb⟩
/-- a document's value -/
def dv (t : Int) (p : Option Addr) (n c : Nat) (q : Option Addr) (m d : Nat) : Value := .agg #[.int .i64 t, .slice p n c, .slice q m d]
set_option maxRecDepth 100000 in
set_option maxHeartbeats 4000000 in
theorem isDoc_any (t : Int) (p : Option Addr) (n c : Nat) (q : Option Addr) (m d : Nat) (parts : List ByteArray) (salts : List Int) (w : World) (hr : RdS SlStr.E w p n parts) (hs : Rd .i64 w q m salts) :
    Calls Try.prog 174 #[.agg #[.int .i64 t, .slice p n c, .slice q m d]] w (Tells (docOk (t, parts, salts)) w) := by
  have hl := hr.len
  have hl2 := hs.len
  have hle := hr.le
  have HR := Lib.hid (hr.below (box1 w (.cells #[.int .i64 t, .slice p n c, .slice q m d] 38)))
  have HS := Lib.hid (hs.below (box1 w (.cells #[.int .i64 t, .slice p n c, .slice q m d] 38)))
  clear hr hs
  rcases h1 : inB t 0 999 with _ | _
  · have H1 := Lib.hid h1
    have HO := Lib.hid (docOk_title (D := (t, parts, salts)) h1)
    clear h1
    go_enter Try.func174, Try.ntmps174
    go_wp2_with fail
    refine (title_any _ _).mono ?_
    rintro e w1 ⟨rfl, rfl⟩
    rw [H1.out]
    go_wp2_with fail
    go_ret
    exact tells (by rw [HO.out]) (box1 _ _)
  have H1 := Lib.hid h1
  rcases h2 : inB (n : Int) 1 6 with _ | _
  · have H2 := Lib.hid h2
    have HO := Lib.hid (docOk_size (D := (t, parts, salts)) (by show inB (parts.length : Int) 1 6 = false; rw [hl]; exact h2))
    clear h1 h2
    go_enter Try.func174, Try.ntmps174
    go_wp2_with fail
    refine (title_any _ _).mono ?_
    rintro e w1 ⟨rfl, rfl⟩
    rw [H1.out]
    go_wp2_with fail
    refine (inRange_any _ _ _ _ H2.out _).mono ?_
    rintro e w1 ⟨rfl, rfl⟩
    go_wp2_with fail
    go_ret
    exact tells (by rw [HO.out]) (box1 _ _)
  have H2 := Lib.hid h2
  by_cases h3 : m = n
  rotate_left
  · have HO := Lib.hid (docOk_len (D := (t, parts, salts)) (by show ¬ salts.length = parts.length; rw [hl, hl2]; exact h3))
    have h3' : ¬ ((m : Int) = (n : Int)) := by omega
    clear h1 h2
    go_enter Try.func174, Try.ntmps174
    go_wp2_with fail
    refine (title_any _ _).mono ?_
    rintro e w1 ⟨rfl, rfl⟩
    rw [H1.out]
    go_wp2_with fail
    refine (inRange_any _ _ _ _ H2.out _).mono ?_
    rintro e w1 ⟨rfl, rfl⟩
    go_wp2_with fail
    go_ret
    exact tells (by rw [HO.out]) (box1 _ _)
  subst h3
  have HL := Lib.hid hl
  have HL2 := Lib.hid hl2
  clear h1 h2 hl hl2
  go_enter Try.func174, Try.ntmps174
  go_wp2_with fail
  refine (title_any _ _).mono ?_
  rintro e w1 ⟨rfl, rfl⟩
  rw [H1.out]
  go_wp2_with fail
  refine (inRange_any _ _ _ _ H2.out _).mono ?_
  rintro e w1 ⟨rfl, rfl⟩
  go_wp2_with fail
  go_loop [28] (fun i => ∃ k : Nat, k ≤ m ∧ i = .int .i64 k ∧ Hid (∀ j, j < k → (parts.getD j ByteArray.empty).size ≤ 40 ∧ (1 ≤ salts.getD j 0 ∧ salts.getD j 0 ≤ 1000000000000))) (fun i => m - (intOf i).toNat)
  case atStart => exact ⟨0, Nat.zero_le _, rfl, Lib.hid fun j h => by omega⟩
  case round =>
    obtain ⟨k, hk, rfl, HK⟩ := hrel
    by_cases hlt : k < m
    · obtain ⟨b, o, rfl, hb, hc⟩ := SlStr.rd_at HR.out hlt
      obtain ⟨b', o', rfl, hb', hc'⟩ := HS.out.at_ hlt
      generalize hx : parts.getD k ByteArray.empty = x at hc
      generalize hy : salts.getD k 0 = y at hc'
      have HX := Lib.hid hx
      have HY := Lib.hid hy
      clear hx hy
      by_cases h4 : x.size ≤ 40
      · rcases h5 : inB y 1 1000000000000 with _ | _
        · have H5 := Lib.hid h5
          have HO := Lib.hid (docOk_salt (D := (t, parts, salts)) (k := k) (by show k < salts.length; rw [HL2.out]; exact hlt) (by show ¬ (1 ≤ salts.getD k 0 ∧ salts.getD k 0 ≤ 1000000000000); rw [HY.out]; exact of_decide_eq_false h5))
          clear h5
          go_wp2_with fail
          refine (inRange_any _ _ _ _ H5.out _).mono ?_
          rintro e w1 ⟨rfl, rfl⟩
          go_wp2_with fail
          go_ret
          exact tells (by rw [HO.out]) (box1 _ _)
        · have H5 := Lib.hid h5
          have HN : Hid (∀ j, j < k + 1 → (parts.getD j ByteArray.empty).size ≤ 40 ∧ (1 ≤ salts.getD j 0 ∧ salts.getD j 0 ≤ 1000000000000)) := Lib.hid fun j hj => by
            rcases Nat.lt_succ_iff_lt_or_eq.1 hj with h | rfl
            · exact HK.out j h
            · exact ⟨by rw [HX.out]; exact h4, by rw [HY.out]; exact of_decide_eq_true h5⟩
          clear h5
          go_wp2_with fail
          refine (inRange_any _ _ _ _ H5.out _).mono ?_
          rintro e w1 ⟨rfl, rfl⟩
          go_wp2_with fail
          go_round
          case rel => exact ⟨k + 1, by omega, by go_num, HN⟩
          case measure => simp [intOf]; omega
      · have HO := Lib.hid (docOk_part (D := (t, parts, salts)) (k := k) (by show k < parts.length; rw [HL.out]; exact hlt) (by show ¬ (parts.getD k ByteArray.empty).size ≤ 40; rw [HX.out]; exact h4))
        go_wp2_with fail
        go_ret
        exact tells (by rw [HO.out]) (box1 _ _)
    · obtain rfl : k = m := by omega
      have HO := Lib.hid (docOk_yes (D := (t, parts, salts)) H1.out (by show inB (parts.length : Int) 1 6 = true; rw [HL.out]; exact H2.out) (by show salts.length = parts.length; rw [HL.out, HL2.out]) (fun j hj => (HK.out j (by rw [← HL.out]; exact hj)).1) (fun j hj => (HK.out j (by rw [← HL2.out]; exact hj)).2))
      go_wp2_with fail
      go_ret
      exact tells (by rw [HO.out]) (box1 _ _)
set_option maxRecDepth 100000 in
set_option maxHeartbeats 4000000 in
theorem spec_isDoc_any (t : Int) (p : Option Addr) (n c : Nat) (q : Option Addr) (m d : Nat) (parts : List ByteArray) (salts : List Int) (w : World) (hr : RdS SlStr.E w p n parts) (hs : Rd .i64 w q m salts) :
    Calls Try.prog 118 #[.agg #[.int .i64 t, .slice p n c, .slice q m d]] w (Tells (docOk (t, parts, salts)) w) := by
  have hle := hr.le
  have hle2 := hs.le
  have HL := Lib.hid hr.len
  have HL2 := Lib.hid hs.len
  have HR := Lib.hid (hr.below (box1 w (.cells #[.int .i64 t, .slice p n c, .slice q m d] 38)))
  have HS := Lib.hid (hs.below (box1 w (.cells #[.int .i64 t, .slice p n c, .slice q m d] 38)))
  clear hr hs
  go_enter Try.func118, Try.ntmps118
  go_wp2_with fail
  go_loop [3] (fun i => ∃ k : Nat, k ≤ n ∧ i = .int .i64 k ∧ Hid (∀ j, j < k → (parts.getD j ByteArray.empty).size ≤ 40)) (fun i => n - (intOf i).toNat)
  case atStart => exact ⟨0, Nat.zero_le _, rfl, Lib.hid fun j h => by omega⟩
  case round =>
    obtain ⟨k, hk, rfl, HK⟩ := hrel
    by_cases hlt : k < n
    · obtain ⟨b, o, rfl, hb, hc⟩ := SlStr.rd_at HR.out hlt
      generalize hx : parts.getD k ByteArray.empty = x at hc
      have HX := Lib.hid hx
      clear hx
      by_cases h4 : x.size ≤ 40
      · have HN : Hid (∀ j, j < k + 1 → (parts.getD j ByteArray.empty).size ≤ 40) := Lib.hid fun j hj => by
          rcases Nat.lt_succ_iff_lt_or_eq.1 hj with h | rfl
          · exact HK.out j h
          · rw [HX.out]; exact h4
        go_wp2_with fail
        go_round
        case rel => exact ⟨k + 1, by omega, by go_num, HN⟩
        case measure => simp [intOf]; omega
      · have HO := Lib.hid (docOk_part (D := (t, parts, salts)) (k := k) (by show k < parts.length; rw [HL.out]; exact hlt) (by show ¬ (parts.getD k ByteArray.empty).size ≤ 40; rw [HX.out]; exact h4))
        go_wp2_with fail
        go_ret
        exact tells (by rw [HO.out]) (box1 _ _)
    · obtain rfl : k = n := by omega
      have HP : Hid (okP parts) := Lib.hid fun j hj => HK.out j (by rw [← HL.out]; exact hj)
      go_wp2_with fail
      go_loop [4] (fun i => ∃ k : Nat, k ≤ m ∧ i = .int .i64 k ∧ Hid (∀ j, j < k → (1 ≤ salts.getD j 0 ∧ salts.getD j 0 ≤ 1000000000000))) (fun i => m - (intOf i).toNat)
      case atStart => exact ⟨0, Nat.zero_le _, rfl, Lib.hid fun j h => by omega⟩
      case round =>
        obtain ⟨j, hj, rfl, HJ⟩ := hrel
        by_cases hlt2 : j < m
        · obtain ⟨b', o', rfl, hb', hc'⟩ := HS.out.at_ hlt2
          generalize hy : salts.getD j 0 = y at hc'
          have HY := Lib.hid hy
          clear hy
          rcases h5 : inB y 1 1000000000000 with _ | _
          · have H5 := Lib.hid h5
            have HO := Lib.hid (docOk_salt (D := (t, parts, salts)) (k := j) (by show j < salts.length; rw [HL2.out]; exact hlt2) (by show ¬ (1 ≤ salts.getD j 0 ∧ salts.getD j 0 ≤ 1000000000000); rw [HY.out]; exact of_decide_eq_false h5))
            clear h5
            go_wp2_with fail
            refine (l1In_any _ _ _ _ H5.out _).mono ?_
            rintro e w1 ⟨rfl, rfl⟩
            go_wp2_with fail
            go_ret
            exact tells (by rw [HO.out]) (box1 _ _)
          · have H5 := Lib.hid h5
            have HN : Hid (∀ i, i < j + 1 → (1 ≤ salts.getD i 0 ∧ salts.getD i 0 ≤ 1000000000000)) := Lib.hid fun i hi => by
              rcases Nat.lt_succ_iff_lt_or_eq.1 hi with h | rfl
              · exact HJ.out i h
              · rw [HY.out]; exact of_decide_eq_true h5
            clear h5
            go_wp2_with fail
            refine (l1In_any _ _ _ _ H5.out _).mono ?_
            rintro e w1 ⟨rfl, rfl⟩
            go_wp2_with fail
            go_round
            case rel => exact ⟨j + 1, by omega, by go_num, HN⟩
            case measure => simp [intOf]; omega
        · obtain rfl : j = m := by omega
          have HO : Hid (docOk (t, parts, salts) = (inB t 0 999 && (inB (k : Int) 1 6 && decide ((j : Int) = (k : Int))))) := Lib.hid (by
            rw [docOk_all HP.out (fun i hi => HJ.out i (by rw [← HL2.out]; exact hi))]
            show (inB t 0 999 && (inB (parts.length : Int) 1 6 && decide (salts.length = parts.length))) = _
            rw [HL.out, HL2.out]
            congr 2
            rw [decide_eq_decide]
            omega)
          go_wp2_with fail
          refine (l1In_any _ _ _ _ (inB_def _ _ _) _).mono ?_
          rintro e w1 ⟨rfl, rfl⟩
          rcases h1 : inB t 0 999 with _ | _
          · go_wp2_with fail
            go_ret
            exact tells (by rw [HO.out, h1]; rfl) (box1 _ _)
          · have H1 := Lib.hid h1
            clear h1
            go_wp2_with fail
            refine (l1In_any _ _ _ _ (inB_def _ _ _) _).mono ?_
            rintro e w1 ⟨rfl, rfl⟩
            rcases h2 : inB (k : Int) 1 6 with _ | _
            · go_wp2_with fail
              go_ret
              exact tells (by rw [HO.out, H1.out, h2]; rfl) (box1 _ _)
            · have H2 := Lib.hid h2
              clear h2
              by_cases h3 : (j : Int) = (k : Int)
              all_goals
                go_wp2_with fail
                go_ret
                exact tells (by rw [HO.out, H1.out, H2.out]; simp [h3]) (box1 _ _)
end Go.Proofs.Ytjaholcmaafenaa.Dk
