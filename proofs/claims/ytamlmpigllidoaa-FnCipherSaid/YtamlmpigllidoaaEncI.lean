/- Contracts of Encrypt and Decrypt in the program: the key's stream is a closure, the change a method that is picked out of a list. -/
import Derived.Test.YtamlmpigllidoaaEnc
namespace Go.Proofs.Ytamlmpigllidoaa.Hs
open Go.ChangeShapes Go.WideShapes Go.ChangeAt Go.RowKit Sl Var

theorem ret_u8 {a b : Int} (h : a = b) : Ending.returned (.int .u8 a) = .returned (.int .u8 b) := by rw [h]
theorem plus_any (b k : Int) (w : World) : Calls Try.prog 81 #[.int .u8 b, .int .u8 k] w fun e w' => e = .returned (.int .u8 ((b + k) % 256)) ∧ w = w' := by
  go_enter Try.func81, Try.ntmps81
  go_wp2_with fail
  go_ret
  exact ⟨rfl, rfl⟩
theorem minus_any (b k : Int) (w : World) : Calls Try.prog 82 #[.int .u8 b, .int .u8 k] w fun e w' => e = .returned (.int .u8 ((b - k) % 256)) ∧ w = w' := by
  go_enter Try.func82, Try.ntmps82
  go_wp2_with fail
  go_ret
  exact ⟨rfl, rfl⟩
/-- What the closure leaves: the next index in its variable; no other block has turned. -/
def NextByte (g : Nat) (y x : Int) (w : World) (e : Ending) (w' : World) : Prop :=
  e = .returned (.int .u8 y) ∧ One w' g 3 (.int .i64 x) ∧ w.grownBy w' (some g)
set_option maxHeartbeats 1000000 in
theorem next_any (g0 g1 : Nat) (key : Int) (k : Nat) (w : World) (h0 : One w g0 3 (.int .i64 key)) (h1 : One w g1 3 (.int .i64 k)) (hk : k ≤ 100000000) :
    Calls Try.prog 95 #[.pointer (some ⟨g0, 0, none⟩), .pointer (some ⟨g1, 0, none⟩)] w (NextByte g1 (ksI key k % 256) ((k : Int) + 1) w) := by
  have c0 := h0.cell
  have c1 := h1.cell
  have H1 := Lib.hid h1
  have HLO := Lib.hid (lit1_own w 0 (k : Int) ⟨by omega, by omega⟩ (Nat.zero_le _)).rd
  have hks := ksI_in key k
  obtain ⟨y, hy⟩ : ∃ y, ksI key k = y := ⟨_, rfl⟩
  rw [hy] at hks
  obtain ⟨hy1, hy2⟩ := hks
  have HY := Lib.hid hy
  clear h0 h1 hy
  go_enter Try.func95, Try.ntmps95
  go_wp2_with fail
  refine (khash_any _ _ _ _ _ _ HLO.out).mono ?_
  rintro e0 w1 ⟨rfl, rfl⟩
  rw [show khash key [(k : Int)] = y from HY.out]
  have hb : Below w.heap.size w (w.alloc (.cells #[.int .i64 k] 3)) := (Below.refl _ _).alloc (Nat.le_refl _) _
  have c2 := (H1.out.below hb).cell
  have c3 := (H1.out.below hb).free
  have HB := Lib.hid hb
  clear hb
  go_wp2_with fail
  go_ret
  exact ⟨ret_u8 (by rw [HY.out]), (H1.out.below HB.out).set_ _, grown_set HB.out _ _⟩
theorem stream_any (key : Int) (w : World) : Calls Try.prog 83 #[.int .i64 key] w fun e w' => e = .returned (.func (.func 95) #[] #[.pointer (some ⟨w.heap.size, 0, none⟩), .pointer (some ⟨w.heap.size + 1, 0, none⟩)]) ∧ w' = (w.alloc (.cells #[.int .i64 key] 3)).alloc (.cells #[.int .i64 0] 3) := by
  go_enter Try.func83, Try.ntmps83
  go_wp2_with fail
  go_ret
  exact ⟨rfl, rfl⟩
/-- on the way: k bytes are turned; the two captured variables -/
def KsWay (f : Int → Nat → Int → Int) (key : Int) (xs : List Int) (k : Nat) (j : Int) (p : Option Addr) (c : Nat) (w wr : World) : Prop :=
  CrWay f (w.heap.size + 3) key xs k p c wr ∧ w.heap.size + 3 ≤ wr.heap.size ∧ Below w.heap.size w wr ∧ One wr (w.heap.size + 1) 3 (.int .i64 key) ∧ One wr (w.heap.size + 1 + 1) 3 (.int .i64 j)
theorem KsWay.start (f : Int → Nat → Int → Int) {key : Int} (xs : List Int) {C : Nat} {w w3 : World} {O : Obj}
    (hown : w3.ownsRow (w.heap.size + 3) 5 1 (.slice (some ⟨w.heap.size + 1 + 1 + 1, 0, none⟩) 0 C) 0 []) (hg : (((w.alloc O).alloc (.cells #[.int .i64 key] 3)).alloc (.cells #[.int .i64 0] 3)).grownBy w3 none) :
    KsWay f key xs 0 0 (some ⟨w.heap.size + 1 + 1 + 1, 0, none⟩) C w w3 := by
  have hb : Below w.heap.size w w3 := ((((Below.refl _ _).alloc (Nat.le_refl _) _).alloc (by simp) _).alloc (by simp; omega) _).grown hg (by simp; omega) (fun _ h => by cases h)
  have hs := hg.size
  simp at hs
  refine ⟨Ow.of_row hown (allK_nil _), by omega, hb, ?_, ?_⟩
  · have h := ((One.new (w.alloc O) 3 (.int .i64 key)).alloc (.cells #[.int .i64 0] 3)).grown hg (by simp)
    simpa using h
  · have h := (One.new ((w.alloc O).alloc (.cells #[.int .i64 key] 3)) 3 (.int .i64 0)).grown hg (by simp)
    simpa using h
theorem KsWay.read {f : Int → Nat → Int → Int} {key : Int} {xs : List Int} {k c : Nat} {j j' : Int} {p : Option Addr} {w wr w2 : World} (h : KsWay f key xs k j p c w wr) (h1 : One w2 (w.heap.size + 1 + 1) 3 (.int .i64 j')) (hg : wr.grownBy w2 (some (w.heap.size + 1 + 1))) : KsWay f key xs k j' p c w w2 := by
  obtain ⟨ho, hs, hb, h0, _⟩ := h
  have hs2 := hg.size
  have hb2 : Below w.heap.size w w2 := hb.grown hg hb.size (fun k e => by simp at e; omega)
  exact ⟨(Ow.kept ho hg (fun g e => by simp at e; omega)).wide (Nat.le_refl _) hs2 (Nat.le_refl _), by omega, hb2, h0.grown hg (by simp), h1⟩
theorem KsWay.app {f : Int → Nat → Int → Int} {key : Int} {xs : List Int} {k c c3 : Nat} {j v : Int} {p p3 : Option Addr} {w wr w3 : World} {T : TypeId} (h : KsWay f key xs k j p c w wr) (hk : k < xs.length) (hv : f key k (xs.getD k 0) = v) (hw : Ow .u8 5 w3 (w.heap.size + 3) w3.heap.size p3 (k + 1) c3 (crL f key (xs.take k) ++ [v])) (hg : (wr.alloc (.cells #[.int .u8 v] T)).grownBy w3 (Value.slice p k c).ownBlock) : KsWay f key xs (k + 1) j p3 c3 w w3 := by
  obtain ⟨ho, hs, hb, h0, h1⟩ := h
  have hs2 := hg.size
  simp at hs2
  have hfar := Ow.far ho
  subst hv
  refine ⟨?_, by omega, (hb.alloc hb.size _).grown hg (by simp; omega) (fun k e => by have := hfar k e; omega), ?_, ?_⟩
  · unfold CrWay
    rw [crL_take hk]
    exact hw
  · exact (h0.alloc _).grown hg (fun e => by have := hfar _ e.symm; omega)
  · exact (h1.alloc _).grown hg (fun e => by have := hfar _ e.symm; omega)
set_option maxRecDepth 100000 in
set_option maxHeartbeats 4000000 in
theorem apply_0 (key : Int) (p : Option Addr) (n c : Nat) (xs : List Int) (w : World) (hr : Rd .u8 w p n xs) (hn : n ≤ 100000000) : Calls Try.prog 58 #[.int .i64 key, .slice p n c, .int .i64 0] w (SlB.Makes (crL encB key xs) w) := by
  obtain ⟨i0, hi, hz0, hz1, hz2⟩ := info_parts SlB.info
  have HR := Lib.hid hr
  have HL := Lib.hid hr.len
  clear hr
  go_enter Try.func58, Try.ntmps58
  go_wp2_with fail
  refine (stream_any _ _).mono ?_
  rintro e0 w0 ⟨rfl, rfl⟩
  go_wp2_with (refine wpList_make_own _ rfl _ _ 22 rfl (w.heap.size + 3) 5 i0 (.int .u8 0) 1 Try.underlying22 hi hz0 hz1 .i64 .i64 _ n rfl rfl rfl (by rw [hz2]; omega) (by unfold maxLen; omega) (by simp) ?_; intro w1 hown1 hg1)
  simp only [World.size_alloc] at hown1
  have HM : Hid (KsWay encB key xs 0 0 (some ⟨w.heap.size + 1 + 1 + 1, 0, none⟩) n w w1) := Lib.hid (KsWay.start encB xs hown1 hg1)
  clear hown1 hg1
  go_loopw [10, 25] (fun v i wr => ∃ (k c' : Nat) (p' : Option Addr), k ≤ n ∧ i = .int .i64 k ∧ v = .slice p' k c' ∧ Hid (KsWay encB key xs k k p' c' w wr)) (fun _ i _ => n - (intOf i).toNat)
  case atStart => exact ⟨0, _, _, Nat.zero_le _, rfl, rfl, HM⟩
  case round =>
    obtain ⟨k, c', p', hk, rfl, rfl, HK⟩ := hrel
    have hs := HK.out.2.1
    by_cases hlt : k < n
    · obtain ⟨b, o, rfl, hb, hc⟩ := HR.out.at_below HK.out.2.2.1 hlt
      have hin := byte_range HR.out.all k
      generalize hx : xs.getD k 0 = x at hc hin
      have HX := Lib.hid hx
      obtain ⟨hx1, hx2⟩ := hin
      have hks := ksI_in key k
      obtain ⟨y, hy⟩ : ∃ y, ksI key k = y := ⟨_, rfl⟩
      rw [hy] at hks
      have HY := Lib.hid hy
      obtain ⟨hy1, hy2⟩ := hks
      have HV : Hid (encB key k (xs.getD k 0) = (x + y) % 256) := Lib.hid (by unfold encB; rw [hx, hy])
      clear hx hy
      go_wp2_with fail
      refine (next_any _ _ _ k _ HK.out.2.2.2.1 HK.out.2.2.2.2 (by omega)).mono ?_
      rintro e0 w2 ⟨rfl, h1, hg⟩
      rw [HY.out]
      have HK2 := Lib.hid (HK.out.read h1 hg)
      have hs2 := HK2.out.2.1
      clear h1 hg
      go_wp2_with fail
      refine (plus_any _ _ _).mono ?_
      rintro e0 w3 ⟨rfl, rfl⟩
      go_wp2_with (at_builtin; refine wpList_app1 rfl (.tmp 29) (.tmp 35) 22 rfl i0 _ 1 Try.underlying22 hi hz0 hz1 hz2 rfl rfl (Ow.alloc HK2.out.1 _) w2.heap.size 1 ((x + y) % 256) rfl (by go_simp) ⟨by omega, by omega⟩ (by simp; omega) (by omega) (by omega) ?_; intro p4 c4 w4 how4 hg4; have HK4 := Lib.hid (HK2.out.app (by rw [HL.out]; exact hlt) HV.out how4 hg4); clear how4 hg4)
      go_roundw
      case rel => exact ⟨k + 1, _, _, by omega, by go_num, rfl, HK4⟩
      case measure => simp [intOf]; omega
    · obtain rfl : k = n := by omega
      go_wp2_with fail
      go_ret
      exact CrWay.done HK.out.1 HL.out (by omega) HK.out.2.2.1
set_option maxRecDepth 100000 in
set_option maxHeartbeats 4000000 in
theorem apply_1 (key : Int) (p : Option Addr) (n c : Nat) (xs : List Int) (w : World) (hr : Rd .u8 w p n xs) (hn : n ≤ 100000000) : Calls Try.prog 58 #[.int .i64 key, .slice p n c, .int .i64 1] w (SlB.Makes (crL decB key xs) w) := by
  obtain ⟨i0, hi, hz0, hz1, hz2⟩ := info_parts SlB.info
  have HR := Lib.hid hr
  have HL := Lib.hid hr.len
  clear hr
  go_enter Try.func58, Try.ntmps58
  go_wp2_with fail
  refine (stream_any _ _).mono ?_
  rintro e0 w0 ⟨rfl, rfl⟩
  go_wp2_with (refine wpList_make_own _ rfl _ _ 22 rfl (w.heap.size + 3) 5 i0 (.int .u8 0) 1 Try.underlying22 hi hz0 hz1 .i64 .i64 _ n rfl rfl rfl (by rw [hz2]; omega) (by unfold maxLen; omega) (by simp) ?_; intro w1 hown1 hg1)
  simp only [World.size_alloc] at hown1
  have HM : Hid (KsWay decB key xs 0 0 (some ⟨w.heap.size + 1 + 1 + 1, 0, none⟩) n w w1) := Lib.hid (KsWay.start decB xs hown1 hg1)
  clear hown1 hg1
  go_loopw [10, 25] (fun v i wr => ∃ (k c' : Nat) (p' : Option Addr), k ≤ n ∧ i = .int .i64 k ∧ v = .slice p' k c' ∧ Hid (KsWay decB key xs k k p' c' w wr)) (fun _ i _ => n - (intOf i).toNat)
  case atStart => exact ⟨0, _, _, Nat.zero_le _, rfl, rfl, HM⟩
  case round =>
    obtain ⟨k, c', p', hk, rfl, rfl, HK⟩ := hrel
    have hs := HK.out.2.1
    by_cases hlt : k < n
    · obtain ⟨b, o, rfl, hb, hc⟩ := HR.out.at_below HK.out.2.2.1 hlt
      have hin := byte_range HR.out.all k
      generalize hx : xs.getD k 0 = x at hc hin
      have HX := Lib.hid hx
      obtain ⟨hx1, hx2⟩ := hin
      have hks := ksI_in key k
      obtain ⟨y, hy⟩ : ∃ y, ksI key k = y := ⟨_, rfl⟩
      rw [hy] at hks
      have HY := Lib.hid hy
      obtain ⟨hy1, hy2⟩ := hks
      have HV : Hid (decB key k (xs.getD k 0) = (x - y) % 256) := Lib.hid (by unfold decB; rw [hx, hy])
      clear hx hy
      go_wp2_with fail
      refine (next_any _ _ _ k _ HK.out.2.2.2.1 HK.out.2.2.2.2 (by omega)).mono ?_
      rintro e0 w2 ⟨rfl, h1, hg⟩
      rw [HY.out]
      have HK2 := Lib.hid (HK.out.read h1 hg)
      have hs2 := HK2.out.2.1
      clear h1 hg
      go_wp2_with fail
      refine (minus_any _ _ _).mono ?_
      rintro e0 w3 ⟨rfl, rfl⟩
      go_wp2_with (at_builtin; refine wpList_app1 rfl (.tmp 29) (.tmp 35) 22 rfl i0 _ 1 Try.underlying22 hi hz0 hz1 hz2 rfl rfl (Ow.alloc HK2.out.1 _) w2.heap.size 1 ((x - y) % 256) rfl (by go_simp) ⟨by omega, by omega⟩ (by simp; omega) (by omega) (by omega) ?_; intro p4 c4 w4 how4 hg4; have HK4 := Lib.hid (HK2.out.app (by rw [HL.out]; exact hlt) HV.out how4 hg4); clear how4 hg4)
      go_roundw
      case rel => exact ⟨k + 1, _, _, by omega, by go_num, rfl, HK4⟩
      case measure => simp [intOf]; omega
    · obtain rfl : k = n := by omega
      go_wp2_with fail
      go_ret
      exact CrWay.done HK.out.1 HL.out (by omega) HK.out.2.2.1
theorem enc_any (key : Int) (p : Option Addr) (n c : Nat) (xs : List Int) (w : World) (hr : Rd .u8 w p n xs) (hn : n ≤ 100000000) : Calls Try.prog 16 #[.int .i64 key, .slice p n c] w (SlB.Makes (crL encB key xs) w) := by
  have HR := Lib.hid hr
  clear hr
  go_enter Try.func16, Try.ntmps16
  go_wp2_with fail
  refine (apply_0 _ _ _ _ _ _ HR.out hn).mono ?_
  rintro e w1 ⟨p1, n1, c1, rfl, ho, hb⟩
  have HO := Lib.hid ho
  have HB := Lib.hid hb
  clear ho hb
  go_wp2_with fail
  go_ret
  exact ⟨_, _, _, rfl, HO.out, HB.out⟩
theorem dec_any (key : Int) (p : Option Addr) (n c : Nat) (xs : List Int) (w : World) (hr : Rd .u8 w p n xs) (hn : n ≤ 100000000) : Calls Try.prog 15 #[.int .i64 key, .slice p n c] w (SlB.Makes (crL decB key xs) w) := by
  have HR := Lib.hid hr
  clear hr
  go_enter Try.func15, Try.ntmps15
  go_wp2_with fail
  refine (apply_1 _ _ _ _ _ _ HR.out hn).mono ?_
  rintro e w1 ⟨p1, n1, c1, rfl, ho, hb⟩
  have HO := Lib.hid ho
  have HB := Lib.hid hb
  clear ho hb
  go_wp2_with fail
  go_ret
  exact ⟨_, _, _, rfl, HO.out, HB.out⟩
end Go.Proofs.Ytamlmpigllidoaa.Hs
