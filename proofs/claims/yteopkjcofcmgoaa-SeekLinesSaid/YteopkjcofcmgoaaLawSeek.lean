/-
  Layer 19's laws: lives; SeekRunes, SeekLines.
-/
import Derived.Test.YteopkjcofcmgoaaJSeekAhead
import Derived.Test.YteopkjcofcmgoaaJWeldOf
namespace Go.Proofs.Yteopkjcofcmgoaa
open Go.RowKit
set_option linter.unusedVariables false
set_option linter.unusedSimpArgs false

def sANb : ByteArray := ⟨#[97, 10, 98]⟩
theorem sANb_of : ofE sANb = 0 := by decide +kernel
theorem sANb_start : StartP sANb.data.toList (lines (sANb.data.toList.take 2)) 2 := .inr ⟨1, rfl, by decide +kernel, by decide +kernel, by decide +kernel⟩
theorem sANb_edge : edge sANb.data.toList 2 := .inr (.inr ⟨by decide +kernel, by decide +kernel⟩)
theorem sANb_line : lines (sANb.data.toList.take 2) = 1 := by decide +kernel
theorem sANb_lines : lines sANb.data.toList = 1 := by decide +kernel
set_option maxRecDepth 100000 in
set_option maxHeartbeats 1600000 in
theorem lives19_any (w : World) : Calls Try.prog 7 #[] w fun e w' => e = .returned (.bool true) ∧ Below w.heap.size w w' := by
  have c1 : Calls Try.prog 8 #[.string ⟨#[97, 10, 98]⟩] w fun e w' => ∃ b p L, e = .returned (.tuple #[.pointer (some ⟨b, 0, none⟩), .int .i64 0]) ∧ RopeW w' (some ⟨b, 0, none⟩) p L sANb ∧ Below w.heap.size w w' :=
    (ro_of sANb (by decide +kernel) w).mono fun e w' h => h.yes sANb_of
  have C1 := Lib.hid c1
  clear c1
  go_enter Try.func7, Try.ntmps7
  go_wp2_with fail
  refine C1.out.mono ?_; rintro e w1 ⟨b, p, L, rfl, hR, hb1⟩
  have c2 : Calls Try.prog 13 #[.pointer (some ⟨b, 0, none⟩), .int .i64 2] w1 fun e w' => e = .returned (.tuple #[.int .i64 1, .int .i64 0, .int .i64 0]) ∧ Below w1.heap.size w1 w' := by
    have := sk_line_yes hR (k := 2) (by decide +kernel) sANb_edge sANb_start
    rw [sANb_line, Nat.sub_self] at this
    exact this
  have c3 : ∀ W, Below w1.heap.size w1 W → Calls Try.prog 15 #[.pointer (some ⟨b, 0, none⟩)] W fun e w' => e = .returned (.int .i64 2) ∧ Below W.heap.size W w' := fun W hW => by
    have := sk_lines (hR.later hW)
    rw [sANb_lines] at this
    exact this
  have C2 := Lib.hid c2; have C3 := Lib.hid c3; have HB1 := Lib.hid hb1
  clear hR hb1 c2 c3
  go_wp2_with fail
  refine C2.out.mono ?_; rintro e w2 ⟨rfl, hb2⟩
  have HB2 := Lib.hid hb2
  clear hb2
  go_wp2_with fail
  refine (C3.out _ HB2.out).mono ?_; rintro e w3 ⟨rfl, hb3⟩
  have HB3 := Lib.hid (HB1.out.trans ((HB2.out.trans (hb3.mono HB2.out.size)).mono HB1.out.size))
  clear hb3
  go_wp2
  go_ret
  exact ⟨by first | rfl | exact ret_bool (by simp), HB3.out⟩

/-- What both sides tell of a rune's place. -/
theorem bytes_same (s : ByteArray) (hs : s.size ≤ 5000) (hc : clean s.data.toList) (n : Int) : ∃ v e' : Int,
    (∀ W r p L, RopeW W r p L s → Calls Try.prog 11 #[.pointer r, .int .i64 n] W fun e w' => e = .returned (.tuple #[.int .i64 v, .int .i64 e']) ∧ Below W.heap.size W w') ∧
    (∀ W, Calls Try.prog 12 #[.string s, .int .i64 n] W fun e w' => e = .returned (.tuple #[.int .i64 v, .int .i64 e']) ∧ Below W.heap.size W w') := by
  by_cases h : n < 0 ∨ (runes s.data.toList : Int) < n
  · exact ⟨0, 3, fun W r p L hR => sk_byte_no hR h, fun W => (rbyte19_no hs h W).mono fun e w' ⟨h1, h2⟩ => ⟨h1, by rw [h2]; exact Below.refl _ _⟩⟩
  · obtain ⟨k, rfl⟩ := Int.eq_ofNat_of_zero_le (show 0 ≤ n by omega)
    obtain ⟨m, u⟩ := upto_ex meas_runes s.data.toList (n := (k : Int)) (by omega)
    exact ⟨m, 0, fun W r p L hR => sk_byte_yes hR (by omega) u, fun W => rbyte19_yes hs hc (by omega) u W⟩
theorem vldB_clean {s : ByteArray} (h : vldB s.data.toList = true) : clean s.data.toList := vld_clean _ ((vldB_iff _).1 h)

set_option maxRecDepth 100000 in
set_option maxHeartbeats 1600000 in
theorem seekRunes_walk (s : ByteArray) (i n : Int) (w0 : s.size ≤ maxLen) (w1 : (Lit.int .i64 i).wf = true) (w2 : (Lit.int .i64 n).wf = true) (w : World) :
    Calls Try.prog 3 #[.string s, .int .i64 i, .int .i64 n] w fun e w' => e = .returned (.bool true) ∧ Below w.heap.size w w' := by
  have hi : i64P i := bounds_i64 w1
  clear w1 w2
  by_cases hl : 1500 < s.size
  · have t1 : decide ((1500 : Int) < (s.size : Int)) = true := decide_eq_true (by omega)
    have t2 : decide (1500 < s.size) = true := decide_eq_true hl
    clear w0 hi
    go_enter Try.func3, Try.ntmps3
    go_wp2_with fail
    refine (lives19_any _).mono ?_; rintro e w1 ⟨rfl, hb1⟩
    go_wp2
    go_ret
    exact ⟨rfl, hb1⟩
  have t1 : decide ((1500 : Int) < (s.size : Int)) = false := decide_eq_false (by omega)
  have t2 : decide (1500 < s.size) = false := decide_eq_false hl
  have hz : s.size ≤ 1500 := by omega
  have cv := rvalid_any s (by omega)
  by_cases hv : vldB s.data.toList = false
  · rw [hv] at cv
    have CV := Lib.hid cv
    clear cv hv w0 hi
    go_enter Try.func3, Try.ntmps3
    go_wp2_with fail
    refine (CV.out _).mono ?_; rintro e w1 ⟨rfl, hb1⟩
    have HB1 := Lib.hid hb1
    clear hb1
    go_wp2_with fail
    refine (onward HB1.out (lives19_any _)).mono ?_; rintro e w2 ⟨rfl, hb2⟩
    go_wp2
    go_ret
    exact ⟨rfl, hb2⟩
  have hv := bool_yes hv
  rw [hv] at cv
  have co := fun W => (ro_of s w0 W).mono fun e w' h => h.yes (ofE_yes hv (by omega))
  obtain ⟨bv, be, hB1, hB2⟩ := bytes_same s (by omega) (vldB_clean hv) n
  have cr := fun W r p L (hR : RopeW W r p L s) => sk_rune hR hi
  have cd := rrune19_any (show s.size ≤ 5000 by omega) (p := i)
  obtain ⟨V, hV⟩ : ∃ V, placeV s i = V := ⟨_, rfl⟩
  obtain ⟨E, hE⟩ : ∃ E, placeE s i = E := ⟨_, rfl⟩
  rw [hV, hE] at cd
  simp only [hV, hE] at cr
  have CO := Lib.hid co; have CV := Lib.hid cv; have CR := Lib.hid cr; have CD := Lib.hid cd; have CB := Lib.hid hB1; have CBD := Lib.hid hB2
  clear co cv cr cd hB1 hB2 hv hi w0 hV hE
  go_enter Try.func3, Try.ntmps3
  go_wp2_with fail
  refine (CV.out _).mono ?_; rintro e w1 ⟨rfl, hb1⟩
  have HB1 := Lib.hid hb1
  clear hb1
  go_wp2_with fail
  refine (CO.out _).mono ?_; rintro e w2 ⟨b, p, L, rfl, hR, hb2⟩
  have HB2 := Lib.hid (HB1.out.trans (hb2.mono HB1.out.size)); have HR := Lib.hid hR
  clear hb2 hR
  go_wp2_with fail
  refine (CR.out _ _ _ _ HR.out).mono ?_; rintro e w3 ⟨rfl, hb3⟩
  have HB3 := Lib.hid (HB2.out.trans (hb3.mono HB2.out.size)); have HR3 := Lib.hid (HR.out.later hb3)
  clear hb3
  go_wp2_with fail
  refine (CD.out _).mono ?_; rintro e w4 ⟨rfl, rfl⟩
  go_wp2_with fail
  refine (CB.out _ _ _ _ HR3.out).mono ?_; rintro e w5 ⟨rfl, hb5⟩
  have HB5 := Lib.hid (HB3.out.trans (hb5.mono HB3.out.size))
  clear hb5
  go_wp2_with fail
  refine (CBD.out _).mono ?_; rintro e w6 ⟨rfl, hb6⟩
  have HB6 := Lib.hid (HB5.out.trans (hb6.mono HB5.out.size))
  clear hb6
  go_wp2_with fail
  refine (lives19_any _).mono ?_; rintro e w7 ⟨rfl, hb7⟩
  have HB7 := Lib.hid (HB6.out.trans (hb7.mono HB6.out.size))
  clear hb7
  go_wp2
  go_ret
  exact ⟨by first | rfl | exact ret_bool (by simp), HB7.out⟩

theorem lines_same (s : ByteArray) (hs : s.size ≤ 5000) {i : Int} (hi : i64P i) : ∃ a b e' : Int,
    (∀ W r p L, RopeW W r p L s → Calls Try.prog 13 #[.pointer r, .int .i64 i] W fun e w' => e = .returned (.tuple #[.int .i64 a, .int .i64 b, .int .i64 e']) ∧ Below W.heap.size W w') ∧
    (∀ W, Calls Try.prog 14 #[.string s, .int .i64 i] W fun e w' => e = .returned (.tuple #[.int .i64 a, .int .i64 b, .int .i64 e']) ∧ Below W.heap.size W w') := by
  by_cases hE : placeE s i = 0
  · obtain ⟨k, rfl, hk, he, -⟩ := place_zero hE
    obtain ⟨q, hq⟩ := start_ex s (lines_take_le s k)
    exact ⟨_, _, 0, fun W r p L hR => sk_line_yes hR hk he hq, fun W => rline19_yes hs hk he hq W⟩
  · exact ⟨0, 0, _, fun W r p L hR => sk_line_no hR hi hE, fun W => (rline19_no hs hE W).mono fun e w' ⟨h1, h2⟩ => ⟨h1, by rw [h2]; exact Below.refl _ _⟩⟩
theorem starts_same (s : ByteArray) (hs : s.size ≤ 5000) (n : Int) : ∃ (x xe : Int) (t : ByteArray) (te : Int),
    (∀ W r p L, RopeW W r p L s → Calls Try.prog 17 #[.pointer r, .int .i64 n] W fun e w' => e = .returned (.tuple #[.int .i64 x, .int .i64 xe]) ∧ Below W.heap.size W w') ∧
    (∀ W, Calls Try.prog 18 #[.string s, .int .i64 n] W fun e w' => e = .returned (.tuple #[.int .i64 x, .int .i64 xe]) ∧ Below W.heap.size W w') ∧
    (∀ W r p L, RopeW W r p L s → Calls Try.prog 19 #[.pointer r, .int .i64 n] W fun e w' => e = .returned (.tuple #[.string t, .int .i64 te]) ∧ Below W.heap.size W w') ∧
    (∀ W, Calls Try.prog 20 #[.string s, .int .i64 n] W fun e w' => e = .returned (.tuple #[.string t, .int .i64 te]) ∧ Below W.heap.size W w') := by
  cases hB : lineB s n with
  | false => exact ⟨0, 3, ⟨#[]⟩, 3, fun W r p L hR => sk_start_no hR hB, fun W => rstart19_no hs (line_no hB) W, fun W r p L hR => sk_row_no hR hB, fun W => rrow19_no hs (line_no hB) W⟩
  | true =>
    obtain ⟨k, rfl, hk⟩ := line_is hB
    obtain ⟨q, hq⟩ := start_ex s hk
    obtain ⟨m, u⟩ := upto_ex meas_lines s.data.toList (n := (k : Int)) (by omega)
    exact ⟨q, 0, s.extract q m, 0, fun W r p L hR => sk_start_yes hR hk hq, fun W => rstart19_yes hs hk hq W, fun W r p L hR => sk_row_yes hR hk hq u, fun W => rrow19_yes hs hk hq u W⟩

set_option maxRecDepth 100000 in
set_option maxHeartbeats 1600000 in
theorem seekLines_walk (s : ByteArray) (i n : Int) (w0 : s.size ≤ maxLen) (w1 : (Lit.int .i64 i).wf = true) (w2 : (Lit.int .i64 n).wf = true) (w : World) :
    Calls Try.prog 4 #[.string s, .int .i64 i, .int .i64 n] w fun e w' => e = .returned (.bool true) ∧ Below w.heap.size w w' := by
  have hi : i64P i := bounds_i64 w1
  clear w1 w2
  by_cases hl : 1500 < s.size
  · have t1 : decide ((1500 : Int) < (s.size : Int)) = true := decide_eq_true (by omega)
    have t2 : decide (1500 < s.size) = true := decide_eq_true hl
    clear w0 hi
    go_enter Try.func4, Try.ntmps4
    go_wp2_with fail
    refine (lives19_any _).mono ?_; rintro e w1 ⟨rfl, hb1⟩
    go_wp2
    go_ret
    exact ⟨rfl, hb1⟩
  have t1 : decide ((1500 : Int) < (s.size : Int)) = false := decide_eq_false (by omega)
  have t2 : decide (1500 < s.size) = false := decide_eq_false hl
  have hz : s.size ≤ 1500 := by omega
  have cv := rvalid_any s (by omega)
  by_cases hv : vldB s.data.toList = false
  · rw [hv] at cv
    have CV := Lib.hid cv
    clear cv hv w0 hi
    go_enter Try.func4, Try.ntmps4
    go_wp2_with fail
    refine (CV.out _).mono ?_; rintro e w1 ⟨rfl, hb1⟩
    have HB1 := Lib.hid hb1
    clear hb1
    go_wp2_with fail
    refine (onward HB1.out (lives19_any _)).mono ?_; rintro e w2 ⟨rfl, hb2⟩
    go_wp2
    go_ret
    exact ⟨rfl, hb2⟩
  have hv := bool_yes hv
  rw [hv] at cv
  have co := fun W => (ro_of s w0 W).mono fun e w' h => h.yes (ofE_yes hv (by omega))
  obtain ⟨a, c, E, hL1, hL2⟩ := lines_same s (by omega) hi
  obtain ⟨x, xe, t, te, hS1, hS2, hW1, hW2⟩ := starts_same s (by omega) n
  have cn := fun W r p L (hR : RopeW W r p L s) => sk_lines hR
  have cs := rstarts_any (show s.size ≤ 5000 by omega)
  have hlen := starts_count s
  obtain ⟨l, hL⟩ : ∃ l, startsL s.data.toList s.size = l := ⟨_, rfl⟩
  rw [hL] at cs hlen
  obtain ⟨N, hN⟩ : ∃ N, lines s.data.toList = N := ⟨_, rfl⟩
  simp only [hN] at cn
  rw [hN] at hlen
  have CO := Lib.hid co; have CV := Lib.hid cv; have CN := Lib.hid cn; have CS := Lib.hid cs; have HLEN := Lib.hid hlen
  have L1 := Lib.hid hL1; have L2 := Lib.hid hL2; have S1 := Lib.hid hS1; have S2 := Lib.hid hS2; have R1 := Lib.hid hW1; have R2 := Lib.hid hW2
  clear co cv cn cs hlen hL1 hL2 hS1 hS2 hW1 hW2 hv hi w0 hL hN
  go_enter Try.func4, Try.ntmps4
  go_wp2_with fail
  refine (CV.out _).mono ?_; rintro e w1 ⟨rfl, hb1⟩
  have HB1 := Lib.hid hb1
  clear hb1
  go_wp2_with fail
  refine (CO.out _).mono ?_; rintro e w2 ⟨b, p, L, rfl, hR, hb2⟩
  have HB2 := Lib.hid (HB1.out.trans (hb2.mono HB1.out.size)); have HR := Lib.hid hR
  clear hb2 hR
  go_wp2_with fail
  refine (L1.out _ _ _ _ HR.out).mono ?_; rintro e w3 ⟨rfl, hb3⟩
  have HB3 := Lib.hid (HB2.out.trans (hb3.mono HB2.out.size)); have HR3 := Lib.hid (HR.out.later hb3)
  clear hb3
  go_wp2_with fail
  refine (L2.out _).mono ?_; rintro e w4 ⟨rfl, hb4⟩
  have HB4 := Lib.hid (HB3.out.trans (hb4.mono HB3.out.size)); have HR4 := Lib.hid (HR3.out.later hb4)
  clear hb4
  go_wp2_with fail
  refine (CN.out _ _ _ _ HR4.out).mono ?_; rintro e w5 ⟨rfl, hb5⟩
  have HB5 := Lib.hid (HB4.out.trans (hb5.mono HB4.out.size)); have HR5 := Lib.hid (HR4.out.later hb5)
  clear hb5
  go_wp2_with fail
  refine (CS.out _).mono ?_; rintro e w6 ⟨gs, cc, rfl, -, -, hb6⟩
  rw [HLEN.out]
  have HB6 := Lib.hid (HB5.out.trans (hb6.mono HB5.out.size)); have HR6 := Lib.hid (HR5.out.later hb6)
  clear hb6
  have q1 : ((N : Int) + 1 != ((N + 1 : Nat) : Int)) = false := by
    rw [show ((N + 1 : Nat) : Int) = (N : Int) + 1 by omega]; simp
  have q2 : ((N + 1 : Nat) : Int) = (N : Int) + 1 := by omega
  go_wp2_with fail
  refine (S1.out _ _ _ _ HR6.out).mono ?_; rintro e w7 ⟨rfl, hb7⟩
  have HB7 := Lib.hid (HB6.out.trans (hb7.mono HB6.out.size)); have HR7 := Lib.hid (HR6.out.later hb7)
  clear hb7
  go_wp2_with fail
  refine (S2.out _).mono ?_; rintro e w8 ⟨rfl, hb8⟩
  have HB8 := Lib.hid (HB7.out.trans (hb8.mono HB7.out.size)); have HR8 := Lib.hid (HR7.out.later hb8)
  clear hb8
  go_wp2_with fail
  refine (R1.out _ _ _ _ HR8.out).mono ?_; rintro e w9 ⟨rfl, hb9⟩
  have HB9 := Lib.hid (HB8.out.trans (hb9.mono HB8.out.size))
  clear hb9
  go_wp2_with fail
  refine (R2.out _).mono ?_; rintro e w10 ⟨rfl, hb10⟩
  have HB10 := Lib.hid (HB9.out.trans (hb10.mono HB9.out.size))
  clear hb10
  go_wp2_with fail
  refine (lives19_any _).mono ?_; rintro e w11 ⟨rfl, hb11⟩
  have HB11 := Lib.hid (HB10.out.trans (hb11.mono HB10.out.size))
  clear hb11
  go_wp2
  go_ret
  exact ⟨by first | rfl | exact ret_bool (by simp), HB11.out⟩
end Go.Proofs.Yteopkjcofcmgoaa
