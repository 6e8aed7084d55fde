/-
  Layer 19's law SeekBack: back without the document's answer.
-/
import Derived.Test.YteopkjcofcmgoaaLawSeek
namespace Go.Proofs.Yteopkjcofcmgoaa
open Go.RowKit
set_option linter.unusedVariables false
set_option linter.unusedSimpArgs false

/-- The first k lines, with what ends them between. -/
def AllP (s : ByteArray) (k : Nat) (t : ByteArray) : Prop := (k = 0 ∧ t = ⟨#[]⟩) ∨ ∃ j m, k = j + 1 ∧ UptoP lines s.data.toList j m ∧ t = s.extract 0 m
theorem AllP.whole {s : ByteArray} {k : Nat} {t : ByteArray} (h : AllP s k t) (hk : k = lines s.data.toList + 1) : t = s := by
  rcases h with ⟨rfl, -⟩ | ⟨j, m, rfl, u, rfl⟩
  · omega
  · obtain rfl : j = lines s.data.toList := by omega
    have e := u.same meas_lines (upto_all (Int.le_refl _))
    rw [e, list_size]
    simp
theorem ext_join (s : ByteArray) {i j : Nat} (h : i ≤ j) : s.extract 0 i ++ s.extract i j = s.extract 0 j := by
  refine str_ext ?_
  rw [app_list, head_list, head_list, extract_list, ← take_part _ h]
theorem AllP.step {s : ByteArray} {k : Nat} {t : ByteArray} (h : AllP s k t) (hk : k ≤ lines s.data.toList) {q m : Nat} (hq : StartP s.data.toList k q) (u : UptoP lines s.data.toList k m) :
    (k = 0 → AllP s (k + 1) (t ++ s.extract q m)) ∧ (¬ k = 0 → AllP s (k + 1) (t ++ ⟨#[10]⟩ ++ s.extract q m)) ∧ t.size ≤ s.size ∧ (s.extract q m).size ≤ s.size := by
  have hqm := upto_start hq u
  have hx : (s.extract q m).size ≤ s.size := by simp; omega
  rcases h with ⟨rfl, rfl⟩ | ⟨j, m', rfl, u', rfl⟩
  · refine ⟨fun _ => .inr ⟨0, m, rfl, u, ?_⟩, fun h => absurd rfl h, Nat.zero_le _, hx⟩
    obtain rfl : q = 0 := hq.same (.inl ⟨rfl, rfl⟩)
    rw [nil_app]
  · refine ⟨fun h => absurd h (by omega), fun _ => .inr ⟨j + 1, m, rfl, u, ?_⟩, by simp; omega, hx⟩
    obtain ⟨h1, h2, h3⟩ := upto_lines u' (by omega)
    rw [list_size] at h1
    obtain rfl : m' + 1 = q := (start_next u' (by omega)).same hq
    rw [← head_line s h1 h2, ext_join s hqm]

set_option maxRecDepth 100000 in
set_option maxHeartbeats 3200000 in
theorem seekBack_walk (s : ByteArray) (i : Int) (w0 : s.size ≤ maxLen) (w1 : (Lit.int .i64 i).wf = true) (w : World) :
    Calls Try.prog 5 #[.string s, .int .i64 i] w fun e w' => e = .returned (.bool true) ∧ Below w.heap.size w w' := by
  have hi : i64P i := bounds_i64 w1
  clear w1
  by_cases hl : 600 < s.size
  · have t1 : decide ((600 : Int) < (s.size : Int)) = true := decide_eq_true (by omega)
    have t2 : decide (600 < s.size) = true := decide_eq_true hl
    clear w0 hi
    go_enter Try.func5, Try.ntmps5
    go_wp2_with fail
    refine (lives19_any _).mono ?_; rintro e w1 ⟨rfl, hb1⟩
    go_wp2
    go_ret
    exact ⟨rfl, hb1⟩
  have t1 : decide ((600 : Int) < (s.size : Int)) = false := decide_eq_false (by omega)
  have t2 : decide (600 < s.size) = false := decide_eq_false hl
  have hz : s.size ≤ 600 := by omega
  have cv := rvalid_any s (by omega)
  by_cases hv : vldB s.data.toList = false
  · rw [hv] at cv
    have CV := Lib.hid cv
    clear cv hv w0 hi
    go_enter Try.func5, Try.ntmps5
    go_wp2_with fail
    refine (CV.out _).mono ?_; rintro e w1 ⟨rfl, hb1⟩
    have HB1 := Lib.hid hb1
    clear hb1
    go_wp2_with fail
    refine (onward HB1.out (lives19_any _)).mono ?_; rintro e w2 ⟨rfl, hb2⟩
    go_wp2
    go_ret
    exact ⟨rfl, hb2⟩
  have hv := bool_yes hv
  rw [hv] at cv
  have co := fun W => (ro_of s w0 W).mono fun e w' h => h.yes (ofE_yes hv (by omega))
  have cr := fun W r p L (hR : RopeW W r p L s) => sk_rune hR hi
  obtain ⟨N, hN⟩ : ∃ N, lines s.data.toList = N := ⟨_, rfl⟩
  have hN6 : N ≤ 600 := by have := lines_le s.data.toList; rw [list_size] at this; omega
  have HN := Lib.hid hN; have HV := Lib.hid ((vldB_iff _).1 hv)
  clear hN
  by_cases hE : placeE s i = 0
  · obtain ⟨k0, rfl, hk0, he0, -⟩ := place_zero hE
    have hV : placeV s k0 = runes (s.data.toList.take k0) := by unfold placeV; rw [hE, if_pos rfl, Int.toNat_natCast]
    have hrn : runes (s.data.toList.take k0) ≤ runes s.data.toList := by
      have := meas_runes.mono s.data.toList (show k0 ≤ s.size from hk0)
      have e : s.data.toList.take s.size = s.data.toList := List.take_of_length_le (by rw [list_size]; exact Nat.le_refl _)
      rwa [e] at this
    have cb := fun W r p L (hR : RopeW W r p L s) => sk_byte_yes hR hrn (upto_edge (vldB_clean hv) (by rw [list_size]; exact hk0) he0)
    simp only [hE, hV] at cr
    obtain ⟨V, hVV⟩ : ∃ V, runes (s.data.toList.take k0) = V := ⟨_, rfl⟩
    simp only [hVV] at cr cb
    have CO := Lib.hid co; have CV := Lib.hid cv; have CR := Lib.hid cr; have CB := Lib.hid cb
    clear co cv cr cb hv hi w0 hE hV hrn he0 hVV hk0
    go_enter Try.func5, Try.ntmps5
    go_wp2_with fail
    refine (CV.out _).mono ?_; rintro e w1 ⟨rfl, hb1⟩
    have HB1 := Lib.hid hb1
    clear hb1
    go_wp2_with fail
    refine (CO.out _).mono ?_; rintro e w2 ⟨b, p, L, rfl, hR, hb2⟩
    have HB2 := Lib.hid (HB1.out.trans (hb2.mono HB1.out.size)); have HR := Lib.hid hR
    clear hb2 hR
    go_wp2_with fail
    refine (CR.out _ _ _ _ HR.out).mono ?_; rintro e w3 ⟨rfl, hb3⟩
    have HB3 := Lib.hid hb3
    clear hb3
    go_wp2_with fail
    refine (CB.out _ _ _ _ (HR.out.later HB3.out)).mono ?_; rintro e w4 ⟨rfl, hb4⟩
    have HB4 := Lib.hid (HB3.out.trans (hb4.mono HB3.out.size))
    clear hb4
    have cn := fun W (hW : Below w2.heap.size w2 W) => sk_lines (HR.out.later hW)
    rw [HN.out] at cn
    have CN := Lib.hid cn
    clear cn
    go_wp2_with fail
    refine (CN.out _ HB4.out).mono ?_; rintro e wl ⟨rfl, hbl⟩
    have HBL := Lib.hid ((HB4.out).trans (hbl.mono (HB4.out).size))
    clear hbl
    go_wp2
    go_loopg [11, 13] (N + 1) (fun gk v11 v13 wr => ∃ (k : Nat) (t : ByteArray), k + gk = N + 1 ∧ v11 = .string t ∧ v13 = .int .i64 k ∧ AllP s k t ∧ Below w2.heap.size w2 wr)
    case atStart => exact ⟨0, _, by omega, rfl, rfl, .inl ⟨rfl, rfl⟩, HBL.out⟩
    case round =>
      obtain ⟨k, t, hk, rfl, rfl, hA, hbel⟩ := hrel
      have HB := Lib.hid (HB2.out.trans (hbel.mono HB2.out.size))
      cases gk with
      | zero =>
        have hkN : k = N + 1 := by omega
        have ht := hA.whole (by rw [HN.out]; exact hkN)
        subst ht
        have b1 : ¬ (k : Int) < (N : Int) + 1 := by omega
        clear hA hbel
        go_wp2_with fail
        refine (lives19_any _).mono ?_; rintro e w9 ⟨rfl, hb9⟩
        have HB9 := Lib.hid (HB.out.trans (hb9.mono HB.out.size))
        clear hb9
        go_wp2
        go_ret
        exact ⟨by first | rfl | exact ret_bool (by simp), HB9.out⟩
      | succ gi =>
        have hkl : k ≤ lines s.data.toList := by rw [HN.out]; omega
        obtain ⟨q, hq⟩ := start_ex s hkl
        obtain ⟨m, u⟩ := upto_ex meas_lines s.data.toList (n := (k : Int)) (by omega)
        have hql := hq.lines
        rw [list_size] at hql
        have heq := start_edge HV.out hq
        have c1 := fun W (hW : Below wr.heap.size wr W) => sk_start_yes ((HR.out.later hbel).later hW) hkl hq
        have c2 := fun W (hW : Below wr.heap.size wr W) => sk_line_yes ((HR.out.later hbel).later hW) hql.1 heq (by rw [hql.2]; exact hq)
        have c3 := fun W (hW : Below wr.heap.size wr W) => sk_row_yes ((HR.out.later hbel).later hW) hkl hq u
        simp only [hql.2, Nat.sub_self] at c2
        obtain ⟨h0, h1, hz1, hz2⟩ := hA.step hkl hq u
        obtain ⟨x, hx⟩ : ∃ x, s.extract q m = x := ⟨_, rfl⟩
        rw [hx] at c3 h0 h1 hz2
        have C1 := Lib.hid c1; have C2 := Lib.hid c2; have C3 := Lib.hid c3; have H0 := Lib.hid h0; have H1 := Lib.hid h1; have HBW := Lib.hid hbel
        have b1 : (k : Int) < (N : Int) + 1 := by omega
        have b2 : (k : Int) < 700 := by omega
        have b3 : (0 : Int) ≤ (k : Int) := by omega
        have b5 : (k : Int) + 1 ≤ 700 := by omega
        have z1 : t.size ≤ 600 := by omega
        have z2 : x.size ≤ 600 := by omega
        clear c1 c2 c3 h0 h1 hA hq u hql heq hx hbel hkl hz1 hz2
        go_wp2_with fail
        refine (C1.out _ (Below.refl _ _)).mono ?_; rintro e w4 ⟨rfl, hb4⟩
        have HS4 := Lib.hid hb4
        clear hb4
        go_wp2_with fail
        refine (C2.out _ HS4.out).mono ?_; rintro e w5 ⟨rfl, hb5⟩
        have HS5 := Lib.hid (HS4.out.trans (hb5.mono HS4.out.size))
        clear hb5
        go_wp2_with fail
        refine (C3.out _ HS5.out).mono ?_; rintro e w6 ⟨rfl, hb6⟩
        have HS6 := Lib.hid (HS5.out.trans (hb6.mono HS5.out.size))
        clear hb6
        have y1 : ¬ 9223372036854775807 < t.size + x.size := by omega
        have y2 : ¬ 9223372036854775807 < t.size + 1 := by omega
        have y3 : ¬ 9223372036854775807 < t.size + 1 + x.size := by omega
        by_cases hk0 : k = 0
        · have b4 : ¬ (0 : Int) < (k : Int) := by omega
          have b6 : decide ((0 : Int) < (k : Int)) = false := decide_eq_false b4
          have b7 : decide (0 < k) = false := decide_eq_false (by omega)
          go_wp2
          go_roundg gi
          case measure => omega
          case rel => exact ⟨k + 1, _, by omega, rfl, by go_num, H0.out hk0, HBW.out.trans (HS6.out.mono HBW.out.size)⟩
        · have b4 : (0 : Int) < (k : Int) := by omega
          have b6 : decide ((0 : Int) < (k : Int)) = true := decide_eq_true b4
          have b7 : decide (0 < k) = true := decide_eq_true (by omega)
          go_wp2
          go_roundg gi
          case measure => omega
          case rel => exact ⟨k + 1, _, by omega, rfl, by go_num, H1.out hk0, HBW.out.trans (HS6.out.mono HBW.out.size)⟩
  · obtain ⟨E, hEE⟩ : ∃ E, placeE s i = E := ⟨_, rfl⟩
    obtain ⟨V, hVV⟩ : ∃ V, placeV s i = V := ⟨_, rfl⟩
    rw [hEE] at hE
    simp only [hEE, hVV] at cr
    have CO := Lib.hid co; have CV := Lib.hid cv; have CR := Lib.hid cr
    clear co cv cr hv hi w0 hEE hVV
    go_enter Try.func5, Try.ntmps5
    go_wp2_with fail
    refine (CV.out _).mono ?_; rintro e w1 ⟨rfl, hb1⟩
    have HB1 := Lib.hid hb1
    clear hb1
    go_wp2_with fail
    refine (CO.out _).mono ?_; rintro e w2 ⟨b, p, L, rfl, hR, hb2⟩
    have HB2 := Lib.hid (HB1.out.trans (hb2.mono HB1.out.size)); have HR := Lib.hid hR
    clear hb2 hR
    go_wp2_with fail
    refine (CR.out _ _ _ _ HR.out).mono ?_; rintro e w3 ⟨rfl, hb3⟩
    have HB3 := Lib.hid hb3
    clear hb3
    have cn := fun W (hW : Below w2.heap.size w2 W) => sk_lines (HR.out.later hW)
    rw [HN.out] at cn
    have CN := Lib.hid cn
    clear cn
    go_wp2_with fail
    refine (CN.out _ HB3.out).mono ?_; rintro e wl ⟨rfl, hbl⟩
    have HBL := Lib.hid ((HB3.out).trans (hbl.mono (HB3.out).size))
    clear hbl
    go_wp2
    go_loopg [11, 13] (N + 1) (fun gk v11 v13 wr => ∃ (k : Nat) (t : ByteArray), k + gk = N + 1 ∧ v11 = .string t ∧ v13 = .int .i64 k ∧ AllP s k t ∧ Below w2.heap.size w2 wr)
    case atStart => exact ⟨0, _, by omega, rfl, rfl, .inl ⟨rfl, rfl⟩, HBL.out⟩
    case round =>
      obtain ⟨k, t, hk, rfl, rfl, hA, hbel⟩ := hrel
      have HB := Lib.hid (HB2.out.trans (hbel.mono HB2.out.size))
      cases gk with
      | zero =>
        have hkN : k = N + 1 := by omega
        have ht := hA.whole (by rw [HN.out]; exact hkN)
        subst ht
        have b1 : ¬ (k : Int) < (N : Int) + 1 := by omega
        clear hA hbel
        go_wp2_with fail
        refine (lives19_any _).mono ?_; rintro e w9 ⟨rfl, hb9⟩
        have HB9 := Lib.hid (HB.out.trans (hb9.mono HB.out.size))
        clear hb9
        go_wp2
        go_ret
        exact ⟨by first | rfl | exact ret_bool (by simp), HB9.out⟩
      | succ gi =>
        have hkl : k ≤ lines s.data.toList := by rw [HN.out]; omega
        obtain ⟨q, hq⟩ := start_ex s hkl
        obtain ⟨m, u⟩ := upto_ex meas_lines s.data.toList (n := (k : Int)) (by omega)
        have hql := hq.lines
        rw [list_size] at hql
        have heq := start_edge HV.out hq
        have c1 := fun W (hW : Below wr.heap.size wr W) => sk_start_yes ((HR.out.later hbel).later hW) hkl hq
        have c2 := fun W (hW : Below wr.heap.size wr W) => sk_line_yes ((HR.out.later hbel).later hW) hql.1 heq (by rw [hql.2]; exact hq)
        have c3 := fun W (hW : Below wr.heap.size wr W) => sk_row_yes ((HR.out.later hbel).later hW) hkl hq u
        simp only [hql.2, Nat.sub_self] at c2
        obtain ⟨h0, h1, hz1, hz2⟩ := hA.step hkl hq u
        obtain ⟨x, hx⟩ : ∃ x, s.extract q m = x := ⟨_, rfl⟩
        rw [hx] at c3 h0 h1 hz2
        have C1 := Lib.hid c1; have C2 := Lib.hid c2; have C3 := Lib.hid c3; have H0 := Lib.hid h0; have H1 := Lib.hid h1; have HBW := Lib.hid hbel
        have b1 : (k : Int) < (N : Int) + 1 := by omega
        have b2 : (k : Int) < 700 := by omega
        have b3 : (0 : Int) ≤ (k : Int) := by omega
        have b5 : (k : Int) + 1 ≤ 700 := by omega
        have z1 : t.size ≤ 600 := by omega
        have z2 : x.size ≤ 600 := by omega
        clear c1 c2 c3 h0 h1 hA hq u hql heq hx hbel hkl hz1 hz2
        go_wp2_with fail
        refine (C1.out _ (Below.refl _ _)).mono ?_; rintro e w4 ⟨rfl, hb4⟩
        have HS4 := Lib.hid hb4
        clear hb4
        go_wp2_with fail
        refine (C2.out _ HS4.out).mono ?_; rintro e w5 ⟨rfl, hb5⟩
        have HS5 := Lib.hid (HS4.out.trans (hb5.mono HS4.out.size))
        clear hb5
        go_wp2_with fail
        refine (C3.out _ HS5.out).mono ?_; rintro e w6 ⟨rfl, hb6⟩
        have HS6 := Lib.hid (HS5.out.trans (hb6.mono HS5.out.size))
        clear hb6
        have y1 : ¬ 9223372036854775807 < t.size + x.size := by omega
        have y2 : ¬ 9223372036854775807 < t.size + 1 := by omega
        have y3 : ¬ 9223372036854775807 < t.size + 1 + x.size := by omega
        by_cases hk0 : k = 0
        · have b4 : ¬ (0 : Int) < (k : Int) := by omega
          have b6 : decide ((0 : Int) < (k : Int)) = false := decide_eq_false b4
          have b7 : decide (0 < k) = false := decide_eq_false (by omega)
          go_wp2
          go_roundg gi
          case measure => omega
          case rel => exact ⟨k + 1, _, by omega, rfl, by go_num, H0.out hk0, HBW.out.trans (HS6.out.mono HBW.out.size)⟩
        · have b4 : (0 : Int) < (k : Int) := by omega
          have b6 : decide ((0 : Int) < (k : Int)) = true := decide_eq_true b4
          have b7 : decide (0 < k) = true := decide_eq_true (by omega)
          go_wp2
          go_roundg gi
          case measure => omega
          case rel => exact ⟨k + 1, _, by omega, rfl, by go_num, H1.out hk0, HBW.out.trans (HS6.out.mono HBW.out.size)⟩
end Go.Proofs.Yteopkjcofcmgoaa
