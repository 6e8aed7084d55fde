/-
  Layer 15's laws: ChunkWhole.
-/
import Derived.Test.YtkicnpomamhlbaaLawChunk
namespace Go.Proofs.Ytkicnpomamhlbaa
open Go.RowKit
set_option linter.unusedVariables false

theorem chunk_long (x y z : ByteArray) (w : World) (h : 400 < x.size ∨ 100 < y.size ∨ 100 < z.size) :
    Calls Try.prog 5 #[.string x, .string y, .string z] w fun e w' => e = .returned (.bool true) ∧ Below w.heap.size w w' := by
  by_cases h1 : 400 < x.size
  · clear h
    go_enter Try.func5, Try.ntmps5
    go_wp2_with fail
    refine (lives15_any _).mono ?_; rintro e w1 ⟨rfl, hb1⟩
    go_wp2
    go_ret
    exact ⟨rfl, hb1⟩
  by_cases h2 : 100 < y.size
  · clear h
    go_enter Try.func5, Try.ntmps5
    go_wp2_with fail
    refine (lives15_any _).mono ?_; rintro e w1 ⟨rfl, hb1⟩
    go_wp2
    go_ret
    exact ⟨rfl, hb1⟩
  · have h3 : 100 < z.size := by omega
    clear h
    go_enter Try.func5, Try.ntmps5
    go_wp2_with fail
    refine (lives15_any _).mono ?_; rintro e w1 ⟨rfl, hb1⟩
    go_wp2
    go_ret
    exact ⟨rfl, hb1⟩

set_option maxRecDepth 100000 in
set_option maxHeartbeats 3200000 in
theorem chunk_main (x y z : ByteArray) (w : World) (h1 : x.size ≤ 400) (h2 : y.size ≤ 100) (h3 : z.size ≤ 100) :
    Calls Try.prog 5 #[.string x, .string y, .string z] w fun e w' => e = .returned (.bool true) ∧ Below w.heap.size w w' := by
  have hb0 := Below.refl w.heap.size w
  have c3 := cut_any x (by omega)
  have c4 := rcut_any x (by omega)
  have cj := join_any y z (by omega) (by omega)
  have cy := fits_any y (by unfold maxLen; omega)
  have cz := fits_any z (by unfold maxLen; omega)
  have hJ := join_len y z
  obtain ⟨J, hj⟩ : ∃ J, joinL y z = J := ⟨_, rfl⟩
  rw [hj] at cj hJ
  obtain ⟨m, hm⟩ : ∃ m, J.length = m := ⟨_, rfl⟩
  rw [hm] at hJ
  have C3 := Lib.hid c3; have C4 := Lib.hid c4; have CJ := Lib.hid cj; have CY := Lib.hid cy; have CZ := Lib.hid cz
  have HJE := Lib.hid hj; have HM := Lib.hid hm; have HX := Lib.hid h1
  have d1 : decide ((400 : Int) < (x.size : Int)) = false := decide_eq_false (by omega)
  have d2 : decide ((100 : Int) < (y.size : Int)) = false := decide_eq_false (by omega)
  have d3 : decide ((100 : Int) < (z.size : Int)) = false := decide_eq_false (by omega)
  clear c3 c4 cj cy cz hj hm
  go_enter Try.func5, Try.ntmps5
  go_wp2_with fail
  refine (C3.out _).mono ?_
  rintro e w1 ⟨L, hL, hl2, hr⟩
  obtain ⟨a1, k1, rfl, hs1, hb1, -⟩ := ret_on hb0 hr
  obtain ⟨N, hN⟩ : ∃ N, L.length = N := ⟨_, rfl⟩
  rw [hN] at hl2 ⊢
  have hsome := cutP_none hL
  have HL := Lib.hid hL; have HL2 := Lib.hid hl2; have HS1 := Lib.hid hs1; have HN := Lib.hid hN; have HSO := Lib.hid hsome
  clear hL hl2 hr hs1 hN hsome
  by_cases hN0 : N = 0
  · have i0 : (N : Int) = 0 := by omega
    have i1 : ¬ (0 : Int) < (N : Int) := by omega
    go_wp2_with fail
    refine (C4.out _).mono ?_
    rintro e w2 ⟨L', hL', -, hr⟩
    obtain ⟨a2, k2, rfl, -, hbT, -⟩ := ret_on hb1 hr
    obtain rfl := HL.out.same hL'
    rw [HN.out]
    clear hL' hr
    go_wp2_with fail
    refine (CJ.out _).mono ?_
    rintro e w5 hr
    obtain ⟨a5, k5, rfl, hs5, hb5, -⟩ := ret_on hbT hr
    rw [HM.out]
    have HS5 := Lib.hid hs5
    clear hr hs5
    by_cases hM0 : m = 0
    · have j0 : (m : Int) = 0 := by omega
      have hno := join_no (a := y) (b := z) (by rw [HJE.out, HM.out]; exact hM0)
      by_cases hfy : fitsB y = true
      · have hfz : fitsB z = false := Bool.eq_false_iff.2 fun h => hno ⟨hfy, h⟩
        have cy := CY.out; have cz := CZ.out
        rw [hfy] at cy
        rw [hfz] at cz
        have CY2 := Lib.hid cy; have CZ2 := Lib.hid cz
        clear cy cz hfy hfz hno hM0
        go_wp2_with fail
        refine (onward (w0 := w) hb5 (CY2.out _)).mono ?_; rintro e w6 ⟨rfl, hb6⟩
        go_wp2_with fail
        refine (onward (w0 := w) hb6 (CZ2.out _)).mono ?_; rintro e w7 ⟨rfl, hb7⟩
        go_wp2_with fail
        refine (onward (w0 := w) hb7 (lives15_any _)).mono ?_; rintro e w8 ⟨rfl, hb8⟩
        go_wp2
        go_ret
        exact ⟨by simp, hb8⟩
      · have cy := CY.out
        rw [Bool.eq_false_iff.2 hfy] at cy
        have CY2 := Lib.hid cy
        clear cy hfy hno hM0
        go_wp2_with fail
        refine (onward (w0 := w) hb5 (CY2.out _)).mono ?_; rintro e w6 ⟨rfl, hb6⟩
        go_wp2_with fail
        refine (onward (w0 := w) hb6 (lives15_any _)).mono ?_; rintro e w8 ⟨rfl, hb8⟩
        go_wp2
        go_ret
        exact ⟨by simp, hb8⟩
    · have j0 : ((m : Int) == 0) = false := beq_eq_false_iff_ne.2 (by omega)
      obtain ⟨hfit, hwh⟩ := join_yes (a := y) (b := z) (by rw [HJE.out, HM.out]; exact hM0)
      rw [HJE.out] at hwh
      have hfit2 : ∀ (k : Nat) (hk : k < J.length), fitsB (J[k]) = true := by
        have h := HJE.out; subst h; exact hfit
      have HF := Lib.hid hfit2; have HW := Lib.hid hwh
      clear hfit hfit2 hwh
      go_wp2
      go_loopw [9] (fun i wr => ∃ k : Nat, k ≤ m ∧ i = .int .i64 k ∧ Below w5.heap.size w5 wr) (fun i _ => m - (intOf i).toNat)
      case atStart => exact ⟨0, Nat.zero_le _, rfl, Below.refl _ _⟩
      case round =>
        obtain ⟨k, hk, rfl, hbel⟩ := hrel
        have hb6 := hb5.trans (hbel.mono hb5.size)
        by_cases hlt : k < m
        · have hkl : k < J.length := by rw [HM.out]; exact hlt
          obtain ⟨ad, rfl, -, q0⟩ := (HS5.out.on hbel) k hkl
          have hfx := HF.out k hkl
          obtain ⟨x0, hx0⟩ : ∃ x0, J[k]'hkl = x0 := ⟨_, rfl⟩
          rw [hx0] at q0 hfx
          have cx := fits_any x0 (by have := ((fitsB_iff _).1 hfx).2.1; unfold maxLen; omega)
          rw [hfx] at cx
          have CX := Lib.hid cx; have HBEL := Lib.hid hbel
          have b0 : (0 : Int) ≤ (k : Int) := by omega
          have b1 : (k : Int) < (m : Int) := by omega
          clear hfx cx hx0 hkl hbel
          go_wp2_with fail
          refine (CX.out _).mono ?_; rintro e w6 ⟨rfl, hb7⟩
          have HB7 := Lib.hid (HBEL.out.trans (hb7.mono HBEL.out.size))
          clear hb7
          go_wp2
          go_roundw
          case rel => exact ⟨k + 1, by omega, by go_num, HB7.out⟩
          case measure => simp [intOf]; omega
        · obtain rfl : k = m := by omega
          have cw := rwhole_any a5 J k5 wr (HS5.out.on hbel) (by rw [HM.out]; omega) (by rw [HW.out, ByteArray.size_append]; omega)
          rw [HM.out, HW.out] at cw
          have CW := Lib.hid cw
          have b7 : y.size + z.size ≤ 9223372036854775807 := by omega
          clear cw hbel
          go_wp2_with fail
          refine (onward (w0 := w) hb6 CW.out).mono ?_; rintro e w7 ⟨rfl, hb7⟩
          go_wp2_with fail
          refine (onward (w0 := w) hb7 (lives15_any _)).mono ?_; rintro e w8 ⟨rfl, hb8⟩
          go_wp2
          go_ret
          exact ⟨by simp, hb8⟩
  · have i0 : ((N : Int) == 0) = false := beq_eq_false_iff_ne.2 (by omega)
    have i1 : (0 : Int) < (N : Int) := by omega
    obtain ⟨hT, hW⟩ : TightP L ∧ wholeL L = x := by
      rcases HSO.out with h | h
      · rw [HN.out] at h; exact absurd h hN0
      · exact h
    have HT := Lib.hid hT; have HWX := Lib.hid hW
    clear hT hW
    go_wp2_with fail
    refine (C4.out _).mono ?_
    rintro e w2 ⟨L', hL', -, hr⟩
    obtain ⟨a2, k2, rfl, -, hb2, hb12⟩ := ret_on hb1 hr
    obtain rfl := HL.out.same hL'
    rw [HN.out]
    have HS2 := Lib.hid (HS1.out.on hb12)
    have ct := tight_yes (c := k1) HS2.out (by rw [HN.out]; have := HL2.out; omega) (fun k h => by have := ((HT.out k h).1).2.1; omega) HT.out
    rw [HN.out] at ct
    have CT := Lib.hid ct
    clear ct hL' hr hb12
    go_wp2_with fail
    refine (CT.out).mono ?_; rintro e w3 ⟨rfl, hb23⟩
    have hb3 := hb2.trans (hb23.mono hb2.size)
    have cw := rwhole_any a1 L k1 w3 (HS2.out.on hb23) (by rw [HN.out]; have := HL2.out; omega) (by rw [HWX.out]; have := HX.out; omega)
    rw [HN.out, HWX.out] at cw
    have CW := Lib.hid cw
    clear cw hb23
    go_wp2_with fail
    refine (onward (w0 := w) hb3 CW.out).mono ?_; rintro e w4 ⟨rfl, hbT⟩
    go_wp2_with fail
    refine (CJ.out _).mono ?_
    rintro e w5 hr
    obtain ⟨a5, k5, rfl, hs5, hb5, -⟩ := ret_on hbT hr
    rw [HM.out]
    have HS5 := Lib.hid hs5
    clear hr hs5
    by_cases hM0 : m = 0
    · have j0 : (m : Int) = 0 := by omega
      have hno := join_no (a := y) (b := z) (by rw [HJE.out, HM.out]; exact hM0)
      by_cases hfy : fitsB y = true
      · have hfz : fitsB z = false := Bool.eq_false_iff.2 fun h => hno ⟨hfy, h⟩
        have cy := CY.out; have cz := CZ.out
        rw [hfy] at cy
        rw [hfz] at cz
        have CY2 := Lib.hid cy; have CZ2 := Lib.hid cz
        clear cy cz hfy hfz hno hM0
        go_wp2_with fail
        refine (onward (w0 := w) hb5 (CY2.out _)).mono ?_; rintro e w6 ⟨rfl, hb6⟩
        go_wp2_with fail
        refine (onward (w0 := w) hb6 (CZ2.out _)).mono ?_; rintro e w7 ⟨rfl, hb7⟩
        go_wp2_with fail
        refine (onward (w0 := w) hb7 (lives15_any _)).mono ?_; rintro e w8 ⟨rfl, hb8⟩
        go_wp2
        go_ret
        exact ⟨by simp, hb8⟩
      · have cy := CY.out
        rw [Bool.eq_false_iff.2 hfy] at cy
        have CY2 := Lib.hid cy
        clear cy hfy hno hM0
        go_wp2_with fail
        refine (onward (w0 := w) hb5 (CY2.out _)).mono ?_; rintro e w6 ⟨rfl, hb6⟩
        go_wp2_with fail
        refine (onward (w0 := w) hb6 (lives15_any _)).mono ?_; rintro e w8 ⟨rfl, hb8⟩
        go_wp2
        go_ret
        exact ⟨by simp, hb8⟩
    · have j0 : ((m : Int) == 0) = false := beq_eq_false_iff_ne.2 (by omega)
      obtain ⟨hfit, hwh⟩ := join_yes (a := y) (b := z) (by rw [HJE.out, HM.out]; exact hM0)
      rw [HJE.out] at hwh
      have hfit2 : ∀ (k : Nat) (hk : k < J.length), fitsB (J[k]) = true := by
        have h := HJE.out; subst h; exact hfit
      have HF := Lib.hid hfit2; have HW := Lib.hid hwh
      clear hfit hfit2 hwh
      go_wp2
      go_loopw [9] (fun i wr => ∃ k : Nat, k ≤ m ∧ i = .int .i64 k ∧ Below w5.heap.size w5 wr) (fun i _ => m - (intOf i).toNat)
      case atStart => exact ⟨0, Nat.zero_le _, rfl, Below.refl _ _⟩
      case round =>
        obtain ⟨k, hk, rfl, hbel⟩ := hrel
        have hb6 := hb5.trans (hbel.mono hb5.size)
        by_cases hlt : k < m
        · have hkl : k < J.length := by rw [HM.out]; exact hlt
          obtain ⟨ad, rfl, -, q0⟩ := (HS5.out.on hbel) k hkl
          have hfx := HF.out k hkl
          obtain ⟨x0, hx0⟩ : ∃ x0, J[k]'hkl = x0 := ⟨_, rfl⟩
          rw [hx0] at q0 hfx
          have cx := fits_any x0 (by have := ((fitsB_iff _).1 hfx).2.1; unfold maxLen; omega)
          rw [hfx] at cx
          have CX := Lib.hid cx; have HBEL := Lib.hid hbel
          have b0 : (0 : Int) ≤ (k : Int) := by omega
          have b1 : (k : Int) < (m : Int) := by omega
          clear hfx cx hx0 hkl hbel
          go_wp2_with fail
          refine (CX.out _).mono ?_; rintro e w6 ⟨rfl, hb7⟩
          have HB7 := Lib.hid (HBEL.out.trans (hb7.mono HBEL.out.size))
          clear hb7
          go_wp2
          go_roundw
          case rel => exact ⟨k + 1, by omega, by go_num, HB7.out⟩
          case measure => simp [intOf]; omega
        · obtain rfl : k = m := by omega
          have cw := rwhole_any a5 J k5 wr (HS5.out.on hbel) (by rw [HM.out]; omega) (by rw [HW.out, ByteArray.size_append]; omega)
          rw [HM.out, HW.out] at cw
          have CW := Lib.hid cw
          have b7 : y.size + z.size ≤ 9223372036854775807 := by omega
          clear cw hbel
          go_wp2_with fail
          refine (onward (w0 := w) hb6 CW.out).mono ?_; rintro e w7 ⟨rfl, hb7⟩
          go_wp2_with fail
          refine (onward (w0 := w) hb7 (lives15_any _)).mono ?_; rintro e w8 ⟨rfl, hb8⟩
          go_wp2
          go_ret
          exact ⟨by simp, hb8⟩

theorem chunkWhole_walk (x y z : ByteArray) (w : World) (wx : x.size ≤ maxLen) (wy : y.size ≤ maxLen) (wz : z.size ≤ maxLen) :
    Calls Try.prog 5 #[.string x, .string y, .string z] w fun e w' => e = .returned (.bool true) ∧ Below w.heap.size w w' := by
  by_cases h : 400 < x.size ∨ 100 < y.size ∨ 100 < z.size
  · exact chunk_long x y z w h
  · exact chunk_main x y z w (by omega) (by omega) (by omega)
end Go.Proofs.Ytkicnpomamhlbaa
