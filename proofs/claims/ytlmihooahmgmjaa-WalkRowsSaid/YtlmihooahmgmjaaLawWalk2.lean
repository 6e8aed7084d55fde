/-
  Layer 20's laws: lives; WalkRows.
-/
import Derived.Test.YtlmihooahmgmjaaJWalkIter
import Derived.Test.YtlmihooahmgmjaaJWeldOf
import Derived.Lib.MinMax
namespace Go.Proofs.Ytlmihooahmgmjaa
open Go.RowKit
set_option linter.unusedVariables false
set_option linter.unusedSimpArgs false

def sAn : ByteArray := ⟨#[97, 10]⟩
theorem sAn_of : ofE sAn = 0 := by decide +kernel
theorem sAn_lines : lines sAn.data.toList = 1 := by decide +kernel
theorem sAn_one : UptoP lines sAn.data.toList (0 : Nat) 1 := ⟨by decide +kernel, by decide +kernel, fun _ => by decide +kernel⟩
theorem sAn_two : UptoP lines sAn.data.toList (1 : Nat) 2 := ⟨by decide +kernel, by decide +kernel, fun h => absurd h (by decide +kernel)⟩
theorem sAn_start : StartP sAn.data.toList 1 2 := .inr ⟨1, rfl, by decide +kernel, by decide +kernel, by decide +kernel⟩
theorem sAn_rows {xs : List ByteArray} (h : RowsOk sAn xs) (hl : xs.length = 2) : xs = [⟨#[97]⟩, ⟨#[]⟩] := by
  match xs, hl with
  | [x, y], _ =>
    have h0 := h 0 (by simp) 0 1 (.inl ⟨rfl, rfl⟩) sAn_one
    have h1 := h 1 (by simp) 2 2 sAn_start sAn_two
    simp only [List.getElem_cons_zero, List.getElem_cons_succ] at h0 h1
    rw [h0, h1]
    rfl
set_option maxRecDepth 100000 in
set_option maxHeartbeats 1600000 in
theorem lives20_any (w : World) : Calls Try.prog 6 #[] w fun e w' => e = .returned (.bool true) ∧ Below w.heap.size w w' := by
  have c1 : Calls Try.prog 7 #[.string ⟨#[97, 10]⟩] w fun e w' => ∃ b p L, e = .returned (.tuple #[.pointer (some ⟨b, 0, none⟩), .int .i64 0]) ∧ RopeW w' (some ⟨b, 0, none⟩) p L sAn ∧ Below w.heap.size w w' :=
    (ro_of sAn (by decide +kernel) w).mono fun e w' h => h.yes sAn_of
  have C1 := Lib.hid c1
  clear c1
  go_enter Try.func6, Try.ntmps6
  go_wp2_with fail
  refine C1.out.mono ?_; rintro e w1 ⟨b, p, L, rfl, hR, hb1⟩
  have c2 := rowsOf_any hR (m := 10) (by decide)
  have C2 := Lib.hid c2; have HB1 := Lib.hid hb1
  clear hR hb1 c2
  go_wp2_with fail
  refine C2.out.mono ?_; rintro e w2 ⟨xs, a, c, hok, hl, rfl, hst, hb2⟩
  rw [sAn_lines] at hl
  obtain rfl := sAn_rows hok hl
  obtain ⟨ad, rfl, -, q0⟩ := hst 0 (by decide)
  obtain ⟨ad2, had, -, q1⟩ := hst 1 (by decide)
  obtain rfl : ad = ad2 := by cases had; rfl
  have q0' : w2.cell? ad = some (.string ⟨#[97]⟩) := by simpa [Addr.add] using q0
  have q1' : w2.cell? ⟨ad.block, ad.off + 1, none⟩ = some (.string ⟨#[]⟩) := by simpa [Addr.add] using q1
  have q1'' : w2.cell? (ad.add 1) = some (.string ⟨#[]⟩) := q1
  have HB2 := Lib.hid (HB1.out.trans (hb2.mono HB1.out.size))
  clear hok hl hst had q0 q1 hb2
  go_wp2
  go_ret
  exact ⟨by first | rfl | exact ret_bool (by simp), HB2.out⟩

set_option maxRecDepth 100000 in
set_option maxHeartbeats 1600000 in
theorem walkRows_walk (s : ByteArray) (most : Int) (w0 : s.size ≤ maxLen) (w1 : (Lit.int .u8 most).wf = true) (w : World) :
    Calls Try.prog 3 #[.string s, .int .u8 most] w fun e w' => e = .returned (.bool true) ∧ Below w.heap.size w w' := by
  obtain ⟨k, rfl, hk⟩ : ∃ k : Nat, most = (k : Int) ∧ k ≤ 255 := by
    have := bounds_u8 w1
    exact ⟨most.toNat, by omega, by omega⟩
  clear w1
  by_cases hl : 600 < s.size
  · have t1 : decide ((600 : Int) < (s.size : Int)) = true := decide_eq_true (by omega)
    have t2 : decide (600 < s.size) = true := decide_eq_true hl
    clear w0
    go_enter Try.func3, Try.ntmps3
    go_wp2_with fail
    refine (lives20_any _).mono ?_; rintro e w1 ⟨rfl, hb1⟩
    go_wp2
    go_ret
    exact ⟨rfl, hb1⟩
  have t1 : decide ((600 : Int) < (s.size : Int)) = false := decide_eq_false (by omega)
  have t2 : decide (600 < s.size) = false := decide_eq_false hl
  have hz : s.size ≤ 600 := by omega
  have cv := rvalid_any s (by omega)
  by_cases hv : vldB s.data.toList = false
  · rw [hv] at cv
    have CV := Lib.hid cv
    clear cv hv w0
    go_enter Try.func3, Try.ntmps3
    go_wp2_with fail
    refine (CV.out _).mono ?_; rintro e w1 ⟨rfl, hb1⟩
    have HB1 := Lib.hid hb1
    clear hb1
    go_wp2_with fail
    refine (onward HB1.out (lives20_any _)).mono ?_; rintro e w2 ⟨rfl, hb2⟩
    go_wp2
    go_ret
    exact ⟨rfl, hb2⟩
  have hv := bool_yes hv
  rw [hv] at cv
  have co := fun W => (ro_of s w0 W).mono fun e w' h => h.yes (ofE_yes hv (by omega))
  have cs := rstarts_any (show s.size ≤ 5000 by omega)
  have hlen := starts_count s
  have hle := lines_le s.data.toList
  rw [list_size] at hle
  have crow : ∀ i : Nat, i ≤ lines s.data.toList → ∃ x, (∀ W, Calls Try.prog 10 #[.string s, .int .i64 i] W fun e w' => e = .returned (.tuple #[.string x, .int .i64 0]) ∧ Below W.heap.size W w') ∧ ∀ xs, RowsOk s xs → ∀ h : i < xs.length, xs[i] = x := fun i hi => by
    obtain ⟨p, hp⟩ := start_ex s hi
    obtain ⟨m, u⟩ := upto_ex meas_lines s.data.toList (n := (i : Int)) (by omega)
    exact ⟨s.extract p m, fun W => rrow19_yes (by omega) hi hp u W, fun xs hx h => hx i h p m hp u⟩
  have c1 := fun W b p L (hR : RopeW W (some ⟨b, 0, none⟩) p L s) => rowsOf_any hR (m := 1000) (by decide)
  have c2 := fun W b p L (hR : RopeW W (some ⟨b, 0, none⟩) p L s) => rowsOf_any hR (m := k) (by omega)
  obtain ⟨l, hL⟩ : ∃ l, startsL s.data.toList s.size = l := ⟨_, rfl⟩
  rw [hL] at cs hlen
  obtain ⟨N, hN⟩ : ∃ N, lines s.data.toList = N := ⟨_, rfl⟩
  have HNL := Lib.hid hN
  rw [hN] at hlen hle
  simp only [hN] at crow
  have CO := Lib.hid co; have CV := Lib.hid cv; have CS := Lib.hid cs; have HLEN := Lib.hid hlen; have CR := Lib.hid crow; have C1 := Lib.hid c1; have C2 := Lib.hid c2
  clear co cv cs hlen crow c1 c2 hv w0 hL hN
  go_enter Try.func3, Try.ntmps3
  go_wp2_with fail
  refine (CV.out _).mono ?_; rintro e w1 ⟨rfl, hb1⟩
  have HB1 := Lib.hid hb1
  clear hb1
  go_wp2_with fail
  refine (CO.out _).mono ?_; rintro e w2 ⟨b, p, L, rfl, hR, hb2⟩
  have HB2 := Lib.hid (HB1.out.trans (hb2.mono HB1.out.size)); have HR := Lib.hid hR
  clear hb2 hR
  go_wp2_with fail
  refine (C1.out _ _ _ _ HR.out).mono ?_; rintro e w3 ⟨xs, a, c, hx, hxl, rfl, hst, hb3⟩
  have HB3 := Lib.hid (HB2.out.trans (hb3.mono HB2.out.size)); have HR3 := Lib.hid (HR.out.later hb3)
  have HX := Lib.hid hx; have HST := Lib.hid hst
  obtain ⟨M, hM⟩ : ∃ M, xs.length = M := ⟨_, rfl⟩
  rw [hM, HNL.out] at hxl
  rw [hM]
  have HM := Lib.hid hM
  obtain rfl : M = N + 1 := by omega
  clear hb3 hx hst hM hxl
  go_wp2_with fail
  refine (C2.out _ _ _ _ HR3.out).mono ?_; rintro e w4 ⟨ys, a2, c2, hy, hyl, rfl, hst2, hb4⟩
  have HB4 := Lib.hid (HB3.out.trans (hb4.mono HB3.out.size))
  have HST4 := Lib.hid (StrsH.on HST.out hb4)
  have HY := Lib.hid hy; have HSTY := Lib.hid hst2
  obtain ⟨K, hK⟩ : ∃ K, ys.length = K := ⟨_, rfl⟩
  rw [hK, HNL.out] at hyl
  rw [hK]
  have HK := Lib.hid hK
  have HYL := Lib.hid hyl
  clear hb4 hy hst2 hK hyl
  go_wp2_with fail
  refine (CS.out _).mono ?_; rintro e w5 ⟨gs, cc, rfl, -, -, hb5⟩
  rw [HLEN.out]
  have HB5 := Lib.hid (HB4.out.trans (hb5.mono HB4.out.size))
  have S5 := Lib.hid (StrsH.on HST4.out hb5); have SY5 := Lib.hid (StrsH.on HSTY.out hb5)
  clear hb5
  have hyl := HYL.out
  have hmin : min ((N + 1 : Nat) : Int) (k : Int) = (K : Int) := by omega
  have hmin2 : min ((N : Int) + 1) (k : Int) = (K : Int) := by omega
  have hKN : K ≤ N + 1 := by omega
  clear hyl
  go_wp2
  go_loopw [12] (fun i wr => ∃ j : Nat, j ≤ N + 1 ∧ i = .int .i64 j ∧ Below w5.heap.size w5 wr) (fun i _ => N + 1 - (intOf i).toNat)
  case atStart => exact ⟨0, Nat.zero_le _, rfl, Below.refl _ _⟩
  case round =>
    obtain ⟨j, hj, rfl, hbel⟩ := hrel
    by_cases hlt : j < N + 1
    · obtain ⟨x, hrow, hxs⟩ := CR.out j (by omega)
      have hz5 := hbel.size
      have hj1 : j < xs.length := by rw [HM.out]; exact hlt
      have hx := hxs xs HX.out hj1
      obtain ⟨ad, rfl, hab, q0⟩ := S5.out j hj1
      rw [hx] at q0
      have HQ := Lib.hid (fun W (hW : Below w5.heap.size w5 W) => ((hW.cell (by rw [add_block]; exact hab)).trans q0 : W.cell? (ad.add j) = some (.string x)))
      have HROW := Lib.hid hrow
      have HB := Lib.hid hbel
      have HYS := Lib.hid (hxs ys HY.out)
      clear hx hab q0 hrow hxs hj1 hbel
      go_wp2_with fail
      refine (HROW.out _).mono ?_; rintro e w6 ⟨rfl, hb6⟩
      have hB6 : Below w5.heap.size w5 w6 := HB.out.trans (hb6.mono hz5)
      have q0 := HQ.out w6 hB6
      have b0 : (0 : Int) ≤ (j : Int) := by omega
      have b1 : (j : Int) < ((N + 1 : Nat) : Int) := by omega
      have b2 : (j : Int) < (N : Int) + 1 := by omega
      by_cases hj2 : j < K
      · have hjy : j < ys.length := by rw [HK.out]; exact hj2
        obtain ⟨ad2, rfl, hab2, r0⟩ := SY5.out j hjy
        rw [HYS.out hjy] at r0
        have r1 : w6.cell? (ad2.add j) = some (.string x) := (hB6.cell (by rw [add_block]; exact hab2)).trans r0
        have b3 : (j : Int) < (K : Int) := by omega
        have HB6 := Lib.hid hB6
        clear hab2 r0 hb6 hB6 hjy HROW
        go_wp2
        go_roundw
        case rel => exact ⟨j + 1, by omega, by go_num, HB6.out⟩
        case measure => simp [intOf]; omega
      · have b3 : ¬ (j : Int) < (K : Int) := by omega
        have HB6 := Lib.hid hB6
        clear hb6 hB6 HROW
        go_wp2
        go_roundw
        case rel => exact ⟨j + 1, by omega, by go_num, HB6.out⟩
        case measure => simp [intOf]; omega
    · obtain rfl : j = N + 1 := by omega
      have HB := Lib.hid (HB5.out.trans (hbel.mono HB5.out.size))
      clear hbel
      go_wp2_with fail
      refine (onward HB.out (lives20_any _)).mono ?_; rintro e w6 ⟨rfl, hb6⟩
      go_wp2
      go_ret
      exact ⟨rfl, hb6⟩
end Go.Proofs.Ytlmihooahmgmjaa
