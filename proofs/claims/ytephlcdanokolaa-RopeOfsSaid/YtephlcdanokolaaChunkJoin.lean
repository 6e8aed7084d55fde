/-
  Contracts of Join, the program's and the document's (layer 15).
-/
import Derived.Test.YtephlcdanokolaaChunkDev
namespace Go.Proofs.Ytephlcdanokolaa
open Go.RowKit
set_option linter.unusedVariables false

theorem join_nil {a b : ByteArray} (h : ¬ (fitsB a = true ∧ fitsB b = true)) : joinL a b = [] := by unfold joinL; rw [if_neg h]
theorem join_one {a b : ByteArray} (h : fitsB a = true ∧ fitsB b = true) (h1 : (a ++ b).size ≤ 16) : joinL a b = [a ++ b] := by unfold joinL; rw [if_pos h, if_pos h1]
theorem join_half {a b : ByteArray} (h : fitsB a = true ∧ fitsB b = true) (h1 : ¬ (a ++ b).size ≤ 16) (h2 : fitsB ((a ++ b).extract 0 (halfN (a ++ b))) = true ∧ fitsB ((a ++ b).extract (halfN (a ++ b)) (a ++ b).size) = true) :
    joinL a b = [(a ++ b).extract 0 (halfN (a ++ b)), (a ++ b).extract (halfN (a ++ b)) (a ++ b).size] := by unfold joinL; rw [if_pos h, if_neg h1, if_pos h2]
theorem join_same {a b : ByteArray} (h : fitsB a = true ∧ fitsB b = true) (h1 : ¬ (a ++ b).size ≤ 16) (h2 : ¬ (fitsB ((a ++ b).extract 0 (halfN (a ++ b))) = true ∧ fitsB ((a ++ b).extract (halfN (a ++ b)) (a ++ b).size) = true)) :
    joinL a b = [a, b] := by unfold joinL; rw [if_pos h, if_neg h1, if_neg h2]
theorem ret_nil {w w' : World} (h : Below w.heap.size w w') : RetStrs w [] (.returned (.slice none 0 0)) w' := ⟨none, 0, rfl, fun k hk => absurd hk (by simp), h⟩
theorem ret_one {w w1 : World} {x : ByteArray} {t : TypeId} (h : Below w.heap.size w w1) : RetStrs w [x] (.returned (.slice (some ⟨w1.heap.size, 0, none⟩) 1 1)) (w1.alloc (.cells #[.string x] t)) :=
  ⟨_, 1, rfl, strs_one (Below.refl _ _), h.alloc h.size _⟩
theorem ret_pair {w w1 : World} {x y : ByteArray} {t : TypeId} (h : Below w.heap.size w w1) : RetStrs w [x, y] (.returned (.slice (some ⟨w1.heap.size, 0, none⟩) 2 2)) (w1.alloc (.cells #[.string x, .string y] t)) :=
  ⟨_, 2, rfl, strs_two (Below.refl _ _), h.alloc h.size _⟩

set_option maxRecDepth 100000 in
set_option maxHeartbeats 800000 in
theorem join_any (a b : ByteArray) (ha : a.size ≤ 1000000) (hb : b.size ≤ 1000000) (w : World) :
    Calls Try.prog 61 #[.string a, .string b] w (RetStrs w (joinL a b)) := by
  have ca := fits_any a (by first | omega | (unfold maxLen; omega))
  have cb := fits_any b (by first | omega | (unfold maxLen; omega))
  have hb0 := Below.refl w.heap.size w
  by_cases h1 : fitsB a = true
  · by_cases h2 : fitsB b = true
    · have s1 := ((fitsB_iff _).1 h1).2.1
      have s2 := ((fitsB_iff _).1 h2).2.1
      have hz : (a ++ b).size = a.size + b.size := ByteArray.size_append
      by_cases h3 : (a ++ b).size ≤ 16
      · rw [join_one ⟨h1, h2⟩ h3]
        rw [h1] at ca
        rw [h2] at cb
        have d1 : a.size + b.size ≤ 16 := by omega
        have d2 : (a.size : Int) + (b.size : Int) ≤ 16 := by omega
        have CA := Lib.hid ca; have CB := Lib.hid cb; have CS := Lib.hid (short_yes (a ++ b) h3)
        clear ca cb h1 h2 h3 hz
        go_enter Try.func61, Try.ntmps61
        go_wp2_with fail
        refine (onward (w0 := w) hb0 (CA.out _)).mono ?_; rintro e w1 ⟨rfl, hb1⟩
        go_wp2_with fail
        refine (onward (w0 := w) hb1 (CB.out _)).mono ?_; rintro e w2 ⟨rfl, hb2⟩
        go_wp2_with fail
        refine (CS.out _).mono ?_; rintro e w9 ⟨rfl, rfl⟩
        go_wp2
        go_ret
        exact ret_one hb2
      · have ch := half_any (a ++ b) (by omega)
        have hx := piece_size (a ++ b) (halfN (a ++ b)) (halfN_le _)
        have hy := rest_size (a ++ b) (halfN (a ++ b))
        have hn := halfN_le (a ++ b)
        have cx := fits_any ((a ++ b).extract 0 (halfN (a ++ b))) (by first | omega | (unfold maxLen; omega))
        have cy := fits_any ((a ++ b).extract (halfN (a ++ b)) (a ++ b).size) (by first | omega | (unfold maxLen; omega))
        have j1 := fun h => join_half ⟨h1, h2⟩ h3 h
        have j2 := fun h => join_same ⟨h1, h2⟩ h3 h
        obtain ⟨x, hxx⟩ : ∃ x, (a ++ b).extract 0 (halfN (a ++ b)) = x := ⟨_, rfl⟩
        obtain ⟨y, hyy⟩ : ∃ y, (a ++ b).extract (halfN (a ++ b)) (a ++ b).size = y := ⟨_, rfl⟩
        simp only [hxx] at ch cx j1 j2
        simp only [hyy] at ch cy j1 j2
        rw [h1] at ca
        rw [h2] at cb
        have d1 : ¬ a.size + b.size ≤ 16 := by omega
        have d2 : ¬ (a.size : Int) + (b.size : Int) ≤ 16 := by omega
        have CA := Lib.hid ca; have CB := Lib.hid cb; have CH := Lib.hid ch; have CS := Lib.hid (short_no (a ++ b) h3)
        clear ca cb ch h1 h2 h3 hz hx hy hn hxx hyy
        by_cases g1 : fitsB x = true
        · rw [g1] at cx
          by_cases g2 : fitsB y = true
          · rw [j1 ⟨g1, g2⟩]
            rw [g2] at cy
            have CX := Lib.hid cx; have CY := Lib.hid cy
            clear cx cy g1 g2 j1 j2
            go_enter Try.func61, Try.ntmps61
            go_wp2_with fail
            refine (onward (w0 := w) hb0 (CA.out _)).mono ?_; rintro e w1 ⟨rfl, hb1⟩
            go_wp2_with fail
            refine (onward (w0 := w) hb1 (CB.out _)).mono ?_; rintro e w2 ⟨rfl, hb2⟩
            go_wp2_with fail
            refine (CS.out _).mono ?_; rintro e w9 ⟨rfl, rfl⟩
            go_wp2_with fail
            refine (onward (w0 := w) hb2 (CH.out _)).mono ?_; rintro e w3 ⟨rfl, hb3⟩
            go_wp2_with fail
            refine (onward (w0 := w) hb3 (CX.out _)).mono ?_; rintro e w4 ⟨rfl, hb4⟩
            go_wp2_with fail
            refine (onward (w0 := w) hb4 (CY.out _)).mono ?_; rintro e w5 ⟨rfl, hb5⟩
            go_wp2
            go_ret
            exact ret_pair hb5
          · rw [j2 (fun h => g2 h.2)]
            rw [Bool.eq_false_iff.2 g2] at cy
            have CX := Lib.hid cx; have CY := Lib.hid cy
            clear cx cy g1 g2 j1 j2
            go_enter Try.func61, Try.ntmps61
            go_wp2_with fail
            refine (onward (w0 := w) hb0 (CA.out _)).mono ?_; rintro e w1 ⟨rfl, hb1⟩
            go_wp2_with fail
            refine (onward (w0 := w) hb1 (CB.out _)).mono ?_; rintro e w2 ⟨rfl, hb2⟩
            go_wp2_with fail
            refine (CS.out _).mono ?_; rintro e w9 ⟨rfl, rfl⟩
            go_wp2_with fail
            refine (onward (w0 := w) hb2 (CH.out _)).mono ?_; rintro e w3 ⟨rfl, hb3⟩
            go_wp2_with fail
            refine (onward (w0 := w) hb3 (CX.out _)).mono ?_; rintro e w4 ⟨rfl, hb4⟩
            go_wp2_with fail
            refine (onward (w0 := w) hb4 (CY.out _)).mono ?_; rintro e w5 ⟨rfl, hb5⟩
            go_wp2
            go_ret
            exact ret_pair hb5
        · rw [j2 (fun h => g1 h.1)]
          rw [Bool.eq_false_iff.2 g1] at cx
          have CX := Lib.hid cx
          clear cx cy g1 j1 j2
          go_enter Try.func61, Try.ntmps61
          go_wp2_with fail
          refine (onward (w0 := w) hb0 (CA.out _)).mono ?_; rintro e w1 ⟨rfl, hb1⟩
          go_wp2_with fail
          refine (onward (w0 := w) hb1 (CB.out _)).mono ?_; rintro e w2 ⟨rfl, hb2⟩
          go_wp2_with fail
          refine (CS.out _).mono ?_; rintro e w9 ⟨rfl, rfl⟩
          go_wp2_with fail
          refine (onward (w0 := w) hb2 (CH.out _)).mono ?_; rintro e w3 ⟨rfl, hb3⟩
          go_wp2_with fail
          refine (onward (w0 := w) hb3 (CX.out _)).mono ?_; rintro e w4 ⟨rfl, hb4⟩
          go_wp2
          go_ret
          exact ret_pair hb4
    · rw [join_nil (fun h => h2 h.2)]
      rw [h1] at ca
      rw [Bool.eq_false_iff.2 h2] at cb
      have CA := Lib.hid ca; have CB := Lib.hid cb
      clear ca cb h1 h2
      go_enter Try.func61, Try.ntmps61
      go_wp2_with fail
      refine (onward (w0 := w) hb0 (CA.out _)).mono ?_; rintro e w1 ⟨rfl, hb1⟩
      go_wp2_with fail
      refine (onward (w0 := w) hb1 (CB.out _)).mono ?_; rintro e w2 ⟨rfl, hb2⟩
      go_wp2
      go_ret
      exact ret_nil hb2
  · rw [join_nil (fun h => h1 h.1)]
    rw [Bool.eq_false_iff.2 h1] at ca
    have CA := Lib.hid ca
    clear ca cb h1
    go_enter Try.func61, Try.ntmps61
    go_wp2_with fail
    refine (onward (w0 := w) hb0 (CA.out _)).mono ?_; rintro e w1 ⟨rfl, hb1⟩
    go_wp2
    go_ret
    exact ret_nil hb1

end Go.Proofs.Ytephlcdanokolaa
