/-
  Contract of the document's Take: of 1, 2, 3 or 4 bytes the number that they would be, if its bytes are just those: the same rune as the program's.
-/
import Derived.Test.YtapkkbiodfeooaaUtfNumber
import Derived.Deep.RegionHeld3
import Derived.Deep.QuietTactic
import Derived.BigQuiet
namespace Go.Proofs.Ytapkkbiodfeooaa
open Go.RowKit

/-- Are the first n bytes just those of the number that they would be? -/
def fits (l : List UInt8) (n : Nat) : Prop := 0 ≤ numI (l.take n) ∧ (putS (numI (l.take n))).data.toList = l.take n

theorem putS_list (c : Int) : (putS c).data.toList.length = (putS c).size := by simp
theorem fits_takes (l : List UInt8) (n : Nat) (h1 : 1 ≤ n) (hn : n ≤ l.length) (h : fits l n) : tkl l = ((numI (l.take n)).toNat, n) := by
  obtain ⟨h0, he⟩ := h
  have hlen : (l.take n).length = n := by rw [List.length_take]; omega
  have hs : sz (numI (l.take n)) ≠ 0 := by
    intro hz
    have e : putS (numI (l.take n)) = ⟨#[]⟩ := by unfold putS; rw [if_pos hz]
    rw [e] at he
    rw [← he] at hlen
    simp at hlen; omega
  obtain ⟨_, ht, hsz⟩ := put_takes _ hs
  rw [he] at ht
  have hn' : sz (numI (l.take n)) = n := by rw [← hsz, ← putS_list, he, hlen]
  rw [hn'] at ht
  have := tkl_app (l.take n) (l.drop n) (by rw [ht]; show n ≠ 0; omega)
  rw [List.take_append_drop] at this
  rw [this, ht]
theorem takes_fits (l : List UInt8) (c n : Nat) (h : tkl l = (c, n)) (hn : n ≠ 0) : fits l n := by
  have hne : l ≠ [] := fun e => by subst e; simp [tkl] at h; exact hn h.2.symm
  have hle := tkl_le l
  rw [h] at hle
  simp only at hle
  have hlen : (l.take n).length = n := by rw [List.length_take]; omega
  have b : ∀ i, i < n → bt (l.take n) i = bt l i := fun i hi => bt_take l n i hi
  unfold tkl at h
  rw [if_neg hne] at h
  have m0 := bt_lt l 0; have m1 := bt_lt l 1; have m2 := bt_lt l 2; have m3 := bt_lt l 3
  suffices hN : numI (l.take n) = c ∧ (putS (c : Int)).data.toList = l.take n by
    unfold fits; rw [hN.1]; exact ⟨by omega, hN.2⟩
  rcases tk_cases (bt l 0) (bt l 1) (bt l 2) (bt l 3) with ⟨g1, e⟩ | ⟨g1, g2, g3, g4, e⟩ | ⟨g1, g2, g3, g4, g5, g6, g7, g8, e⟩ | ⟨g1, g2, g3, g4, g5, g6, g7, g8, g9, g10, e⟩ | ⟨_, _, _, _, e⟩
  all_goals rw [e] at h; simp only [Prod.mk.injEq] at h; obtain ⟨hc, rfl⟩ := h
  · refine ⟨by unfold numI; rw [if_pos hlen, b 0 (by omega), hc], ?_⟩
    rw [putS_1 c (by omega) (by omega)]
    refine ext_bt _ _ (by rw [hlen]; simp [strOfNums]) fun i hi => ?_
    have hi' : i < 1 := by simpa [strOfNums] using hi
    obtain rfl : i = 0 := by omega
    rw [bt_nums _ 0 (by simp), b 0 (by omega)]
    simp only [List.getD_cons_zero]; omega
  · refine ⟨by unfold numI; rw [hlen, if_neg (by omega), b 0 (by omega), show baseOf 2 = 192 from rfl, if_neg (by omega)]; simp only [acc]; rw [b (0 + 1 + 0) (by omega)]; simp only [Nat.reduceAdd]; omega, ?_⟩
    rw [putS_2 c (by omega) (by omega)]
    refine ext_bt _ _ (by rw [hlen]; simp [strOfNums]) fun i hi => ?_
    have hi' : i < 2 := by simpa [strOfNums] using hi
    obtain rfl | rfl : i = 0 ∨ i = 1 := by omega
    all_goals rw [bt_nums _ _ (by simp), b _ (by omega)]; simp only [List.getD_cons_zero, List.getD_cons_succ]; omega
  · refine ⟨by unfold numI; rw [hlen, if_neg (by omega), b 0 (by omega), show baseOf 3 = 224 from rfl, if_neg (by omega)]; simp only [acc]; rw [b (0 + 1 + 0) (by omega), b (0 + 1 + 1) (by omega)]; simp only [Nat.reduceAdd]; omega, ?_⟩
    rw [putS_3 c (by omega) (by omega) (by omega)]
    refine ext_bt _ _ (by rw [hlen]; simp [strOfNums]) fun i hi => ?_
    have hi' : i < 3 := by simpa [strOfNums] using hi
    obtain rfl | rfl | rfl : i = 0 ∨ i = 1 ∨ i = 2 := by omega
    all_goals rw [bt_nums _ _ (by simp), b _ (by omega)]; simp only [List.getD_cons_zero, List.getD_cons_succ]; omega
  · refine ⟨by unfold numI; rw [hlen, if_neg (by omega), b 0 (by omega), show baseOf 4 = 240 from rfl, if_neg (by omega)]; simp only [acc]; rw [b (0 + 1 + 0) (by omega), b (0 + 1 + 1) (by omega), b (0 + 1 + 2) (by omega)]; simp only [Nat.reduceAdd]; omega, ?_⟩
    rw [putS_4 c (by omega) (by omega)]
    refine ext_bt _ _ (by rw [hlen]; simp [strOfNums]) fun i hi => ?_
    have hi' : i < 4 := by simpa [strOfNums] using hi
    obtain rfl | rfl | rfl | rfl : i = 0 ∨ i = 1 ∨ i = 2 ∨ i = 3 := by omega
    all_goals rw [bt_nums _ _ (by simp), b _ (by omega)]; simp only [List.getD_cons_zero, List.getD_cons_succ]; omega
  · exact absurd rfl hn
theorem none_fits (l : List UInt8) (h : ∀ n, 1 ≤ n → n ≤ 4 → n ≤ l.length → ¬ fits l n) : tkl l = (0, 0) := by
  obtain ⟨c, n, e⟩ : ∃ c n, tkl l = (c, n) := ⟨_, _, rfl⟩
  by_cases hn : n = 0
  · by_cases hl : l = []
    · subst hl; rfl
    have e' := e
    unfold tkl at e'
    rw [if_neg hl] at e'
    rcases tk_cases (bt l 0) (bt l 1) (bt l 2) (bt l 3) with ⟨g1, g⟩ | ⟨g1, g2, g3, g4, g⟩ | ⟨g1, g2, g3, g4, g5, g6, g7, g8, g⟩ | ⟨g1, g2, g3, g4, g5, g6, g7, g8, g9, g10, g⟩ | ⟨_, _, _, _, g⟩
    all_goals rw [g] at e'; simp only [Prod.mk.injEq] at e'
    all_goals first | omega | skip
    rw [e]; simp [← e'.1, ← e'.2]
  · have h1 := tkl_le l
    rw [e] at h1
    have h4 : n ≤ 4 := by
      have := tk_le (bt l 0) (bt l 1) (bt l 2) (bt l 3)
      unfold tkl at e
      split at e
      · simp at e; omega
      · rw [e] at this; exact this
    exact absurd (takes_fits l c n e hn) (h n (by omega) h4 h1)
theorem numI_le (l : List UInt8) (h4 : l.length ≤ 4) : -1 ≤ numI l ∧ numI l < 2147483647 := by
  have hb := bt_lt l 0
  unfold numI
  split
  · omega
  split
  · omega
  · have := acc_le l (bt l 0 - baseOf l.length) (by omega) (l.length - 1) (by omega)
    omega

def NoFit (l : List UInt8) (j : Nat) : Prop := ∀ n, 1 ≤ n → n < j → n ≤ l.length → ¬ fits l n
theorem nofit_succ {l : List UInt8} {j : Nat} (h : NoFit l j) (g : ¬ fits l j) : NoFit l (j + 1) := fun n h1 h2 h3 => by
  by_cases e : n = j
  · subst e; exact g
  · exact h n h1 (by omega) h3
end Go.Proofs.Ytapkkbiodfeooaa
