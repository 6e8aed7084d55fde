/-
  Contract of the document's Take: of 1, 2, 3 or 4 bytes the number that they would be, if its bytes are just those: the same rune as the program's.
-/
import Derived.Test.YthboipmlkgmofaaUtfNumber
import Derived.Deep.RegionHeld3
import Derived.Deep.QuietTactic
import Derived.BigQuiet
namespace Go.Proofs.Ythboipmlkgmofaa
open Go.RowKit

/-- Are the first n bytes just those of the number that they would be? -/
def fits (l : List UInt8) (n : Nat) : Prop := 0 ≤ numI (l.take n) ∧ (putS (numI (l.take n))).data.toList = l.take n

theorem putS_list (c : Int) : (putS c).data.toList.length = (putS c).size := by simp
theorem fits_takes (l : List UInt8) (n : Nat) (h1 : 1 ≤ n) (hn : n ≤ l.length) (h : fits l n) : tkl l = ((numI (l.take n)).toNat, n) := by
  obtain ⟨h0, he⟩ := h
  have hlen : (l.take n).length = n := by rw [List.length_take]; omega
  have hs : sz (numI (l.take n)) ≠ 0 := by
    intro hz
    have e : putS (numI (l.take n)) = ⟨#[]⟩ := by unfold putS; rw [if_pos hz]
    rw [e] at he
    rw [← he] at hlen
    simp at hlen; omega
  obtain ⟨_, ht, hsz⟩ := put_takes _ hs
  rw [he] at ht
  have hn' : sz (numI (l.take n)) = n := by rw [← hsz, ← putS_list, he, hlen]
  rw [hn'] at ht
  have := tkl_app (l.take n) (l.drop n) (by rw [ht]; show n ≠ 0; omega)
  rw [List.take_append_drop] at this
  rw [this, ht]
theorem takes_fits (l : List UInt8) (c n : Nat) (h : tkl l = (c, n)) (hn : n ≠ 0) : fits l n := by
  have hne : l ≠ [] := fun e => by subst e; simp [tkl] at h; exact hn h.2.symm
  have hle := tkl_le l
  rw [h] at hle
  simp only at hle
  have hlen : (l.take n).length = n := by rw [List.length_take]; omega
  have b : ∀ i, i < n → bt (l.take n) i = bt l i := fun i hi => bt_take l n i hi
  unfold tkl at h
  rw [if_neg hne] at h
  have m0 := bt_lt l 0; have m1 := bt_lt l 1; have m2 := bt_lt l 2; have m3 := bt_lt l 3
  suffices hN : numI (l.take n) = c ∧ (putS (c : Int)).data.toList = l.take n by
    unfold fits; rw [hN.1]; exact ⟨by omega, hN.2⟩
  rcases tk_cases (bt l 0) (bt l 1) (bt l 2) (bt l 3) with ⟨g1, e⟩ | ⟨g1, g2, g3, g4, e⟩ | ⟨g1, g2, g3, g4, g5, g6, g7, g8, e⟩ | ⟨g1, g2, g3, g4, g5, g6, g7, g8, g9, g10, e⟩ | ⟨_, _, _, _, e⟩
  all_goals rw [e] at h; simp only [Prod.mk.injEq] at h; obtain ⟨hc, rfl⟩ := h
  · refine ⟨by unfold numI; rw [if_pos hlen, b 0 (by omega), hc], ?_⟩
    rw [putS_1 c (by omega) (by omega)]
    refine ext_bt _ _ (by rw [hlen]; simp [strOfNums]) fun i hi => ?_
    have hi' : i < 1 := by simpa [strOfNums] using hi
    obtain rfl : i = 0 := by omega
    rw [bt_nums _ 0 (by simp), b 0 (by omega)]
    simp only [List.getD_cons_zero]; omega
  · refine ⟨by unfold numI; rw [hlen, if_neg (by omega), b 0 (by omega), show baseOf 2 = 192 from rfl, if_neg (by omega)]; simp only [acc]; rw [b (0 + 1 + 0) (by omega)]; simp only [Nat.reduceAdd]; omega, ?_⟩
    rw [putS_2 c (by omega) (by omega)]
    refine ext_bt _ _ (by rw [hlen]; simp [strOfNums]) fun i hi => ?_
    have hi' : i < 2 := by simpa [strOfNums] using hi
    obtain rfl | rfl : i = 0 ∨ i = 1 := by omega
    all_goals rw [bt_nums _ _ (by simp), b _ (by omega)]; simp only [List.getD_cons_zero, List.getD_cons_succ]; omega
  · refine ⟨by unfold numI; rw [hlen, if_neg (by omega), b 0 (by omega), show baseOf 3 = 224 from rfl, if_neg (by omega)]; simp only [acc]; rw [b (0 + 1 + 0) (by omega), b (0 + 1 + 1) (by omega)]; simp only [Nat.reduceAdd]; omega, ?_⟩
    rw [putS_3 c (by omega) (by omega) (by omega)]
    refine ext_bt _ _ (by rw [hlen]; simp [strOfNums]) fun i hi => ?_
    have hi' : i < 3 := by simpa [strOfNums] using hi
    obtain rfl | rfl | rfl : i = 0 ∨ i = 1 ∨ i = 2 := by omega
    all_goals rw [bt_nums _ _ (by simp), b _ (by omega)]; simp only [List.getD_cons_zero, List.getD_cons_succ]; omega
  · refine ⟨by unfold numI; rw [hlen, if_neg (by omega), b 0 (by omega), show baseOf 4 = 240 from rfl, if_neg (by omega)]; simp only [acc]; rw [b (0 + 1 + 0) (by omega), b (0 + 1 + 1) (by omega), b (0 + 1 + 2) (by omega)]; simp only [Nat.reduceAdd]; omega, ?_⟩
    rw [putS_4 c (by omega) (by omega)]
    refine ext_bt _ _ (by rw [hlen]; simp [strOfNums]) fun i hi => ?_
    have hi' : i < 4 := by simpa [strOfNums] using hi
    obtain rfl | rfl | rfl | rfl : i = 0 ∨ i = 1 ∨ i = 2 ∨ i = 3 := by omega
    all_goals rw [bt_nums _ _ (by simp), b _ (by omega)]; simp only [List.getD_cons_zero, List.getD_cons_succ]; omega
  · exact absurd rfl hn
theorem none_fits (l : List UInt8) (h : ∀ n, 1 ≤ n → n ≤ 4 → n ≤ l.length → ¬ fits l n) : tkl l = (0, 0) := by
  obtain ⟨c, n, e⟩ : ∃ c n, tkl l = (c, n) := ⟨_, _, rfl⟩
  by_cases hn : n = 0
  · by_cases hl : l = []
    · subst hl; rfl
    have e' := e
    unfold tkl at e'
    rw [if_neg hl] at e'
    rcases tk_cases (bt l 0) (bt l 1) (bt l 2) (bt l 3) with ⟨g1, g⟩ | ⟨g1, g2, g3, g4, g⟩ | ⟨g1, g2, g3, g4, g5, g6, g7, g8, g⟩ | ⟨g1, g2, g3, g4, g5, g6, g7, g8, g9, g10, g⟩ | ⟨_, _, _, _, g⟩
    all_goals rw [g] at e'; simp only [Prod.mk.injEq] at e'
    all_goals first | omega | skip
    rw [e]; simp [← e'.1, ← e'.2]
  · have h1 := tkl_le l
    rw [e] at h1
    have h4 : n ≤ 4 := by
      have := tk_le (bt l 0) (bt l 1) (bt l 2) (bt l 3)
      unfold tkl at e
      split at e
      · simp at e; omega
      · rw [e] at this; exact this
    exact absurd (takes_fits l c n e hn) (h n (by omega) h4 h1)
theorem numI_le (l : List UInt8) (h4 : l.length ≤ 4) : -1 ≤ numI l ∧ numI l < 2147483647 := by
  have hb := bt_lt l 0
  unfold numI
  split
  · omega
  split
  · omega
  · have := acc_le l (bt l 0 - baseOf l.length) (by omega) (l.length - 1) (by omega)
    omega

def NoFit (l : List UInt8) (j : Nat) : Prop := ∀ n, 1 ≤ n → n < j → n ≤ l.length → ¬ fits l n
theorem nofit_succ {l : List UInt8} {j : Nat} (h : NoFit l j) (g : ¬ fits l j) : NoFit l (j + 1) := fun n h1 h2 h3 => by
  by_cases e : n = j
  · subst e; exact g
  · exact h n h1 (by omega) h3
set_option maxRecDepth 100000 in
set_option maxHeartbeats 1000000 in
theorem rtake_in (s : ByteArray) (hs : s.size ≤ 4294967296) (k : Nat) (hk : k < s.size) (w : World) (r m : Nat) (hR0 : tkl (s.data.toList.drop k) = (r, m)) :
    Calls Try.prog 46 #[.string s, .int .i64 k] w fun e w' => e = .returned (.tuple #[.int .i32 r, .int .i64 m]) ∧ Below w.heap.size w w' := by
  have HR := Lib.hid hR0; clear hR0
  have hlen : (s.data.toList.drop k).length = s.size - k := by simp
  have HN := Lib.hid hlen; clear hlen
  have hd0 : decide (s.size ≤ k) = false := by simp; omega
  have hd1 : decide ((k : Int) < 0) = false := by simp
  go_enter Try.func46, Try.ntmps46
  go_wp2
  go_loopw [6] (fun i wr => ∃ j : Nat, 1 ≤ j ∧ j ≤ 5 ∧ i = .int .i64 j ∧ Below w.heap.size w wr ∧ NoFit (s.data.toList.drop k) j) (fun i _ => 5 - (intOf i).toNat)
  case atStart => exact ⟨1, by omega, by omega, rfl, Below.refl _ _, fun n h1 h2 => by omega⟩
  case round =>
    obtain ⟨j, hj1, hj5, rfl, hbel, hno⟩ := hrel
    have HB := Lib.hid hbel; clear hbel
    by_cases hlt : j ≤ 4 ∧ k + j ≤ s.size
    · obtain ⟨h4, hkj⟩ := hlt
      have hts : (s.extract k (k + j)).size = j := by simp; omega
      have htl : (s.extract k (k + j)).data.toList = (s.data.toList.drop k).take j := by rw [extract_list, Nat.add_sub_cancel_left]
      have hnum := number_any (s.extract k (k + j)) (by omega) (by omega)
      have hle := numI_le (s.extract k (k + j)).data.toList (by rw [htl, List.length_take]; omega)
      obtain ⟨c, hc⟩ : ∃ c, numI (s.extract k (k + j)).data.toList = c := ⟨_, rfl⟩
      rw [hc] at hnum hle
      obtain ⟨hc0, hc1⟩ := hle
      have HNUM := Lib.hid hnum; clear hnum
      have HC := Lib.hid hc; clear hc
      have HT := Lib.hid htl; clear htl
      have HTS := Lib.hid hts; clear hts
      have hkj2 : (k : Int) ≤ (k : Int) + (j : Int) := by omega
      have hkj3 : (k : Int) + (j : Int) ≤ (s.size : Int) := by omega
      have hk0 : (0 : Int) ≤ (k : Int) := by omega
      by_cases hneg : 0 ≤ c
      · by_cases heq : putS c = s.extract k (k + j)
        · have hput := rput_any c (by omega) (by omega)
          rw [heq] at hput
          have hfit : tkl (s.data.toList.drop k) = (c.toNat, j) := by
            have hf := fits_takes (s.data.toList.drop k) j hj1 (by rw [HN.out]; omega) (by
              unfold fits; rw [← HT.out, HC.out, heq]; exact ⟨hneg, rfl⟩)
            rw [← HT.out, HC.out] at hf
            exact hf
          rw [HR.out] at hfit
          simp only [Prod.mk.injEq] at hfit
          clear heq
          have HF := Lib.hid hfit; clear hfit
          have HPUT := Lib.hid hput; clear hput
          go_wp2_with (go_at_call 48; refine (HNUM.out _).mono ?_; rintro e w' ⟨rfl, rfl⟩)
          have z1 : IntKind.i64.wrap ((k : Int) + (j : Int)) = (k : Int) + (j : Int) := IntWalk.i64_in _ (by omega)
          have z2 : IntKind.i32.wrap c = c := IntWalk.i32_in _ (by omega)
          have z3 : ((k : Int) + (j : Int)).toNat = k + j := by omega
          have z4 : (0 : Int) ≤ (k : Int) + (j : Int) := by omega
          go_region_held3 (fun _ => True) (trivial) (first | (go_at_call 49; refine (HPUT.out _).mono ?_; rintro e w1 ⟨rfl, hb1⟩))
          go_wp2
          go_ret2
          refine ⟨ret_two ?_ ?_, HB.out.trans ((Below.refl _ _).drew.trans (hb1.mono ?_))⟩
          · have := HF.out; omega
          · have := HF.out; omega
          · exact HB.out.size
        · have hput := rput_any c (by omega) (by omega)
          obtain ⟨q, hq⟩ : ∃ q, putS c = q := ⟨_, rfl⟩
          rw [hq] at hput heq
          have hnf : ¬ fits (s.data.toList.drop k) j := by
            rintro ⟨_, hf⟩
            rw [← HT.out, HC.out, hq] at hf
            exact heq (ByteArray.ext (Array.toList_inj.1 hf))
          have hne := str_ne heq
          clear hq heq
          have HX := Lib.hid hnf; clear hnf
          have HPUT := Lib.hid hput; clear hput
          go_wp2_with (go_at_call 48; refine (HNUM.out _).mono ?_; rintro e w' ⟨rfl, rfl⟩)
          have z1 : IntKind.i64.wrap ((k : Int) + (j : Int)) = (k : Int) + (j : Int) := IntWalk.i64_in _ (by omega)
          have z2 : IntKind.i32.wrap c = c := IntWalk.i32_in _ (by omega)
          have z3 : ((k : Int) + (j : Int)).toNat = k + j := by omega
          have z4 : (0 : Int) ≤ (k : Int) + (j : Int) := by omega
          go_region_held3 (fun _ => True) (trivial) (first | (go_at_call 49; refine (HPUT.out _).mono ?_; rintro e w1 ⟨rfl, hb1⟩))
          clear z1 z2 z3 z4
          go_wp2
          go_roundw
          case rel => exact ⟨j + 1, by omega, by omega, by go_num, HB.out.trans ((Below.refl _ _).drew.trans (hb1.mono HB.out.size)), nofit_succ hno HX.out⟩
          case measure => simp [intOf]; omega
      · have hnf : ¬ fits (s.data.toList.drop k) j := by
          rintro ⟨hf, _⟩
          rw [← HT.out, HC.out] at hf
          exact hneg hf
        have HX := Lib.hid hnf; clear hnf
        have hd : decide (0 ≤ c) = false := by simp; omega
        go_wp2_with (go_at_call 48; refine (HNUM.out _).mono ?_; rintro e w' ⟨rfl, rfl⟩)
        go_quiet (fail)
        go_wp2
        go_roundw
        case rel => exact ⟨j + 1, by omega, by omega, by go_num, drewN_below HB.out _, nofit_succ hno HX.out⟩
        case measure => simp [intOf]; omega
    · by_cases h4 : j ≤ 4
      · have hkj : ¬ (j : Int) ≤ (s.size : Int) - (k : Int) := by omega
        have h0 : tkl (s.data.toList.drop k) = (0, 0) := none_fits _ fun n h1 h2 h3 => hno n h1 (by rw [HN.out] at h3; omega) h3
        rw [HR.out] at h0
        simp only [Prod.mk.injEq] at h0
        have H0 := Lib.hid h0; clear h0 hlt
        go_wp2
        go_ret2
        exact ⟨ret_two (by rw [H0.out.1]; rfl) (by rw [H0.out.2]; rfl), HB.out⟩
      · have hj : ¬ (j : Int) ≤ 4 := by omega
        have h0 : tkl (s.data.toList.drop k) = (0, 0) := none_fits _ fun n h1 h2 h3 => hno n h1 (by omega) h3
        rw [HR.out] at h0
        simp only [Prod.mk.injEq] at h0
        have H0 := Lib.hid h0; clear h0 hlt
        go_wp2
        go_ret2
        exact ⟨ret_two (by rw [H0.out.1]; rfl) (by rw [H0.out.2]; rfl), HB.out⟩
end Go.Proofs.Ythboipmlkgmofaa
