/-
  Contracts of the program's leaves: Fill, filled, oneByte, first, places.
-/
import Derived.Test.YtibbglmhcjnedaaDoorScanLeaf
import Derived.Test.YtibbglmhcjnedaaDoorFrameDev5
import Derived.Test.YtibbglmhcjnedaaDoorRepeat
import Derived.Deep.QuietTactic
import Derived.BigQuiet
namespace Go.Proofs.YtibbglmhcjnedaaDoor
open Go.RowKit
set_option linter.unusedVariables false

theorem rep_fill (n : Nat) : (⟨(Lib.repeatL (⟨#[255]⟩ : ByteArray).data.toList n).toArray⟩ : ByteArray) = filS n := by
  unfold filS
  have := Lib.repeatL_replicate 255 1 n
  rw [Nat.mul_one] at this
  rw [← this]
  rfl
theorem repeat_fill (n : Nat) (hn : n ≤ 4294967296) (w : World) :
    Calls Tryd.prog 28 #[.string ⟨#[255]⟩, .int .i64 n] w fun e w' => e = .returned (.string (filS n)) ∧ Below w.heap.size w w' := by
  rw [← rep_fill]
  exact Tryd.strings_Repeat ⟨#[255]⟩ n w (by omega) (by show 1 * n ≤ _; omega)
theorem one_string (W : World) (T : TypeId) :
    (convert 46 9 (.slice (some ⟨W.heap.size, 0, none⟩) 1 1)).run Tryd.prog (W.alloc (.cells #[.int .u8 255] T)) = .ok (.string ⟨#[255]⟩) (W.alloc (.cells #[.int .u8 255] T)) := by
  refine run_convert_bytes_back (W.alloc (.cells #[.int .u8 255] T)) 46 9 5 ⟨W.heap.size, 0, none⟩ 1 [255] Tryd.underlying46 Tryd.underlying5 Tryd.underlying9 fun j hj => ?_
  rcases (show j = 0 by simp at hj; omega) with rfl
  exact (Blk.new W #[.int .u8 255] T).cell 0 _ rfl

set_option maxRecDepth 100000 in
set_option maxHeartbeats 400000 in
theorem sfill_any (n : Int) (w : World) :
    Calls Tryd.prog 20 #[.int .i64 n] w fun e w' => e = .returned (.string (filS (filN n))) ∧ Below w.heap.size w w' := by
  have hc := one_string w 46
  obtain ⟨m, hm⟩ : ∃ m, filN n = m := ⟨_, rfl⟩
  rw [hm]
  have hm32 : m ≤ 32 := by unfold filN at hm; split at hm <;> (try split at hm) <;> omega
  have C1 := Lib.hid (repeat_fill m (by omega))
  have hone := one_string w
  by_cases h0 : n < 0
  · have e : m = 0 := by rw [← hm]; exact if_pos h0
    subst e
    have m1 : min n 32 = n := by omega
    have m2 : max 0 n = 0 := by omega
    have z0 : ((0 : Nat) : Int) = 0 := rfl
    clear hm
    go_enter Tryd.func20, Tryd.ntmps20
    go_wp2_with fail
    all_goals
      refine (C1.out _).mono ?_; rintro e w1 ⟨rfl, hb1⟩
      go_wp2
      go_ret
      exact ⟨rfl, below_one (Below.refl _ _) hb1⟩
  · by_cases h1 : 32 < n
    · have e : m = 32 := by rw [← hm]; unfold filN; rw [if_neg h0, if_pos h1]
      subst e
      have m1 : min n 32 = 32 := by omega
      have m2 : max (0 : Int) 32 = 32 := by omega
      have z0 : ((32 : Nat) : Int) = 32 := rfl
      clear hm
      go_enter Tryd.func20, Tryd.ntmps20
      go_wp2_with fail
      all_goals
        refine (C1.out _).mono ?_; rintro e w1 ⟨rfl, hb1⟩
        go_wp2
        go_ret
        exact ⟨rfl, below_one (Below.refl _ _) hb1⟩
    · obtain ⟨k, rfl⟩ := Int.eq_ofNat_of_zero_le (show 0 ≤ n by omega)
      have e : m = k := by rw [← hm]; unfold filN; rw [if_neg h0, if_neg h1]; rfl
      subst e
      have m1 : min (m : Int) 32 = m := by omega
      have m2 : max (0 : Int) m = m := by omega
      clear hm
      go_enter Tryd.func20, Tryd.ntmps20
      go_wp2_with fail
      all_goals
        refine (C1.out _).mono ?_; rintro e w1 ⟨rfl, hb1⟩
        go_wp2
        go_ret
        exact ⟨rfl, below_one (Below.refl _ _) hb1⟩

/-- HasPrefix. -/
def preB (a b : ByteArray) : Bool := decide (b.size ≤ a.size) && decide (a.extract 0 b.size = b)
set_option maxRecDepth 100000 in
set_option maxHeartbeats 400000 in
theorem slprefix_any (a b : ByteArray) (ha : a.size ≤ maxLen) (hb : b.size ≤ maxLen) (w : World) :
    Calls Tryd.prog 48 #[.string a, .string b] w fun e w' => e = .returned (.bool (preB a b)) ∧ w = w' := by
  unfold maxLen at ha hb
  by_cases h : b.size ≤ a.size
  · by_cases h2 : a.extract 0 b.size = b
    · have e : preB a b = true := by unfold preB; simp [h, h2]
      rw [e]
      have h3 : ((a.extract 0 b.size).toList == b.toList) = true := by rw [h2]; simp
      clear h2 e
      go_enter Tryd.func48, Tryd.ntmps48
      go_wp2
      go_ret
      exact ⟨rfl, rfl⟩
    · have e : preB a b = false := by unfold preB; simp [h2]
      rw [e]
      have h3 := str_ne h2
      clear h2 e
      go_enter Tryd.func48, Tryd.ntmps48
      go_wp2
      go_ret
      exact ⟨rfl, rfl⟩
  · have e : preB a b = false := by unfold preB; simp [h]
    rw [e]
    clear e
    go_enter Tryd.func48, Tryd.ntmps48
    go_wp2
    go_ret
    exact ⟨rfl, rfl⟩
set_option maxRecDepth 100000 in
set_option maxHeartbeats 400000 in
theorem sprefix_any (a b : ByteArray) (ha : a.size ≤ maxLen) (hb : b.size ≤ maxLen) (w : World) :
    Calls Tryd.prog 34 #[.string a, .string b] w fun e w' => e = .returned (.bool (preB a b)) ∧ w = w' := by
  have C1 := Lib.hid (slprefix_any a b ha hb)
  go_enter Tryd.func34, Tryd.ntmps34
  go_wp2_with fail
  refine (C1.out _).mono ?_; rintro e w1 ⟨rfl, rfl⟩
  go_wp2
  go_ret
  exact ⟨rfl, rfl⟩

theorem all_replicate : ∀ (l : List UInt8), allF l = true ↔ l = List.replicate l.length 255
  | [] => by simp [allF]
  | a :: r => by
    have ih := all_replicate r
    unfold allF at ih ⊢
    rw [List.all_cons, List.length_cons, List.replicate_succ, Bool.and_eq_true, ih]
    constructor
    · rintro ⟨h1, h2⟩; rw [show a = 255 by simpa using h1, ← h2]
    · intro h; injection h with h1 h2; exact ⟨by simpa using h1, h2⟩
/-- How many bytes fill up from a place on. -/
def stepF (l : List UInt8) (k : Nat) : Nat := if fillL l k = true then upT k - k else 0
theorem pre_fill (s : ByteArray) (k m : Nat) (hk : k ≤ s.size) (hm : k % 32 ≠ 0 → m = 32 - k % 32) (hm0 : k % 32 = 0 → m = 0) : (if preB (s.extract k s.size) (filS m) = true then m else 0) = stepF s.data.toList k := by
  have hl : s.data.toList.length = s.size := by simp
  have hz : (s.extract k s.size).size = s.size - k := by simp
  by_cases h0 : k % 32 = 0
  · have : fillL s.data.toList k = false := by unfold fillL; simp [h0]
    unfold stepF
    rw [this, hm0 h0]; simp
  · obtain ⟨u1, u2, u3⟩ := upT_more h0
    have hm := hm h0
    unfold stepF
    have key : preB (s.extract k s.size) (filS m) = fillL s.data.toList k := by
      unfold preB fillL
      rw [filS_size, hz]
      by_cases hle : m ≤ s.size - k
      · have e1 : decide (m ≤ s.size - k) = true := by simpa using hle
        have e2 : decide (k % 32 ≠ 0) = true := by simpa using h0
        have e3 : decide (upT k ≤ s.data.toList.length) = true := by rw [decide_eq_true_eq]; omega
        rw [e1, e2, e3, Bool.true_and, Bool.true_and, Bool.true_and, u2, ← hm]
        have e4 : ((s.extract k s.size).extract 0 m).data.toList = (s.data.toList.drop k).take m := by
          rw [extract_list, extract_list, List.drop_zero, Nat.sub_zero, List.take_of_length_le (show (s.data.toList.drop k).length ≤ s.size - k by rw [List.length_drop]; omega)]
        have e5 : ((s.data.toList.drop k).take m).length = m := by rw [List.length_take, List.length_drop]; omega
        by_cases hq : (s.extract k s.size).extract 0 m = filS m
        · rw [decide_eq_true hq]
          symm
          rw [all_replicate, ← e4, hq, filS_list]; simp
        · rw [decide_eq_false hq]
          symm
          cases hf : allF ((s.data.toList.drop k).take m) with
          | false => rfl
          | true =>
            rw [all_replicate, e5] at hf
            exact absurd (str_ext (by rw [e4, hf, filS_list])) hq
      · have e1 : decide (m ≤ s.size - k) = false := by simpa using hle
        have e3 : decide (upT k ≤ s.data.toList.length) = false := by rw [decide_eq_false_iff_not]; omega
        rw [e1, e3]; simp
    rw [key, u2, hm]

set_option maxRecDepth 100000 in
set_option maxHeartbeats 400000 in
theorem sfilled_any (s : ByteArray) (hs : s.size ≤ maxLen) (k : Nat) (hk : k ≤ s.size) (w : World) :
    Calls Tryd.prog 24 #[.string s, .int .i64 k] w fun e w' => e = .returned (.int .i64 (stepF s.data.toList k : Nat)) ∧ Below w.heap.size w w' := by
  obtain ⟨m, hm⟩ : ∃ m, (32 - k % 32) % 32 = m := ⟨_, rfl⟩
  have hm32 : m ≤ 32 := by omega
  have hp := pre_fill s k m hk (by omega) (by omega)
  have hz : (s.extract k s.size).size ≤ maxLen := by have : (s.extract k s.size).size = s.size - k := by simp
                                                     unfold maxLen at *; omega
  have c2 := sprefix_any (s.extract k s.size) (filS m) hz (by rw [filS_size]; unfold maxLen; omega)
  have c1 := sfill_any (m : Int)
  rw [show filN (m : Int) = m by unfold filN; rw [if_neg (by omega), if_neg (by omega)]; rfl] at c1
  have hmI : -((k : Int) % 32) % 32 = (m : Int) := by omega
  have hfz := filS_size m
  obtain ⟨q, hq⟩ : ∃ q, preB (s.extract k s.size) (filS m) = q := ⟨_, rfl⟩
  rw [hq] at c2 hp
  rw [← hp]
  have C1 := Lib.hid c1; have C2 := Lib.hid c2; have HZ := Lib.hid hfz; have HM := Lib.hid hmI
  obtain ⟨f, hf⟩ : ∃ f, filS m = f := ⟨_, rfl⟩
  rw [hf] at C1 C2 HZ
  clear c1 c2 hp hq hz hfz hmI hm hf
  unfold maxLen at hs
  go_enter Tryd.func24, Tryd.ntmps24
  have e2 := HM.out
  go_wp2_with fail
  refine (C1.out _).mono ?_; rintro e w1 ⟨rfl, hb1⟩
  go_wp2_with fail
  refine (C2.out _).mono ?_; rintro e w2 ⟨rfl, rfl⟩
  cases q with
  | false =>
    go_wp2
    go_ret
    exact ⟨rfl, hb1⟩
  | true =>
    go_wp2
    go_ret
    exact ⟨ret_int (by have := HZ.out; omega), hb1⟩

/-- One byte, where it does not end. -/
def stepB (l : List UInt8) (k : Nat) : Nat := if k < l.length then 1 else 0
set_option maxRecDepth 100000 in
set_option maxHeartbeats 400000 in
theorem sone_any (s : ByteArray) (hs : s.size ≤ maxLen) (k : Nat) (hk : k ≤ s.size) (w : World) :
    Calls Tryd.prog 27 #[.string s, .int .i64 k] w fun e w' => e = .returned (.int .i64 (stepB s.data.toList k : Nat)) ∧ Below w.heap.size w w' := by
  have hl : s.data.toList.length = s.size := by simp
  unfold stepB
  rw [hl]
  unfold maxLen at hs
  clear hl
  by_cases h : k < s.size
  · rw [if_pos h]
    have m1 : min (1 : Int) ((s.size : Int) - (k : Int)) = 1 := by omega
    go_enter Tryd.func27, Tryd.ntmps27
    go_wp2
    all_goals (go_ret; exact ⟨ret_int (by omega), Below.refl _ _⟩)
  · rw [if_neg h]
    obtain rfl : k = s.size := by omega
    have m1 : min (1 : Int) ((s.size : Int) - (s.size : Int)) = 0 := by omega
    have m2 : (s.size : Int) - (s.size : Int) = 0 := by omega
    go_enter Tryd.func27, Tryd.ntmps27
    go_wp2
    all_goals (go_ret; exact ⟨ret_int (by omega), Below.refl _ _⟩)
end Go.Proofs.YtibbglmhcjnedaaDoor
