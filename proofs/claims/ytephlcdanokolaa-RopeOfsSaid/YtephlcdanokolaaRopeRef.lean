/-
  What Insert, Delete and Slice of a text answer; contracts of the document's.
-/
import Derived.Test.YtephlcdanokolaaRopeDev
import Derived.Deep.QuietTactic
import Derived.BigQuiet
namespace Go.Proofs.Ytephlcdanokolaa
open Go.RowKit
set_option linter.unusedVariables false
set_option linter.unusedSimpArgs false

theorem bool_yes {b : Bool} (h : ¬ b = false) : b = true := by cases b with
  | false => exact absurd rfl h
  | true => rfl
/-- Do so many bytes stand from a place on? -/
def standB (z : Nat) (i n : Int) : Bool := decide (0 ≤ i ∧ 0 ≤ n ∧ n ≤ (z : Int) - i)
/-- What Insert tells. -/
def insE (s : ByteArray) (i : Int) (x : ByteArray) : Int :=
  if standB s.size i 0 = false then 3 else if edgeB s.data.toList i = false then 4 else if vldB x.data.toList = false then 5 else if 4096 < s.size + x.size then 6 else 0
def insS (s : ByteArray) (i : Int) (x : ByteArray) : ByteArray := if insE s i x = 0 then s.extract 0 i.toNat ++ x ++ s.extract i.toNat s.size else ⟨#[]⟩
/-- What Delete tells. -/
def delE (s : ByteArray) (i n : Int) : Int :=
  if standB s.size i n = false then 3 else if edgeB s.data.toList i = false ∨ edgeB s.data.toList (i + n) = false then 4 else 0
def delS (s : ByteArray) (i n : Int) : ByteArray := if delE s i n = 0 then s.extract 0 i.toNat ++ s.extract (i + n).toNat s.size else ⟨#[]⟩
theorem stand_iff {z : Nat} {i n : Int} : standB z i n = true ↔ (0 ≤ i ∧ 0 ≤ n ∧ n ≤ (z : Int) - i) := by unfold standB; rw [decide_eq_true_eq]
theorem stand_no {z : Nat} {i n : Int} : standB z i n = false ↔ ¬ (0 ≤ i ∧ 0 ≤ n ∧ n ≤ (z : Int) - i) := by unfold standB; rw [decide_eq_false_iff_not]
theorem insE_zero {s : ByteArray} {i : Int} {x : ByteArray} (h : insE s i x = 0) : standB s.size i 0 = true ∧ edgeB s.data.toList i = true ∧ vldB x.data.toList = true ∧ s.size + x.size ≤ 4096 := by
  unfold insE at h
  split at h
  · cases h
  split at h
  · cases h
  split at h
  · cases h
  split at h
  · cases h
  rename_i h1 h2 h3 h4
  exact ⟨by simpa using h1, by simpa using h2, by simpa using h3, by omega⟩
theorem delE_zero {s : ByteArray} {i n : Int} (h : delE s i n = 0) : standB s.size i n = true ∧ edgeB s.data.toList i = true ∧ edgeB s.data.toList (i + n) = true := by
  unfold delE at h
  split at h
  · cases h
  split at h
  · cases h
  rename_i h1 h2
  refine ⟨by simpa using h1, ?_, ?_⟩
  · cases hh : edgeB s.data.toList i with
    | false => exact absurd (.inl hh) h2
    | true => rfl
  · cases hh : edgeB s.data.toList (i + n) with
    | false => exact absurd (.inr hh) h2
    | true => rfl
theorem ret_se {a b : ByteArray} {c d : Int} (h1 : a = b) (h2 : c = d) : Ending.returned (.tuple #[.string a, .int .i64 c]) = .returned (.tuple #[.string b, .int .i64 d]) := by rw [h1, h2]

set_option maxRecDepth 100000 in
set_option maxHeartbeats 800000 in
theorem rslice_no {s : ByteArray} {i n : Int} (hs : s.size ≤ 4096) (hi : i64P i) (h : standB s.size i n = false) (w : World) :
    Calls Try.prog 31 #[.string s, .int .i64 i, .int .i64 n] w fun e w' => e = .returned (.tuple #[.string ⟨#[]⟩, .int .i64 3]) ∧ Below w.heap.size w w' := by
  rw [stand_no] at h
  unfold i64P at hi
  by_cases h0 : i < 0
  · clear h hi
    go_enter Try.func31, Try.ntmps31
    go_wp2
    go_ret2
    exact ⟨rfl, Below.refl _ _⟩
  by_cases h1 : n < 0
  · clear h hi
    go_enter Try.func31, Try.ntmps31
    go_wp2
    go_ret2
    exact ⟨rfl, Below.refl _ _⟩
  by_cases h2 : (s.size : Int) < i
  · clear h hi
    go_enter Try.func31, Try.ntmps31
    go_wp2
    go_ret2
    exact ⟨rfl, Below.refl _ _⟩
  have h3 : (s.size : Int) - i < n := by omega
  clear h
  obtain ⟨k, rfl⟩ := Int.eq_ofNat_of_zero_le (show 0 ≤ i by omega)
  obtain ⟨m, rfl⟩ := Int.eq_ofNat_of_zero_le (show 0 ≤ n by omega)
  go_enter Try.func31, Try.ntmps31
  go_wp2
  go_ret2
  exact ⟨rfl, Below.refl _ _⟩
set_option maxRecDepth 100000 in
set_option maxHeartbeats 800000 in
theorem rslice_yes {s : ByteArray} {k m : Nat} (hs : s.size ≤ 4096) (h : k + m ≤ s.size) (w : World) :
    Calls Try.prog 31 #[.string s, .int .i64 k, .int .i64 m] w fun e w' => e = .returned (.tuple #[.string (s.extract k (k + m)), .int .i64 0]) ∧ Below w.heap.size w w' := by
  have h0 : (0 : Int) ≤ (k : Int) := by omega
  have h1 : (0 : Int) ≤ (m : Int) := by omega
  have h2 : (k : Int) ≤ (s.size : Int) := by omega
  have h3 : (m : Int) ≤ (s.size : Int) - (k : Int) := by omega
  have h4 : ((k : Int) + (m : Int)) ≤ (s.size : Int) := by omega
  have h5 : (k : Int) ≤ (k : Int) + (m : Int) := by omega
  have h6 : ((k : Int) + (m : Int)).toNat = k + m := by omega
  have h7 : (0 : Int) ≤ (k : Int) + (m : Int) := by omega
  go_enter Try.func31, Try.ntmps31
  go_wp2
  go_ret2
  exact ⟨ret_se (by simp [h6]) rfl, Below.refl _ _⟩

theorem rslice_any {s : ByteArray} {i n : Int} (hs : s.size ≤ 4096) (hi : i64P i) (w : World) :
    Calls Try.prog 31 #[.string s, .int .i64 i, .int .i64 n] w fun e w' => (∃ t, e = .returned (.tuple #[.string t, .int .i64 (if standB s.size i n = true then 0 else 3)])) ∧ Below w.heap.size w w' := by
  by_cases h : standB s.size i n = true
  · rw [if_pos h]
    obtain ⟨h1, h2, h3⟩ := stand_iff.1 h
    obtain ⟨k, rfl⟩ := Int.eq_ofNat_of_zero_le h1
    obtain ⟨m, rfl⟩ := Int.eq_ofNat_of_zero_le h2
    exact (rslice_yes hs (by omega) w).mono fun e w' ⟨h, hb⟩ => ⟨⟨_, h⟩, hb⟩
  · rw [if_neg h]
    exact (rslice_no hs hi (Bool.eq_false_iff.2 h) w).mono fun e w' ⟨h, hb⟩ => ⟨⟨_, h⟩, hb⟩

set_option maxRecDepth 100000 in
set_option maxHeartbeats 1600000 in
theorem rins_any {s x : ByteArray} {i : Int} (hs : s.size ≤ 4096) (hx : x.size ≤ 1000000) (hi : i64P i) (w : World) :
    Calls Try.prog 15 #[.string s, .int .i64 i, .string x] w fun e w' => e = .returned (.tuple #[.string (insS s i x), .int .i64 (insE s i x)]) ∧ Below w.heap.size w w' := by
  by_cases hst : standB s.size i 0 = false
  · have hE : insE s i x = 3 := by unfold insE; rw [if_pos hst]
    have hS : insS s i x = ⟨#[]⟩ := by unfold insS; rw [hE, if_neg (by decide)]
    rw [hE, hS]
    rw [stand_no] at hst
    clear hE hS
    by_cases h0 : i < 0
    · clear hst
      go_enter Try.func15, Try.ntmps15
      go_wp2
      go_ret2
      exact ⟨rfl, Below.refl _ _⟩
    · have h1 : (s.size : Int) < i := by omega
      clear hst
      go_enter Try.func15, Try.ntmps15
      go_wp2
      go_ret2
      exact ⟨rfl, Below.refl _ _⟩
  have hst := bool_yes hst
  obtain ⟨h1, -, h2⟩ := stand_iff.1 hst
  obtain ⟨k, rfl⟩ := Int.eq_ofNat_of_zero_le h1
  have hk : k ≤ s.size := by omega
  have g1 : ¬ (k : Int) < 0 := by omega
  have g2 : (k : Int) ≤ (s.size : Int) := by omega
  have g3 : decide ((s.size : Int) < (k : Int)) = false := decide_eq_false (by omega)
  have g4 : decide (s.size < k) = false := decide_eq_false (by omega)
  have ce := redge_any s (by unfold maxLen; omega) k
  have cv := rvalid_any x (by omega)
  by_cases he : edgeB s.data.toList k = false
  · have hE : insE s k x = 4 := by unfold insE; rw [if_neg (by rw [hst]; decide), if_pos he]
    have hS : insS s k x = ⟨#[]⟩ := by unfold insS; rw [hE, if_neg (by decide)]
    rw [hE, hS]
    rw [he] at ce
    have CE := Lib.hid ce
    clear hE hS ce cv he hst h1 h2
    go_enter Try.func15, Try.ntmps15
    go_wp2_with fail
    refine (CE.out _).mono ?_; rintro e w1 ⟨rfl, rfl⟩
    go_wp2
    go_ret2
    exact ⟨rfl, Below.refl _ _⟩
  have he := bool_yes he
  rw [he] at ce
  by_cases hv : vldB x.data.toList = false
  · have hE : insE s k x = 5 := by unfold insE; rw [if_neg (by rw [hst]; decide), if_neg (by rw [he]; decide), if_pos hv]
    have hS : insS s k x = ⟨#[]⟩ := by unfold insS; rw [hE, if_neg (by decide)]
    rw [hE, hS]
    rw [hv] at cv
    have CE := Lib.hid ce; have CV := Lib.hid cv
    clear hE hS ce cv he hv hst h1 h2
    go_enter Try.func15, Try.ntmps15
    go_wp2_with fail
    refine (CE.out _).mono ?_; rintro e w1 ⟨rfl, rfl⟩
    go_wp2_with fail
    refine (CV.out _).mono ?_; rintro e w2 ⟨rfl, hb2⟩
    go_wp2
    go_ret2
    exact ⟨rfl, hb2⟩
  have hv := bool_yes hv
  rw [hv] at cv
  by_cases hl : 4096 < s.size + x.size
  · have hE : insE s k x = 6 := by unfold insE; rw [if_neg (by rw [hst]; decide), if_neg (by rw [he]; decide), if_neg (by rw [hv]; decide), if_pos hl]
    have hS : insS s k x = ⟨#[]⟩ := by unfold insS; rw [hE, if_neg (by decide)]
    rw [hE, hS]
    have g5 : (4096 : Int) < (s.size : Int) + (x.size : Int) := by omega
    have CE := Lib.hid ce; have CV := Lib.hid cv
    clear hE hS ce cv he hv hst h1 h2
    go_enter Try.func15, Try.ntmps15
    go_wp2_with fail
    refine (CE.out _).mono ?_; rintro e w1 ⟨rfl, rfl⟩
    go_wp2_with fail
    refine (CV.out _).mono ?_; rintro e w2 ⟨rfl, hb2⟩
    go_wp2
    go_ret2
    exact ⟨rfl, hb2⟩
  · have hE : insE s k x = 0 := by unfold insE; rw [if_neg (by rw [hst]; decide), if_neg (by rw [he]; decide), if_neg (by rw [hv]; decide), if_neg hl]
    have hS : insS s k x = s.extract 0 k ++ x ++ s.extract k s.size := by unfold insS; rw [hE, if_pos rfl]; rfl
    rw [hE, hS]
    have g5 : (s.size : Int) + (x.size : Int) ≤ 4096 := by omega
    have CE := Lib.hid ce; have CV := Lib.hid cv
    clear hE hS ce cv he hv hst h1 h2
    have y1 := piece_size s k hk
    have y2 := rest_size s k
    have y3 : ¬ 9223372036854775807 < (s.extract 0 k).size + x.size := by rw [y1]; omega
    have y4 : ¬ 9223372036854775807 < k + x.size := by omega
    have y5 : ¬ 9223372036854775807 < (s.extract 0 k ++ x).size + (s.extract k s.size).size := by rw [ByteArray.size_append, y1, y2]; omega
    have y6 : ¬ 9223372036854775807 < k + x.size + (s.size - k) := by omega
    have Y := Lib.hid (And.intro y1 (And.intro y2 (And.intro y3 (And.intro y4 (And.intro y5 y6)))))
    clear y1 y2 y3 y4 y5 y6
    go_enter Try.func15, Try.ntmps15
    go_wp2_with fail
    refine (CE.out _).mono ?_; rintro e w1 ⟨rfl, rfl⟩
    go_wp2_with fail
    refine (CV.out _).mono ?_; rintro e w2 ⟨rfl, hb2⟩
    have HB2 := Lib.hid hb2
    clear hb2
    obtain ⟨y1, y2, y3, y4, y5, y6⟩ := Y.out
    go_wp2_with fail
    go_quiet (fail)
    clear y1 y2 y3 y4 y5 y6
    go_wp2
    go_ret2
    exact ⟨rfl, drewN_below HB2.out _⟩

set_option maxRecDepth 100000 in
set_option maxHeartbeats 1600000 in
theorem rdel_any {s : ByteArray} {i n : Int} (hs : s.size ≤ 4096) (hi : i64P i) (w : World) :
    Calls Try.prog 13 #[.string s, .int .i64 i, .int .i64 n] w fun e w' => e = .returned (.tuple #[.string (delS s i n), .int .i64 (delE s i n)]) ∧ Below w.heap.size w w' := by
  have cs := rslice_any (n := n) hs hi
  by_cases hst : standB s.size i n = false
  · have hE : delE s i n = 3 := by unfold delE; rw [if_pos hst]
    have hS : delS s i n = ⟨#[]⟩ := by unfold delS; rw [hE, if_neg (by decide)]
    rw [hE, hS]
    rw [if_neg (by rw [hst]; decide)] at cs
    have CS := Lib.hid cs
    clear hE hS cs hst
    go_enter Try.func13, Try.ntmps13
    go_wp2_with fail
    refine (CS.out _).mono ?_; rintro e w1 ⟨⟨t, rfl⟩, hb1⟩
    go_wp2
    go_ret2
    exact ⟨rfl, hb1⟩
  have hst := bool_yes hst
  rw [if_pos hst] at cs
  obtain ⟨h1, h2, h3⟩ := stand_iff.1 hst
  obtain ⟨k, rfl⟩ := Int.eq_ofNat_of_zero_le h1
  obtain ⟨m, rfl⟩ := Int.eq_ofNat_of_zero_le h2
  have hkm : k + m ≤ s.size := by omega
  have ce1 := redge_any s (by unfold maxLen; omega) k
  have ce2 := redge_any s (by unfold maxLen; omega) ((k + m : Nat) : Int)
  have ekm : (k : Int) + (m : Int) = ((k + m : Nat) : Int) := by omega
  by_cases he : edgeB s.data.toList k = false
  · have hE : delE s k m = 4 := by unfold delE; rw [if_neg (by rw [hst]; decide), if_pos (.inl he)]
    have hS : delS s k m = ⟨#[]⟩ := by unfold delS; rw [hE, if_neg (by decide)]
    rw [hE, hS]
    rw [he] at ce1
    have CS := Lib.hid cs; have CE := Lib.hid ce1
    clear hE hS cs ce1 ce2 he hst h1 h2 h3 ekm
    go_enter Try.func13, Try.ntmps13
    go_wp2_with fail
    refine (CS.out _).mono ?_; rintro e w1 ⟨⟨t, rfl⟩, hb1⟩
    have HB1 := Lib.hid hb1
    clear hb1
    go_wp2_with fail
    refine (CE.out _).mono ?_; rintro e w2 ⟨rfl, rfl⟩
    go_wp2
    go_ret2
    exact ⟨rfl, HB1.out⟩
  have he := bool_yes he
  rw [he] at ce1
  have hsl : (k : Int) + (m : Int) ≤ 4096 := by omega
  by_cases hf : edgeB s.data.toList ((k + m : Nat) : Int) = false
  · have hE : delE s k m = 4 := by unfold delE; rw [if_neg (by rw [hst]; decide), if_pos (.inr (by rw [ekm]; exact hf))]
    have hS : delS s k m = ⟨#[]⟩ := by unfold delS; rw [hE, if_neg (by decide)]
    rw [hE, hS]
    rw [hf, ← ekm] at ce2
    have CS := Lib.hid cs; have CE := Lib.hid ce1; have CE2 := Lib.hid ce2
    clear hE hS cs ce1 ce2 he hf hst h1 h2 h3 ekm
    go_enter Try.func13, Try.ntmps13
    go_wp2_with fail
    refine (CS.out _).mono ?_; rintro e w1 ⟨⟨t, rfl⟩, hb1⟩
    have HB1 := Lib.hid hb1
    clear hb1
    go_wp2_with fail
    refine (CE.out _).mono ?_; rintro e w2 ⟨rfl, rfl⟩
    go_wp2_with fail
    refine (CE2.out _).mono ?_; rintro e w3 ⟨rfl, rfl⟩
    go_wp2
    go_ret2
    exact ⟨rfl, HB1.out⟩
  · have hf := bool_yes hf
    have hE : delE s k m = 0 := by
      unfold delE
      rw [if_neg (by rw [hst]; decide), if_neg]
      rintro (g | g)
      · rw [he] at g; cases g
      · rw [ekm, hf] at g; cases g
    have hS : delS s k m = s.extract 0 k ++ s.extract (k + m) s.size := by unfold delS; rw [hE, if_pos rfl, ekm]; rfl
    rw [hE, hS]
    rw [hf, ← ekm] at ce2
    have CS := Lib.hid cs; have CE := Lib.hid ce1; have CE2 := Lib.hid ce2
    clear hE hS cs ce1 ce2 he hf hst h1 h2 h3 ekm
    have y1 := piece_size s k (by omega)
    have y2 := rest_size s (k + m)
    have y3 : ¬ 9223372036854775807 < (s.extract 0 k).size + (s.extract (k + m) s.size).size := by rw [y1, y2]; omega
    have y4 : ¬ 9223372036854775807 < k + (s.size - (k + m)) := by omega
    have y5 : (0 : Int) ≤ (k : Int) + (m : Int) := by omega
    have y6 : (k : Int) + (m : Int) ≤ (s.size : Int) := by omega
    have y7 : ((k : Int) + (m : Int)).toNat = k + m := by omega
    have y8 : (k : Int) ≤ (s.size : Int) := by omega
    have Y := Lib.hid (And.intro y1 (And.intro y2 (And.intro y3 (And.intro y4 (And.intro y5 (And.intro y6 (And.intro y7 y8)))))))
    clear y1 y2 y3 y4 y5 y6 y7 y8
    go_enter Try.func13, Try.ntmps13
    go_wp2_with fail
    refine (CS.out _).mono ?_; rintro e w1 ⟨⟨t, rfl⟩, hb1⟩
    have HB1 := Lib.hid hb1
    clear hb1
    go_wp2_with fail
    refine (CE.out _).mono ?_; rintro e w2 ⟨rfl, rfl⟩
    go_wp2_with fail
    refine (CE2.out _).mono ?_; rintro e w3 ⟨rfl, rfl⟩
    obtain ⟨y1, y2, y3, y4, y5, y6, y7, y8⟩ := Y.out
    go_wp2_with fail
    go_quiet (fail)
    clear y1 y2 y3 y4 y5 y6 y7 y8
    go_wp2
    go_ret2
    exact ⟨rfl, drewN_below HB1.out _⟩
end Go.Proofs.Ytephlcdanokolaa
