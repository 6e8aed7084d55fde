/-
  The contract of the document's One.
-/
import Derived.Test.YtibbglmhcjnedaaDoorFrameRef
import Derived.Deep.QuietTactic
import Derived.BigQuiet
namespace Go.Proofs.YtibbglmhcjnedaaDoor
open Go.RowKit
set_option linter.unusedVariables false

theorem getI_in (l : List UInt8) (k m : Nat) (h : k + m ≤ l.length) : getI l (k : Int) m = (leN l k m, true) := by
  unfold getI; rw [if_neg (by omega), Int.toNat_natCast]
/-- What One answers. -/
abbrev oneV (ep sq : Nat) (d : ByteArray) (n e : Nat) : Value := .tuple #[.agg #[.int .i64 ep, .int .i64 sq, .string d], .int .i64 n, .int .i64 e]
def oneEp (s : ByteArray) : Nat := if frmE s.data.toList = 0 then leN s.data.toList 4 4 else 0
def oneSq (s : ByteArray) : Nat := if frmE s.data.toList = 0 then leN s.data.toList 8 4 else 0
def oneD (s : ByteArray) : ByteArray := if frmE s.data.toList = 0 then s.extract 16 (16 + leN s.data.toList 2 2) else ⟨#[]⟩
def oneN (s : ByteArray) : Nat := if frmE s.data.toList = 0 then 16 + leN s.data.toList 2 2 else 0
theorem one_no {s : ByteArray} {e : Nat} (h : frmE s.data.toList = e) (he : e ≠ 0) : oneEp s = 0 ∧ oneSq s = 0 ∧ oneD s = ⟨#[]⟩ ∧ oneN s = 0 := by
  have : frmE s.data.toList ≠ 0 := by omega
  exact ⟨if_neg this, if_neg this, if_neg this, if_neg this⟩
theorem begB_no {s : ByteArray} : begB s.data.toList = false ↔ (∃ h : 0 < s.size, s[0].toNat ≠ 83) ∨ (∃ h : 1 < s.size, s[1].toNat ≠ 74) := by
  have hl : s.data.toList.length = s.size := by simp
  unfold begB
  rw [hl]
  constructor
  · intro h
    simp only [Bool.and_eq_false_iff, Bool.or_eq_false_iff, decide_eq_false_iff_not] at h
    rcases h with ⟨h1, h2⟩ | ⟨h1, h2⟩
    · exact .inl ⟨by omega, by rw [← bt_get s 0 (by omega)]; exact h2⟩
    · exact .inr ⟨by omega, by rw [← bt_get s 1 (by omega)]; exact h2⟩
  · intro h
    simp only [Bool.and_eq_false_iff, Bool.or_eq_false_iff, decide_eq_false_iff_not]
    rcases h with ⟨h1, h2⟩ | ⟨h1, h2⟩
    · exact .inl ⟨by omega, by rw [bt_get s 0 (by omega)]; exact h2⟩
    · exact .inr ⟨by omega, by rw [bt_get s 1 (by omega)]; exact h2⟩

set_option maxRecDepth 100000 in
set_option maxHeartbeats 400000 in
theorem rone_form (s : ByteArray) (hs : s.size ≤ maxLen) (h : (∃ h : 0 < s.size, s[0].toNat ≠ 83) ∨ (∃ h : 1 < s.size, s[1].toNat ≠ 74)) (w : World) :
    Calls Tryd.prog 25 #[.string s] w fun e w' => e = .returned (oneV 0 0 ⟨#[]⟩ 0 5) ∧ Below w.heap.size w w' := by
  unfold maxLen at hs
  by_cases h0 : 0 < s.size
  · by_cases h1 : s[0].toNat = 83
    · obtain ⟨h2, h3⟩ : ∃ h : 1 < s.size, s[1].toNat ≠ 74 := by
        rcases h with ⟨_, h⟩ | h
        · exact absurd h1 h
        · exact h
      clear h
      go_enter Tryd.func25, Tryd.ntmps25
      go_wp2
      exact bodyPost_ret (v := oneV 0 0 ⟨#[]⟩ 0 5) (by simp [results, Tryd.results25, go_sem]) rfl ⟨rfl, (Below.refl _ _).alloc (Nat.le_refl _) _⟩
    · clear h
      go_enter Tryd.func25, Tryd.ntmps25
      go_wp2
      exact bodyPost_ret (v := oneV 0 0 ⟨#[]⟩ 0 5) (by simp [results, Tryd.results25, go_sem]) rfl ⟨rfl, (Below.refl _ _).alloc (Nat.le_refl _) _⟩
  · rcases h with ⟨h, _⟩ | ⟨h, _⟩
    · exact absurd h h0
    · omega
theorem fr_below (w : World) (o : Obj) (n : Nat) (x y z : Value) : Below w.heap.size w (((((w.alloc o).drewN n).setCell ⟨w.heap.size, 0, none⟩ x).setCell ⟨w.heap.size, 1, none⟩ y).setCell ⟨w.heap.size, 2, none⟩ z) :=
  (((drewN_below ((Below.refl _ _).alloc (Nat.le_refl _) _) _).setCell (Nat.le_refl _) _).setCell (Nat.le_refl _) _).setCell (Nat.le_refl _) _
set_option maxRecDepth 100000 in
set_option maxHeartbeats 400000 in
theorem rone_less (s : ByteArray) (h : s.size < 16) (h0 : ∀ h : 0 < s.size, s[0].toNat = 83) (h1 : ∀ h : 1 < s.size, s[1].toNat = 74) (w : World) :
    Calls Tryd.prog 25 #[.string s] w fun e w' => e = .returned (oneV 0 0 ⟨#[]⟩ 0 18) ∧ Below w.heap.size w w' := by
  by_cases g0 : 0 < s.size
  · have e0 := h0 g0
    by_cases g1 : 1 < s.size
    · have e1 := h1 g1
      clear h0 h1
      go_enter Tryd.func25, Tryd.ntmps25
      go_wp2
      exact bodyPost_ret (v := oneV 0 0 ⟨#[]⟩ 0 18) (by simp [results, Tryd.results25, go_sem]) rfl ⟨rfl, (Below.refl _ _).alloc (Nat.le_refl _) _⟩
    · clear h0 h1
      go_enter Tryd.func25, Tryd.ntmps25
      go_wp2
      exact bodyPost_ret (v := oneV 0 0 ⟨#[]⟩ 0 18) (by simp [results, Tryd.results25, go_sem]) rfl ⟨rfl, (Below.refl _ _).alloc (Nat.le_refl _) _⟩
  · clear h0 h1
    have g1 : ¬ 1 < s.size := by omega
    go_enter Tryd.func25, Tryd.ntmps25
    go_wp2
    exact bodyPost_ret (v := oneV 0 0 ⟨#[]⟩ 0 18) (by simp [results, Tryd.results25, go_sem]) rfl ⟨rfl, (Below.refl _ _).alloc (Nat.le_refl _) _⟩

set_option maxRecDepth 100000 in
set_option maxHeartbeats 400000 in
theorem rone_long (s : ByteArray) (hs : s.size ≤ maxLen) (h : 16 ≤ s.size) (h0 : s[0].toNat = 83) (h1 : s[1].toNat = 74) (n : Nat) (hn : leN s.data.toList 2 2 = n) (hln : 1024 < n) (w : World) :
    Calls Tryd.prog 25 #[.string s] w fun e w' => e = .returned (oneV 0 0 ⟨#[]⟩ 0 6) ∧ Below w.heap.size w w' := by
  have hl : s.data.toList.length = s.size := by simp
  have c1 := rget16_any s hs 2
  have c2 := rget32_any s hs 4
  have c3 := rget32_any s hs 8
  have c4 := rget32_any s hs 12
  rw [show getI s.data.toList 2 2 = (leN s.data.toList 2 2, true) from getI_in _ 2 2 (by omega), hn] at c1
  rw [show getI s.data.toList 4 4 = (leN s.data.toList 4 4, true) from getI_in _ 4 4 (by omega)] at c2
  rw [show getI s.data.toList 8 4 = (leN s.data.toList 8 4, true) from getI_in _ 8 4 (by omega)] at c3
  rw [show getI s.data.toList 12 4 = (leN s.data.toList 12 4, true) from getI_in _ 12 4 (by omega)] at c4
  obtain ⟨x2, hx2⟩ : ∃ x, leN s.data.toList 4 4 = x := ⟨_, rfl⟩
  obtain ⟨x3, hx3⟩ : ∃ x, leN s.data.toList 8 4 = x := ⟨_, rfl⟩
  obtain ⟨x4, hx4⟩ : ∃ x, leN s.data.toList 12 4 = x := ⟨_, rfl⟩
  rw [hx2] at c2; rw [hx3] at c3; rw [hx4] at c4
  have C1 := Lib.hid c1; have C2 := Lib.hid c2; have C3 := Lib.hid c3; have C4 := Lib.hid c4
  have g0 : 0 < s.size := by omega
  have g1 : 1 < s.size := by omega
  unfold maxLen at hs
  clear c1 c2 c3 c4 hx2 hx3 hx4 hn hl
  go_enter Tryd.func25, Tryd.ntmps25
  go_wp2_with fail
  refine (C1.out _).mono ?_; rintro e w' ⟨rfl, rfl⟩
  go_wp2_with fail
  refine (C2.out _).mono ?_; rintro e w' ⟨rfl, rfl⟩
  go_wp2_with fail
  refine (C3.out _).mono ?_; rintro e w' ⟨rfl, rfl⟩
  go_wp2_with fail
  refine (C4.out _).mono ?_; rintro e w' ⟨rfl, rfl⟩
  go_wp2
  exact bodyPost_ret (v := oneV 0 0 ⟨#[]⟩ 0 6) (by simp [results, Tryd.results25, go_sem]) rfl ⟨rfl, (Below.refl _ _).alloc (Nat.le_refl _) _⟩

set_option maxRecDepth 100000 in
set_option maxHeartbeats 400000 in
theorem rone_lack (s : ByteArray) (hs : s.size ≤ maxLen) (h : 16 ≤ s.size) (h0 : s[0].toNat = 83) (h1 : s[1].toNat = 74) (n : Nat) (hn : leN s.data.toList 2 2 = n) (hln : n ≤ 1024) (hla : s.size < 16 + n) (w : World) :
    Calls Tryd.prog 25 #[.string s] w fun e w' => e = .returned (oneV 0 0 ⟨#[]⟩ 0 18) ∧ Below w.heap.size w w' := by
  have hl : s.data.toList.length = s.size := by simp
  have c1 := rget16_any s hs 2
  have c2 := rget32_any s hs 4
  have c3 := rget32_any s hs 8
  have c4 := rget32_any s hs 12
  rw [show getI s.data.toList 2 2 = (leN s.data.toList 2 2, true) from getI_in _ 2 2 (by omega), hn] at c1
  rw [show getI s.data.toList 4 4 = (leN s.data.toList 4 4, true) from getI_in _ 4 4 (by omega)] at c2
  rw [show getI s.data.toList 8 4 = (leN s.data.toList 8 4, true) from getI_in _ 8 4 (by omega)] at c3
  rw [show getI s.data.toList 12 4 = (leN s.data.toList 12 4, true) from getI_in _ 12 4 (by omega)] at c4
  obtain ⟨x2, hx2⟩ : ∃ x, leN s.data.toList 4 4 = x := ⟨_, rfl⟩
  obtain ⟨x3, hx3⟩ : ∃ x, leN s.data.toList 8 4 = x := ⟨_, rfl⟩
  obtain ⟨x4, hx4⟩ : ∃ x, leN s.data.toList 12 4 = x := ⟨_, rfl⟩
  rw [hx2] at c2; rw [hx3] at c3; rw [hx4] at c4
  have C1 := Lib.hid c1; have C2 := Lib.hid c2; have C3 := Lib.hid c3; have C4 := Lib.hid c4
  have g0 : 0 < s.size := by omega
  have g1 : 1 < s.size := by omega
  unfold maxLen at hs
  clear c1 c2 c3 c4 hx2 hx3 hx4 hn hl
  go_enter Tryd.func25, Tryd.ntmps25
  go_wp2_with fail
  refine (C1.out _).mono ?_; rintro e w' ⟨rfl, rfl⟩
  go_wp2_with fail
  refine (C2.out _).mono ?_; rintro e w' ⟨rfl, rfl⟩
  go_wp2_with fail
  refine (C3.out _).mono ?_; rintro e w' ⟨rfl, rfl⟩
  go_wp2_with fail
  refine (C4.out _).mono ?_; rintro e w' ⟨rfl, rfl⟩
  go_wp2
  exact bodyPost_ret (v := oneV 0 0 ⟨#[]⟩ 0 18) (by simp [results, Tryd.results25, go_sem]) rfl ⟨rfl, (Below.refl _ _).alloc (Nat.le_refl _) _⟩

set_option maxRecDepth 100000 in
set_option maxHeartbeats 800000 in
theorem rone_whole (s : ByteArray) (hs : s.size ≤ maxLen) (h : 16 ≤ s.size) (h0 : s[0].toNat = 83) (h1 : s[1].toNat = 74) (n x2 x3 x4 z : Nat) (hn : leN s.data.toList 2 2 = n) (hx2 : leN s.data.toList 4 4 = x2) (hx3 : leN s.data.toList 8 4 = x3) (hx4 : leN s.data.toList 12 4 = x4)
    (hz : addN 0 (s.extract 2 12 ++ s.extract 16 (16 + n)).data.toList = z) (hln : n ≤ 1024) (hla : 16 + n ≤ s.size) (w : World) :
    Calls Tryd.prog 25 #[.string s] w fun e w' => e = .returned (if z = x4 then (if x2 ≤ 999999 ∧ x3 ≤ 2147483647 then oneV x2 x3 (s.extract 16 (16 + n)) (16 + n) 0 else oneV 0 0 ⟨#[]⟩ 0 3) else oneV 0 0 ⟨#[]⟩ 0 19) ∧ Below w.heap.size w w' := by
  have hl : s.data.toList.length = s.size := by simp
  have c1 := rget16_any s hs 2
  have c2 := rget32_any s hs 4
  have c3 := rget32_any s hs 8
  have c4 := rget32_any s hs 12
  rw [show getI s.data.toList 2 2 = (leN s.data.toList 2 2, true) from getI_in _ 2 2 (by omega), hn] at c1
  rw [show getI s.data.toList 4 4 = (leN s.data.toList 4 4, true) from getI_in _ 4 4 (by omega), hx2] at c2
  rw [show getI s.data.toList 8 4 = (leN s.data.toList 8 4, true) from getI_in _ 8 4 (by omega), hx3] at c3
  rw [show getI s.data.toList 12 4 = (leN s.data.toList 12 4, true) from getI_in _ 12 4 (by omega), hx4] at c4
  have b2 : x2 < 4294967296 := by rw [← hx2]; exact leN_lt _ 4 4
  have b3 : x3 < 4294967296 := by rw [← hx3]; exact leN_lt _ 4 8
  have b4 : x4 < 4294967296 := by rw [← hx4]; exact leN_lt _ 4 12
  have zl : z < 4294967296 := by rw [← hz]; exact addN_lt 0 _ (by omega)
  have e1 : (s.extract 2 12).size = 10 := by simp; omega
  have e2 : (s.extract 16 (16 + n)).size = n := by simp; omega
  have c5 := rof_any (s.extract 2 12 ++ s.extract 16 (16 + n)) (by unfold maxLen; rw [ByteArray.size_append]; omega)
  rw [hz] at c5
  have c5 := fun W => (c5 W).mono fun _ _ h => (⟨h.1, h.2.symm⟩ : _ ∧ _)
  have F1 : ¬ (9223372036854775807 < (s.extract 2 12).size + (s.extract 16 (16 + n)).size) := by omega
  have F2 : ¬ (9223372036854775807 < min 12 s.size - 2 + (min (16 + n) s.size - 16)) := by omega
  have F3 : ¬ (9223372036854775807 < 10 + n) := by omega
  have F4 : ¬ (9223372036854775807 < 10 + (16 + n - 16)) := by omega
  have F5 : ¬ (9223372036854775807 < 10 + (min (16 + n) s.size - 16)) := by omega
  have C1 := Lib.hid c1; have C2 := Lib.hid c2; have C3 := Lib.hid c3; have C4 := Lib.hid c4; have C5 := Lib.hid c5
  have g0 : 0 < s.size := by omega
  have g1 : 1 < s.size := by omega
  unfold maxLen at hs
  clear c1 c2 c3 c4 c5 hx2 hx3 hx4 hn hl hz e1 e2
  have q1 : (16 : Int) + (n : Int) ≤ (s.size : Int) := by omega
  have q2 : 12 ≤ s.size := by omega
  have q3 : (12 : Int) ≤ (s.size : Int) := by omega
  have q4 : (16 : Int) ≤ 16 + (n : Int) := by omega
  have q5 : 16 ≤ 16 + n := by omega
  by_cases k1 : z = x4
  · by_cases k2 : 999999 < x2
    · rw [if_pos k1, if_neg (by omega)]
      subst k1
      go_enter Tryd.func25, Tryd.ntmps25
      go_wp2_with fail
      refine (C1.out _).mono ?_; rintro e w' ⟨rfl, rfl⟩
      go_wp2_with fail
      refine (C2.out _).mono ?_; rintro e w' ⟨rfl, rfl⟩
      go_wp2_with fail
      refine (C3.out _).mono ?_; rintro e w' ⟨rfl, rfl⟩
      go_wp2_with fail
      refine (C4.out _).mono ?_; rintro e w' ⟨rfl, rfl⟩
      go_wp2_with fail
      have z1 : IntKind.i64.wrap (16 + (n : Int)) = 16 + (n : Int) := IntWalk.i64_in _ (by omega)
      have z2 : (16 + (n : Int)).toNat = 16 + n := by omega
      have z3 : (0 : Int) ≤ 16 + (n : Int) := by omega
      have zw : IntKind.i64.wrap (z : Int) = (z : Int) := IntWalk.i64_in _ (by omega)
      go_quiet ((go_at_call 31; exact Calls.quiet_of_same (C5.out _)))
      go_wp2
      exact bodyPost_ret (v := oneV 0 0 ⟨#[]⟩ 0 3) (by simp [results, Tryd.results25, go_sem]) rfl ⟨rfl, fr_below _ _ _ _ _ _⟩
    · by_cases k3 : 2147483647 < x3
      · rw [if_pos k1, if_neg (by omega)]
        subst k1
        go_enter Tryd.func25, Tryd.ntmps25
        go_wp2_with fail
        refine (C1.out _).mono ?_; rintro e w' ⟨rfl, rfl⟩
        go_wp2_with fail
        refine (C2.out _).mono ?_; rintro e w' ⟨rfl, rfl⟩
        go_wp2_with fail
        refine (C3.out _).mono ?_; rintro e w' ⟨rfl, rfl⟩
        go_wp2_with fail
        refine (C4.out _).mono ?_; rintro e w' ⟨rfl, rfl⟩
        go_wp2_with fail
        have z1 : IntKind.i64.wrap (16 + (n : Int)) = 16 + (n : Int) := IntWalk.i64_in _ (by omega)
        have z2 : (16 + (n : Int)).toNat = 16 + n := by omega
        have z3 : (0 : Int) ≤ 16 + (n : Int) := by omega
        have zw : IntKind.i64.wrap (z : Int) = (z : Int) := IntWalk.i64_in _ (by omega)
        go_quiet ((go_at_call 31; exact Calls.quiet_of_same (C5.out _)))
        go_wp2
        exact bodyPost_ret (v := oneV 0 0 ⟨#[]⟩ 0 3) (by simp [results, Tryd.results25, go_sem]) rfl ⟨rfl, fr_below _ _ _ _ _ _⟩
      · rw [if_pos k1, if_pos (by omega)]
        subst k1
        go_enter Tryd.func25, Tryd.ntmps25
        go_wp2_with fail
        refine (C1.out _).mono ?_; rintro e w' ⟨rfl, rfl⟩
        go_wp2_with fail
        refine (C2.out _).mono ?_; rintro e w' ⟨rfl, rfl⟩
        go_wp2_with fail
        refine (C3.out _).mono ?_; rintro e w' ⟨rfl, rfl⟩
        go_wp2_with fail
        refine (C4.out _).mono ?_; rintro e w' ⟨rfl, rfl⟩
        go_wp2_with fail
        have z1 : IntKind.i64.wrap (16 + (n : Int)) = 16 + (n : Int) := IntWalk.i64_in _ (by omega)
        have z2 : (16 + (n : Int)).toNat = 16 + n := by omega
        have z3 : (0 : Int) ≤ 16 + (n : Int) := by omega
        have zw : IntKind.i64.wrap (z : Int) = (z : Int) := IntWalk.i64_in _ (by omega)
        go_quiet ((go_at_call 31; exact Calls.quiet_of_same (C5.out _)))
        go_wp2
        refine bodyPost_ret (v := .tuple #[.agg #[.int .i64 x2, .int .i64 x3, .string (s.extract 16 (16 + n))], .int .i64 (16 + (n : Int)), .int .i64 0]) (by simp [results, Tryd.results25, go_sem]) rfl ⟨by simp [oneV], fr_below _ _ _ _ _ _⟩
  · rw [if_neg k1]
    have k2 : ((z : Int) != (x4 : Int)) = true := by simp; omega
    go_enter Tryd.func25, Tryd.ntmps25
    go_wp2_with fail
    refine (C1.out _).mono ?_; rintro e w' ⟨rfl, rfl⟩
    go_wp2_with fail
    refine (C2.out _).mono ?_; rintro e w' ⟨rfl, rfl⟩
    go_wp2_with fail
    refine (C3.out _).mono ?_; rintro e w' ⟨rfl, rfl⟩
    go_wp2_with fail
    refine (C4.out _).mono ?_; rintro e w' ⟨rfl, rfl⟩
    go_wp2_with fail
    have z1 : IntKind.i64.wrap (16 + (n : Int)) = 16 + (n : Int) := IntWalk.i64_in _ (by omega)
    have z2 : (16 + (n : Int)).toNat = 16 + n := by omega
    have z3 : (0 : Int) ≤ 16 + (n : Int) := by omega
    have zw : IntKind.i64.wrap (z : Int) = (z : Int) := IntWalk.i64_in _ (by omega)
    go_quiet ((go_at_call 31; exact Calls.quiet_of_same (C5.out _)))
    go_wp2
    exact bodyPost_ret (v := oneV 0 0 ⟨#[]⟩ 0 19) (by simp [results, Tryd.results25, go_sem]) rfl ⟨rfl, fr_below _ _ _ _ _ _⟩

/-- The five ways of One put together. -/
theorem one_join {P : Program} {F : FuncId} {S : World → Prop} (s : ByteArray)
    (form : ((∃ h : 0 < s.size, s[0].toNat ≠ 83) ∨ (∃ h : 1 < s.size, s[1].toNat ≠ 74)) → ∀ w, S w → Calls P F #[.string s] w fun e w' => e = .returned (oneV 0 0 ⟨#[]⟩ 0 5) ∧ Below w.heap.size w w')
    (less : s.size < 16 → (∀ h : 0 < s.size, s[0].toNat = 83) → (∀ h : 1 < s.size, s[1].toNat = 74) → ∀ w, S w → Calls P F #[.string s] w fun e w' => e = .returned (oneV 0 0 ⟨#[]⟩ 0 18) ∧ Below w.heap.size w w')
    (long : (h : 16 ≤ s.size) → s[0].toNat = 83 → s[1].toNat = 74 → ∀ n, leN s.data.toList 2 2 = n → 1024 < n → ∀ w, S w → Calls P F #[.string s] w fun e w' => e = .returned (oneV 0 0 ⟨#[]⟩ 0 6) ∧ Below w.heap.size w w')
    (lack : (h : 16 ≤ s.size) → s[0].toNat = 83 → s[1].toNat = 74 → ∀ n, leN s.data.toList 2 2 = n → n ≤ 1024 → s.size < 16 + n → ∀ w, S w → Calls P F #[.string s] w fun e w' => e = .returned (oneV 0 0 ⟨#[]⟩ 0 18) ∧ Below w.heap.size w w')
    (whole : (h : 16 ≤ s.size) → s[0].toNat = 83 → s[1].toNat = 74 → ∀ n x2 x3 x4 z : Nat, leN s.data.toList 2 2 = n → leN s.data.toList 4 4 = x2 → leN s.data.toList 8 4 = x3 → leN s.data.toList 12 4 = x4 →
      addN 0 (s.extract 2 12 ++ s.extract 16 (16 + n)).data.toList = z → n ≤ 1024 → 16 + n ≤ s.size → ∀ w, S w →
      Calls P F #[.string s] w fun e w' => e = .returned (if z = x4 then (if x2 ≤ 999999 ∧ x3 ≤ 2147483647 then oneV x2 x3 (s.extract 16 (16 + n)) (16 + n) 0 else oneV 0 0 ⟨#[]⟩ 0 3) else oneV 0 0 ⟨#[]⟩ 0 19) ∧ Below w.heap.size w w')
    (w : World) (hw : S w) :
    Calls P F #[.string s] w fun e w' => e = .returned (oneV (oneEp s) (oneSq s) (oneD s) (oneN s) (frmE s.data.toList)) ∧ Below w.heap.size w w' := by
  have hl : s.data.toList.length = s.size := by simp
  have no : ∀ e : Nat, e ≠ 0 → frmE s.data.toList = e → (oneV (oneEp s) (oneSq s) (oneD s) (oneN s) (frmE s.data.toList)) = oneV 0 0 ⟨#[]⟩ 0 e := by
    intro e he h
    obtain ⟨a, b, c, d⟩ := one_no h he
    rw [a, b, c, d, h]
  by_cases hb : begB s.data.toList = false
  · rw [no 5 (by omega) (by unfold frmE; rw [if_pos hb])]
    exact form (begB_no.1 hb) w hw
  have h0 : ∀ h : 0 < s.size, s[0].toNat = 83 := fun h => Decidable.byContradiction fun g => hb (begB_no.2 (.inl ⟨h, g⟩))
  have h1 : ∀ h : 1 < s.size, s[1].toNat = 74 := fun h => Decidable.byContradiction fun g => hb (begB_no.2 (.inr ⟨h, g⟩))
  by_cases h16 : s.size < 16
  · rw [no 18 (by omega) (by unfold frmE; rw [if_neg hb, if_pos (by omega)])]
    exact less h16 h0 h1 w hw
  by_cases hln : 1024 < leN s.data.toList 2 2
  · rw [no 6 (by omega) (by unfold frmE; rw [if_neg hb, if_neg (by omega), if_pos hln])]
    exact long (by omega) (h0 (by omega)) (h1 (by omega)) _ rfl hln w hw
  by_cases hla : s.size < 16 + leN s.data.toList 2 2
  · rw [no 18 (by omega) (by unfold frmE; rw [if_neg hb, if_neg (by omega), if_neg hln, if_pos (by omega)])]
    exact lack (by omega) (h0 (by omega)) (h1 (by omega)) _ rfl (by omega) hla w hw
  have e : addN 0 (s.extract 2 12 ++ s.extract 16 (16 + leN s.data.toList 2 2)).data.toList = addN 0 ((s.data.toList.drop 2).take 10 ++ datL s.data.toList) := by
    rw [app_list, extract_list, extract_list, show 16 + leN s.data.toList 2 2 - 16 = leN s.data.toList 2 2 by omega]; rfl
  have g := whole (by omega) (h0 (by omega)) (h1 (by omega)) _ _ _ _ _ rfl rfl rfl rfl e (by omega) (by omega) w hw
  have mb : mayB (leN s.data.toList 4 4) (leN s.data.toList 8 4) = true ↔ leN s.data.toList 4 4 ≤ 999999 ∧ leN s.data.toList 8 4 ≤ 2147483647 := by
    rw [mayB_yes]; omega
  have hE : frmE s.data.toList = if leN s.data.toList 12 4 = addN 0 ((s.data.toList.drop 2).take 10 ++ datL s.data.toList) then (if mayB (leN s.data.toList 4 4) (leN s.data.toList 8 4) = true then 0 else 3) else 19 := by
    unfold frmE; rw [if_neg hb, if_neg (by omega), if_neg hln, if_neg (by omega)]
  by_cases k1 : addN 0 ((s.data.toList.drop 2).take 10 ++ datL s.data.toList) = leN s.data.toList 12 4
  · rw [if_pos k1] at g
    rw [if_pos k1.symm] at hE
    by_cases k2 : leN s.data.toList 4 4 ≤ 999999 ∧ leN s.data.toList 8 4 ≤ 2147483647
    · rw [if_pos k2] at g
      rw [if_pos (mb.2 k2)] at hE
      rw [show oneEp s = leN s.data.toList 4 4 from if_pos hE, show oneSq s = leN s.data.toList 8 4 from if_pos hE, show oneD s = s.extract 16 (16 + leN s.data.toList 2 2) from if_pos hE, show oneN s = 16 + leN s.data.toList 2 2 from if_pos hE, hE]
      exact g
    · rw [if_neg k2] at g
      rw [if_neg (fun h => k2 (mb.1 h))] at hE
      rw [no 3 (by omega) hE]
      exact g
  · rw [if_neg k1] at g
    rw [if_neg (fun h => k1 h.symm)] at hE
    rw [no 19 (by omega) hE]
    exact g
theorem rone_any (s : ByteArray) (hs : s.size ≤ maxLen) (w : World) :
    Calls Tryd.prog 25 #[.string s] w fun e w' => e = .returned (oneV (oneEp s) (oneSq s) (oneD s) (oneN s) (frmE s.data.toList)) ∧ Below w.heap.size w w' :=
  one_join (S := fun _ => True) s (fun h w _ => rone_form s hs h w) (fun a b c w _ => rone_less s a b c w) (fun a b c n d e w _ => rone_long s hs a b c n d e w) (fun a b c n d e f w _ => rone_lack s hs a b c n d e f w)
    (fun a b c n x2 x3 x4 z d e f g h i j w _ => rone_whole s hs a b c n x2 x3 x4 z d e f g h i j w) w trivial
end Go.Proofs.YtibbglmhcjnedaaDoor
