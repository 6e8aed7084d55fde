/-
  Joined: BlendDev.
-/
import Derived.Test.YtfgecjlccngddaaGreatJBlendRef
import Derived.Test.YtfgecjlccngddaaGreatJPieceDev
import Derived.Test.YtfgecjlccngddaaGreatJRepeat
import Derived.Lib.BufferWrite
import Derived.Deep.QuietTactic
import Derived.BigQuiet
import Derived.Deep.DeepFit
namespace Go.Proofs.YtfgecjlccngddaaGreat
set_option linter.unusedSimpArgs false
set_option linter.unusedVariables false
open Go.RowKit

set_option maxRecDepth 100000 in
set_option maxHeartbeats 400000 in
theorem pchoice_any (c : ByteArray) (u : Nat) (w : World) :
    Calls Tryz.prog 146 #[.string c, .int .i64 u] w fun e w' => e = .returned (.int .i64 (chN c.data.toList u)) ∧ w = w' := by
  have hlen : c.data.toList.length = c.size := by simp
  by_cases h : c.size ≤ u
  · have e : chN c.data.toList u = 0 := if_pos (by omega)
    rw [e]
    clear e hlen
    go_enter Tryz.func146, Tryz.ntmps146
    go_wp2
    go_ret
    exact ⟨rfl, rfl⟩
  · have hu : u < c.size := by omega
    have e : chN c.data.toList u = (c[u]'hu).toNat % 3 := by unfold chN; rw [if_neg (by omega), bt_get c u hu]
    rw [e]
    have hb := (c[u]'hu).toNat_lt
    clear e hlen h
    go_enter Tryz.func146, Tryz.ntmps146
    go_wp2
    go_ret
    exact ⟨by simp, rfl⟩

/-- What is left of a sector that is unlike. -/
def leftS (p q : ByteArray) (d : Nat) : ByteArray := if d = 1 then q else if d = 2 then zeroS q.size else p
theorem rep_zeros (n : Nat) : (⟨(Lib.repeatL (⟨#[0]⟩ : ByteArray).data.toList n).toArray⟩ : ByteArray) = zeroS n := by
  unfold zeroS
  have := Lib.repeatL_replicate 0 1 n
  rw [Nat.mul_one] at this
  rw [← this]
  rfl
theorem repeat_zeros (n : Nat) (hn : n ≤ 4294967296) (w : World) :
    Calls Tryz.prog 172 #[.string ⟨#[0]⟩, .int .i64 n] w fun e w' => e = .returned (.string (zeroS n)) ∧ Below w.heap.size w w' := by
  rw [← rep_zeros]
  exact Tryz.strings_Repeat ⟨#[0]⟩ n w (by omega) (by show 1 * n ≤ _; omega)
set_option maxRecDepth 100000 in
set_option maxHeartbeats 400000 in
theorem pleft_any (p q : ByteArray) (hq : q.size ≤ 32) (d : Nat) (w : World) :
    Calls Tryz.prog 145 #[.string p, .string q, .int .i64 d] w fun e w' => e = .returned (.string (leftS p q d)) ∧ Below w.heap.size w w' := by
  by_cases h1 : d = 1
  · subst h1
    have e : leftS p q 1 = q := if_pos rfl
    rw [e]
    clear e
    go_enter Tryz.func145, Tryz.ntmps145
    go_wp2
    go_ret
    exact ⟨rfl, Below.refl _ _⟩
  · by_cases h2 : d = 2
    · subst h2
      have e : leftS p q 2 = zeroS q.size := by unfold leftS; rw [if_neg (by omega), if_pos rfl]
      rw [e]
      have c := repeat_zeros q.size (by omega)
      have C := Lib.hid c
      clear e c h1
      go_enter Tryz.func145, Tryz.ntmps145
      go_wp2_with (go_at_call 172; refine (C.out _).mono ?_; rintro e w1 ⟨rfl, hb1⟩)
      go_ret
      exact ⟨rfl, hb1⟩
    · have e : leftS p q d = p := by unfold leftS; rw [if_neg h1, if_neg h2]
      rw [e]
      have t1 : ((d : Int) == 1) = false := by simpa using (by omega : ¬ (d : Int) = 1)
      have t2 : ((d : Int) == 2) = false := by simpa using (by omega : ¬ (d : Int) = 2)
      clear e h1 h2
      go_enter Tryz.func145, Tryz.ntmps145
      go_wp2
      go_ret
      exact ⟨rfl, Below.refl _ _⟩

/-! ### What is left at each sector -/
theorem unl_prefix (a b : List UInt8) (k m : Nat) (h : k ≤ m) : ∃ r, unl a b m = unl a b k ++ r ∧ ∀ x ∈ r, k ≤ x := by
  induction m with
  | zero => obtain rfl : k = 0 := by omega
            exact ⟨[], by simp, by simp⟩
  | succ m ih =>
    by_cases e : k = m + 1
    · subst e; exact ⟨[], by simp, by simp⟩
    · obtain ⟨r, h1, h2⟩ := ih (by omega)
      rw [unl_succ]
      split
      · exact ⟨r, h1, h2⟩
      · refine ⟨r ++ [m], by rw [h1, List.append_assoc], fun x hx => ?_⟩
        rw [List.mem_append, List.mem_singleton] at hx
        rcases hx with hx | hx
        · exact h2 x hx
        · omega
theorem unl_here (a b : List UInt8) (k m : Nat) (h : k < m) (hne : slL a k ≠ slL b k) : ∃ hl : (unl a b k).length < (unl a b m).length, (unl a b m)[(unl a b k).length]'hl = k := by
  obtain ⟨r, h1, _⟩ := unl_prefix a b (k + 1) m (by omega)
  rw [unl_succ, if_neg hne, List.append_assoc] at h1
  refine ⟨by rw [h1]; simp, ?_⟩
  simp only [h1]
  simp
theorem unl_not (a b : List UInt8) (k m : Nat) (h : k < m) (he : slL a k = slL b k) (hl : (unl a b k).length < (unl a b m).length) : k < (unl a b m)[(unl a b k).length]'hl := by
  obtain ⟨r, h1, h2⟩ := unl_prefix a b (k + 1) m (by omega)
  rw [unl_succ, if_pos he] at h1
  simp only [h1] at hl ⊢
  rw [List.length_append] at hl
  rw [List.getElem_append_right (Nat.le_refl _)]
  exact h2 _ (List.getElem_mem _)
theorem cnt_max (a b : Nat) : cntN (max a b) = max (cntN a) (cntN b) := by unfold cntN; omega

/-! ### The room -/
/-- The cells of some bytes. -/
def bcs (l : List UInt8) : Array Value := (Lib.byteCells l).toArray
theorem bcs_zeros (n : Nat) : zs n = bcs (List.replicate n 0) := by
  apply Array.ext'
  refine List.ext_getElem? fun i => ?_
  unfold bcs Lib.byteCells
  rw [Array.getElem?_toList]
  by_cases h : i < n
  · rw [zs_get n i h]; simp [h]
  · rw [Array.getElem?_eq_none (by rw [zs_size]; omega)]; simp [h]
/-- The room behind so many sectors: what is left, and noughts. -/
def roomL (o n c : List UInt8) (M k : Nat) : List UInt8 := (mixK o n c k).1 ++ List.replicate (M - (mixK o n c k).1.length) 0
theorem roomL_len (o n c : List UInt8) (M k : Nat) (h : max o.length n.length ≤ M) : (roomL o n c M k).length = M := by
  have := mixK_max o n c k
  unfold roomL; rw [List.length_append, List.length_replicate]; omega
theorem roomL_none (o n c : List UInt8) (M k : Nat) (h : pk o n c k (mixK o n c k).2 = []) : roomL o n c M (k + 1) = roomL o n c M k ∧ (mixK o n c (k + 1)).1.length = (mixK o n c k).1.length := by
  have e : (mixK o n c (k + 1)).1 = (mixK o n c k).1 := if_pos h
  unfold roomL
  rw [e]; exact ⟨rfl, rfl⟩
theorem roomL_some (o n c : List UInt8) (M k : Nat) (hM : max o.length n.length = M) (h : pk o n c k (mixK o n c k).2 ≠ []) :
    roomL o n c M (k + 1) = (roomL o n c M k).take (32 * k) ++ pk o n c k (mixK o n c k).2 ++ (roomL o n c M k).drop (32 * k + (pk o n c k (mixK o n c k).2).length) ∧
      (mixK o n c (k + 1)).1.length = 32 * k + (pk o n c k (mixK o n c k).2).length ∧ 32 * k + (pk o n c k (mixK o n c k).2).length ≤ M := by
  have hp := pk_len o n c k (mixK o n c k).2
  have h1 := slL_len o k
  have h2 := slL_len n k
  have h3 := mixK_len o n c k
  have h4 := mixK_max o n c k
  have e : (mixK o n c (k + 1)).1 = (mixK o n c k).1 ++ List.replicate (32 * k - (mixK o n c k).1.length) 0 ++ pk o n c k (mixK o n c k).2 := if_neg h
  unfold roomL
  rw [e]
  obtain ⟨x, hx⟩ : ∃ x, pk o n c k (mixK o n c k).2 = x := ⟨_, rfl⟩
  obtain ⟨y, hy⟩ : ∃ x, (mixK o n c k).1 = x := ⟨_, rfl⟩
  rw [hx] at h hp ⊢
  rw [hy] at h3 h4 ⊢
  have hpos : 0 < x.length := List.length_pos_iff.2 h
  refine ⟨?_, by simp only [List.length_append, List.length_replicate]; omega, by omega⟩
  rw [List.take_append, List.drop_append, List.take_of_length_le h3, List.drop_eq_nil_of_le (by omega), List.take_replicate, List.drop_replicate]
  simp only [List.length_append, List.length_replicate, List.nil_append]
  congr 2
  · congr 2; omega
  · omega
end Go.Proofs.YtfgecjlccngddaaGreat
