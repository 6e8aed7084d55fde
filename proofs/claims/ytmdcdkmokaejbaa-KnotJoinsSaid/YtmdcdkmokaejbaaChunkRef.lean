/-
  Contracts of the document's Fits, Half, Texts, Whole, Join (layer 15).
-/
import Derived.Test.YtmdcdkmokaejbaaChunkMath
import Derived.Test.YtmdcdkmokaejbaaStrs
import Derived.Test.YtmdcdkmokaejbaaBlk
import Derived.Deep.QuietTactic
import Derived.BigQuiet
namespace Go.Proofs.Ytmdcdkmokaejbaa
open Go.RowKit
set_option linter.unusedVariables false

theorem fits_short (s : ByteArray) (h : ¬ 1 ≤ s.size) : fitsB s = false := by unfold fitsB; rw [decide_eq_false h]; rfl
theorem fits_long (s : ByteArray) (h : ¬ s.size ≤ 16) : fitsB s = false := by unfold fitsB; rw [decide_eq_false h, Bool.false_and, Bool.and_false]
theorem fits_mid (s : ByteArray) (h1 : 1 ≤ s.size) (h2 : s.size ≤ 16) : fitsB s = vldB s.data.toList := by unfold fitsB; rw [decide_eq_true h1, decide_eq_true h2]; rfl

set_option maxRecDepth 100000 in
set_option maxHeartbeats 400000 in
theorem rfits_any (s : ByteArray) (hs : s.size ≤ 4294967296) (w : World) :
    Calls Try.prog 25 #[.string s] w fun e w' => e = .returned (.bool (fitsB s)) ∧ Below w.heap.size w w' := by
  have hv := rvalid_any s hs
  by_cases h1 : 1 ≤ s.size
  · by_cases h2 : s.size ≤ 16
    · rw [fits_mid s h1 h2]
      obtain ⟨b, hb⟩ : ∃ b, vldB s.data.toList = b := ⟨_, rfl⟩
      rw [hb] at hv ⊢
      have HV := Lib.hid hv; clear hv hb
      go_enter Try.func25, Try.ntmps25
      go_wp2_with fail
      refine (HV.out _).mono ?_; rintro e w' ⟨rfl, hb1⟩
      go_wp2
      go_ret
      exact ⟨ret_bool (by simp), hb1⟩
    · rw [fits_long s h2]
      clear hv
      go_enter Try.func25, Try.ntmps25
      go_wp2
      go_ret
      exact ⟨ret_bool (by simp), Below.refl _ _⟩
  · rw [fits_short s h1]
    clear hv
    go_enter Try.func25, Try.ntmps25
    go_wp2
    go_ret
    exact ⟨ret_bool (by simp), Below.refl _ _⟩

set_option maxRecDepth 100000 in
set_option maxHeartbeats 800000 in
/-- Two rows of the same texts are the same. -/
theorem texts_same (a a2 : Option Addr) (l : List ByteArray) (c c2 : Nat) (w : World) (h1 : StrsH w a l) (h2 : StrsH w a2 l) (hl : l.length ≤ 1000000) :
    Calls Try.prog 29 #[.slice a l.length c, .slice a2 l.length c2] w fun e w' => e = .returned (.bool true) ∧ Below w.heap.size w w' := by
  obtain ⟨n, hn⟩ : ∃ n, l.length = n := ⟨_, rfl⟩
  rw [hn] at hl ⊢
  have HN := Lib.hid hn; have H1 := Lib.hid h1; have H2 := Lib.hid h2
  clear hn h1 h2
  go_enter Try.func29, Try.ntmps29
  go_wp2
  go_loopw [5] (fun i wr => ∃ k d : Nat, k ≤ n ∧ i = .int .i64 k ∧ wr = w.drewN d) (fun i _ => n - (intOf i).toNat)
  case atStart => exact ⟨0, 0, Nat.zero_le _, rfl, rfl⟩
  case round =>
    obtain ⟨k, d, hk, rfl, rfl⟩ := hrel
    by_cases hlt : k < n
    · have hkl : k < l.length := by rw [HN.out]; exact hlt
      obtain ⟨ad, rfl, hab, q0⟩ := H1.out k hkl
      obtain ⟨ae, rfl, hae, r0⟩ := H2.out k hkl
      obtain ⟨x, hx⟩ : ∃ x, l[k]'hkl = x := ⟨_, rfl⟩
      rw [hx] at q0 r0
      clear hx hab hae
      have b0 : (0 : Int) ≤ (k : Int) := by omega
      have b1 : (k : Int) < (n : Int) := by omega
      go_wp2
      go_quiet (fail)
      go_wp2
      go_roundw
      case rel => exact ⟨k + 1, _, by omega, by go_num, rfl⟩
      case measure => simp [intOf]; omega
    · obtain rfl : k = n := by omega
      go_wp2
      go_ret
      exact ⟨rfl, drewN_below (Below.refl _ _) _⟩

theorem wholeF_mono (L : List ByteArray) : ∀ p : ByteArray, p.size ≤ (L.foldl (· ++ ·) p).size := by
  induction L with
  | nil => intro p; exact Nat.le_refl _
  | cons x L ih => intro p; have := ih (p ++ x); rw [ByteArray.size_append] at this; rw [List.foldl_cons]; omega
theorem whole_take_size (L : List ByteArray) (k : Nat) : (wholeL (L.take k)).size ≤ (wholeL L).size := by
  have e : wholeL L = (L.drop k).foldl (· ++ ·) (wholeL (L.take k)) := by
    unfold wholeL
    rw [← List.foldl_append, List.take_append_drop]
  rw [e]; exact wholeF_mono _ _

set_option maxRecDepth 100000 in
set_option maxHeartbeats 800000 in
theorem rwhole_any (a : Option Addr) (l : List ByteArray) (c : Nat) (w : World) (h1 : StrsH w a l) (hl : l.length ≤ 1000000) (hz : (wholeL l).size ≤ 1000000) :
    Calls Try.prog 9 #[.slice a l.length c] w fun e w' => e = .returned (.string (wholeL l)) ∧ Below w.heap.size w w' := by
  obtain ⟨n, hn⟩ : ∃ n, l.length = n := ⟨_, rfl⟩
  rw [hn] at hl ⊢
  have HN := Lib.hid hn; have H1 := Lib.hid h1; have HZ := Lib.hid hz
  clear hn h1 hz
  go_enter Try.func9, Try.ntmps9
  go_wp2
  go_loop [3, 4] (fun t i => ∃ k : Nat, k ≤ n ∧ i = .int .i64 k ∧ t = .string (wholeL (l.take k))) (fun _ i => n - (intOf i).toNat)
  case atStart => exact ⟨0, Nat.zero_le _, rfl, rfl⟩
  case round =>
    obtain ⟨k, hk, rfl, rfl⟩ := hrel
    by_cases hlt : k < n
    · have hkl : k < l.length := by rw [HN.out]; exact hlt
      obtain ⟨ad, rfl, hab, q0⟩ := H1.out k hkl
      have hw := whole_take l k hkl
      have hz1 := whole_take_size l (k + 1)
      have hz2 := HZ.out
      rw [hw] at hz1
      obtain ⟨p, hp⟩ : ∃ p, wholeL (l.take k) = p := ⟨_, rfl⟩
      obtain ⟨x, hx⟩ : ∃ x, l[k]'hkl = x := ⟨_, rfl⟩
      rw [hx] at q0 hz1 hw
      rw [hp] at hz1 hw ⊢
      rw [ByteArray.size_append] at hz1
      have hpx : p.size + x.size ≤ 1000000 := by omega
      have HW := Lib.hid hw
      clear hx hp hab hz1 hz2 hw
      have b0 : (0 : Int) ≤ (k : Int) := by omega
      have b1 : (k : Int) < (n : Int) := by omega
      go_wp2
      go_round
      case rel => exact ⟨k + 1, by omega, by go_num, by rw [HW.out]⟩
      case measure => simp [intOf]; omega
    · obtain rfl : k = n := by omega
      have e : l.take k = l := List.take_of_length_le (by rw [HN.out]; exact Nat.le_refl _)
      rw [e]
      clear e
      go_wp2
      go_ret
      exact ⟨rfl, Below.refl _ _⟩
end Go.Proofs.Ytmdcdkmokaejbaa
