/-
  Contracts of Blank and Fill, the program's and the document's.
-/
import Derived.Test.YtibbglmhcjnedaaDoorScanMath
import Derived.Test.YtibbglmhcjnedaaDoorConv
namespace Go.Proofs.YtibbglmhcjnedaaDoor
open Go.RowKit
set_option linter.unusedVariables false

theorem allF_zero (l : List UInt8) : allF (l.take 0) = true := by simp [allF]
theorem allF_succ {l : List UInt8} {k : Nat} (hk : k < l.length) : allF (l.take (k + 1)) = (allF (l.take k) && decide (bt l k = 255)) := by
  rw [take_succ l k hk]
  unfold allF
  rw [List.all_append]
  congr 1
  simp only [List.all_cons, List.all_nil, Bool.and_true]
  unfold bt
  by_cases h : l.getD k 0 = 255
  · rw [h]; rfl
  · have h2 : ¬ (l.getD k 0).toNat = 255 := fun e => h (by rw [← UInt8.ofNat_toNat (x := l.getD k 0), e]; rfl)
    rw [decide_eq_false h2]; simpa using h
theorem allF_not {l : List UInt8} {k : Nat} (hk : k < l.length) (h : bt l k ≠ 255) : allF l = false := by
  cases ha : allF l with
  | false => rfl
  | true => exact absurd (allF_get ha k hk) h

set_option maxRecDepth 100000 in
set_option maxHeartbeats 400000 in
theorem rblank_any (s : ByteArray) (hs : s.size ≤ maxLen) (w : World) :
    Calls Tryd.prog 15 #[.string s] w fun e w' => e = .returned (.bool (allF s.data.toList)) ∧ w = w' := by
  have hlen : s.data.toList.length = s.size := by simp
  have HN := Lib.hid hlen; clear hlen
  unfold maxLen at hs
  go_enter Tryd.func15, Tryd.ntmps15
  go_wp2
  go_loopw [3] (fun i wr => ∃ k : Nat, k ≤ s.size ∧ i = .int .i64 k ∧ wr = w ∧ allF (s.data.toList.take k) = true) (fun i _ => s.size - (intOf i).toNat)
  case atStart => exact ⟨0, Nat.zero_le _, rfl, rfl, allF_zero _⟩
  case round =>
    obtain ⟨k, hk, rfl, rfl, hA⟩ := hrel
    have HA := Lib.hid hA; clear hA
    by_cases hlt : k < s.size
    · have hb := bt_get s k hlt
      by_cases h255 : bt s.data.toList k = 255
      · have HS := Lib.hid (allF_succ (l := s.data.toList) (k := k) (by rw [HN.out]; exact hlt))
        have H5 := Lib.hid h255
        rw [hb] at h255
        have hb2 : ((s[k].toNat : Int) != 255) = false := by rw [h255]; rfl
        clear hb
        go_wp2
        all_goals
          first
            | omega
            | (go_roundw
               case rel => exact ⟨k + 1, by omega, by go_num, trivial, by rw [HS.out, HA.out, H5.out]; rfl⟩
               case measure => simp [intOf]; omega)
      · have HF := Lib.hid (allF_not (l := s.data.toList) (k := k) (by rw [HN.out]; exact hlt) h255)
        rw [hb] at h255
        have hb2 : ((s[k].toNat : Int) != 255) = true := by simp; omega
        clear hb
        go_wp2
        all_goals
          first
            | omega
            | (go_ret; exact ⟨ret_bool HF.out.symm, rfl⟩)
    · obtain rfl : k = s.size := by omega
      have HT := Lib.hid (show allF s.data.toList = true by have := HA.out; rwa [List.take_of_length_le (by rw [HN.out]; exact Nat.le_refl _)] at this)
      go_wp2
      go_ret
      exact ⟨ret_bool HT.out.symm, rfl⟩

set_option maxRecDepth 100000 in
set_option maxHeartbeats 400000 in
theorem sblank_any (s : ByteArray) (hs : s.size ≤ maxLen) (w : World) :
    Calls Tryd.prog 14 #[.string s] w fun e w' => e = .returned (.bool (allF s.data.toList)) ∧ w = w' := by
  have hlen : s.data.toList.length = s.size := by simp
  have HN := Lib.hid hlen; clear hlen
  unfold maxLen at hs
  go_enter Tryd.func14, Tryd.ntmps14
  go_wp2
  go_loopw [6] (fun i wr => ∃ k : Nat, k ≤ s.size ∧ i = .int .i64 k ∧ wr = w ∧ allF (s.data.toList.take k) = true) (fun i _ => s.size - (intOf i).toNat)
  case atStart => exact ⟨0, Nat.zero_le _, rfl, rfl, allF_zero _⟩
  case round =>
    obtain ⟨k, hk, rfl, rfl, hA⟩ := hrel
    have HA := Lib.hid hA; clear hA
    by_cases hlt : k < s.size
    · have hb := bt_get s k hlt
      by_cases h255 : bt s.data.toList k = 255
      · have HS := Lib.hid (allF_succ (l := s.data.toList) (k := k) (by rw [HN.out]; exact hlt))
        have H5 := Lib.hid h255
        rw [hb] at h255
        have hb2 : ((s[k].toNat : Int) != 255) = false := by rw [h255]; rfl
        clear hb
        go_wp2
        all_goals
          first
            | omega
            | (go_roundw
               case rel => exact ⟨k + 1, by omega, by go_num, trivial, by rw [HS.out, HA.out, H5.out]; rfl⟩
               case measure => simp [intOf]; omega)
      · have HF := Lib.hid (allF_not (l := s.data.toList) (k := k) (by rw [HN.out]; exact hlt) h255)
        rw [hb] at h255
        have hb2 : ((s[k].toNat : Int) != 255) = true := by simp; omega
        clear hb
        go_wp2
        all_goals
          first
            | omega
            | (go_ret; exact ⟨ret_bool HF.out.symm, rfl⟩)
    · obtain rfl : k = s.size := by omega
      have HT := Lib.hid (show allF s.data.toList = true by have := HA.out; rwa [List.take_of_length_le (by rw [HN.out]; exact Nat.le_refl _)] at this)
      go_wp2
      go_ret
      exact ⟨ret_bool HT.out.symm, rfl⟩

/-- What fills up. -/
def filN (n : Int) : Nat := if n < 0 then 0 else if 32 < n then 32 else n.toNat
def filS (k : Nat) : ByteArray := ⟨(List.replicate k (255 : UInt8)).toArray⟩
theorem filS_list (k : Nat) : (filS k).data.toList = List.replicate k 255 := rfl
theorem filS_size (k : Nat) : (filS k).size = k := by simp [filS, ByteArray.size]
theorem filS_succ (k : Nat) : filS (k + 1) = filS k ++ ⟨#[255]⟩ := str_ext (by rw [app_list, filS_list, filS_list, List.replicate_succ'])
theorem filS_all (k : Nat) : allF (filS k).data.toList = true := by rw [filS_list]; unfold allF; rw [List.all_replicate]; simp

set_option maxRecDepth 100000 in
set_option maxHeartbeats 400000 in
theorem rfill_any (n : Int) (w : World) :
    Calls Tryd.prog 21 #[.int .i64 n] w fun e w' => e = .returned (.string (filS (filN n))) ∧ w = w' := by
  obtain ⟨m, hm⟩ : ∃ m, filN n = m := ⟨_, rfl⟩
  rw [hm]
  have h32 : m ≤ 32 := by unfold filN at hm; split at hm <;> (try split at hm) <;> omega
  have hlt : ∀ k : Nat, k < m → (k : Int) < n ∧ (k : Int) < 32 := by intro k hk; unfold filN at hm; split at hm <;> (try split at hm) <;> omega
  have hge : ¬ ((m : Int) < n ∧ (m : Int) < 32) := by unfold filN at hm; split at hm <;> (try split at hm) <;> omega
  have HL := Lib.hid hlt; have HG := Lib.hid hge
  clear hlt hge hm
  go_enter Tryd.func21, Tryd.ntmps21
  go_wp2
  go_loopw [3, 4] (fun v i wr => ∃ k : Nat, k ≤ m ∧ i = .int .i64 k ∧ wr = w ∧ v = .string (filS k)) (fun _ i _ => m - (intOf i).toNat)
  case atStart => exact ⟨0, Nat.zero_le _, rfl, rfl, rfl⟩
  case round =>
    obtain ⟨k, hk, rfl, rfl, rfl⟩ := hrel
    by_cases hlt : k < m
    · obtain ⟨a1, a2⟩ := HL.out k hlt
      have HS := Lib.hid (filS_succ k)
      have z := filS_size k
      have F : ¬ (9223372036854775807 < (filS k).size + (⟨#[255]⟩ : ByteArray).size) := by rw [z]; show ¬ 9223372036854775807 < k + 1; omega
      have F' : ¬ (9223372036854775807 < (filS k).size + 1) := by omega
      clear z
      go_wp2
      go_roundw
      case rel => exact ⟨k + 1, by omega, by go_num, trivial, by rw [HS.out]⟩
      case measure => simp [intOf]; omega
    · obtain rfl : k = m := by omega
      have hg := HG.out
      by_cases hn : (k : Int) < n
      · have h3 : ¬ ((k : Int) < 32) := fun h => hg ⟨hn, h⟩
        clear hg
        go_wp2
        go_ret
        exact ⟨rfl, rfl⟩
      · clear hg
        go_wp2
        go_ret
        exact ⟨rfl, rfl⟩
end Go.Proofs.YtibbglmhcjnedaaDoor
