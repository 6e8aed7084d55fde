/-
  Contracts of Edge, the program's and the document's: is a place an edge of a text?
-/
import Derived.Test.YthboipmlkgmofaaUtfPut
namespace Go.Proofs.Ythboipmlkgmofaa
open Go.RowKit

def edgeB (l : List UInt8) (p : Int) : Bool := decide (0 ≤ p ∧ edge l p.toNat)

set_option maxRecDepth 100000 in
theorem edge_yes (s : ByteArray) (hs : s.size ≤ maxLen) (k : Nat) (h : edge s.data.toList k) (w : World) :
    Calls Try.prog 40 #[.string s, .int .i64 k] w fun e w' => e = .returned (.bool true) ∧ w = w' := by
  unfold maxLen at hs
  have hlen : s.data.toList.length = s.size := by simp
  unfold edge at h
  rw [hlen] at h
  by_cases h0 : k = 0
  · clear h hlen
    subst h0
    go_enter Try.func40, Try.ntmps40
    go_wp2
    go_ret
    exact ⟨by simp, rfl⟩
  have hz : ((k : Int) == 0) = false := by simp; omega
  by_cases h1 : k = s.size
  · have hz1 : ((k : Int) == (s.size : Int)) = true := by simp; omega
    have hle : k ≤ s.size := by omega
    have hge : s.size ≤ k := by omega
    clear h hlen h1
    go_enter Try.func40, Try.ntmps40
    go_wp2
    go_ret
    exact ⟨by simp, rfl⟩
  · have hz1 : ((k : Int) == (s.size : Int)) = false := by simp; omega
    obtain ⟨hk, hb⟩ : k < s.size ∧ ¬ (128 ≤ bt s.data.toList k ∧ bt s.data.toList k ≤ 191) := by
      rcases h with h | h | h
      · exact absurd h h0
      · exact absurd h h1
      · exact h
    rw [bt_get s k hk] at hb
    have HB := Lib.hid hb
    clear h hlen h1 h0 hb
    go_enter Try.func40, Try.ntmps40
    go_wp2_with (go_at_call 44; refine (goesOn_no _ HB.out _).mono ?_; rintro e w' ⟨rfl, rfl⟩)
    go_ret
    exact ⟨by simp, rfl⟩
set_option maxRecDepth 100000 in
theorem edge_no (s : ByteArray) (hs : s.size ≤ maxLen) (k : Nat) (hk : k < s.size) (h : ¬ edge s.data.toList k) (w : World) :
    Calls Try.prog 40 #[.string s, .int .i64 k] w fun e w' => e = .returned (.bool false) ∧ w = w' := by
  unfold maxLen at hs
  have hlen : s.data.toList.length = s.size := by simp
  unfold edge at h
  rw [hlen, bt_get s k hk] at h
  have hz : ((k : Int) == 0) = false := by simp; omega
  have hz1 : ((k : Int) == (s.size : Int)) = false := by simp; omega
  have h1 : 128 ≤ s[k].toNat := by omega
  have h2 : s[k].toNat ≤ 191 := by omega
  clear h hlen
  go_enter Try.func40, Try.ntmps40
  go_wp2_with (go_at_call 44; refine (goesOn_yes _ h1 h2 _).mono ?_; rintro e w' ⟨rfl, rfl⟩)
  go_ret
  exact ⟨by simp, rfl⟩
set_option maxRecDepth 100000 in
theorem edge_out (s : ByteArray) (p : Int) (h : p < 0 ∨ (s.size : Int) < p) (w : World) :
    Calls Try.prog 40 #[.string s, .int .i64 p] w fun e w' => e = .returned (.bool false) ∧ w = w' := by
  by_cases h0 : p < 0
  · clear h
    go_enter Try.func40, Try.ntmps40
    go_wp2
    go_ret
    exact ⟨rfl, rfl⟩
  · have h1 : (s.size : Int) < p := by omega
    clear h
    go_enter Try.func40, Try.ntmps40
    go_wp2
    go_ret
    exact ⟨rfl, rfl⟩
theorem edge_any (s : ByteArray) (hs : s.size ≤ maxLen) (p : Int) (w : World) :
    Calls Try.prog 40 #[.string s, .int .i64 p] w fun e w' => e = .returned (.bool (edgeB s.data.toList p)) ∧ w = w' := by
  have hlen : s.data.toList.length = s.size := by simp
  by_cases h : p < 0 ∨ (s.size : Int) < p
  · have e : edgeB s.data.toList p = false := by
      unfold edgeB; rw [decide_eq_false_iff_not]; unfold edge; rw [hlen]; omega
    rw [e]; exact edge_out s p h w
  obtain ⟨k, rfl⟩ := Int.eq_ofNat_of_zero_le (show 0 ≤ p by omega)
  by_cases hE : edge s.data.toList k
  · have e : edgeB s.data.toList k = true := by unfold edgeB; rw [Int.toNat_natCast]; simp [hE]
    rw [e]; exact edge_yes s hs k hE w
  · have e : edgeB s.data.toList k = false := by unfold edgeB; rw [Int.toNat_natCast]; simp [hE]
    rw [e]; exact edge_no s hs k (by unfold edge at hE; rw [hlen] at hE; omega) hE w

set_option maxRecDepth 100000 in
theorem redge_yes (s : ByteArray) (hs : s.size ≤ maxLen) (k : Nat) (h : edge s.data.toList k) (w : World) :
    Calls Try.prog 37 #[.string s, .int .i64 k] w fun e w' => e = .returned (.bool true) ∧ w = w' := by
  unfold maxLen at hs
  have hlen : s.data.toList.length = s.size := by simp
  unfold edge at h
  rw [hlen] at h
  by_cases h0 : k = 0
  · clear h hlen
    subst h0
    go_enter Try.func37, Try.ntmps37
    go_wp2
    go_ret
    exact ⟨by simp, rfl⟩
  have hz : ((k : Int) == 0) = false := by simp; omega
  by_cases h1 : k = s.size
  · have hz1 : ((k : Int) == (s.size : Int)) = true := by simp; omega
    have hle : k ≤ s.size := by omega
    have hge : s.size ≤ k := by omega
    clear h hlen h1
    go_enter Try.func37, Try.ntmps37
    go_wp2
    go_ret
    exact ⟨by simp, rfl⟩
  · have hz1 : ((k : Int) == (s.size : Int)) = false := by simp; omega
    obtain ⟨hk, hb⟩ : k < s.size ∧ ¬ (128 ≤ bt s.data.toList k ∧ bt s.data.toList k ≤ 191) := by
      rcases h with h | h | h
      · exact absurd h h0
      · exact absurd h h1
      · exact h
    rw [bt_get s k hk] at hb
    have HB := Lib.hid hb
    clear h hlen h1 h0 hb
    go_enter Try.func37, Try.ntmps37
    go_wp2_with (go_at_call 42; refine (on_no _ HB.out _).mono ?_; rintro e w' ⟨rfl, rfl⟩)
    go_ret
    exact ⟨by simp, rfl⟩
set_option maxRecDepth 100000 in
theorem redge_no (s : ByteArray) (hs : s.size ≤ maxLen) (k : Nat) (hk : k < s.size) (h : ¬ edge s.data.toList k) (w : World) :
    Calls Try.prog 37 #[.string s, .int .i64 k] w fun e w' => e = .returned (.bool false) ∧ w = w' := by
  unfold maxLen at hs
  have hlen : s.data.toList.length = s.size := by simp
  unfold edge at h
  rw [hlen, bt_get s k hk] at h
  have hz : ((k : Int) == 0) = false := by simp; omega
  have hz1 : ((k : Int) == (s.size : Int)) = false := by simp; omega
  have h1 : 128 ≤ s[k].toNat := by omega
  have h2 : s[k].toNat ≤ 191 := by omega
  clear h hlen
  go_enter Try.func37, Try.ntmps37
  go_wp2_with (go_at_call 42; refine (on_yes _ h1 h2 _).mono ?_; rintro e w' ⟨rfl, rfl⟩)
  go_ret
  exact ⟨by simp, rfl⟩
set_option maxRecDepth 100000 in
theorem redge_out (s : ByteArray) (p : Int) (h : p < 0 ∨ (s.size : Int) < p) (w : World) :
    Calls Try.prog 37 #[.string s, .int .i64 p] w fun e w' => e = .returned (.bool false) ∧ w = w' := by
  by_cases h0 : p < 0
  · clear h
    go_enter Try.func37, Try.ntmps37
    go_wp2
    go_ret
    exact ⟨rfl, rfl⟩
  · have h1 : (s.size : Int) < p := by omega
    clear h
    go_enter Try.func37, Try.ntmps37
    go_wp2
    go_ret
    exact ⟨rfl, rfl⟩
theorem redge_any (s : ByteArray) (hs : s.size ≤ maxLen) (p : Int) (w : World) :
    Calls Try.prog 37 #[.string s, .int .i64 p] w fun e w' => e = .returned (.bool (edgeB s.data.toList p)) ∧ w = w' := by
  have hlen : s.data.toList.length = s.size := by simp
  by_cases h : p < 0 ∨ (s.size : Int) < p
  · have e : edgeB s.data.toList p = false := by
      unfold edgeB; rw [decide_eq_false_iff_not]; unfold edge; rw [hlen]; omega
    rw [e]; exact redge_out s p h w
  obtain ⟨k, rfl⟩ := Int.eq_ofNat_of_zero_le (show 0 ≤ p by omega)
  by_cases hE : edge s.data.toList k
  · have e : edgeB s.data.toList k = true := by unfold edgeB; rw [Int.toNat_natCast]; simp [hE]
    rw [e]; exact redge_yes s hs k hE w
  · have e : edgeB s.data.toList k = false := by unfold edgeB; rw [Int.toNat_natCast]; simp [hE]
    rw [e]; exact redge_no s hs k (by unfold edge at hE; rw [hlen] at hE; omega) hE w
end Go.Proofs.Ythboipmlkgmofaa
