/-
  Contracts of utf.Put and of the document's Put: a rune's bytes, nothing if it is no rune.
-/
import Derived.Test.YthboipmlkgmofaaUtfTake
import Derived.Test.YthboipmlkgmofaaConv
namespace Go.Proofs.Ythboipmlkgmofaa
open Go.RowKit

/-- A rune's bytes; nothing, if it is no rune. -/
def putS (c : Int) : ByteArray := if sz c = 0 then ⟨#[]⟩ else Utf8.encode c

theorem ok_yes (c : Int) (h0 : 0 ≤ c) (h1 : c ≤ 1114111) (h2 : c < 55296 ∨ 57343 < c) (w : World) :
    Calls Try.prog 52 #[.int .i64 c] w fun e w' => e = .returned (.bool true) ∧ w = w' := by
  by_cases h3 : 55296 ≤ c
  · have h4 : ¬ c ≤ 57343 := by omega
    clear h2
    go_enter Try.func52, Try.ntmps52
    go_wp2
    go_ret
    exact ⟨by simp, rfl⟩
  · clear h2
    go_enter Try.func52, Try.ntmps52
    go_wp2
    go_ret
    exact ⟨by simp, rfl⟩
theorem ok_no (c : Int) (h : c < 0 ∨ 1114111 < c ∨ (55296 ≤ c ∧ c ≤ 57343)) (w : World) :
    Calls Try.prog 52 #[.int .i64 c] w fun e w' => e = .returned (.bool false) ∧ w = w' := by
  by_cases h0 : c < 0
  · clear h
    go_enter Try.func52, Try.ntmps52
    go_wp2
    go_ret
    exact ⟨rfl, rfl⟩
  by_cases h1 : 1114111 < c
  · clear h
    have h1' : ¬ c ≤ 1114111 := by omega
    go_enter Try.func52, Try.ntmps52
    go_wp2
    go_ret
    exact ⟨by simp, rfl⟩
  · have h2 : 55296 ≤ c := by omega
    have h3 : c ≤ 57343 := by omega
    clear h
    go_enter Try.func52, Try.ntmps52
    go_wp2
    go_ret
    exact ⟨by simp, rfl⟩
theorem octets_any (c : Int) (h0 : sz c ≠ 0) (w : World) :
    Calls Try.prog 53 #[.int .i64 c] w fun e w' => e = .returned (.int .i64 (sz c)) ∧ w = w' := by
  by_cases hb : c < 0 ∨ 1114111 < c ∨ (55296 ≤ c ∧ c ≤ 57343)
  · exact absurd (by unfold sz; rw [if_pos hb]) h0
  clear h0
  by_cases h1 : c < 128
  · have e : sz c = 1 := by unfold sz; rw [if_neg hb, if_pos h1]
    rw [e]; clear e hb
    go_enter Try.func53, Try.ntmps53
    go_wp2
    go_ret
    exact ⟨rfl, rfl⟩
  by_cases h2 : c < 2048
  · have e : sz c = 2 := by unfold sz; rw [if_neg hb, if_neg h1, if_pos h2]
    rw [e]; clear e hb
    go_enter Try.func53, Try.ntmps53
    go_wp2
    go_ret
    exact ⟨rfl, rfl⟩
  by_cases h3 : c < 65536
  · have e : sz c = 3 := by unfold sz; rw [if_neg hb, if_neg h1, if_neg h2, if_pos h3]
    rw [e]; clear e hb
    go_enter Try.func53, Try.ntmps53
    go_wp2
    go_ret
    exact ⟨rfl, rfl⟩
  · have e : sz c = 4 := by unfold sz; rw [if_neg hb, if_neg h1, if_neg h2, if_neg h3]
    rw [e]; clear e hb
    go_enter Try.func53, Try.ntmps53
    go_wp2
    go_ret
    exact ⟨rfl, rfl⟩

theorem putS_1 (c : Int) (h : 0 ≤ c) (h' : c < 128) : putS c = strOfNums [c] := by
  have hs : sz c = 1 := by unfold sz; rw [if_neg (by omega), if_pos (by omega)]
  have hv : Utf8.valid c = true := by unfold Utf8.valid; simp; omega
  unfold putS Utf8.encode
  rw [hs, if_neg (by omega), if_pos hv]
  simp only []
  rw [if_pos (by omega)]
  simp only [strOfNums, List.map_cons, List.map_nil]
set_option maxRecDepth 100000 in
set_option maxHeartbeats 400000 in
theorem rput_1 (c : Int) (h : 0 ≤ c) (h' : c < 128) (w : World) :
    Calls Try.prog 49 #[.int .i32 c] w fun e w' => e = .returned (.string (putS c)) ∧ Below w.heap.size w w' := by
  have hs : sz c = 1 := by unfold sz; rw [if_neg (by omega), if_pos (by omega)]
  have ho := octets_any c (by omega)
  rw [hs] at ho
  rw [putS_1 c h h']
  have HO := Lib.hid ho; clear ho
  clear hs
  have hk := ok_yes c (by omega) (by omega) (by omega)
  have HK := Lib.hid hk; clear hk
  have hcv : ∀ x : Int, _ := fun x => conv_row [x] 1 rfl w
  simp only [List.map_cons, List.map_nil] at hcv
  go_enter Try.func49, Try.ntmps49
  go_wp2_with (first | (go_at_call 52; refine (HK.out _).mono ?_; rintro e w' ⟨rfl, rfl⟩) | (go_at_call 53; refine (HO.out _).mono ?_; rintro e w' ⟨rfl, rfl⟩))
  go_ret
  exact ⟨rfl, (Below.refl _ _).alloc (Nat.le_refl _) _⟩
theorem putS_2 (c : Int) (h : 128 ≤ c) (h' : c < 2048) : putS c = strOfNums [192 + c / 64, 128 + c % 64] := by
  have hs : sz c = 2 := by unfold sz; rw [if_neg (by omega), if_neg (by omega), if_pos (by omega)]
  have hv : Utf8.valid c = true := by unfold Utf8.valid; simp; omega
  unfold putS Utf8.encode
  rw [hs, if_neg (by omega), if_pos hv]
  simp only []
  rw [if_neg (by omega), if_pos (by omega)]
  simp only [strOfNums, List.map_cons, List.map_nil, show (192 + c / 64).toNat = 192 + c.toNat / 64 by omega, show (128 + c % 64).toNat = 128 + c.toNat % 64 by omega]
set_option maxRecDepth 100000 in
set_option maxHeartbeats 400000 in
theorem rput_2 (c : Int) (h : 128 ≤ c) (h' : c < 2048) (w : World) :
    Calls Try.prog 49 #[.int .i32 c] w fun e w' => e = .returned (.string (putS c)) ∧ Below w.heap.size w w' := by
  have hs : sz c = 2 := by unfold sz; rw [if_neg (by omega), if_neg (by omega), if_pos (by omega)]
  have ho := octets_any c (by omega)
  rw [hs] at ho
  rw [putS_2 c h h']
  have HO := Lib.hid ho; clear ho
  clear hs
  have hk := ok_yes c (by omega) (by omega) (by omega)
  have HK := Lib.hid hk; clear hk
  have hcv : ∀ x y : Int, _ := fun x y => conv_row [x, y] 2 rfl w
  simp only [List.map_cons, List.map_nil] at hcv
  go_enter Try.func49, Try.ntmps49
  go_wp2_with (first | (go_at_call 52; refine (HK.out _).mono ?_; rintro e w' ⟨rfl, rfl⟩) | (go_at_call 53; refine (HO.out _).mono ?_; rintro e w' ⟨rfl, rfl⟩))
  go_ret
  exact ⟨rfl, (Below.refl _ _).alloc (Nat.le_refl _) _⟩
theorem putS_3 (c : Int) (h : 2048 ≤ c) (h' : c < 65536) (hg : c < 55296 ∨ 57343 < c) : putS c = strOfNums [224 + c / 4096, 128 + c / 64 % 64, 128 + c % 64] := by
  have hs : sz c = 3 := by unfold sz; rw [if_neg (by omega), if_neg (by omega), if_neg (by omega), if_pos (by omega)]
  have hv : Utf8.valid c = true := by unfold Utf8.valid; simp; omega
  unfold putS Utf8.encode
  rw [hs, if_neg (by omega), if_pos hv]
  simp only []
  rw [if_neg (by omega), if_neg (by omega), if_pos (by omega)]
  simp only [strOfNums, List.map_cons, List.map_nil, show (224 + c / 4096).toNat = 224 + c.toNat / 4096 by omega, show (128 + c / 64 % 64).toNat = 128 + c.toNat / 64 % 64 by omega, show (128 + c % 64).toNat = 128 + c.toNat % 64 by omega]
set_option maxRecDepth 100000 in
set_option maxHeartbeats 400000 in
theorem rput_3 (c : Int) (h : 2048 ≤ c) (h' : c < 65536) (hg : c < 55296 ∨ 57343 < c) (w : World) :
    Calls Try.prog 49 #[.int .i32 c] w fun e w' => e = .returned (.string (putS c)) ∧ Below w.heap.size w w' := by
  have hs : sz c = 3 := by unfold sz; rw [if_neg (by omega), if_neg (by omega), if_neg (by omega), if_pos (by omega)]
  have ho := octets_any c (by omega)
  rw [hs] at ho
  rw [putS_3 c h h' hg]
  have HO := Lib.hid ho; clear ho
  clear hs
  have hk := ok_yes c (by omega) (by omega) (by omega)
  have HK := Lib.hid hk; clear hk
  have hcv : ∀ x y z : Int, _ := fun x y z => conv_row [x, y, z] 3 rfl w
  simp only [List.map_cons, List.map_nil] at hcv
  go_enter Try.func49, Try.ntmps49
  go_wp2_with (first | (go_at_call 52; refine (HK.out _).mono ?_; rintro e w' ⟨rfl, rfl⟩) | (go_at_call 53; refine (HO.out _).mono ?_; rintro e w' ⟨rfl, rfl⟩))
  go_ret
  exact ⟨rfl, (Below.refl _ _).alloc (Nat.le_refl _) _⟩
theorem putS_4 (c : Int) (h : 65536 ≤ c) (h' : c ≤ 1114111) : putS c = strOfNums [240 + c / 262144, 128 + c / 4096 % 64, 128 + c / 64 % 64, 128 + c % 64] := by
  have hs : sz c = 4 := by unfold sz; rw [if_neg (by omega), if_neg (by omega), if_neg (by omega), if_neg (by omega)]
  have hv : Utf8.valid c = true := by unfold Utf8.valid; simp; omega
  unfold putS Utf8.encode
  rw [hs, if_neg (by omega), if_pos hv]
  simp only []
  rw [if_neg (by omega), if_neg (by omega), if_neg (by omega)]
  simp only [strOfNums, List.map_cons, List.map_nil, show (240 + c / 262144).toNat = 240 + c.toNat / 262144 by omega, show (128 + c / 4096 % 64).toNat = 128 + c.toNat / 4096 % 64 by omega, show (128 + c / 64 % 64).toNat = 128 + c.toNat / 64 % 64 by omega, show (128 + c % 64).toNat = 128 + c.toNat % 64 by omega]
set_option maxRecDepth 100000 in
set_option maxHeartbeats 400000 in
theorem rput_4 (c : Int) (h : 65536 ≤ c) (h' : c ≤ 1114111) (w : World) :
    Calls Try.prog 49 #[.int .i32 c] w fun e w' => e = .returned (.string (putS c)) ∧ Below w.heap.size w w' := by
  have hs : sz c = 4 := by unfold sz; rw [if_neg (by omega), if_neg (by omega), if_neg (by omega), if_neg (by omega)]
  have ho := octets_any c (by omega)
  rw [hs] at ho
  rw [putS_4 c h h']
  have HO := Lib.hid ho; clear ho
  clear hs
  have hk := ok_yes c (by omega) (by omega) (by omega)
  have HK := Lib.hid hk; clear hk
  have hcv : ∀ x y z u : Int, _ := fun x y z u => conv_row [x, y, z, u] 4 rfl w
  simp only [List.map_cons, List.map_nil] at hcv
  go_enter Try.func49, Try.ntmps49
  go_wp2_with (first | (go_at_call 52; refine (HK.out _).mono ?_; rintro e w' ⟨rfl, rfl⟩) | (go_at_call 53; refine (HO.out _).mono ?_; rintro e w' ⟨rfl, rfl⟩))
  go_ret
  exact ⟨rfl, (Below.refl _ _).alloc (Nat.le_refl _) _⟩
set_option maxRecDepth 100000 in
set_option maxHeartbeats 400000 in
theorem rput_0 (c : Int) (b0 : -2147483648 ≤ c) (b1 : c ≤ 2147483647) (h : c < 0 ∨ 1114111 < c ∨ (55296 ≤ c ∧ c ≤ 57343)) (w : World) :
    Calls Try.prog 49 #[.int .i32 c] w fun e w' => e = .returned (.string (putS c)) ∧ Below w.heap.size w w' := by
  have hs : sz c = 0 := by unfold sz; rw [if_pos h]
  have e : putS c = ⟨#[]⟩ := by unfold putS; rw [if_pos hs]
  rw [e]; clear e hs
  have hk := ok_no c h
  have HK := Lib.hid hk; clear hk h
  go_enter Try.func49, Try.ntmps49
  go_wp2_with (go_at_call 52; refine (HK.out _).mono ?_; rintro e w' ⟨rfl, rfl⟩)
  go_ret
  exact ⟨rfl, Below.refl _ _⟩
theorem rput_any (c : Int) (b0 : -2147483648 ≤ c) (b1 : c ≤ 2147483647) (w : World) :
    Calls Try.prog 49 #[.int .i32 c] w fun e w' => e = .returned (.string (putS c)) ∧ Below w.heap.size w w' := by
  by_cases h0 : c < 0 ∨ 1114111 < c ∨ (55296 ≤ c ∧ c ≤ 57343)
  · exact rput_0 c b0 b1 h0 w
  by_cases h1 : c < 128
  · exact rput_1 c (by omega) h1 w
  by_cases h2 : c < 2048
  · exact rput_2 c (by omega) h2 w
  by_cases h3 : c < 65536
  · exact rput_3 c (by omega) h3 (by omega) w
  · exact rput_4 c (by omega) (by omega) w
end Go.Proofs.Ythboipmlkgmofaa
