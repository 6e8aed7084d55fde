/-
  Contracts of utf.Put and of the document's Put: a rune's bytes, nothing if it is no rune.
-/
import Derived.Test.YtapkkbiodfeooaaUtfTake
import Derived.Test.YtapkkbiodfeooaaConv
namespace Go.Proofs.Ytapkkbiodfeooaa
open Go.RowKit

/-- A rune's bytes; nothing, if it is no rune. -/
def putS (c : Int) : ByteArray := if sz c = 0 then ⟨#[]⟩ else Utf8.encode c

theorem putS_1 (c : Int) (h : 0 ≤ c) (h' : c < 128) : putS c = strOfNums [c] := by
  have hs : sz c = 1 := by unfold sz; rw [if_neg (by omega), if_pos (by omega)]
  have hv : Utf8.valid c = true := by unfold Utf8.valid; simp; omega
  unfold putS Utf8.encode
  rw [hs, if_neg (by omega), if_pos hv]
  simp only []
  rw [if_pos (by omega)]
  simp only [strOfNums, List.map_cons, List.map_nil]
theorem putS_2 (c : Int) (h : 128 ≤ c) (h' : c < 2048) : putS c = strOfNums [192 + c / 64, 128 + c % 64] := by
  have hs : sz c = 2 := by unfold sz; rw [if_neg (by omega), if_neg (by omega), if_pos (by omega)]
  have hv : Utf8.valid c = true := by unfold Utf8.valid; simp; omega
  unfold putS Utf8.encode
  rw [hs, if_neg (by omega), if_pos hv]
  simp only []
  rw [if_neg (by omega), if_pos (by omega)]
  simp only [strOfNums, List.map_cons, List.map_nil, show (192 + c / 64).toNat = 192 + c.toNat / 64 by omega, show (128 + c % 64).toNat = 128 + c.toNat % 64 by omega]
theorem putS_3 (c : Int) (h : 2048 ≤ c) (h' : c < 65536) (hg : c < 55296 ∨ 57343 < c) : putS c = strOfNums [224 + c / 4096, 128 + c / 64 % 64, 128 + c % 64] := by
  have hs : sz c = 3 := by unfold sz; rw [if_neg (by omega), if_neg (by omega), if_neg (by omega), if_pos (by omega)]
  have hv : Utf8.valid c = true := by unfold Utf8.valid; simp; omega
  unfold putS Utf8.encode
  rw [hs, if_neg (by omega), if_pos hv]
  simp only []
  rw [if_neg (by omega), if_neg (by omega), if_pos (by omega)]
  simp only [strOfNums, List.map_cons, List.map_nil, show (224 + c / 4096).toNat = 224 + c.toNat / 4096 by omega, show (128 + c / 64 % 64).toNat = 128 + c.toNat / 64 % 64 by omega, show (128 + c % 64).toNat = 128 + c.toNat % 64 by omega]
theorem putS_4 (c : Int) (h : 65536 ≤ c) (h' : c ≤ 1114111) : putS c = strOfNums [240 + c / 262144, 128 + c / 4096 % 64, 128 + c / 64 % 64, 128 + c % 64] := by
  have hs : sz c = 4 := by unfold sz; rw [if_neg (by omega), if_neg (by omega), if_neg (by omega), if_neg (by omega)]
  have hv : Utf8.valid c = true := by unfold Utf8.valid; simp; omega
  unfold putS Utf8.encode
  rw [hs, if_neg (by omega), if_pos hv]
  simp only []
  rw [if_neg (by omega), if_neg (by omega), if_neg (by omega)]
  simp only [strOfNums, List.map_cons, List.map_nil, show (240 + c / 262144).toNat = 240 + c.toNat / 262144 by omega, show (128 + c / 4096 % 64).toNat = 128 + c.toNat / 4096 % 64 by omega, show (128 + c / 64 % 64).toNat = 128 + c.toNat / 64 % 64 by omega, show (128 + c % 64).toNat = 128 + c.toNat % 64 by omega]
end Go.Proofs.Ytapkkbiodfeooaa
