/-
  Contracts of Bad and Valid, the program's and the document's: the first place at which no rune stands.
-/
import Derived.Test.YtapkkbiodfeooaaUtfDecode
import Derived.Test.YtapkkbiodfeooaaLawTakes
namespace Go.Proofs.Ytapkkbiodfeooaa
open Go.RowKit

/-- The first place from p on at which no rune stands. -/
def badAt (l : List UInt8) (p : Nat) : Int := badF (l.length + 1) (l.drop p) p
theorem badAt_zero (l : List UInt8) : badAt l 0 = bad l := rfl
theorem badAt_end (l : List UInt8) (p : Nat) (h : l.length ≤ p) : badAt l p = -1 := by
  unfold badAt; rw [List.drop_eq_nil_of_le h]; simp [badF]
theorem badAt_bad (l : List UInt8) (p : Nat) (h : p < l.length) (e : (tkl (l.drop p)).2 = 0) : badAt l p = p := by
  unfold badAt; simp only [badF]; rw [if_neg (by simp; omega), if_pos e]
theorem badAt_step (l : List UInt8) (p : Nat) (h : p < l.length) (e : (tkl (l.drop p)).2 ≠ 0) : badAt l p = badAt l (p + (tkl (l.drop p)).2) := by
  unfold badAt
  conv => lhs; rw [show badF (l.length + 1) (l.drop p) p = if l.drop p = [] then (-1 : Int) else if (tkl (l.drop p)).2 = 0 then (p : Int) else badF l.length ((l.drop p).drop (tkl (l.drop p)).2) (p + (tkl (l.drop p)).2) from rfl]
  rw [if_neg (by simp; omega), if_neg e, List.drop_drop]
  exact badF_more _ _ _ _ (by simp; omega) (by simp; omega)

theorem bad_ge (l : List UInt8) : -1 ≤ bad l := by
  have := badF_range (l.length + 1) l 0
  unfold bad; omega
/-- Is a text made of runes alone, as a Bool? -/
def vldB (l : List UInt8) : Bool := decide (bad l < 0)
theorem vldB_iff (l : List UInt8) : vldB l = true ↔ vld l := by
  unfold vldB vld; have := bad_ge l; simp; omega

end Go.Proofs.Ytapkkbiodfeooaa
