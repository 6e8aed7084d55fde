/-
  More on numbers as bytes: what bytes a number was made of, and where they stand.
-/
import Derived.Test.YtlgdlkiekodocaaNumMath
namespace Go.Proofs.Ytlgdlkiekodocaa
open Go.RowKit

theorem leN_alike (a b : List UInt8) : ∀ m i j, (∀ x, x < m → bt a (i + x) = bt b (j + x)) → leN a i m = leN b j m := by
  intro m
  induction m with
  | zero => intro i j _; rfl
  | succ m ih =>
    intro i j h
    show bt a i + 256 * leN a (i + 1) m = bt b j + 256 * leN b (j + 1) m
    rw [ih (i + 1) (j + 1) (fun x hx => by have := h (x + 1) (by omega); rw [show i + 1 + x = i + (x + 1) by omega, show j + 1 + x = j + (x + 1) by omega]; exact this)]
    have := h 0 (by omega)
    rw [Nat.add_zero, Nat.add_zero] at this
    rw [this]
theorem leN_byte (l : List UInt8) : ∀ m k i, i < m → leN l k m / 256 ^ i % 256 = bt l (k + i) := by
  intro m
  induction m with
  | zero => intro k i h; omega
  | succ m ih =>
    intro k i h
    have hb := bt_lt l k
    show (bt l k + 256 * leN l (k + 1) m) / 256 ^ i % 256 = _
    cases i with
    | zero => simp; omega
    | succ i =>
      have := ih (k + 1) i (by omega)
      rw [Nat.pow_succ, Nat.mul_comm (256 ^ i) 256, ← Nat.div_div_eq_div_mul, show (bt l k + 256 * leN l (k + 1) m) / 256 = leN l (k + 1) m by omega, this, show k + 1 + i = k + (i + 1) by omega]
theorem leL_leN (l : List UInt8) (k m : Nat) (h : k + m ≤ l.length) : leL (leN l k m) m = (l.drop k).take m := by
  have hl : ((l.drop k).take m).length = m := by simp; omega
  refine ext_bt _ _ (by rw [leL_length, hl]) fun i hi => ?_
  rw [leL_length] at hi
  rw [leL_bt _ _ _ hi, leN_byte l m k i hi, bt_take _ _ _ hi, bt_drop]
theorem leN_leLm (u m : Nat) : leN (leL u m) 0 m = u % 256 ^ m := by
  have key : ∀ m' k v, (∀ i, i < m' → bt (leL u m) (k + i) = v / 256 ^ i % 256) → leN (leL u m) k m' = v % 256 ^ m' := by
    intro m'
    induction m' with
    | zero => intro k v _; simp [leN, Nat.mod_one]
    | succ m' ih =>
      intro k v h
      have h0 := h 0 (by omega)
      simp at h0
      have h1 := ih (k + 1) (v / 256) (fun i hi => by
        have := h (i + 1) (by omega)
        rw [show k + 1 + i = k + (i + 1) by omega, this, Nat.pow_succ, Nat.mul_comm (256 ^ i) 256, ← Nat.div_div_eq_div_mul])
      show bt (leL u m) k + 256 * leN (leL u m) (k + 1) m' = _
      rw [h0, h1, Nat.pow_succ, Nat.mul_comm (256 ^ m') 256, Nat.mod_mul]
  exact key m 0 u (fun i hi => by rw [Nat.zero_add]; exact leL_bt u m i hi)
theorem leN_at (a b c : List UInt8) (m : Nat) (h : b.length = m) : leN (a ++ b ++ c) a.length m = leN b 0 m := by
  refine leN_alike _ _ m _ _ fun x hx => ?_
  rw [Nat.zero_add, List.append_assoc, bt_app_ge _ _ _ (by omega), bt_app_lt _ _ _ (by omega), show a.length + x - a.length = x by omega]
end Go.Proofs.Ytlgdlkiekodocaa
