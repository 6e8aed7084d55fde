/-
  Joined: Common, NumMath.
-/
import Derived.Test.YtbdfglalohgahaaDoorUtfMath
import Derived.WalkKit
import Derived.WalkSpells
import Derived.WalkLawsBesides
import Derived.Lib.Hide
import Derived.OpenShut
import Derived.IntWalk
namespace Go.Proofs.YtbdfglalohgahaaDoor
open Go.RowKit

theorem ret_int {k : IntKind} {a b : Int} (h : a = b) : Ending.returned (.int k a) = .returned (.int k b) := by rw [h]
theorem ret_u32 {a b : Nat} (h : a = b) : Ending.returned (.int .u32 a) = .returned (.int .u32 b) := by rw [h]
theorem ret_bool {a b : Bool} (h : a = b) : Ending.returned (.bool a) = .returned (.bool b) := by rw [h]
theorem ret_str {a b : ByteArray} (h : a = b) : Ending.returned (.string a) = .returned (.string b) := by rw [h]
theorem ret_two {a b c d : Int} (h1 : a = c) (h2 : b = d) : Ending.returned (.tuple #[.int .i32 a, .int .i64 b]) = .returned (.tuple #[.int .i32 c, .int .i64 d]) := by rw [h1, h2]
theorem ret_ib {a c : Int} {b d : Bool} (h1 : a = c) (h2 : b = d) : Ending.returned (.tuple #[.int .i64 a, .bool b]) = .returned (.tuple #[.int .i64 c, .bool d]) := by rw [h1, h2]

theorem bt_get (s : ByteArray) (k : Nat) (h : k < s.size) : bt s.data.toList k = (s[k]'h).toNat := by
  unfold bt
  have h' : k < s.data.toList.length := by simpa using h
  rw [List.getD_eq_getElem?_getD, List.getElem?_eq_getElem h']
  rfl
theorem ext_bt (a b : List UInt8) (h : a.length = b.length) (e : ∀ i, i < a.length → bt a i = bt b i) : a = b := by
  refine List.ext_getElem h fun i h1 h2 => ?_
  have := e i h1
  unfold bt at this
  rw [List.getD_eq_getElem?_getD, List.getD_eq_getElem?_getD, List.getElem?_eq_getElem h1, List.getElem?_eq_getElem h2] at this
  exact UInt8.toNat_inj.1 this
theorem bt_nums (xs : List Int) (i : Nat) (h : i < xs.length) : bt (strOfNums xs).data.toList i = (xs.getD i 0).toNat % 256 := by
  unfold bt strOfNums
  simp [List.getD_eq_getElem?_getD, List.getElem?_eq_getElem h]
theorem bt_nums_end (xs : List Int) (i : Nat) (h : xs.length ≤ i) : bt (strOfNums xs).data.toList i = 0 := bt_of_le _ _ (by simpa [strOfNums] using h)
theorem size_nums (xs : List Int) : (strOfNums xs).size = xs.length := by simp [strOfNums, ByteArray.size]
theorem app_list (a b : ByteArray) : (a ++ b).data.toList = a.data.toList ++ b.data.toList := by simp
theorem extract_list (s : ByteArray) (a b : Nat) : (s.extract a b).data.toList = (s.data.toList.drop a).take (b - a) := by
  rw [ByteArray.data_extract, Array.toList_extract]
theorem str_ne {a b : ByteArray} (h : ¬ a = b) : (a.toList == b.toList) = false := by
  rw [beq_eq_false_iff_ne, ByteArray.toList_eq, ByteArray.toList_eq]
  exact fun e => h (ByteArray.ext (Array.toList_inj.1 e))
theorem isEmpty_size (s : ByteArray) : s.toList.isEmpty = decide (s.size = 0) := by
  have h : s.toList.length = s.size := by rw [ByteArray.toList_eq]; simp
  rw [← h]
  cases s.toList <;> simp
theorem str_ext {a b : ByteArray} (h : a.data.toList = b.data.toList) : a = b := ByteArray.ext (Array.toList_inj.1 h)

theorem drewN_below {B : Nat} {a w : World} (h : Below B a w) (n : Nat) : Below B a (w.drewN n) := ⟨h.os, h.tape, h.output, h.size, h.block⟩
/-- A call behind others: what lay below the first world's end lies there still. -/
theorem onward {P : Program} {f : FuncId} {args : Array Value} {v : Value} {w0 w : World} (h : Below w0.heap.size w0 w)
    (c : Calls P f args w fun e w' => e = .returned v ∧ Below w.heap.size w w') : Calls P f args w fun e w' => e = .returned v ∧ Below w0.heap.size w0 w' :=
  c.mono fun _ _ ⟨he, hb⟩ => ⟨he, h.trans (hb.mono h.size)⟩
end Go.Proofs.YtbdfglalohgahaaDoor
namespace Go.Proofs.YtbdfglalohgahaaDoor
open Go.RowKit

/-- The number that m bytes at k are. -/
def leN (l : List UInt8) : Nat → Nat → Nat
  | _, 0 => 0
  | k, m + 1 => bt l k + 256 * leN l (k + 1) m
theorem leN_lt (l : List UInt8) (m : Nat) : ∀ k, leN l k m < 256 ^ m := by
  induction m with
  | zero => intro k; simp [leN]
  | succ m ih =>
    intro k
    have h1 := ih (k + 1)
    have h2 := bt_lt l k
    simp only [leN]
    rw [Nat.pow_succ]
    omega
/-- What m bytes at the place p say, and whether they stand there. -/
def getI (l : List UInt8) (p : Int) (m : Nat) : Nat × Bool := if p < 0 ∨ (l.length : Int) - m < p then (0, false) else (leN l p.toNat m, true)
/-- A number's m lowest bytes. -/
def leL (u : Nat) : Nat → List UInt8
  | 0 => []
  | m + 1 => leL u m ++ [UInt8.ofNat (u / 256 ^ m % 256)]
theorem leL_length (u m : Nat) : (leL u m).length = m := by
  induction m with
  | zero => rfl
  | succ m ih => simp [leL, ih]
theorem leL_bt (u m : Nat) : ∀ i, i < m → bt (leL u m) i = u / 256 ^ i % 256 := by
  induction m with
  | zero => intro i h; omega
  | succ m ih =>
    intro i h
    simp only [leL]
    by_cases hi : i < m
    · rw [bt_app_lt _ _ _ (by rw [leL_length]; exact hi), ih i hi]
    · obtain rfl : i = m := by omega
      rw [bt_app_ge _ _ _ (by rw [leL_length]; exact Nat.le_refl _), leL_length, Nat.sub_self]
      show u / 256 ^ i % 256 % 256 = _
      omega
theorem leN_leL2 (u : Nat) : leN (leL u 2) 0 2 = u % 65536 := by
  simp only [leN]
  rw [leL_bt u 2 0 (by omega), leL_bt u 2 (0 + 1) (by omega)]
  simp; omega
theorem leN_leL4 (u : Nat) : leN (leL u 4) 0 4 = u % 4294967296 := by
  simp only [leN]
  rw [leL_bt u 4 0 (by omega), leL_bt u 4 (0 + 1) (by omega), leL_bt u 4 (0 + 1 + 1) (by omega), leL_bt u 4 (0 + 1 + 1 + 1) (by omega)]
  simp; omega
/-- A number as a machine's 64 bits. -/
def u64 (n : Int) : Nat := (n % 18446744073709551616).toNat

/-- A number's w lowest digits. -/
def dg (n : Nat) : Nat → List UInt8
  | 0 => []
  | i + 1 => UInt8.ofNat (48 + n / 10 ^ i % 10) :: dg n i
theorem dg_length (n w : Nat) : (dg n w).length = w := by
  induction w with
  | zero => rfl
  | succ w ih => simp [dg, ih]
/-- What a number is in so many digits. -/
def digitsI (n w : Int) : List UInt8 := if w < 1 ∨ 9 < w ∨ n < 0 then [] else if n.toNat / 10 ^ w.toNat = 0 then dg n.toNat w.toNat else []
/-- Are they digits, all of them? -/
def allDig (l : List UInt8) : Bool := l.all fun c => decide (48 ≤ c.toNat) && decide (c.toNat ≤ 57)
/-- The number that digits say. -/
def decN (l : List UInt8) : Nat := l.foldl (fun n c => 10 * n + (c.toNat - 48)) 0
def parseI (l : List UInt8) : Nat × Bool := if l.length < 1 ∨ 9 < l.length then (0, false) else if allDig l then (decN l, true) else (0, false)
theorem decN_snoc (l : List UInt8) (c : UInt8) : decN (l ++ [c]) = 10 * decN l + (c.toNat - 48) := by simp [decN]
theorem allDig_snoc (l : List UInt8) (c : UInt8) : allDig (l ++ [c]) = (allDig l && (decide (48 ≤ c.toNat) && decide (c.toNat ≤ 57))) := by simp [allDig]
theorem allDig_app (a b : List UInt8) : allDig (a ++ b) = (allDig a && allDig b) := by simp [allDig]
theorem fold_from (l : List UInt8) : ∀ a, l.foldl (fun n c => 10 * n + (c.toNat - 48)) a = a * 10 ^ l.length + decN l := by
  induction l with
  | nil => intro a; simp [decN]
  | cons c l ih =>
    intro a
    simp only [List.foldl_cons, List.length_cons, decN]
    rw [ih, ih, Nat.pow_succ]
    simp only [Nat.mul_zero, Nat.zero_add, Nat.add_mul]
    rw [Nat.mul_comm (10 ^ l.length) 10, ← Nat.mul_assoc, Nat.mul_comm a 10, Nat.add_assoc]
theorem dig_byte (d : Nat) (h : d < 10) : (UInt8.ofNat (48 + d)).toNat = 48 + d := by show (48 + d) % 256 = _; omega
theorem allDig_dg (n w : Nat) : allDig (dg n w) = true := by
  induction w with
  | zero => rfl
  | succ w ih =>
    have := dig_byte (n / 10 ^ w % 10) (by omega)
    unfold allDig at ih ⊢
    rw [dg, List.all_cons, ih, this]
    simp; omega
theorem decN_dg (n w : Nat) : decN (dg n w) = n % 10 ^ w := by
  induction w with
  | zero => simp [dg, decN, Nat.mod_one]
  | succ w ih =>
    have e := dig_byte (n / 10 ^ w % 10) (by omega)
    show (dg n w).foldl _ (10 * 0 + ((UInt8.ofNat (48 + n / 10 ^ w % 10)).toNat - 48)) = _
    rw [fold_from, ih, dg_length, e, Nat.pow_succ, Nat.mod_mul]
    rw [show 10 * 0 + (48 + n / 10 ^ w % 10 - 48) = n / 10 ^ w % 10 by omega, Nat.mul_comm, Nat.add_comm]
/-- Digits are parsed to what they are of. -/
theorem parse_digits (n w : Int) (h : digitsI n w ≠ []) : parseI (digitsI n w) = (n.toNat, true) ∧ 0 ≤ n ∧ (digitsI n w).length = w.toNat ∧ 1 ≤ w := by
  unfold digitsI at h ⊢
  by_cases h1 : w < 1 ∨ 9 < w ∨ n < 0
  · rw [if_pos h1] at h; exact absurd rfl h
  rw [if_neg h1] at h ⊢
  by_cases h2 : n.toNat / 10 ^ w.toNat = 0
  · rw [if_pos h2]
    have hl := dg_length n.toNat w.toNat
    refine ⟨?_, by omega, hl, by omega⟩
    unfold parseI
    rw [hl, if_neg (by omega), allDig_dg, if_pos rfl, decN_dg]
    have hp : 0 < 10 ^ w.toNat := Nat.pow_pos (by omega)
    rw [Nat.mod_eq_of_lt ((Nat.div_eq_zero_iff_lt hp).1 h2)]
  · rw [if_neg h2] at h; exact absurd rfl h
theorem decN_lt (l : List UInt8) (h : allDig l = true) : decN l < 10 ^ l.length := by
  induction l with
  | nil => simp [decN]
  | cons c l ih =>
    unfold allDig at h ih
    simp only [List.all_cons, Bool.and_eq_true, decide_eq_true_eq] at h
    have i := ih h.2
    show l.foldl _ (10 * 0 + (c.toNat - 48)) < _
    rw [fold_from, List.length_cons, Nat.pow_succ]
    have : (10 * 0 + (c.toNat - 48)) * 10 ^ l.length ≤ 9 * 10 ^ l.length := Nat.mul_le_mul_right _ (by omega)
    omega
end Go.Proofs.YtbdfglalohgahaaDoor
