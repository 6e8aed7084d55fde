/-
  Operations as bytes, in plain words: which may be, their bytes, what bytes are, their words.
-/
import Derived.Test.YtimlfgjljnkbcaaNumMath
import Derived.Test.YtimlfgjljnkbcaaUtfBad
namespace Go.Proofs.Ytimlfgjljnkbcaa
open Go.RowKit

/-- May a number be a place? -/
def plB (n : Int) : Bool := decide (0 ≤ n) && decide (n ≤ 4096)
theorem plB_yes {n : Int} (h : 0 ≤ n) (k : n ≤ 4096) : plB n = true := by unfold plB; simp; omega
theorem plB_no {n : Int} (h : n < 0 ∨ 4096 < n) : plB n = false := by unfold plB; simp; omega
theorem plB_in {n : Int} (h : plB n = true) : 0 ≤ n ∧ n ≤ 4096 := by unfold plB at h; simp at h; exact h
theorem plB_out {n : Int} (h : plB n = false) : n < 0 ∨ 4096 < n := by
  unfold plB at h
  simp only [Bool.and_eq_false_iff, decide_eq_false_iff_not] at h
  omega

/-- Is a byte a letter? -/
def letB (c : UInt8) : Bool := decide (97 ≤ c.toNat) && decide (c.toNat ≤ 122)
/-- May a mark be called so? -/
def markB (l : List UInt8) : Bool := (decide (1 ≤ l.length) && decide (l.length ≤ 8)) && l.all letB
theorem markB_short {l : List UInt8} (h : l.length < 1) : markB l = false := by unfold markB; rw [decide_eq_false (by omega)]; rfl
theorem markB_long {l : List UInt8} (h : 8 < l.length) : markB l = false := by unfold markB; rw [decide_eq_false (by omega : ¬ l.length ≤ 8), Bool.and_false]; rfl
theorem markB_all {l : List UInt8} (h : 1 ≤ l.length) (k : l.length ≤ 8) : markB l = l.all letB := by unfold markB; rw [decide_eq_true h, decide_eq_true k]; rfl
theorem markB_in {l : List UInt8} (h : markB l = true) : 1 ≤ l.length ∧ l.length ≤ 8 ∧ l.all letB = true := by
  unfold markB at h
  simp only [Bool.and_eq_true, decide_eq_true_eq] at h
  exact ⟨h.1.1, h.1.2, h.2⟩
theorem markB_nil : markB [] = false := rfl
theorem all_take_snoc {l : List UInt8} {k : Nat} (h : k < l.length) : (l.take (k + 1)).all letB = ((l.take k).all letB && letB (l[k]'h)) := by
  rw [List.take_succ_eq_append_getElem h, List.all_append]; simp
theorem all_off {l : List UInt8} {k : Nat} (h : k < l.length) (g : letB (l[k]'h) = false) : l.all letB = false := by
  rw [List.all_eq_false]
  exact ⟨l[k], List.getElem_mem h, by simp [g]⟩

theorem letB_at {s : ByteArray} {k : Nat} (h : k < s.size) : letB (s.data.toList[k]'(by simpa using h)) = (decide (97 ≤ s[k].toNat) && decide (s[k].toNat ≤ 122)) := rfl
theorem may_snoc {s : ByteArray} {k : Nat} (h : k < s.size) (hall : (s.data.toList.take k).all letB = true) (h1 : 97 ≤ s[k].toNat) (h2 : s[k].toNat ≤ 122) : (s.data.toList.take (k + 1)).all letB = true := by
  rw [all_take_snoc (by simpa using h), hall, letB_at h, decide_eq_true h1, decide_eq_true h2]; rfl
theorem may_off {s : ByteArray} {k : Nat} (h : k < s.size) (g : s[k].toNat < 97 ∨ 122 < s[k].toNat) : markB s.data.toList = false := by
  have e : s.data.toList.all letB = false := all_off (k := k) (by simpa using h) (by
    rw [letB_at h]
    rcases g with g | g
    · rw [decide_eq_false (by omega)]; rfl
    · rw [decide_eq_false (by omega : ¬ s[k].toNat ≤ 122), Bool.and_false])
  unfold markB; rw [e, Bool.and_false]
theorem may_end {s : ByteArray} (h : (s.data.toList.take s.size).all letB = true) : markB s.data.toList = (decide (1 ≤ s.size) && decide (s.size ≤ 8)) := by
  have e : s.data.toList.length = s.size := by simp
  rw [List.take_of_length_le (by omega)] at h
  unfold markB; rw [h, Bool.and_true, e]

/-- Which operations may be: the kind, the place, the length, the text. -/
def rightB (k a n : Int) (l : List UInt8) : Bool :=
  if k = 1 then (plB a && decide (n = 0)) && (decide (l.length ≤ 512) && vldB l)
  else if k = 2 then (plB a && plB n) && decide (l.length = 0)
  else if k = 3 then (plB a && decide (n = 0)) && markB l
  else if k = 4 then (decide (a = 0) && decide (n = 0)) && markB l
  else if 5 ≤ k ∧ k ≤ 8 then (decide (a = 0) && decide (n = 0)) && decide (l.length = 0)
  else false
theorem right1 (a n : Int) (l : List UInt8) : rightB 1 a n l = ((plB a && decide (n = 0)) && (decide (l.length ≤ 512) && vldB l)) := rfl
theorem right2 (a n : Int) (l : List UInt8) : rightB 2 a n l = ((plB a && plB n) && decide (l.length = 0)) := rfl
theorem right3 (a n : Int) (l : List UInt8) : rightB 3 a n l = ((plB a && decide (n = 0)) && markB l) := rfl
theorem right4 (a n : Int) (l : List UInt8) : rightB 4 a n l = ((decide (a = 0) && decide (n = 0)) && markB l) := rfl
theorem right5 {k : Int} (h : 5 ≤ k) (g : k ≤ 8) (a n : Int) (l : List UInt8) : rightB k a n l = ((decide (a = 0) && decide (n = 0)) && decide (l.length = 0)) := by
  unfold rightB
  rw [if_neg (by omega), if_neg (by omega), if_neg (by omega), if_neg (by omega), if_pos ⟨h, g⟩]
theorem right_off {k : Int} (h : k < 1 ∨ 8 < k) (a n : Int) (l : List UInt8) : rightB k a n l = false := by
  unfold rightB
  rw [if_neg (by omega), if_neg (by omega), if_neg (by omega), if_neg (by omega), if_neg (by omega)]
/-- The kinds, one by one. -/
theorem opKinds (k : Int) : k = 1 ∨ k = 2 ∨ k = 3 ∨ k = 4 ∨ (5 ≤ k ∧ k ≤ 8) ∨ (k < 1 ∨ 8 < k) := by omega
theorem right_kind {k a n : Int} {l : List UInt8} (h : rightB k a n l = true) : 1 ≤ k ∧ k ≤ 8 := by
  rcases opKinds k with g | g | g | g | g | g
  · omega
  · omega
  · omega
  · omega
  · omega
  · rw [right_off g] at h; cases h

/-- An operation's bytes. -/
def bodyL (k a n : Int) (l : List UInt8) : List UInt8 :=
  UInt8.ofNat (k % 256).toNat :: ((if k ≤ 3 then leL (u64 a) 4 else []) ++ ((if k = 2 then leL (u64 n) 4 else []) ++ l))

/-- What bytes are: an operation, or why there is none. -/
structure OpRd where
  k : Int
  a : Int
  n : Int
  s : ByteArray
  e : Int
def OpRd.none (e : Int) : OpRd := ⟨0, 0, 0, ⟨#[]⟩, e⟩
/-- The last step: it must be right. -/
def rdEnd (k a n : Int) (s : ByteArray) : OpRd := if rightB k a n s.data.toList = true then ⟨k, a, n, s, 0⟩ else OpRd.none 5
/-- The number at the head of bytes; what is behind it. -/
def headN (s : ByteArray) : Int := (leN s.data.toList 0 4 : Nat)
def restN (s : ByteArray) : ByteArray := s.extract 4 s.size
/-- Of the kind and what is behind its byte. -/
def rdKind (k : Int) (s : ByteArray) : OpRd :=
  if k < 1 ∨ 8 < k then OpRd.none 5
  else if k = 1 ∨ k = 3 then (if s.size < 4 then OpRd.none 18 else rdEnd k (headN s) 0 (restN s))
  else if k = 2 then (if s.size < 8 then OpRd.none 18 else rdEnd k (headN s) (headN (restN s)) (restN (restN s)))
  else rdEnd k 0 0 s
def readR (s : ByteArray) : OpRd := if h : 0 < s.size then rdKind ((s[0]'h).toNat : Nat) (s.extract 1 s.size) else OpRd.none 18
end Go.Proofs.Ytimlfgjljnkbcaa
