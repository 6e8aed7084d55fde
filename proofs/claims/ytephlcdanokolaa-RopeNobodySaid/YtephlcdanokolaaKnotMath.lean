/-
  Trees of chunks, in plain words: how many knots go under one, how high a tree is, how many bits a number has, what texts together are.
-/
import Derived.Test.YtephlcdanokolaaChunkMath
import Derived.Test.YtephlcdanokolaaTallyAdd
import Derived.Lib.Join
namespace Go.Proofs.Ytephlcdanokolaa
open Go.RowKit
set_option linter.unusedVariables false

/-- How many knots the first group of so many has. -/
def gsz (n : Nat) : Nat := if n = 9 then 7 else min n 8
theorem gsz_pos {n : Nat} (h : 0 < n) : 0 < gsz n := by unfold gsz; split <;> omega
theorem gsz_le (n : Nat) : gsz n ≤ n := by unfold gsz; split <;> omega
theorem gsz_le8 (n : Nat) : gsz n ≤ 8 := by unfold gsz; split <;> omega
theorem gsz_two {n : Nat} (h : 2 ≤ n) : 2 ≤ gsz n := by unfold gsz; split <;> omega
theorem gsz_rest {n : Nat} (h : n ≠ 1) : n - gsz n ≠ 1 := by unfold gsz; split <;> omega
/-- How many groups. -/
def gcount (n : Nat) : Nat := if h : n = 0 then 0 else 1 + gcount (n - gsz n)
  termination_by n
  decreasing_by have := gsz_pos (Nat.pos_of_ne_zero h); omega
theorem gcount_zero : gcount 0 = 0 := by rw [gcount]; rfl
theorem gcount_pos {n : Nat} (h : 0 < n) : gcount n = 1 + gcount (n - gsz n) := by rw [gcount, dif_neg (by omega)]
theorem gcount_half (n : Nat) : n ≠ 1 → 2 * gcount n ≤ n := by
  induction n using Nat.strongRecOn with
  | _ n ih =>
    intro h
    rcases Nat.eq_zero_or_pos n with rfl | h0
    · rw [gcount_zero]; exact Nat.le_refl _
    · rw [gcount_pos h0]
      have h2 := gsz_two (n := n) (by omega)
      have := gsz_le n
      have := ih (n - gsz n) (by omega) (gsz_rest h)
      omega
theorem gcount_some {n : Nat} (h : 0 < n) : 0 < gcount n := by rw [gcount_pos h]; omega
/-- How high a tree over so many knots of that height is. -/
def upH (n h : Nat) : Nat := if n ≤ 1 then h else if n ≤ 8 then h + 1 else if hq : gcount n < n then upH (gcount n) (h + 1) else 0
  termination_by n
theorem upH_one {n h : Nat} (hn : n ≤ 1) : upH n h = h := by rw [upH, if_pos hn]
theorem upH_few {n h : Nat} (hn : 1 < n) (h8 : n ≤ 8) : upH n h = h + 1 := by rw [upH, if_neg (by omega), if_pos h8]
theorem upH_many {n h : Nat} (hn : 8 < n) : upH n h = upH (gcount n) (h + 1) := by
  have := gcount_half n (by omega)
  conv => lhs; rw [upH]
  rw [if_neg (by omega), if_neg (by omega), dif_pos (by omega)]
/-- How many bits a number has. -/
def bitsN (n : Nat) : Nat := if h : n = 0 then 0 else 1 + bitsN (n / 2)
  termination_by n
  decreasing_by omega
theorem bitsN_zero : bitsN 0 = 0 := by rw [bitsN]; rfl
theorem bitsN_pos {n : Nat} (h : 0 < n) : bitsN n = 1 + bitsN (n / 2) := by rw [bitsN, dif_neg (by omega)]
theorem bitsN_ge (h : Nat) : ∀ n, 2 ^ h ≤ n → h ≤ bitsN n := by
  induction h with
  | zero => intro n _; exact Nat.zero_le _
  | succ h ih =>
    intro n hn
    have hp : 0 < 2 ^ h := Nat.pow_pos (by decide)
    have h2 : 2 ^ (h + 1) = 2 * 2 ^ h := by rw [Nat.pow_succ]; omega
    rw [bitsN_pos (by omega)]
    have := ih (n / 2) (by omega)
    omega

theorem whole_app (A B : List ByteArray) : wholeL (A ++ B) = wholeL A ++ wholeL B := by
  have h : ∀ (B : List ByteArray) (p q : ByteArray), B.foldl (· ++ ·) (p ++ q) = p ++ B.foldl (· ++ ·) q := by
    intro B
    induction B with
    | nil => intro p q; rfl
    | cons x B ih => intro p q; rw [List.foldl_cons, List.foldl_cons, app_assoc', ih]
  unfold wholeL
  rw [List.foldl_append]
  have := h B (A.foldl (· ++ ·) ⟨#[]⟩) ⟨#[]⟩
  rwa [app_nil' _ ⟨#[]⟩ rfl] at this
theorem whole_one (x : ByteArray) : wholeL [x] = x := nil_app x
theorem whole_nil : wholeL [] = ⟨#[]⟩ := rfl
theorem whole_size {L : List ByteArray} (h : ∀ s ∈ L, fitsP s) : (wholeL L).size ≤ 16 * L.length := by
  induction L with
  | nil => exact Nat.zero_le _
  | cons x L ih =>
    have e : wholeL (x :: L) = x ++ wholeL L := by
      have := whole_app [x] L
      rwa [whole_one] at this
    have h1 := (h x (by simp)).2.1
    have h2 := ih fun s hs => h s (by simp [hs])
    rw [e, ByteArray.size_append, List.length_cons]
    omega
/-- What the library's Join gives, with nothing between. -/
theorem join_whole (L : List ByteArray) : Lib.join (L.map (·.data.toList)) [] = (wholeL L).data.toList := by
  have h : ∀ L : List ByteArray, (wholeL L).data.toList = (L.map (·.data.toList)).flatten := by
    intro L
    induction L with
    | nil => rfl
    | cons x L ih =>
      have e : wholeL (x :: L) = x ++ wholeL L := by
        have := whole_app [x] L
        rwa [whole_one] at this
      rw [e, app_list, ih, List.map_cons, List.flatten_cons]
  rw [h]
  have g : ∀ M : List (List UInt8), List.intercalate [] M = M.flatten := by
    intro M
    unfold List.intercalate
    induction M with
    | nil => rfl
    | cons x M ih =>
      cases M with
      | nil => simp
      | cons y M => simp at ih ⊢; exact ih
  unfold Lib.join
  exact g _

/-- What texts count. -/
def cntK (s : ByteArray) : Cnt := ⟨s.size, runes s.data.toList, lines s.data.toList⟩
theorem wrap_small {n : Nat} (h : n ≤ 1000000) : wrap64 (n : Int) = n := by unfold wrap64; omega
theorem cntK_app (a b : ByteArray) (ha : (a ++ b).size ≤ 1000000) : (cntK a).plus (cntK b) = cntK (a ++ b) := by
  have h1 := runes_le (a ++ b).data.toList
  have h2 := lines_le (a ++ b).data.toList
  have h3 : (a ++ b).data.toList.length = (a ++ b).size := by simp
  have e1 : runes (a ++ b).data.toList = runes a.data.toList + runes b.data.toList := by rw [app_list, runes_app]
  have e2 : lines (a ++ b).data.toList = lines a.data.toList + lines b.data.toList := by rw [app_list, lines_app]
  have e3 : (a ++ b).size = a.size + b.size := ByteArray.size_append
  unfold Cnt.plus cntK
  simp only [Cnt.mk.injEq]
  refine ⟨?_, ?_, ?_⟩
  · rw [e3, ← Int.natCast_add]; exact wrap_small (by omega)
  · rw [e1, ← Int.natCast_add]; exact wrap_small (by omega)
  · rw [e2, ← Int.natCast_add]; exact wrap_small (by omega)

def fstL (L : List ByteArray) : ByteArray := L.headD ⟨#[]⟩
def lstL (L : List ByteArray) : ByteArray := L.getLastD ⟨#[]⟩
theorem fstL_app {A B : List ByteArray} (h : A ≠ []) : fstL (A ++ B) = fstL A := by
  cases A with
  | nil => exact absurd rfl h
  | cons x A => rfl
theorem lstL_app {A B : List ByteArray} (h : B ≠ []) : lstL (A ++ B) = lstL B := by
  unfold lstL
  rw [List.getLastD_eq_getLast?, List.getLastD_eq_getLast?, List.getLast?_append]
  obtain ⟨x, hx⟩ : ∃ x, B.getLast? = some x := by
    cases hB : B.getLast? with
    | none => exact absurd (List.getLast?_eq_none_iff.1 hB) h
    | some x => exact ⟨x, rfl⟩
  rw [hx]
  rfl
theorem fstL_get {L : List ByteArray} (h : 0 < L.length) : fstL L = L[0] := by
  cases L with
  | nil => exact absurd h (Nat.lt_irrefl 0)
  | cons x L => rfl
theorem lstL_get {L : List ByteArray} (h : 0 < L.length) : lstL L = L[L.length - 1]'(by omega) := by
  unfold lstL
  rw [List.getLastD_eq_getLast?, List.getLast?_eq_getElem?, List.getElem?_eq_getElem (by omega)]
  rfl
end Go.Proofs.Ytephlcdanokolaa
