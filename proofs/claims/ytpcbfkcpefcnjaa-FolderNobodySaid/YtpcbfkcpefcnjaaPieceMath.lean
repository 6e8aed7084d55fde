/-
  Plain facts on sectors: how many, spans, slices, the unlike ones.
-/
import Derived.Test.YtpcbfkcpefcnjaaCommon
namespace Go.Proofs.Ytpcbfkcpefcnjaa
open Go.RowKit

/-! ### How many sectors -/
def cntI (n : Int) : Int := if n < 1 then 0 else (n - 1) / 32 + 1
def cntN (n : Nat) : Nat := (n + 31) / 32
theorem cntI_nat (n : Nat) : cntI n = cntN n := by unfold cntI cntN; split <;> omega
theorem cntI_le (n : Int) (h : n ≤ 9223372036854775807) : 0 ≤ cntI n ∧ cntI n ≤ 288230376151711744 := by unfold cntI; split <;> omega

/-! ### Spans -/
def spN (p m : Nat) : Nat := if m = 0 then 0 else (p + m - 1) / 32 - p / 32 + 1
def spk (p m k : Nat) : Nat × Nat := (max p ((p / 32 + k) * 32), min (p + m) ((p / 32 + k) * 32 + 32))
def spL (p m : Nat) : List (Nat × Nat) := (List.range (spN p m)).map (spk p m)
theorem spL_len (p m : Nat) : (spL p m).length = spN p m := by simp [spL]
theorem spL_zero (p : Nat) : spL p 0 = [] := by simp [spL, spN]
theorem spN_new (p m : Nat) (h : m = 0 ∨ (p + m) % 32 = 0) : spN p (m + 1) = spN p m + 1 := by
  unfold spN; split <;> split <;> omega
theorem spN_same (p m : Nat) (h : m ≠ 0) (h2 : (p + m) % 32 ≠ 0) : spN p (m + 1) = spN p m := by
  unfold spN; rw [if_neg (by omega), if_neg h]; omega
theorem spN_pos (p m : Nat) (h : m ≠ 0) : 1 ≤ spN p m := by unfold spN; split <;> omega
theorem spN_le (p m : Nat) : spN p m ≤ m := by unfold spN; split <;> omega
theorem spk_old (p m k : Nat) (h : k + 1 < spN p (m + 1)) : spk p (m + 1) k = spk p m k := by
  unfold spN at h
  unfold spk
  split at h
  · omega
  · congr 1; omega
theorem spk_last (p m : Nat) : spk p (m + 1) (spN p (m + 1) - 1) = (max p ((p + m) / 32 * 32), p + m + 1) := by
  unfold spN spk
  rw [if_neg (by omega)]
  congr 1 <;> omega
theorem spL_new (p m : Nat) (h : m = 0 ∨ (p + m) % 32 = 0) : spL p (m + 1) = spL p m ++ [(p + m, p + m + 1)] := by
  have hn := spN_new p m h
  have hl := spk_last p m
  unfold spL
  rw [hn, List.range_succ, List.map_append, List.map_singleton]
  rw [hn, Nat.add_sub_cancel] at hl
  rw [hl]
  congr 1
  · refine List.map_congr_left fun k hk => spk_old p m k ?_
    rw [List.mem_range] at hk; omega
  · congr 2; omega
theorem spL_same (p m : Nat) (h : m ≠ 0) (h2 : (p + m) % 32 ≠ 0) :
    spL p m = (List.range (spN p m - 1)).map (spk p m) ++ [(max p ((p + m) / 32 * 32), p + m)] ∧ spL p (m + 1) = (List.range (spN p m - 1)).map (spk p m) ++ [(max p ((p + m) / 32 * 32), p + m + 1)] := by
  have hn := spN_same p m h h2
  have hp := spN_pos p m h
  have hl := spk_last p m
  rw [hn] at hl
  have e : spN p m = (spN p m - 1) + 1 := by omega
  constructor
  · unfold spL
    obtain ⟨q, hq⟩ : ∃ q, spN p m - 1 = q := ⟨_, rfl⟩
    rw [hq] at e
    rw [e, List.range_succ, List.map_append, List.map_singleton, Nat.add_sub_cancel]
    congr 2
    have hl2 := spk_last p (m - 1)
    rw [show m - 1 + 1 = m by omega, hq] at hl2
    rw [hl2]
    congr 1 <;> omega
  · unfold spL
    rw [hn]
    obtain ⟨q, hq⟩ : ∃ q, spN p m - 1 = q := ⟨_, rfl⟩
    rw [hq] at e hl
    rw [e, List.range_succ, List.map_append, List.map_singleton, Nat.add_sub_cancel, hl]
    congr 1
    refine List.map_congr_left fun k hk => spk_old p m k ?_
    rw [List.mem_range] at hk; rw [hn]; omega

/-- Cut, as the document has it. -/
def cutL (p n : Int) : List (Nat × Nat) := if p < 0 ∨ n < 1 ∨ 131072 < p ∨ 131072 < n then [] else spL p.toNat n.toNat
theorem cutL_no (p n : Int) (h : p < 0 ∨ n < 1 ∨ 131072 < p ∨ 131072 < n) : cutL p n = [] := if_pos h
theorem cutL_yes (p n : Nat) (h1 : 1 ≤ n) (h2 : p ≤ 131072) (h3 : n ≤ 131072) : cutL p n = spL p n := by unfold cutL; rw [if_neg (by omega)]; rfl
/-- Its cells. -/
def prV (l : List (Nat × Nat)) : List Value := l.flatMap fun x => [.int .i64 (x.1 : Nat), .int .i64 (x.2 : Nat)]
theorem prV_len (l : List (Nat × Nat)) : (prV l).length = l.length * 2 := by
  unfold prV
  induction l with
  | nil => rfl
  | cons a l ih => simp only [List.flatMap_cons, List.length_append, List.length_cons, List.length_nil, ih]; omega
theorem prV_app (a b : List (Nat × Nat)) : prV (a ++ b) = prV a ++ prV b := by simp [prV]
theorem prV_set (l : List (Nat × Nat)) (x y z : Nat) : (prV (l ++ [(x, y)])).set (l.length * 2 + 1) (.int .i64 (z : Nat)) = prV (l ++ [(x, z)]) := by
  rw [prV_app, prV_app, List.set_append_right _ _ (by rw [prV_len]; omega), prV_len, show l.length * 2 + 1 - l.length * 2 = 1 by omega]
  rfl
theorem prV_get (l : List (Nat × Nat)) (k : Nat) (h : k < l.length) : (prV l)[k * 2]? = some (.int .i64 ((l[k]'h).1 : Nat)) ∧ (prV l)[k * 2 + 1]? = some (.int .i64 ((l[k]'h).2 : Nat)) := by
  induction l generalizing k with
  | nil => simp at h
  | cons a l ih =>
    cases k with
    | zero => constructor <;> rfl
    | succ k =>
      have := ih k (by simpa using h)
      rw [show (k + 1) * 2 = k * 2 + 1 + 1 by omega]
      simpa [prV] using this

/-! ### Slices -/
def slS (s : ByteArray) (k : Int) : ByteArray := if k < 0 ∨ (s.size / 32 : Nat) < k then ByteArray.empty else s.extract (32 * k.toNat) (min (32 * k.toNat + 32) s.size)
def slL (l : List UInt8) (k : Nat) : List UInt8 := (l.drop (32 * k)).take 32
theorem slS_list (s : ByteArray) (k : Nat) : (slS s k).data.toList = slL s.data.toList k := by
  have hlen : s.data.toList.length = s.size := by simp
  unfold slS slL
  split
  · rename_i h
    rw [List.drop_eq_nil_of_le (by omega)]; rfl
  · rw [extract_list, Int.toNat_natCast]
    by_cases h : 32 * k + 32 ≤ s.size
    · rw [Nat.min_eq_left h, show 32 * k + 32 - 32 * k = 32 by omega]
    · rw [Nat.min_eq_right (by omega), List.take_of_length_le (by rw [List.length_drop]; omega), List.take_of_length_le (by rw [List.length_drop]; omega)]
theorem slS_size (s : ByteArray) (k : Nat) : (slS s k).size = min 32 (s.size - 32 * k) := by
  have h := congrArg List.length (slS_list s k)
  unfold slL at h
  rw [List.length_take, List.length_drop] at h
  simpa using h
theorem slS_eq (a b : ByteArray) (k : Nat) : slS a k = slS b k ↔ slL a.data.toList k = slL b.data.toList k :=
  ⟨fun h => by rw [← slS_list, ← slS_list, h], fun h => str_ext (by rw [slS_list, slS_list, h])⟩

/-- The sectors that are unlike. -/
def unl (a b : List UInt8) (n : Nat) : List Nat := (List.range n).filter fun k => decide (slL a k ≠ slL b k)
theorem unl_succ (a b : List UInt8) (n : Nat) : unl a b (n + 1) = if slL a n = slL b n then unl a b n else unl a b n ++ [n] := by
  unfold unl
  rw [List.range_succ, List.filter_append]
  by_cases h : slL a n = slL b n <;> simp [h]
theorem unl_same (a b : ByteArray) (n : Nat) (h : slS a n = slS b n) : unl a.data.toList b.data.toList (n + 1) = unl a.data.toList b.data.toList n := by
  rw [unl_succ, if_pos ((slS_eq a b n).1 h)]
theorem unl_more (a b : ByteArray) (n : Nat) (h : ¬ slS a n = slS b n) : unl a.data.toList b.data.toList (n + 1) = unl a.data.toList b.data.toList n ++ [n] := by
  rw [unl_succ, if_neg (fun g => h ((slS_eq a b n).2 g))]
theorem unl_len (a b : List UInt8) (n : Nat) : (unl a b n).length ≤ n := by
  have := List.length_filter_le (fun k => decide (slL a k ≠ slL b k)) (List.range n)
  simpa [unl] using this
def unlL (a b : List UInt8) : List Nat := unl a b (max (cntN a.length) (cntN b.length))
theorem slL_ext (a b : List UInt8) (n : Nat) (ha : a.length ≤ 32 * n) (hb : b.length ≤ 32 * n) (h : ∀ k, k < n → slL a k = slL b k) : a = b := by
  have key : ∀ m, m ≤ n → a.take (32 * m) = b.take (32 * m) := by
    intro m
    induction m with
    | zero => intro _; simp
    | succ m ih =>
      intro hm
      have h1 := h m (by omega)
      unfold slL at h1
      rw [show 32 * (m + 1) = 32 * m + 32 by omega, List.take_add, List.take_add, ih (by omega), h1]
  have := key n (Nat.le_refl _)
  rwa [List.take_of_length_le ha, List.take_of_length_le hb] at this
theorem unlL_nil (a b : List UInt8) : unlL a b = [] ↔ a = b := by
  constructor
  · intro h
    refine slL_ext a b (max (cntN a.length) (cntN b.length)) ?_ ?_ fun k hk => ?_
    · unfold cntN; omega
    · unfold cntN; omega
    · unfold unlL unl at h
      rw [List.filter_eq_nil_iff] at h
      have := h k (List.mem_range.2 hk)
      simpa using this
  · rintro rfl
    unfold unlL unl
    rw [List.filter_eq_nil_iff]
    intro k _
    simp
/-- The first so many sectors, one behind the other. -/
theorem take_sector (l : List UInt8) (k : Nat) : l.take (32 * (k + 1)) = l.take (32 * k) ++ slL l k := by
  unfold slL
  rw [show 32 * (k + 1) = 32 * k + 32 by omega, List.take_add]
end Go.Proofs.Ytpcbfkcpefcnjaa
