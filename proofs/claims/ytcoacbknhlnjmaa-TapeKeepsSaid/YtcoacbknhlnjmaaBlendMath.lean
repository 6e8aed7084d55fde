/-
  Plain facts on what is left of a file when the power goes.
-/
import Derived.Test.YtcoacbknhlnjmaaPieceMath
namespace Go.Proofs.Ytcoacbknhlnjmaa
open Go.RowKit

def chN (c : List UInt8) (u : Nat) : Nat := if c.length ≤ u then 0 else bt c u % 3
def pk (o n c : List UInt8) (k u : Nat) : List UInt8 :=
  if slL o k = slL n k then slL o k else if chN c u = 1 then slL n k else if chN c u = 2 then List.replicate (slL n k).length 0 else slL o k
def mixK (o n c : List UInt8) : Nat → List UInt8 × Nat
  | 0 => ([], 0)
  | k + 1 => (if pk o n c k (mixK o n c k).2 = [] then (mixK o n c k).1 else (mixK o n c k).1 ++ List.replicate (32 * k - (mixK o n c k).1.length) 0 ++ pk o n c k (mixK o n c k).2,
      if slL o k = slL n k then (mixK o n c k).2 else (mixK o n c k).2 + 1)
def mixM (o n : List UInt8) : Nat := max (cntN o.length) (cntN n.length)
def mixL (o n c : List UInt8) : List UInt8 × Nat := mixK o n c (mixM o n)

theorem mixK_used (o n c : List UInt8) (k : Nat) : (mixK o n c k).2 = (unl o n k).length := by
  induction k with
  | zero => rfl
  | succ k ih =>
    show (if slL o k = slL n k then (mixK o n c k).2 else (mixK o n c k).2 + 1) = _
    rw [unl_succ, ih]
    split <;> simp
theorem slL_len (l : List UInt8) (k : Nat) : (slL l k).length = min 32 (l.length - 32 * k) := by unfold slL; rw [List.length_take, List.length_drop]
theorem pk_len (o n c : List UInt8) (k u : Nat) : (pk o n c k u).length ≤ max (slL o k).length (slL n k).length := by
  unfold pk
  split
  · omega
  · split
    · omega
    · split
      · rw [List.length_replicate]; omega
      · omega
theorem mixK_len (o n c : List UInt8) (k : Nat) : (mixK o n c k).1.length ≤ 32 * k := by
  induction k with
  | zero => simp [mixK]
  | succ k ih =>
    have hp := pk_len o n c k (mixK o n c k).2
    have h1 := slL_len o k
    have h2 := slL_len n k
    show (if pk o n c k (mixK o n c k).2 = [] then (mixK o n c k).1 else (mixK o n c k).1 ++ List.replicate (32 * k - (mixK o n c k).1.length) 0 ++ pk o n c k (mixK o n c k).2).length ≤ _
    split
    · omega
    · simp only [List.length_append, List.length_replicate]; omega
theorem mixK_max (o n c : List UInt8) (k : Nat) : (mixK o n c k).1.length ≤ max o.length n.length := by
  induction k with
  | zero => simp [mixK]
  | succ k ih =>
    have hp := pk_len o n c k (mixK o n c k).2
    have h1 := slL_len o k
    have h2 := slL_len n k
    have h3 := mixK_len o n c k
    show (if pk o n c k (mixK o n c k).2 = [] then (mixK o n c k).1 else (mixK o n c k).1 ++ List.replicate (32 * k - (mixK o n c k).1.length) 0 ++ pk o n c k (mixK o n c k).2).length ≤ _
    split
    · omega
    · rename_i hx
      have : (pk o n c k (mixK o n c k).2).length ≠ 0 := fun h => hx (List.eq_nil_of_length_eq_zero h)
      simp only [List.length_append, List.length_replicate]; omega
/-- Where a sector goes on a text's beginning, as if it were the text's own. -/
theorem mix_on (l out x : List UInt8) (k : Nat) (ho : out = l.take (32 * k)) (hx : x = slL l k) : (if x = [] then out else out ++ List.replicate (32 * k - out.length) 0 ++ x) = l.take (32 * (k + 1)) := by
  rw [take_sector, ← ho, ← hx]
  split
  · rename_i h; rw [h, List.append_nil]
  · rename_i h
    have h1 : (slL l k).length ≠ 0 := fun g => h (by rw [hx]; exact List.eq_nil_of_length_eq_zero g)
    rw [slL_len] at h1
    have h2 : out.length = 32 * k := by rw [ho, List.length_take]; omega
    rw [h2, Nat.sub_self, List.replicate_zero, List.append_nil]
theorem mixK_old (o n c : List UInt8) (h : ∀ u, chN c u = 0) (k : Nat) : (mixK o n c k).1 = o.take (32 * k) := by
  induction k with
  | zero => simp [mixK]
  | succ k ih =>
    refine mix_on o _ _ k ih ?_
    unfold pk
    rw [h]
    split <;> simp
theorem mixK_new (o n c : List UInt8) (m : Nat) (h : ∀ u, u < m → chN c u = 1) (k : Nat) (hk : k ≤ m) : (mixK o n c k).1 = n.take (32 * k) := by
  induction k with
  | zero => simp [mixK]
  | succ k ih =>
    refine mix_on n _ _ k (ih (by omega)) ?_
    unfold pk
    have hu : (mixK o n c k).2 < m := by
      have := unl_len o n k
      rw [mixK_used]; omega
    rw [h _ hu]
    split
    · rename_i g; rw [g]
    · simp
theorem mixK_same (n c : List UInt8) (k : Nat) : mixK n n c k = (n.take (32 * k), 0) := by
  induction k with
  | zero => simp [mixK]
  | succ k ih =>
    refine Prod.ext ?_ ?_
    · refine mix_on n _ _ k (by rw [ih]) ?_
      unfold pk
      rw [if_pos rfl]
    · show (if slL n k = slL n k then (mixK n n c k).2 else _) = 0
      rw [if_pos rfl, ih]
theorem take_sectors (l : List UInt8) (m : Nat) (h : cntN l.length ≤ m) : l.take (32 * m) = l := List.take_of_length_le (by unfold cntN at h; omega)
theorem mixL_used (o n c : List UInt8) : (mixL o n c).2 = (unlL o n).length := mixK_used _ _ _ _
theorem mixL_old (o n c : List UInt8) (h : ∀ u, chN c u = 0) : (mixL o n c).1 = o := by unfold mixL; rw [mixK_old _ _ _ h, take_sectors]; unfold mixM; omega
theorem mixL_new (o n c : List UInt8) (h : ∀ u, u < mixM o n → chN c u = 1) : (mixL o n c).1 = n := by unfold mixL; rw [mixK_new _ _ _ _ h _ (Nat.le_refl _), take_sectors]; unfold mixM; omega
theorem mixL_same (n c : List UInt8) : mixL n n c = (n, 0) := by unfold mixL; rw [mixK_same, take_sectors]; unfold mixM; omega
theorem mixL_max (o n c : List UInt8) : (mixL o n c).1.length ≤ max o.length n.length := mixK_max _ _ _ _

/-- Each byte is one that lasted, one that was seen, or 0. -/
def okB (o n : List UInt8) (i b : Nat) : Prop := b = 0 ∨ (i < o.length ∧ bt o i = b) ∨ (i < n.length ∧ bt n i = b)
theorem bt_app_l (a b : List UInt8) (i : Nat) (h : i < a.length) : bt (a ++ b) i = bt a i := by
  unfold bt; rw [List.getD_eq_getElem?_getD, List.getD_eq_getElem?_getD, List.getElem?_append_left h]
theorem bt_app_r (a b : List UInt8) (i : Nat) (h : a.length ≤ i) : bt (a ++ b) i = bt b (i - a.length) := by
  unfold bt; rw [List.getD_eq_getElem?_getD, List.getD_eq_getElem?_getD, List.getElem?_append_right h]
theorem bt_zeros (m i : Nat) : bt (List.replicate m 0) i = 0 := by
  unfold bt; rw [List.getD_eq_getElem?_getD, List.getElem?_replicate]
  split <;> rfl
theorem bt_slL (l : List UInt8) (k i : Nat) (h : i < (slL l k).length) : bt (slL l k) i = bt l (32 * k + i) := by
  rw [slL_len] at h
  unfold bt slL
  rw [List.getD_eq_getElem?_getD, List.getD_eq_getElem?_getD, List.getElem?_take_of_lt (by omega), List.getElem?_drop]
theorem pk_ok (o n c : List UInt8) (k u i : Nat) (h : i < (pk o n c k u).length) : okB o n (32 * k + i) (bt (pk o n c k u) i) := by
  have hl := slL_len o k
  have hm := slL_len n k
  unfold pk at h ⊢
  split
  · rename_i g
    rw [if_pos g] at h
    exact .inr (.inl ⟨by omega, (bt_slL _ _ _ h).symm⟩)
  · rename_i g
    rw [if_neg g] at h
    split
    · rename_i g1
      rw [if_pos g1] at h
      exact .inr (.inr ⟨by omega, (bt_slL _ _ _ h).symm⟩)
    · rename_i g1
      rw [if_neg g1] at h
      split
      · exact .inl (bt_zeros _ _)
      · rename_i g2
        rw [if_neg g2] at h
        exact .inr (.inl ⟨by omega, (bt_slL _ _ _ h).symm⟩)
theorem mixK_ok (o n c : List UInt8) (k i : Nat) (h : i < (mixK o n c k).1.length) : okB o n i (bt (mixK o n c k).1 i) := by
  induction k with
  | zero => simp [mixK] at h
  | succ k ih =>
    have hlen := mixK_len o n c k
    have hpk := pk_ok o n c k (mixK o n c k).2
    have e : (mixK o n c (k + 1)).1 = if pk o n c k (mixK o n c k).2 = [] then (mixK o n c k).1 else (mixK o n c k).1 ++ List.replicate (32 * k - (mixK o n c k).1.length) 0 ++ pk o n c k (mixK o n c k).2 := rfl
    rw [e] at h ⊢
    split
    · rename_i g
      rw [if_pos g] at h
      exact ih h
    · rename_i g
      rw [if_neg g] at h
      obtain ⟨out, hout⟩ : ∃ out, (mixK o n c k).1 = out := ⟨_, rfl⟩
      obtain ⟨x, hx⟩ : ∃ x, pk o n c k (mixK o n c k).2 = x := ⟨_, rfl⟩
      rw [hx] at h hpk ⊢
      rw [hout] at h hlen ih ⊢
      simp only [List.length_append, List.length_replicate] at h
      by_cases h1 : i < out.length
      · rw [bt_app_l _ _ _ (by simp; omega), bt_app_l _ _ _ h1]; exact ih h1
      · by_cases h2 : i < 32 * k
        · rw [bt_app_l _ _ _ (by simp; omega), bt_app_r _ _ _ (by omega), bt_zeros]; exact .inl rfl
        · rw [bt_app_r _ _ _ (by simp; omega)]
          simp only [List.length_append, List.length_replicate]
          have := hpk (i - 32 * k) (by omega)
          rw [show 32 * k + (i - 32 * k) = i by omega] at this
          rw [show i - (out.length + (32 * k - out.length)) = i - 32 * k by omega]
          exact this
theorem mixL_ok (o n c : List UInt8) (i : Nat) (h : i < (mixL o n c).1.length) : okB o n i (bt (mixL o n c).1 i) := mixK_ok _ _ _ _ _ h
end Go.Proofs.Ytcoacbknhlnjmaa
