/-
  The sum's register in plain words: a bit's step is linear under 'xor' and turns nothing but 0 into 0; a text is one great number ('textN'), and all its steps are as many bit's steps of that number.
-/
import GoSem.Core.Utf8
namespace Go.Proofs.YtibbglmhcjnedaaDoor

/-- A bit's step. -/
def crcF (x : Nat) : Nat := (x / 2) ^^^ (if x % 2 = 1 then 3988292384 else 0)
/-- n of them. -/
def crcN : Nat → Nat → Nat
  | 0, x => x
  | n + 1, x => crcN n (crcF x)
/-- A byte's step. -/
def crcB (r b : Nat) : Nat := crcN 8 (r ^^^ b)
/-- A text's. -/
def crcT (r : Nat) (l : List UInt8) : Nat := l.foldl (fun r b => crcB r b.toNat) r
/-- A text as one number, of each byte the lowest bit first. -/
def textN : List UInt8 → Nat
  | [] => 0
  | b :: l => b.toNat ^^^ (textN l <<< 8)

theorem xor_two (a b : Nat) : (a ^^^ b) % 2 = (a + b) % 2 := by
  have := Nat.xor_mod_two_pow (a := a) (b := b) (n := 1)
  simp at this
  rw [this]
  rcases Nat.mod_two_eq_zero_or_one a with ha | ha <;> rcases Nat.mod_two_eq_zero_or_one b with hb | hb <;> rw [ha, hb] <;> simp <;> omega
theorem xor_zero_eq {a b : Nat} (h : a ^^^ b = 0) : a = b := by
  have : (a ^^^ b) ^^^ b = 0 ^^^ b := by rw [h]
  simpa [Nat.xor_assoc] using this
theorem crcF_xor (a b : Nat) : crcF (a ^^^ b) = crcF a ^^^ crcF b := by
  have h2 : (a ^^^ b) / 2 = a / 2 ^^^ b / 2 := by
    have := Nat.shiftRight_xor_distrib (a := a) (b := b) (i := 1)
    simpa [Nat.shiftRight_eq_div_pow] using this
  have hm : (a ^^^ b) % 2 = (a + b) % 2 := xor_two a b
  unfold crcF
  rw [h2, hm]
  rcases Nat.mod_two_eq_zero_or_one a with ha | ha <;> rcases Nat.mod_two_eq_zero_or_one b with hb | hb
  · rw [if_neg (by omega), if_neg (by omega), if_neg (by omega)]; simp
  · rw [if_pos (by omega), if_neg (by omega), if_pos (by omega)]; simp [Nat.xor_assoc]
  · rw [if_pos (by omega), if_pos (by omega), if_neg (by omega), Nat.xor_zero]; ac_rfl
  · rw [if_neg (by omega), if_pos (by omega), if_pos (by omega)]
    rw [show a / 2 ^^^ 3988292384 ^^^ (b / 2 ^^^ 3988292384) = a / 2 ^^^ b / 2 ^^^ (3988292384 ^^^ 3988292384) by ac_rfl, Nat.xor_self]
theorem crcN_xor (n : Nat) : ∀ a b, crcN n (a ^^^ b) = crcN n a ^^^ crcN n b := by
  induction n with
  | zero => intro a b; rfl
  | succ n ih => intro a b; simp only [crcN]; rw [crcF_xor, ih]
theorem crcN_add (m n x : Nat) : crcN (m + n) x = crcN n (crcN m x) := by
  induction m generalizing x with
  | zero => simp [crcN]
  | succ m ih => rw [show m + 1 + n = (m + n) + 1 by omega]; simp only [crcN]; exact ih _
theorem crcF_twice (x : Nat) : crcF (2 * x) = x := by
  unfold crcF; rw [if_neg (by omega)]; simp
theorem crcN_shift (n x : Nat) : crcN n (x <<< n) = x := by
  induction n with
  | zero => rfl
  | succ n ih =>
    simp only [crcN]
    rw [show x <<< (n + 1) = 2 * (x <<< n) by rw [Nat.shiftLeft_succ], crcF_twice, ih]
theorem crcF_lt (x : Nat) (h : x < 2 ^ 32) : crcF x < 2 ^ 32 := by
  unfold crcF
  refine Nat.xor_lt_two_pow (by omega) ?_
  split <;> omega
theorem crcN_lt (n : Nat) : ∀ x, x < 2 ^ 32 → crcN n x < 2 ^ 32 := by
  induction n with
  | zero => intro x h; exact h
  | succ n ih => intro x h; exact ih _ (crcF_lt x h)
theorem crcF_zero (x : Nat) (h : x < 2 ^ 32) (e : crcF x = 0) : x = 0 := by
  unfold crcF at e
  by_cases hx : x % 2 = 1
  · rw [if_pos hx] at e
    have := xor_zero_eq e
    omega
  · rw [if_neg hx] at e
    simp at e
    omega
theorem crcN_zero (n : Nat) : ∀ x, x < 2 ^ 32 → crcN n x = 0 → x = 0 := by
  induction n with
  | zero => intro x _ e; exact e
  | succ n ih => intro x h e; exact crcF_zero x h (ih _ (crcF_lt x h) e)

theorem crcT_textN (l : List UInt8) : ∀ r, crcT r l = crcN (8 * l.length) (r ^^^ textN l) := by
  induction l with
  | nil => intro r; simp [crcT, crcN, textN]
  | cons b l ih =>
    intro r
    show crcT (crcB r b.toNat) l = _
    rw [ih, show 8 * (b :: l).length = 8 + 8 * l.length by simp; omega, crcN_add]
    congr 1
    show crcN 8 (r ^^^ b.toNat) ^^^ textN l = crcN 8 (r ^^^ (b.toNat ^^^ (textN l <<< 8)))
    rw [← Nat.xor_assoc, crcN_xor 8 (r ^^^ b.toNat), crcN_shift]
theorem crcT_app (a b : List UInt8) (r : Nat) : crcT r (a ++ b) = crcT (crcT r a) b := by simp [crcT]
theorem crcB_lt (r b : Nat) (hr : r < 2 ^ 32) (hb : b < 256) : crcB r b < 2 ^ 32 := crcN_lt _ _ (Nat.xor_lt_two_pow hr (by omega))
theorem crcT_lt (l : List UInt8) : ∀ r, r < 2 ^ 32 → crcT r l < 2 ^ 32 := by
  induction l with
  | nil => intro r h; exact h
  | cons b l ih => intro r h; exact ih _ (crcB_lt _ _ h b.toNat_lt)

/-- BURSTS: two texts of one length, unlike in textN that lie within 32 side by side, end with unlike registers. -/
theorem burst (s t : List UInt8) (p at' r : Nat) (hlen : t.length = s.length) (hp : p ≠ 0) (hp32 : p < 2 ^ 32) (hat : at' ≤ 8 * s.length) (h : textN t = textN s ^^^ (p <<< at')) : crcT r t ≠ crcT r s := by
  intro e
  rw [crcT_textN, crcT_textN, hlen, h, ← Nat.xor_assoc, crcN_xor] at e
  have z : crcN (8 * s.length) (p <<< at') = 0 := by
    have := congrArg (fun x => crcN (8 * s.length) (r ^^^ textN s) ^^^ x) e
    simpa [← Nat.xor_assoc] using this
  rw [show 8 * s.length = at' + (8 * s.length - at') by omega, crcN_add, crcN_shift] at z
  exact hp (crcN_zero _ _ hp32 z)

/-- A bit of a byte turned turns that bit of the number. -/
theorem textN_set (l : List UInt8) : ∀ (k j : Nat) (b : UInt8), k < l.length → b.toNat = (l.getD k 0).toNat ^^^ 2 ^ j → textN (l.set k b) = textN l ^^^ 2 ^ (8 * k + j) := by
  induction l with
  | nil => intro k j b h; simp at h
  | cons c l ih =>
    intro k j b h e
    cases k with
    | zero =>
      simp only [List.getD_cons_zero] at e
      simp only [List.set_cons_zero, textN, e, Nat.mul_zero, Nat.zero_add]
      ac_rfl
    | succ k =>
      simp only [List.getD_cons_succ] at e
      simp only [List.set_cons_succ, textN]
      rw [ih k j b (by simpa using h) e, Nat.shiftLeft_xor_distrib, show 2 ^ (8 * k + j) <<< 8 = 2 ^ (8 * (k + 1) + j) by rw [Nat.shiftLeft_eq, ← Nat.pow_add]; congr 1; omega]
      ac_rfl

/-- The pattern's textN one by one. -/
theorem pat_succ (p i : Nat) : p % 2 ^ (i + 1) = (p % 2 ^ i) ^^^ (if p >>> i % 2 = 1 then 2 ^ i else 0) := by
  refine Nat.eq_of_testBit_eq fun k => ?_
  rw [Nat.testBit_xor, Nat.testBit_mod_two_pow, Nat.testBit_mod_two_pow]
  have hb : (p >>> i % 2 = 1) ↔ p.testBit i = true := by
    rw [Nat.testBit_eq_decide_div_mod_eq, Nat.shiftRight_eq_div_pow]; simp
  by_cases hi : p.testBit i = true
  · rw [if_pos (hb.2 hi), Nat.testBit_two_pow]
    by_cases hk : k = i
    · subst hk; simp [hi]
    · have h1 : decide (k < i + 1) = decide (k < i) := by rw [decide_eq_decide]; omega
      have h2 : decide (i = k) = false := by simp; omega
      rw [h1, h2]; simp
  · rw [if_neg (fun h => hi (hb.1 h)), Nat.zero_testBit]
    by_cases hk : k = i
    · subst hk; simp [hi]
    · have h1 : decide (k < i + 1) = decide (k < i) := by rw [decide_eq_decide]; omega
      rw [h1]; simp
end Go.Proofs.YtibbglmhcjnedaaDoor
