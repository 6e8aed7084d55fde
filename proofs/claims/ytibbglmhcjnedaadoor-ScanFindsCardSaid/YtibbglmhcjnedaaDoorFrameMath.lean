/-
  Frames in plain words: how they are laid, what bytes begin with, and that a byte of the data that is another one is told.
-/
import Derived.Test.YtibbglmhcjnedaaDoorSumRef
import Derived.Test.YtibbglmhcjnedaaDoorNumMath
namespace Go.Proofs.YtibbglmhcjnedaaDoor
open Go.RowKit

theorem flip2 (x : Nat) : x ^^^ 4294967295 ^^^ 4294967295 = x := by rw [Nat.xor_assoc, Nat.xor_self, Nat.xor_zero]
theorem addN_on (r : Nat) (a b : List UInt8) : addN (addN r a) b = addN r (a ++ b) := by
  unfold addN; rw [flip2, crcT_app]
theorem u64_nat (n : Nat) (h : n < 18446744073709551616) : u64 (n : Int) = n := by unfold u64; omega

/-- May a frame have such numbers? -/
def mayB (ep sq : Int) : Bool := decide (0 ≤ ep) && decide (ep ≤ 999999) && decide (0 ≤ sq) && decide (sq ≤ 2147483647)
theorem mayB_yes {ep sq : Int} : mayB ep sq = true ↔ 0 ≤ ep ∧ ep ≤ 999999 ∧ 0 ≤ sq ∧ sq ≤ 2147483647 := by unfold mayB; simp [and_assoc]
theorem mayB_no {ep sq : Int} : mayB ep sq = false ↔ ¬ (0 ≤ ep ∧ ep ≤ 999999 ∧ 0 ≤ sq ∧ sq ≤ 2147483647) := by
  rw [← mayB_yes]; simp

/-- What stands between the first bytes and the sum. -/
def headL (n ep sq : Nat) : List UInt8 := leL n 2 ++ leL ep 4 ++ leL sq 4
theorem headL_length (n ep sq : Nat) : (headL n ep sq).length = 10 := by simp [headL, leL_length]
/-- A frame's bytes. -/
def frmL (ep sq : Nat) (d : List UInt8) : List UInt8 := [83, 74] ++ headL d.length ep sq ++ leL (addN 0 (headL d.length ep sq ++ d)) 4 ++ d
theorem frmL_length (ep sq : Nat) (d : List UInt8) : (frmL ep sq d).length = 16 + d.length := by
  simp [frmL, headL_length, leL_length]; omega
/-- What is told of a frame that is laid, and its bytes. -/
def layE (ep sq : Int) (n : Nat) : Nat := if mayB ep sq = true then (if 1024 < n then 6 else 0) else 3
def layL (ep sq : Int) (d : List UInt8) : List UInt8 := if layE ep sq d.length = 0 then frmL ep.toNat sq.toNat d else []

/-- Do they begin as a frame does, as far as they go? -/
def begB (l : List UInt8) : Bool := (decide (l.length < 1) || decide (bt l 0 = 83)) && (decide (l.length < 2) || decide (bt l 1 = 74))
/-- Where a frame of so many bytes of data has its data. -/
def datL (l : List UInt8) : List UInt8 := (l.drop 16).take (leN l 2 2)
/-- What is told of the frame that bytes begin with. -/
def frmE (l : List UInt8) : Nat :=
  if begB l = false then 5 else if l.length < 16 then 18 else if 1024 < leN l 2 2 then 6 else if l.length < 16 + leN l 2 2 then 18
  else if leN l 12 4 = addN 0 ((l.drop 2).take 10 ++ datL l) then (if mayB (leN l 4 4) (leN l 8 4) = true then 0 else 3) else 19

theorem leN_alike (a b : List UInt8) : ∀ m i j, (∀ x, x < m → bt a (i + x) = bt b (j + x)) → leN a i m = leN b j m := by
  intro m
  induction m with
  | zero => intro i j _; rfl
  | succ m ih =>
    intro i j h
    show bt a i + 256 * leN a (i + 1) m = bt b j + 256 * leN b (j + 1) m
    rw [ih (i + 1) (j + 1) (fun x hx => by have := h (x + 1) (by omega); rw [show i + 1 + x = i + (x + 1) by omega, show j + 1 + x = j + (x + 1) by omega]; exact this)]
    have := h 0 (by omega)
    rw [Nat.add_zero, Nat.add_zero] at this
    rw [this]
theorem leN_byte (l : List UInt8) : ∀ m k i, i < m → leN l k m / 256 ^ i % 256 = bt l (k + i) := by
  intro m
  induction m with
  | zero => intro k i h; omega
  | succ m ih =>
    intro k i h
    have hb := bt_lt l k
    show (bt l k + 256 * leN l (k + 1) m) / 256 ^ i % 256 = _
    cases i with
    | zero => simp; omega
    | succ i =>
      have := ih (k + 1) i (by omega)
      rw [Nat.pow_succ, Nat.mul_comm (256 ^ i) 256, ← Nat.div_div_eq_div_mul, show (bt l k + 256 * leN l (k + 1) m) / 256 = leN l (k + 1) m by omega, this, show k + 1 + i = k + (i + 1) by omega]
theorem leL_leN (l : List UInt8) (k m : Nat) (h : k + m ≤ l.length) : leL (leN l k m) m = (l.drop k).take m := by
  have hl : ((l.drop k).take m).length = m := by simp; omega
  refine ext_bt _ _ (by rw [leL_length, hl]) fun i hi => ?_
  rw [leL_length] at hi
  rw [leL_bt _ _ _ hi, leN_byte l m k i hi, bt_take _ _ _ hi, bt_drop]
theorem leN_leLm (u m : Nat) : leN (leL u m) 0 m = u % 256 ^ m := by
  have key : ∀ m' k v, (∀ i, i < m' → bt (leL u m) (k + i) = v / 256 ^ i % 256) → leN (leL u m) k m' = v % 256 ^ m' := by
    intro m'
    induction m' with
    | zero => intro k v _; simp [leN, Nat.mod_one]
    | succ m' ih =>
      intro k v h
      have h0 := h 0 (by omega)
      simp at h0
      have h1 := ih (k + 1) (v / 256) (fun i hi => by
        have := h (i + 1) (by omega)
        rw [show k + 1 + i = k + (i + 1) by omega, this, Nat.pow_succ, Nat.mul_comm (256 ^ i) 256, ← Nat.div_div_eq_div_mul])
      show bt (leL u m) k + 256 * leN (leL u m) (k + 1) m' = _
      rw [h0, h1, Nat.pow_succ, Nat.mul_comm (256 ^ m') 256, Nat.mod_mul]
  exact key m 0 u (fun i hi => by rw [Nat.zero_add]; exact leL_bt u m i hi)
theorem leN_at (a b c : List UInt8) (m : Nat) (h : b.length = m) : leN (a ++ b ++ c) a.length m = leN b 0 m := by
  refine leN_alike _ _ m _ _ fun x hx => ?_
  rw [Nat.zero_add, List.append_assoc, bt_app_ge _ _ _ (by omega), bt_app_lt _ _ _ (by omega), show a.length + x - a.length = x by omega]

/-- A frame that is laid, piece by piece. -/
theorem frm_pieces (ep sq : Nat) (d t : List UInt8) :
    leN (frmL ep sq d ++ t) 2 2 = d.length % 256 ^ 2 ∧ leN (frmL ep sq d ++ t) 4 4 = ep % 256 ^ 4 ∧ leN (frmL ep sq d ++ t) 8 4 = sq % 256 ^ 4 ∧
    leN (frmL ep sq d ++ t) 12 4 = addN 0 (headL d.length ep sq ++ d) % 256 ^ 4 ∧
    ((frmL ep sq d ++ t).drop 2).take 10 = headL d.length ep sq ∧ (frmL ep sq d ++ t).drop 16 = d ++ t ∧
    bt (frmL ep sq d ++ t) 0 = 83 ∧ bt (frmL ep sq d ++ t) 1 = 74 := by
  obtain ⟨s, hs⟩ : ∃ s, addN 0 (headL d.length ep sq ++ d) = s := ⟨_, rfl⟩
  have hF : frmL ep sq d ++ t = [83, 74] ++ leL d.length 2 ++ leL ep 4 ++ leL sq 4 ++ leL s 4 ++ d ++ t := by
    unfold frmL; rw [hs]; simp [headL]
  rw [hF, hs]
  refine ⟨?_, ?_, ?_, ?_, ?_, ?_, ?_, ?_⟩
  · have := leN_at [83, 74] (leL d.length 2) (leL ep 4 ++ leL sq 4 ++ leL s 4 ++ d ++ t) 2 (leL_length _ _)
    rw [leN_leLm] at this
    simpa using this
  · have := leN_at ([83, 74] ++ leL d.length 2) (leL ep 4) (leL sq 4 ++ leL s 4 ++ d ++ t) 4 (leL_length _ _)
    rw [leN_leLm] at this
    simpa [leL_length] using this
  · have := leN_at ([83, 74] ++ leL d.length 2 ++ leL ep 4) (leL sq 4) (leL s 4 ++ d ++ t) 4 (leL_length _ _)
    rw [leN_leLm] at this
    simpa [leL_length] using this
  · have := leN_at ([83, 74] ++ leL d.length 2 ++ leL ep 4 ++ leL sq 4) (leL s 4) (d ++ t) 4 (leL_length _ _)
    rw [leN_leLm] at this
    simpa [leL_length] using this
  · rw [show [83, 74] ++ leL d.length 2 ++ leL ep 4 ++ leL sq 4 ++ leL s 4 ++ d ++ t = [83, 74] ++ (headL d.length ep sq ++ (leL s 4 ++ d ++ t)) by simp [headL]]
    rw [show (2 : Nat) = ([83, 74] : List UInt8).length from rfl, List.drop_left, List.take_append_of_le_length (by rw [headL_length]; exact Nat.le_refl _), List.take_of_length_le (by rw [headL_length]; exact Nat.le_refl _)]
  · rw [show [83, 74] ++ leL d.length 2 ++ leL ep 4 ++ leL sq 4 ++ leL s 4 ++ d ++ t = ([83, 74] ++ leL d.length 2 ++ leL ep 4 ++ leL sq 4 ++ leL s 4) ++ (d ++ t) by simp]
    exact List.drop_left' (by simp [leL_length])
  · rfl
  · rfl

/-- BACK: what is laid is one, whatever stands behind. -/
theorem frm_back (ep sq : Nat) (d t : List UInt8) (he : ep ≤ 999999) (hq : sq ≤ 2147483647) (hd : d.length ≤ 1024) :
    frmE (frmL ep sq d ++ t) = 0 ∧ leN (frmL ep sq d ++ t) 2 2 = d.length ∧ leN (frmL ep sq d ++ t) 4 4 = ep ∧ leN (frmL ep sq d ++ t) 8 4 = sq ∧ datL (frmL ep sq d ++ t) = d := by
  obtain ⟨h1, h2, h3, h4, h5, h6, h7, h8⟩ := frm_pieces ep sq d t
  have hx := addN_lt 0 (headL d.length ep sq ++ d) (by omega)
  rw [Nat.mod_eq_of_lt (by omega)] at h1 h2 h3 h4
  have hdat : datL (frmL ep sq d ++ t) = d := by
    unfold datL
    rw [h1, h6, List.take_append_of_le_length (Nat.le_refl _), List.take_of_length_le (Nat.le_refl _)]
  refine ⟨?_, h1, h2, h3, hdat⟩
  have hlen : (frmL ep sq d ++ t).length = 16 + d.length + t.length := by rw [List.length_append, frmL_length]
  unfold frmE
  rw [hdat, h1, h2, h3, h4, h5, hlen]
  have hb : begB (frmL ep sq d ++ t) = true := by unfold begB; rw [h7, h8]; simp
  rw [hb, if_neg (by simp), if_neg (by omega), if_neg (by omega), if_neg (by omega), if_pos rfl, if_pos]
  rw [mayB_yes]; omega

/-- WHOLE: what is one is laid as the same bytes. -/
theorem frmE_zero {l : List UInt8} (h : frmE l = 0) :
    begB l = true ∧ 16 + leN l 2 2 ≤ l.length ∧ leN l 2 2 ≤ 1024 ∧ leN l 12 4 = addN 0 ((l.drop 2).take 10 ++ datL l) ∧ leN l 4 4 ≤ 999999 ∧ leN l 8 4 ≤ 2147483647 := by
  unfold frmE at h
  split at h
  · omega
  split at h
  · omega
  split at h
  · omega
  split at h
  · omega
  split at h
  · split at h
    · rename_i a b c d e f
      rw [mayB_yes] at f
      refine ⟨by simpa using a, by omega, by omega, e, by omega, by omega⟩
    · omega
  · omega
theorem datL_length {l : List UInt8} (h : 16 + leN l 2 2 ≤ l.length) : (datL l).length = leN l 2 2 := by unfold datL; simp; omega
theorem list_two (l : List UInt8) (h : 2 ≤ l.length) (h0 : bt l 0 = 83) (h1 : bt l 1 = 74) : l.take 2 = [83, 74] := by
  refine ext_bt _ _ (by simp; omega) fun i hi => ?_
  have hi : i < 2 := by simp at hi; omega
  rw [bt_take _ _ _ hi]
  rcases i with _ | _ | i
  · exact h0
  · exact h1
  · omega
theorem cut3 (l : List UInt8) (a b : Nat) : l.take (a + b) = l.take a ++ (l.drop a).take b := List.take_add
theorem frm_whole {l : List UInt8} (h : frmE l = 0) : frmL (leN l 4 4) (leN l 8 4) (datL l) = l.take (16 + leN l 2 2) := by
  obtain ⟨hb, hl, hn, hs, _, _⟩ := frmE_zero h
  have h2 : bt l 0 = 83 ∧ bt l 1 = 74 := by
    unfold begB at hb
    simp only [Bool.and_eq_true, Bool.or_eq_true, decide_eq_true_eq] at hb
    omega
  have hhead : headL (datL l).length (leN l 4 4) (leN l 8 4) = (l.drop 2).take 10 := by
    unfold headL
    rw [datL_length hl, leL_leN l 2 2 (by omega), leL_leN l 4 4 (by omega), leL_leN l 8 4 (by omega), show (10 : Nat) = 2 + 4 + 4 from rfl, cut3 (l.drop 2) (2 + 4) 4, cut3 (l.drop 2) 2 4, List.drop_drop, List.drop_drop]
  unfold frmL
  rw [hhead, ← hs, leL_leN l 12 4 (by omega), ← list_two l (by omega) h2.1 h2.2, show l.take 2 ++ (l.drop 2).take 10 = l.take (2 + 10) from (cut3 l 2 10).symm, show l.take (2 + 10) ++ (l.drop 12).take 4 = l.take (2 + 10 + 4) from (cut3 l 12 4).symm]
  exact (cut3 l 16 _).symm

/-- SHORT: a frame of which bytes lack. -/
theorem frm_short (ep sq : Nat) (d : List UInt8) (hd : d.length ≤ 1024) (k : Nat) (hk : k < 16 + d.length) : frmE ((frmL ep sq d).take k) = 18 := by
  obtain ⟨h1, -, -, -, -, -, h7, h8⟩ := frm_pieces ep sq d []
  rw [List.append_nil] at h1 h7 h8
  rw [Nat.mod_eq_of_lt (by omega)] at h1
  have hlen : ((frmL ep sq d).take k).length = k := by rw [List.length_take, frmL_length]; omega
  have hb : begB ((frmL ep sq d).take k) = true := by
    unfold begB
    rw [hlen]
    rcases k with _ | _ | k
    · simp
    · rw [bt_take _ _ _ (by omega), h7]; simp
    · rw [bt_take _ _ _ (by omega), bt_take _ _ _ (by omega), h7, h8]; simp
  unfold frmE
  rw [hb, hlen, if_neg (by simp)]
  by_cases h16 : k < 16
  · rw [if_pos h16]
  · have e : leN ((frmL ep sq d).take k) 2 2 = d.length := by
      rw [← h1]
      exact leN_alike _ _ 2 _ _ fun x hx => bt_take _ _ _ (by omega)
    rw [if_neg h16, e, if_neg (by omega), if_pos hk]

/-- A byte turned turns its bits of the number. -/
theorem textN_byte (l : List UInt8) : ∀ (k p : Nat) (b : UInt8), k < l.length → b.toNat = (l.getD k 0).toNat ^^^ p → textN (l.set k b) = textN l ^^^ (p <<< (8 * k)) := by
  induction l with
  | nil => intro k p b h; simp at h
  | cons c l ih =>
    intro k p b h e
    cases k with
    | zero =>
      simp only [List.getD_cons_zero] at e
      simp only [List.set_cons_zero, textN, e, Nat.mul_zero, Nat.shiftLeft_zero]
      ac_rfl
    | succ k =>
      simp only [List.getD_cons_succ] at e
      simp only [List.set_cons_succ, textN]
      rw [ih k p b (by simpa using h) e, Nat.shiftLeft_xor_distrib, ← Nat.shiftLeft_add, show 8 * k + 8 = 8 * (k + 1) by omega]
      ac_rfl
theorem sum_byte (l : List UInt8) (k p : Nat) (b : UInt8) (hk : k < l.length) (hp : p ≠ 0) (hp8 : p < 256) (e : b.toNat = (l.getD k 0).toNat ^^^ p) : addN 0 (l.set k b) ≠ addN 0 l := by
  have hb := burst l (l.set k b) p (8 * k) (0 ^^^ 4294967295) (by simp) hp (by omega) (by omega) (textN_byte l k p b hk e)
  intro x
  unfold addN at x
  have x' := congrArg (fun x => x ^^^ 4294967295) x
  simp only [flip2] at x'
  exact hb x'
/-- CHANGED: a frame of whose data a byte is another one. -/
theorem frm_changed (ep sq : Nat) (d : List UInt8) (hd : d.length ≤ 1024) (k p : Nat) (b : UInt8) (hk : k < d.length) (hp : p ≠ 0) (hp8 : p < 256) (e : b.toNat = (d.getD k 0).toNat ^^^ p) :
    frmE ((frmL ep sq d).set (16 + k) b) = 19 := by
  have hset : (frmL ep sq d).set (16 + k) b = ([83, 74] ++ headL d.length ep sq ++ leL (addN 0 (headL d.length ep sq ++ d)) 4) ++ d.set k b := by
    unfold frmL
    rw [List.set_append_right _ _ (by simp [headL_length, leL_length])]
    congr 2
    simp [headL_length, leL_length]
  obtain ⟨h1, -, -, h4, h5, h6, h7, h8⟩ := frm_pieces ep sq d []
  rw [List.append_nil] at h1 h4 h5 h6 h7 h8
  have hx := addN_lt 0 (headL d.length ep sq ++ d) (by omega)
  rw [Nat.mod_eq_of_lt (by omega)] at h1 h4
  have hbt : ∀ i, i < 16 → bt ((frmL ep sq d).set (16 + k) b) i = bt (frmL ep sq d) i := fun i hi => by
    unfold bt; rw [List.getD_eq_getElem?_getD, List.getD_eq_getElem?_getD, List.getElem?_set_ne (by omega)]
  have hlen : ((frmL ep sq d).set (16 + k) b).length = 16 + d.length := by rw [List.length_set, frmL_length]
  have e1 : leN ((frmL ep sq d).set (16 + k) b) 2 2 = d.length := by
    rw [← h1]; exact leN_alike _ _ 2 _ _ fun x hx => hbt _ (by omega)
  have e4 : leN ((frmL ep sq d).set (16 + k) b) 12 4 = addN 0 (headL d.length ep sq ++ d) := by
    rw [← h4]; exact leN_alike _ _ 4 _ _ fun x hx => hbt _ (by omega)
  have e5 : (((frmL ep sq d).set (16 + k) b).drop 2).take 10 = headL d.length ep sq := by
    rw [← h5, List.drop_set, if_neg (by omega), List.take_set_of_le (by omega)]
  have e6 : datL ((frmL ep sq d).set (16 + k) b) = d.set k b := by
    unfold datL
    rw [e1, List.drop_set, if_neg (by omega), h6, List.append_nil, show 16 + k - 16 = k by omega, List.take_of_length_le (by simp)]
  have hb : begB ((frmL ep sq d).set (16 + k) b) = true := by
    unfold begB; rw [hbt 0 (by omega), hbt 1 (by omega), h7, h8]; simp
  have hne : addN 0 (headL d.length ep sq ++ d.set k b) ≠ addN 0 (headL d.length ep sq ++ d) := by
    have := sum_byte (headL d.length ep sq ++ d) (10 + k) p b (by simp [headL_length]; omega) hp hp8 (by
      rw [e, List.getD_eq_getElem?_getD, List.getD_eq_getElem?_getD, List.getElem?_append_right (by rw [headL_length]; omega), headL_length, show 10 + k - 10 = k by omega])
    rw [List.set_append_right _ _ (by rw [headL_length]; omega), headL_length, show 10 + k - 10 = k by omega] at this
    exact this
  unfold frmE
  rw [hb, hlen, e1, e4, e5, e6, if_neg (by simp), if_neg (by omega), if_neg (by omega), if_neg (by omega), if_neg (fun h => hne h.symm)]
end Go.Proofs.YtibbglmhcjnedaaDoor
