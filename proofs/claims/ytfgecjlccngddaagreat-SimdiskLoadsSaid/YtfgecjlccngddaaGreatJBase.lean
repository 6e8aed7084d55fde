/-
  Joined: UtfMath, Common, NumMath, Obj, Conv, NumRef.
-/
import GoSem.Core.Utf8
import Derived.WalkKit
import Derived.WalkSpells
import Derived.WalkLawsBesides
import Derived.Lib.Hide
import Derived.OpenShut
import Derived.IntWalk
import Derived.Deep.Draws
import Derived.Test.YtfgecjlccngddaaGreatRows
namespace Go.Proofs.YtfgecjlccngddaaGreat
set_option linter.unusedSimpArgs false
set_option linter.unusedVariables false

theorem len_pos {l : List UInt8} (h : l ≠ []) : 0 < l.length := by cases l with | nil => exact absurd rfl h | cons => simp

/-- How many bytes the rune c has; 0: c is no rune. -/
def sz (c : Int) : Nat :=
  if c < 0 ∨ 1114111 < c ∨ (55296 ≤ c ∧ c ≤ 57343) then 0 else if c < 128 then 1 else if c < 2048 then 2 else if c < 65536 then 3 else 4

/-- The rune at the head of four bytes, and how many of them it has; (0, 0): none. -/
def tk (b0 b1 b2 b3 : Nat) : Nat × Nat :=
  if b0 < 128 then (b0, 1)
  else if 194 ≤ b0 ∧ b0 < 224 ∧ 128 ≤ b1 ∧ b1 ≤ 191 then ((b0 - 192) * 64 + (b1 - 128), 2)
  else if 224 ≤ b0 ∧ b0 < 240 ∧ 128 ≤ b1 ∧ b1 ≤ 191 ∧ 128 ≤ b2 ∧ b2 ≤ 191 ∧ (b0 = 224 → 160 ≤ b1) ∧ (b0 = 237 → b1 < 160) then ((b0 - 224) * 4096 + (b1 - 128) * 64 + (b2 - 128), 3)
  else if 240 ≤ b0 ∧ b0 < 245 ∧ 128 ≤ b1 ∧ b1 ≤ 191 ∧ 128 ≤ b2 ∧ b2 ≤ 191 ∧ 128 ≤ b3 ∧ b3 ≤ 191 ∧ (b0 = 240 → 144 ≤ b1) ∧ (b0 = 244 → b1 < 144) then ((b0 - 240) * 262144 + (b1 - 128) * 4096 + (b2 - 128) * 64 + (b3 - 128), 4)
  else (0, 0)

/-- The byte at a place, as a number; 0 behind the end. -/
def bt (l : List UInt8) (i : Nat) : Nat := (l.getD i 0).toNat

theorem bt_lt (l : List UInt8) (i : Nat) : bt l i < 256 := (l.getD i 0).toNat_lt
theorem bt_of_le (l : List UInt8) (i : Nat) (h : l.length ≤ i) : bt l i = 0 := by
  unfold bt; rw [List.getD_eq_getElem?_getD, List.getElem?_eq_none h]; rfl
theorem bt_drop (l : List UInt8) (k i : Nat) : bt (l.drop k) i = bt l (k + i) := by
  unfold bt; simp [List.getD_eq_getElem?_getD]
theorem bt_take (l : List UInt8) (k i : Nat) (h : i < k) : bt (l.take k) i = bt l i := by
  unfold bt; simp [List.getD_eq_getElem?_getD, h]
theorem bt_take_ge (l : List UInt8) (k i : Nat) (h : k ≤ i) : bt (l.take k) i = 0 :=
  bt_of_le _ _ (by have := List.length_take_le k l; omega)
theorem bt_app_lt (a b : List UInt8) (i : Nat) (h : i < a.length) : bt (a ++ b) i = bt a i := by
  unfold bt; simp [List.getD_eq_getElem?_getD, List.getElem?_append, h]
theorem bt_app_ge (a b : List UInt8) (i : Nat) (h : a.length ≤ i) : bt (a ++ b) i = bt b (i - a.length) := by
  unfold bt; simp [List.getD_eq_getElem?_getD, List.getElem?_append, Nat.not_lt.2 h]

/-- The rune at the head of a text. -/
def tkl (l : List UInt8) : Nat × Nat := if l = [] then (0, 0) else tk (bt l 0) (bt l 1) (bt l 2) (bt l 3)

/-- What 'tk' answers, way by way. -/
theorem tk_cases (b0 b1 b2 b3 : Nat) :
    (b0 < 128 ∧ tk b0 b1 b2 b3 = (b0, 1)) ∨
    (194 ≤ b0 ∧ b0 < 224 ∧ 128 ≤ b1 ∧ b1 ≤ 191 ∧ tk b0 b1 b2 b3 = ((b0 - 192) * 64 + (b1 - 128), 2)) ∨
    (224 ≤ b0 ∧ b0 < 240 ∧ 128 ≤ b1 ∧ b1 ≤ 191 ∧ 128 ≤ b2 ∧ b2 ≤ 191 ∧ (b0 = 224 → 160 ≤ b1) ∧ (b0 = 237 → b1 < 160) ∧ tk b0 b1 b2 b3 = ((b0 - 224) * 4096 + (b1 - 128) * 64 + (b2 - 128), 3)) ∨
    (240 ≤ b0 ∧ b0 < 245 ∧ 128 ≤ b1 ∧ b1 ≤ 191 ∧ 128 ≤ b2 ∧ b2 ≤ 191 ∧ 128 ≤ b3 ∧ b3 ≤ 191 ∧ (b0 = 240 → 144 ≤ b1) ∧ (b0 = 244 → b1 < 144) ∧ tk b0 b1 b2 b3 = ((b0 - 240) * 262144 + (b1 - 128) * 4096 + (b2 - 128) * 64 + (b3 - 128), 4)) ∨
    (128 ≤ b0 ∧ ¬ (194 ≤ b0 ∧ b0 < 224 ∧ 128 ≤ b1 ∧ b1 ≤ 191) ∧ ¬ (224 ≤ b0 ∧ b0 < 240 ∧ 128 ≤ b1 ∧ b1 ≤ 191 ∧ 128 ≤ b2 ∧ b2 ≤ 191 ∧ (b0 = 224 → 160 ≤ b1) ∧ (b0 = 237 → b1 < 160)) ∧ ¬ (240 ≤ b0 ∧ b0 < 245 ∧ 128 ≤ b1 ∧ b1 ≤ 191 ∧ 128 ≤ b2 ∧ b2 ≤ 191 ∧ 128 ≤ b3 ∧ b3 ≤ 191 ∧ (b0 = 240 → 144 ≤ b1) ∧ (b0 = 244 → b1 < 144)) ∧ tk b0 b1 b2 b3 = (0, 0)) := by
  unfold tk
  by_cases h1 : b0 < 128
  · simp [h1]
  by_cases h2 : 194 ≤ b0 ∧ b0 < 224 ∧ 128 ≤ b1 ∧ b1 ≤ 191
  · rw [if_neg h1, if_pos h2]; exact .inr (.inl ⟨h2.1, h2.2.1, h2.2.2.1, h2.2.2.2, rfl⟩)
  by_cases h3 : 224 ≤ b0 ∧ b0 < 240 ∧ 128 ≤ b1 ∧ b1 ≤ 191 ∧ 128 ≤ b2 ∧ b2 ≤ 191 ∧ (b0 = 224 → 160 ≤ b1) ∧ (b0 = 237 → b1 < 160)
  · rw [if_neg h1, if_neg h2, if_pos h3]
    obtain ⟨a, b, c, d, e, f, g, i⟩ := h3
    exact .inr (.inr (.inl ⟨a, b, c, d, e, f, g, i, rfl⟩))
  by_cases h4 : 240 ≤ b0 ∧ b0 < 245 ∧ 128 ≤ b1 ∧ b1 ≤ 191 ∧ 128 ≤ b2 ∧ b2 ≤ 191 ∧ 128 ≤ b3 ∧ b3 ≤ 191 ∧ (b0 = 240 → 144 ≤ b1) ∧ (b0 = 244 → b1 < 144)
  · rw [if_neg h1, if_neg h2, if_neg h3, if_pos h4]
    obtain ⟨a, b, c, d, e, f, g, i, j, k⟩ := h4
    exact .inr (.inr (.inr (.inl ⟨a, b, c, d, e, f, g, i, j, k, rfl⟩)))
  · rw [if_neg h1, if_neg h2, if_neg h3, if_neg h4]
    exact .inr (.inr (.inr (.inr ⟨by omega, h2, h3, h4, rfl⟩)))

/-- A rune that stands at a head has its own number of bytes. -/
theorem tk_sz (b0 b1 b2 b3 : Nat) (h : (tk b0 b1 b2 b3).2 ≠ 0) : sz ((tk b0 b1 b2 b3).1 : Nat) = (tk b0 b1 b2 b3).2 := by
  rcases tk_cases b0 b1 b2 b3 with ⟨h1, e⟩ | ⟨h1, h2, h3, h4, e⟩ | ⟨h1, h2, h3, h4, h5, h6, h7, h8, e⟩ | ⟨h1, h2, h3, h4, h5, h6, h7, h8, h9, h10, e⟩ | ⟨_, _, _, _, e⟩
  all_goals rw [e] at h ⊢; simp only [sz]
  · rw [if_neg (by omega), if_pos (by omega)]
  · rw [if_neg (by omega), if_neg (by omega), if_pos (by omega)]
  · rw [if_neg (by omega), if_neg (by omega), if_neg (by omega), if_pos (by omega)]
  · rw [if_neg (by omega), if_neg (by omega), if_neg (by omega), if_neg (by omega)]
  · simp at h

theorem tk_le (b0 b1 b2 b3 : Nat) : (tk b0 b1 b2 b3).2 ≤ 4 := by
  rcases tk_cases b0 b1 b2 b3 with ⟨_, e⟩ | ⟨_, _, _, _, e⟩ | ⟨_, _, _, _, _, _, _, _, e⟩ | ⟨_, _, _, _, _, _, _, _, _, _, e⟩ | ⟨_, _, _, _, e⟩ <;> rw [e] <;> simp

/-- 'tk' looks at no byte behind the rune's own. -/
theorem tk_same (b0 b1 b2 b3 c1 c2 c3 : Nat) (h1 : 1 < (tk b0 b1 b2 b3).2 → c1 = b1) (h2 : 2 < (tk b0 b1 b2 b3).2 → c2 = b2) (h3 : 3 < (tk b0 b1 b2 b3).2 → c3 = b3)
    (h : (tk b0 b1 b2 b3).2 ≠ 0) : tk b0 c1 c2 c3 = tk b0 b1 b2 b3 := by
  rcases tk_cases b0 b1 b2 b3 with ⟨g1, e⟩ | ⟨g1, g2, g3, g4, e⟩ | ⟨g1, g2, g3, g4, g5, g6, g7, g8, e⟩ | ⟨g1, g2, g3, g4, g5, g6, g7, g8, g9, g10, e⟩ | ⟨_, _, _, _, e⟩
  all_goals rw [e] at h h1 h2 h3 ⊢; simp at h h1 h2 h3
  · simp [tk, g1]
  · subst h1; simp only [tk]; rw [if_neg (by omega), if_pos ⟨g1, g2, g3, g4⟩]
  · subst h1 h2; simp only [tk]; rw [if_neg (by omega), if_neg (by omega), if_pos ⟨g1, g2, g3, g4, g5, g6, g7, g8⟩]
  · subst h1 h2 h3; simp only [tk]; rw [if_neg (by omega), if_neg (by omega), if_neg (by omega), if_pos ⟨g1, g2, g3, g4, g5, g6, g7, g8, g9, g10⟩]

/-- The bytes behind a rune's first one go on; its first one does not. -/
theorem tk_on (b0 b1 b2 b3 : Nat) (h : (tk b0 b1 b2 b3).2 ≠ 0) :
    ¬ (128 ≤ b0 ∧ b0 ≤ 191) ∧ (1 < (tk b0 b1 b2 b3).2 → 128 ≤ b1 ∧ b1 ≤ 191) ∧ (2 < (tk b0 b1 b2 b3).2 → 128 ≤ b2 ∧ b2 ≤ 191) ∧ (3 < (tk b0 b1 b2 b3).2 → 128 ≤ b3 ∧ b3 ≤ 191) := by
  rcases tk_cases b0 b1 b2 b3 with ⟨g1, e⟩ | ⟨g1, g2, g3, g4, e⟩ | ⟨g1, g2, g3, g4, g5, g6, g7, g8, e⟩ | ⟨g1, g2, g3, g4, g5, g6, g7, g8, g9, g10, e⟩ | ⟨_, _, _, _, e⟩
  all_goals rw [e] at h ⊢; simp at h ⊢ <;> omega

/-- Only a byte below 128 is a rune of one byte. -/
theorem tk_low (b0 b1 b2 b3 : Nat) (h : (tk b0 b1 b2 b3).1 < 128) : (tk b0 b1 b2 b3) = (0, 0) ∨ tk b0 b1 b2 b3 = (b0, 1) := by
  rcases tk_cases b0 b1 b2 b3 with ⟨g1, e⟩ | ⟨g1, g2, g3, g4, e⟩ | ⟨g1, g2, g3, g4, g5, g6, g7, g8, e⟩ | ⟨g1, g2, g3, g4, g5, g6, g7, g8, g9, g10, e⟩ | ⟨_, _, _, _, e⟩
  all_goals rw [e] at h ⊢; simp at h ⊢; try omega

theorem tkl_le (l : List UInt8) : (tkl l).2 ≤ l.length := by
  unfold tkl
  split
  · simp
  · rename_i hl
    have h0 : 0 < l.length := len_pos hl
    by_cases hz : (tk (bt l 0) (bt l 1) (bt l 2) (bt l 3)).2 = 0
    · omega
    obtain ⟨_, g1, g2, g3⟩ := tk_on _ _ _ _ hz
    have h4 := tk_le (bt l 0) (bt l 1) (bt l 2) (bt l 3)
    have z1 := bt_of_le l 1; have z2 := bt_of_le l 2; have z3 := bt_of_le l 3
    omega

/-- The text is gone over rune by rune: the first place (counted on from 'at') where none stands; -1. -/
def badF : Nat → List UInt8 → Nat → Int
  | 0, _, _ => -1
  | f + 1, l, p => if l = [] then -1 else if (tkl l).2 = 0 then p else badF f (l.drop (tkl l).2) (p + (tkl l).2)
def bad (l : List UInt8) : Int := badF (l.length + 1) l 0

theorem badF_more (f : Nat) : ∀ (l : List UInt8) (p g : Nat), l.length < f → l.length < g → badF f l p = badF g l p := by
  induction f with
  | zero => intro l p g h; omega
  | succ f ih =>
    intro l p g hf hg
    cases g with
    | zero => omega
    | succ g =>
      simp only [badF]
      split
      · rfl
      split
      · rfl
      · rename_i hl hz
        have := len_pos hl
        exact ih _ _ _ (by simp; omega) (by simp; omega)

theorem badF_range (f : Nat) : ∀ (l : List UInt8) (p : Nat), badF f l p = -1 ∨ (p ≤ badF f l p ∧ badF f l p < p + l.length) := by
  induction f with
  | zero => intro l p; exact .inl rfl
  | succ f ih =>
    intro l p
    simp only [badF]
    split
    · exact .inl rfl
    rename_i hl
    have h0 := len_pos hl
    split
    · right; omega
    · have h1 := tkl_le l
      rcases ih (l.drop (tkl l).2) (p + (tkl l).2) with h | h
      · exact .inl h
      · right; simp only [List.length_drop] at h; omega

theorem badF_place (f : Nat) : ∀ (l : List UInt8) (p : Nat), (badF f l p = -1) ↔ (badF f l 0 = -1) := by
  induction f with
  | zero => intro l p; simp [badF]
  | succ f ih =>
    intro l p
    simp only [badF]
    split
    · simp
    split
    · simp
    · rw [ih _ (p + _), ih _ (0 + _)]

/-- Is a text made of runes alone? -/
def vld (l : List UInt8) : Prop := bad l = -1

theorem vld_nil : vld [] := rfl
theorem vld_step (l : List UInt8) (h : l ≠ []) : vld l ↔ ((tkl l).2 ≠ 0 ∧ vld (l.drop (tkl l).2)) := by
  unfold vld bad
  have h0 := len_pos h
  conv => lhs; rw [show badF (l.length + 1) l 0 = if l = [] then -1 else if (tkl l).2 = 0 then 0 else badF l.length (l.drop (tkl l).2) (0 + (tkl l).2) from rfl]
  rw [if_neg h]
  by_cases hz : (tkl l).2 = 0
  · simp [hz]
  · rw [if_neg hz, badF_place]
    have e : badF l.length (l.drop (tkl l).2) 0 = badF ((l.drop (tkl l).2).length + 1) (l.drop (tkl l).2) 0 := badF_more _ _ _ _ (by simp; omega) (by simp)
    rw [e]; simp [hz]

/-- A text that begins with no byte that goes on (or is empty). -/
def clean (l : List UInt8) : Prop := l = [] ∨ ¬ (128 ≤ bt l 0 ∧ bt l 0 ≤ 191)

theorem vld_clean (l : List UInt8) (h : vld l) : clean l := by
  by_cases hl : l = []
  · exact .inl hl
  · right
    obtain ⟨h1, _⟩ := (vld_step l hl).1 h
    simp only [tkl, if_neg hl] at h1
    exact (tk_on _ _ _ _ h1).1

/-- A rune at the head of a text is there whatever stands behind it. -/
theorem tkl_app (a b : List UInt8) (h : (tkl a).2 ≠ 0) : tkl (a ++ b) = tkl a := by
  have hle := tkl_le a
  by_cases ha : a = []
  · subst ha; simp [tkl] at h
  have h0 := len_pos ha
  simp only [tkl, if_neg ha] at h hle ⊢
  rw [if_neg (by simp [ha]), bt_app_lt a b 0 h0]
  refine tk_same _ _ _ _ _ _ _ (fun k => bt_app_lt _ _ _ ?_) (fun k => bt_app_lt _ _ _ ?_) (fun k => bt_app_lt _ _ _ ?_) h <;> omega

/-- And no rune reaches over a place at which no byte goes on. -/
theorem tkl_cut (a b : List UInt8) (ha : a ≠ []) (hb : clean b) (h : (tkl (a ++ b)).2 ≠ 0) : tkl a = tkl (a ++ b) := by
  have h0 := len_pos ha
  have hle : (tkl (a ++ b)).2 ≤ a.length := by
    have hall := tkl_le (a ++ b)
    rcases hb with rfl | hb
    · simpa using hall
    simp only [tkl] at h ⊢
    rw [if_neg (by simp [ha])] at h ⊢
    obtain ⟨_, g1, g2, g3⟩ := tk_on _ _ _ _ h
    have h4 := tk_le (bt (a ++ b) 0) (bt (a ++ b) 1) (bt (a ++ b) 2) (bt (a ++ b) 3)
    have e := bt_app_ge a b a.length (Nat.le_refl _)
    rw [Nat.sub_self] at e
    rw [← e] at hb
    by_cases k1 : a.length = 1
    · rw [k1] at hb ⊢; omega
    by_cases k2 : a.length = 2
    · rw [k2] at hb ⊢; omega
    by_cases k3 : a.length = 3
    · rw [k3] at hb ⊢; omega
    omega
  simp only [tkl] at h hle ⊢
  rw [if_neg (by simp [ha])] at h hle
  rw [if_neg ha, if_neg (by simp [ha]), ← bt_app_lt a b 0 h0]
  refine tk_same _ _ _ _ _ _ _ (fun k => (bt_app_lt _ _ _ ?_).symm) (fun k => (bt_app_lt _ _ _ ?_).symm) (fun k => (bt_app_lt _ _ _ ?_).symm) h <;> omega

theorem vld_app_upto (n : Nat) : ∀ (a b : List UInt8), a.length ≤ n → vld a → vld b → vld (a ++ b) := by
  induction n with
  | zero =>
    intro a b hn _ hb
    have h : a = [] := List.eq_nil_of_length_eq_zero (by omega)
    subst h; simpa using hb
  | succ n ih =>
    intro a b hn ha hb
    by_cases h : a = []
    · subst h; simpa using hb
    obtain ⟨h1, h2⟩ := (vld_step a h).1 ha
    have hle := tkl_le a
    have h0 := len_pos h
    rw [vld_step _ (by simp [h]), tkl_app a b h1]
    refine ⟨h1, ?_⟩
    rw [List.drop_append_of_le_length hle]
    exact ih _ _ (by simp; omega) h2 hb
theorem vld_app (a b : List UInt8) (ha : vld a) (hb : vld b) : vld (a ++ b) := vld_app_upto a.length a b (Nat.le_refl _) ha hb

theorem vld_cut_upto (n : Nat) : ∀ (a b : List UInt8), a.length ≤ n → clean b → vld (a ++ b) → vld a ∧ vld b := by
  induction n with
  | zero =>
    intro a b hn _ h
    have ha : a = [] := List.eq_nil_of_length_eq_zero (by omega)
    subst ha; exact ⟨vld_nil, by simpa using h⟩
  | succ n ih =>
    intro a b hn hb h
    by_cases ha : a = []
    · subst ha; exact ⟨vld_nil, by simpa using h⟩
    obtain ⟨h1, h2⟩ := (vld_step (a ++ b) (by simp [ha])).1 h
    have e := tkl_cut a b ha hb h1
    have hp : (tkl a).2 ≠ 0 := by rw [e]; exact h1
    rw [← e] at h1 h2
    have hle := tkl_le a
    have h0 := len_pos ha
    rw [List.drop_append_of_le_length hle] at h2
    have i := ih _ _ (by simp; omega) hb h2
    exact ⟨(vld_step a ha).2 ⟨h1, i.1⟩, i.2⟩
theorem vld_cut (a b : List UInt8) (hb : clean b) (h : vld (a ++ b)) : vld a ∧ vld b := vld_cut_upto a.length a b (Nat.le_refl _) hb h

/-- How many bytes do not go on. -/
def runes (l : List UInt8) : Nat := (l.filter fun c => !(decide (128 ≤ c.toNat) && decide (c.toNat ≤ 191))).length
theorem runes_app (a b : List UInt8) : runes (a ++ b) = runes a + runes b := by simp [runes]
theorem runes_le (l : List UInt8) : runes l ≤ l.length := List.length_filter_le _ _
/-- How many bytes 10. -/
def lines (l : List UInt8) : Nat := (l.filter fun c => decide (c.toNat = 10)).length
theorem lines_app (a b : List UInt8) : lines (a ++ b) = lines a + lines b := by simp [lines]
theorem lines_le (l : List UInt8) : lines l ≤ l.length := List.length_filter_le _ _

theorem take_succ (l : List UInt8) (k : Nat) (h : k < l.length) : l.take (k + 1) = l.take k ++ [l.getD k 0] := by
  rw [List.take_succ_eq_append_getElem h, List.getD_eq_getElem?_getD, List.getElem?_eq_getElem h]; rfl

theorem runes_succ (l : List UInt8) (k : Nat) (h : k < l.length) : runes (l.take (k + 1)) = runes (l.take k) + if 128 ≤ bt l k ∧ bt l k ≤ 191 then 0 else 1 := by
  rw [take_succ l k h, runes_app]
  unfold bt
  generalize l.getD k 0 = c
  by_cases g : 128 ≤ c.toNat ∧ c.toNat ≤ 191
  · rw [if_pos g]; simp [runes, g]
  · rw [if_neg g]; simp only [runes, List.filter_cons, List.filter_nil]
    rw [if_pos (by simp; omega)]; rfl
theorem lines_succ (l : List UInt8) (k : Nat) (h : k < l.length) : lines (l.take (k + 1)) = lines (l.take k) + if bt l k = 10 then 1 else 0 := by
  rw [take_succ l k h, lines_app]
  unfold bt
  generalize l.getD k 0 = c
  by_cases g : c.toNat = 10
  · rw [if_pos g]; simp [lines, g]
  · rw [if_neg g]; simp [lines, g]

/-- Is a place an edge? -/
def edge (l : List UInt8) (k : Nat) : Prop := k = 0 ∨ k = l.length ∨ (k < l.length ∧ ¬ (128 ≤ bt l k ∧ bt l k ≤ 191))
instance (l : List UInt8) (k : Nat) : Decidable (edge l k) := by unfold edge; exact inferInstance
/-- The greatest edge that is not above k. -/
def back (l : List UInt8) : Nat → Nat
  | 0 => 0
  | k + 1 => if edge l (k + 1) then k + 1 else back l k
theorem back_le (l : List UInt8) (k : Nat) : back l k ≤ k := by
  induction k with
  | zero => simp [back]
  | succ k ih => simp only [back]; split <;> omega
theorem back_edge (l : List UInt8) (k : Nat) (h : edge l k) : back l k = k := by
  cases k with
  | zero => rfl
  | succ k => simp only [back]; rw [if_pos h]
theorem back_not (l : List UInt8) (k : Nat) (h : ¬ edge l (k + 1)) : back l (k + 1) = back l k := by
  simp only [back]; rw [if_neg h]

/-- What a rune's first byte says: its own bits, and how many bytes the rune would have; 0: it is no first byte. -/
def ld (b : Nat) : Nat × Nat :=
  if b < 128 then (b, 1) else if b < 192 then (0, 0) else if b < 224 then (b % 32, 2) else if b < 240 then (b % 16, 3) else if b < 248 then (b % 8, 4) else (0, 0)
theorem ld_cases (b : Nat) : (b < 128 ∧ ld b = (b, 1)) ∨ (192 ≤ b ∧ b < 224 ∧ ld b = (b % 32, 2)) ∨ (224 ≤ b ∧ b < 240 ∧ ld b = (b % 16, 3)) ∨ (240 ≤ b ∧ b < 248 ∧ ld b = (b % 8, 4)) ∨ ((128 ≤ b ∧ b < 192 ∨ 248 ≤ b) ∧ ld b = (0, 0)) := by
  unfold ld
  by_cases h1 : b < 128
  · simp [h1]
  by_cases h2 : b < 192
  · simp [h1, h2]; omega
  by_cases h3 : b < 224
  · simp [h1, h2, h3]; omega
  by_cases h4 : b < 240
  · simp [h1, h2, h3, h4]; omega
  by_cases h5 : b < 248
  · simp [h1, h2, h3, h4, h5]; omega
  · simp [h1, h2, h3, h4, h5]; omega
/-- The bits put together out of the first byte's (v) and of j bytes that follow the place k. -/
def acc (l : List UInt8) (k v : Nat) : Nat → Nat
  | 0 => v
  | j + 1 => acc l k v j * 64 + bt l (k + 1 + j) % 64
theorem tkl_drop (l : List UInt8) (k : Nat) (h : k < l.length) : tkl (l.drop k) = tk (bt l k) (bt l (k + 1)) (bt l (k + 1 + 1)) (bt l (k + 1 + 2)) := by
  unfold tkl
  rw [if_neg (by simp; omega)]
  simp only [bt_drop]
  rfl
theorem acc_small (l : List UInt8) (k j : Nat) (h : j + 1 < (ld (bt l k)).2) : acc l k (ld (bt l k)).1 j < 32768 := by
  rcases ld_cases (bt l k) with ⟨g, e⟩ | ⟨g, g', e⟩ | ⟨g, g', e⟩ | ⟨g, g', e⟩ | ⟨g, e⟩
  all_goals rw [e] at h ⊢; simp only at h
  · omega
  · obtain rfl : j = 0 := by omega
    simp only [acc]; omega
  · obtain rfl | rfl : j = 0 ∨ j = 1 := by omega
    all_goals simp only [acc]; omega
  · obtain rfl | rfl | rfl : j = 0 ∨ j = 1 ∨ j = 2 := by omega
    all_goals simp only [acc]; omega
  · omega
theorem ld_le (b : Nat) : (ld b).2 ≤ 4 ∧ (ld b).1 < 128 := by
  rcases ld_cases b with ⟨g, e⟩ | ⟨g, g', e⟩ | ⟨g, g', e⟩ | ⟨g, g', e⟩ | ⟨g, e⟩ <;> rw [e] <;> simp <;> omega
theorem take_none (l : List UInt8) (k : Nat) (h : k < l.length) (e : (ld (bt l k)).2 = 0) : tkl (l.drop k) = (0, 0) := by
  rw [tkl_drop l k h]
  rcases ld_cases (bt l k) with ⟨g, e'⟩ | ⟨g, g', e'⟩ | ⟨g, g', e'⟩ | ⟨g, g', e'⟩ | ⟨g, e'⟩
  all_goals rw [e'] at e; simp only at e
  all_goals first | omega | skip
  have := bt_lt l k
  unfold tk
  rw [if_neg (by omega), if_neg (by omega), if_neg (by omega), if_neg (by omega)]
theorem take_off (l : List UInt8) (k j : Nat) (h : k < l.length) (hj : j + 1 < (ld (bt l k)).2) (hn : ¬ (128 ≤ bt l (k + 1 + j) ∧ bt l (k + 1 + j) ≤ 191)) : tkl (l.drop k) = (0, 0) := by
  rw [tkl_drop l k h]
  rcases ld_cases (bt l k) with ⟨g, e⟩ | ⟨g, g', e⟩ | ⟨g, g', e⟩ | ⟨g, g', e⟩ | ⟨g, e⟩
  all_goals rw [e] at hj; simp only at hj
  · omega
  · obtain rfl : j = 0 := by omega
    rw [Nat.add_zero] at hn
    unfold tk; rw [if_neg (by omega), if_neg (by omega), if_neg (by omega), if_neg (by omega)]
  · obtain rfl | rfl : j = 0 ∨ j = 1 := by omega
    · replace hn : ¬ (128 ≤ bt l (k + 1) ∧ bt l (k + 1) ≤ 191) := hn
      unfold tk; rw [if_neg (by omega), if_neg (by omega), if_neg (by omega), if_neg (by omega)]
    · replace hn : ¬ (128 ≤ bt l (k + 1 + 1) ∧ bt l (k + 1 + 1) ≤ 191) := hn
      unfold tk; rw [if_neg (by omega), if_neg (by omega), if_neg (by omega), if_neg (by omega)]
  · obtain rfl | rfl | rfl : j = 0 ∨ j = 1 ∨ j = 2 := by omega
    · replace hn : ¬ (128 ≤ bt l (k + 1) ∧ bt l (k + 1) ≤ 191) := hn
      unfold tk; rw [if_neg (by omega), if_neg (by omega), if_neg (by omega), if_neg (by omega)]
    · replace hn : ¬ (128 ≤ bt l (k + 1 + 1) ∧ bt l (k + 1 + 1) ≤ 191) := hn
      unfold tk; rw [if_neg (by omega), if_neg (by omega), if_neg (by omega), if_neg (by omega)]
    · replace hn : ¬ (128 ≤ bt l (k + 1 + 2) ∧ bt l (k + 1 + 2) ≤ 191) := hn
      unfold tk; rw [if_neg (by omega), if_neg (by omega), if_neg (by omega), if_neg (by omega)]
  · omega
theorem take_short (l : List UInt8) (k : Nat) (h : k < l.length) (hs : l.length < k + (ld (bt l k)).2) : tkl (l.drop k) = (0, 0) := by
  have h1 : l.length - k - 1 + 1 < (ld (bt l k)).2 := by omega
  have e := bt_of_le l (k + 1 + (l.length - k - 1)) (by omega)
  exact take_off l k (l.length - k - 1) h h1 (by rw [e]; omega)
theorem take_all (l : List UInt8) (k : Nat) (h : k < l.length) (hz : (ld (bt l k)).2 ≠ 0) (hon : ∀ j, j + 1 < (ld (bt l k)).2 → 128 ≤ bt l (k + 1 + j) ∧ bt l (k + 1 + j) ≤ 191) :
    tkl (l.drop k) = if sz (acc l k (ld (bt l k)).1 ((ld (bt l k)).2 - 1) : Nat) = (ld (bt l k)).2 then (acc l k (ld (bt l k)).1 ((ld (bt l k)).2 - 1), (ld (bt l k)).2) else (0, 0) := by
  rw [tkl_drop l k h]
  rcases ld_cases (bt l k) with ⟨g, e⟩ | ⟨g, g', e⟩ | ⟨g, g', e⟩ | ⟨g, g', e⟩ | ⟨g, e⟩
  all_goals rw [e] at hon hz ⊢; simp only at hon hz ⊢
  · have s : sz ((bt l k : Nat) : Int) = 1 := by unfold sz; rw [if_neg (by omega), if_pos (by omega)]
    show _ = if sz ((bt l k : Nat) : Int) = 1 then (bt l k, 1) else (0, 0)
    rw [if_pos s]; unfold tk; rw [if_pos g]
  · have a0 := hon 0 (by omega)
    rw [Nat.add_zero] at a0
    show _ = if sz ((bt l k % 32 * 64 + bt l (k + 1) % 64 : Nat) : Int) = 2 then (bt l k % 32 * 64 + bt l (k + 1) % 64, 2) else (0, 0)
    generalize bt l k = b0 at *
    generalize bt l (k + 1) = b1 at *
    have E : (b0 % 32 * 64 + b1 % 64 : Nat) = (b0 - 192) * 64 + (b1 - 128) := by omega
    rw [E]
    unfold tk
    rw [if_neg (by omega)]
    by_cases c1 : 194 ≤ b0
    · have s : sz ((b0 - 192) * 64 + (b1 - 128) : Nat) = 2 := by unfold sz; rw [if_neg (by omega), if_neg (by omega), if_pos (by omega)]
      rw [if_pos (by omega), if_pos s]
    · have s : sz ((b0 - 192) * 64 + (b1 - 128) : Nat) ≠ 2 := by unfold sz; rw [if_neg (by omega), if_pos (by omega)]; omega
      rw [if_neg (by omega), if_neg (by omega), if_neg (by omega), if_neg s]
  · have a0 := hon 0 (by omega)
    have a1 := hon 1 (by omega)
    rw [Nat.add_zero] at a0
    show _ = if sz (((bt l k % 16 * 64 + bt l (k + 1) % 64) * 64 + bt l (k + 1 + 1) % 64 : Nat) : Int) = 3 then ((bt l k % 16 * 64 + bt l (k + 1) % 64) * 64 + bt l (k + 1 + 1) % 64, 3) else (0, 0)
    generalize bt l k = b0 at *
    generalize bt l (k + 1) = b1 at *
    generalize bt l (k + 1 + 1) = b2 at *
    have E : ((b0 % 16 * 64 + b1 % 64) * 64 + b2 % 64 : Nat) = (b0 - 224) * 4096 + (b1 - 128) * 64 + (b2 - 128) := by omega
    rw [E]
    unfold tk
    rw [if_neg (by omega), if_neg (by omega)]
    by_cases c1 : (b0 = 224 → 160 ≤ b1) ∧ (b0 = 237 → b1 < 160)
    · rw [if_pos (by omega)]
      have s : sz ((b0 - 224) * 4096 + (b1 - 128) * 64 + (b2 - 128) : Nat) = 3 := by
        unfold sz; rw [if_neg (by omega), if_neg (by omega), if_neg (by omega), if_pos (by omega)]
      rw [s, if_pos rfl]
    · rw [if_neg (by omega), if_neg (by omega)]
      have s : sz ((b0 - 224) * 4096 + (b1 - 128) * 64 + (b2 - 128) : Nat) ≠ 3 := by
        unfold sz; repeat' split
        all_goals omega
      rw [if_neg s]
  · have a0 := hon 0 (by omega)
    have a1 := hon 1 (by omega)
    have a2 := hon 2 (by omega)
    rw [Nat.add_zero] at a0
    show _ = if sz ((((bt l k % 8 * 64 + bt l (k + 1) % 64) * 64 + bt l (k + 1 + 1) % 64) * 64 + bt l (k + 1 + 2) % 64 : Nat) : Int) = 4 then (((bt l k % 8 * 64 + bt l (k + 1) % 64) * 64 + bt l (k + 1 + 1) % 64) * 64 + bt l (k + 1 + 2) % 64, 4) else (0, 0)
    generalize bt l k = b0 at *
    generalize bt l (k + 1) = b1 at *
    generalize bt l (k + 1 + 1) = b2 at *
    generalize bt l (k + 1 + 2) = b3 at *
    have E : (((b0 % 8 * 64 + b1 % 64) * 64 + b2 % 64) * 64 + b3 % 64 : Nat) = (b0 - 240) * 262144 + (b1 - 128) * 4096 + (b2 - 128) * 64 + (b3 - 128) := by omega
    rw [E]
    unfold tk
    rw [if_neg (by omega), if_neg (by omega), if_neg (by omega)]
    by_cases c1 : (b0 < 245 ∧ (b0 = 240 → 144 ≤ b1) ∧ (b0 = 244 → b1 < 144))
    · rw [if_pos (by omega)]
      have s : sz ((b0 - 240) * 262144 + (b1 - 128) * 4096 + (b2 - 128) * 64 + (b3 - 128) : Nat) = 4 := by
        unfold sz; rw [if_neg (by omega), if_neg (by omega), if_neg (by omega), if_neg (by omega)]
      rw [s, if_pos rfl]
    · rw [if_neg (by omega)]
      have s : sz ((b0 - 240) * 262144 + (b1 - 128) * 4096 + (b2 - 128) * 64 + (b3 - 128) : Nat) ≠ 4 := by
        unfold sz; repeat' split
        all_goals omega
      rw [if_neg s]
  · simp at hz

/-- The rune at a place, whatever number the place is. -/
def takeI (l : List UInt8) (p : Int) : Nat × Nat := if p < 0 then (0, 0) else tkl (l.drop p.toNat)

/-- A valid text cut at an edge is two valid ones. -/
theorem vld_edge (l : List UInt8) (k : Nat) (h : vld l) (e : edge l k) : vld (l.take k) ∧ vld (l.drop k) := by
  rcases e with rfl | rfl | ⟨hk, he⟩
  · simpa using ⟨vld_nil, h⟩
  · simpa using ⟨h, vld_nil⟩
  · refine vld_cut _ _ (.inr ?_) (by rw [List.take_append_drop]; exact h)
    rw [bt_drop]; simpa using he

/-- Between two texts of which one is not valid a blank makes none valid. -/
theorem vld_blank (a b : List UInt8) (h : vld (a ++ [32] ++ b)) : vld a ∧ vld b := by
  rw [List.append_assoc] at h
  have h1 := vld_cut a ([32] ++ b) (.inr (by show ¬ (128 ≤ 32 ∧ 32 ≤ 191); omega)) h
  refine ⟨h1.1, ?_⟩
  obtain ⟨_, h3⟩ := (vld_step _ (by simp)).1 h1.2
  have e : tkl ([32] ++ b) = (32, 1) := by
    simp only [tkl, List.cons_append, List.nil_append]
    rw [if_neg (by simp), show bt (32 :: b) 0 = 32 from rfl]
    simp [tk]
  rw [e] at h3
  simpa using h3
end Go.Proofs.YtfgecjlccngddaaGreat
namespace Go.Proofs.YtfgecjlccngddaaGreat
set_option linter.unusedSimpArgs false
set_option linter.unusedVariables false
open Go.RowKit

theorem ret_int {k : IntKind} {a b : Int} (h : a = b) : Ending.returned (.int k a) = .returned (.int k b) := by rw [h]
theorem ret_u32 {a b : Nat} (h : a = b) : Ending.returned (.int .u32 a) = .returned (.int .u32 b) := by rw [h]
theorem ret_bool {a b : Bool} (h : a = b) : Ending.returned (.bool a) = .returned (.bool b) := by rw [h]
theorem ret_str {a b : ByteArray} (h : a = b) : Ending.returned (.string a) = .returned (.string b) := by rw [h]
theorem ret_two {a b c d : Int} (h1 : a = c) (h2 : b = d) : Ending.returned (.tuple #[.int .i32 a, .int .i64 b]) = .returned (.tuple #[.int .i32 c, .int .i64 d]) := by rw [h1, h2]
theorem ret_ib {a c : Int} {b d : Bool} (h1 : a = c) (h2 : b = d) : Ending.returned (.tuple #[.int .i64 a, .bool b]) = .returned (.tuple #[.int .i64 c, .bool d]) := by rw [h1, h2]

theorem bt_get (s : ByteArray) (k : Nat) (h : k < s.size) : bt s.data.toList k = (s[k]'h).toNat := by
  unfold bt
  have h' : k < s.data.toList.length := by simpa using h
  rw [List.getD_eq_getElem?_getD, List.getElem?_eq_getElem h']
  rfl
theorem ext_bt (a b : List UInt8) (h : a.length = b.length) (e : ∀ i, i < a.length → bt a i = bt b i) : a = b := by
  refine List.ext_getElem h fun i h1 h2 => ?_
  have := e i h1
  unfold bt at this
  rw [List.getD_eq_getElem?_getD, List.getD_eq_getElem?_getD, List.getElem?_eq_getElem h1, List.getElem?_eq_getElem h2] at this
  exact UInt8.toNat_inj.1 this
theorem bt_nums (xs : List Int) (i : Nat) (h : i < xs.length) : bt (strOfNums xs).data.toList i = (xs.getD i 0).toNat % 256 := by
  unfold bt strOfNums
  simp [List.getD_eq_getElem?_getD, List.getElem?_eq_getElem h]
theorem bt_nums_end (xs : List Int) (i : Nat) (h : xs.length ≤ i) : bt (strOfNums xs).data.toList i = 0 := bt_of_le _ _ (by simpa [strOfNums] using h)
theorem size_nums (xs : List Int) : (strOfNums xs).size = xs.length := by simp [strOfNums, ByteArray.size]
theorem app_list (a b : ByteArray) : (a ++ b).data.toList = a.data.toList ++ b.data.toList := by simp
theorem extract_list (s : ByteArray) (a b : Nat) : (s.extract a b).data.toList = (s.data.toList.drop a).take (b - a) := by
  rw [ByteArray.data_extract, Array.toList_extract]
theorem str_ne {a b : ByteArray} (h : ¬ a = b) : (a.toList == b.toList) = false := by
  rw [beq_eq_false_iff_ne, ByteArray.toList_eq, ByteArray.toList_eq]
  exact fun e => h (ByteArray.ext (Array.toList_inj.1 e))
theorem isEmpty_size (s : ByteArray) : s.toList.isEmpty = decide (s.size = 0) := by
  have h : s.toList.length = s.size := by rw [ByteArray.toList_eq]; simp
  rw [← h]
  cases s.toList <;> simp
theorem str_ext {a b : ByteArray} (h : a.data.toList = b.data.toList) : a = b := ByteArray.ext (Array.toList_inj.1 h)

theorem drewN_below {B : Nat} {a w : World} (h : Below B a w) (n : Nat) : Below B a (w.drewN n) := ⟨h.os, h.tape, h.output, h.size, h.block⟩
/-- A call behind others: what lay below the first world's end lies there still. -/
theorem onward {P : Program} {f : FuncId} {args : Array Value} {v : Value} {w0 w : World} (h : Below w0.heap.size w0 w)
    (c : Calls P f args w fun e w' => e = .returned v ∧ Below w.heap.size w w') : Calls P f args w fun e w' => e = .returned v ∧ Below w0.heap.size w0 w' :=
  c.mono fun _ _ ⟨he, hb⟩ => ⟨he, h.trans (hb.mono h.size)⟩
end Go.Proofs.YtfgecjlccngddaaGreat
namespace Go.Proofs.YtfgecjlccngddaaGreat
set_option linter.unusedSimpArgs false
set_option linter.unusedVariables false
open Go.RowKit

/-- The number that m bytes at k are. -/
def leN (l : List UInt8) : Nat → Nat → Nat
  | _, 0 => 0
  | k, m + 1 => bt l k + 256 * leN l (k + 1) m
theorem leN_lt (l : List UInt8) (m : Nat) : ∀ k, leN l k m < 256 ^ m := by
  induction m with
  | zero => intro k; simp [leN]
  | succ m ih =>
    intro k
    have h1 := ih (k + 1)
    have h2 := bt_lt l k
    simp only [leN]
    rw [Nat.pow_succ]
    omega
/-- What m bytes at the place p say, and whether they stand there. -/
def getI (l : List UInt8) (p : Int) (m : Nat) : Nat × Bool := if p < 0 ∨ (l.length : Int) - m < p then (0, false) else (leN l p.toNat m, true)
/-- A number's m lowest bytes. -/
def leL (u : Nat) : Nat → List UInt8
  | 0 => []
  | m + 1 => leL u m ++ [UInt8.ofNat (u / 256 ^ m % 256)]
theorem leL_length (u m : Nat) : (leL u m).length = m := by
  induction m with
  | zero => rfl
  | succ m ih => simp [leL, ih]
theorem leL_bt (u m : Nat) : ∀ i, i < m → bt (leL u m) i = u / 256 ^ i % 256 := by
  induction m with
  | zero => intro i h; omega
  | succ m ih =>
    intro i h
    simp only [leL]
    by_cases hi : i < m
    · rw [bt_app_lt _ _ _ (by rw [leL_length]; exact hi), ih i hi]
    · obtain rfl : i = m := by omega
      rw [bt_app_ge _ _ _ (by rw [leL_length]; exact Nat.le_refl _), leL_length, Nat.sub_self]
      show u / 256 ^ i % 256 % 256 = _
      omega
theorem leN_leL2 (u : Nat) : leN (leL u 2) 0 2 = u % 65536 := by
  simp only [leN]
  rw [leL_bt u 2 0 (by omega), leL_bt u 2 (0 + 1) (by omega)]
  simp; omega
theorem leN_leL4 (u : Nat) : leN (leL u 4) 0 4 = u % 4294967296 := by
  simp only [leN]
  rw [leL_bt u 4 0 (by omega), leL_bt u 4 (0 + 1) (by omega), leL_bt u 4 (0 + 1 + 1) (by omega), leL_bt u 4 (0 + 1 + 1 + 1) (by omega)]
  simp; omega
/-- A number as a machine's 64 bits. -/
def u64 (n : Int) : Nat := (n % 18446744073709551616).toNat

/-- A number's w lowest digits. -/
def dg (n : Nat) : Nat → List UInt8
  | 0 => []
  | i + 1 => UInt8.ofNat (48 + n / 10 ^ i % 10) :: dg n i
theorem dg_length (n w : Nat) : (dg n w).length = w := by
  induction w with
  | zero => rfl
  | succ w ih => simp [dg, ih]
/-- What a number is in so many digits. -/
def digitsI (n w : Int) : List UInt8 := if w < 1 ∨ 9 < w ∨ n < 0 then [] else if n.toNat / 10 ^ w.toNat = 0 then dg n.toNat w.toNat else []
/-- Are they digits, all of them? -/
def allDig (l : List UInt8) : Bool := l.all fun c => decide (48 ≤ c.toNat) && decide (c.toNat ≤ 57)
/-- The number that digits say. -/
def decN (l : List UInt8) : Nat := l.foldl (fun n c => 10 * n + (c.toNat - 48)) 0
def parseI (l : List UInt8) : Nat × Bool := if l.length < 1 ∨ 9 < l.length then (0, false) else if allDig l then (decN l, true) else (0, false)
theorem decN_snoc (l : List UInt8) (c : UInt8) : decN (l ++ [c]) = 10 * decN l + (c.toNat - 48) := by simp [decN]
theorem allDig_snoc (l : List UInt8) (c : UInt8) : allDig (l ++ [c]) = (allDig l && (decide (48 ≤ c.toNat) && decide (c.toNat ≤ 57))) := by simp [allDig]
theorem allDig_app (a b : List UInt8) : allDig (a ++ b) = (allDig a && allDig b) := by simp [allDig]
theorem fold_from (l : List UInt8) : ∀ a, l.foldl (fun n c => 10 * n + (c.toNat - 48)) a = a * 10 ^ l.length + decN l := by
  induction l with
  | nil => intro a; simp [decN]
  | cons c l ih =>
    intro a
    simp only [List.foldl_cons, List.length_cons, decN]
    rw [ih, ih, Nat.pow_succ]
    simp only [Nat.mul_zero, Nat.zero_add, Nat.add_mul]
    rw [Nat.mul_comm (10 ^ l.length) 10, ← Nat.mul_assoc, Nat.mul_comm a 10, Nat.add_assoc]
theorem dig_byte (d : Nat) (h : d < 10) : (UInt8.ofNat (48 + d)).toNat = 48 + d := by show (48 + d) % 256 = _; omega
theorem allDig_dg (n w : Nat) : allDig (dg n w) = true := by
  induction w with
  | zero => rfl
  | succ w ih =>
    have := dig_byte (n / 10 ^ w % 10) (by omega)
    unfold allDig at ih ⊢
    rw [dg, List.all_cons, ih, this]
    simp; omega
theorem decN_dg (n w : Nat) : decN (dg n w) = n % 10 ^ w := by
  induction w with
  | zero => simp [dg, decN, Nat.mod_one]
  | succ w ih =>
    have e := dig_byte (n / 10 ^ w % 10) (by omega)
    show (dg n w).foldl _ (10 * 0 + ((UInt8.ofNat (48 + n / 10 ^ w % 10)).toNat - 48)) = _
    rw [fold_from, ih, dg_length, e, Nat.pow_succ, Nat.mod_mul]
    rw [show 10 * 0 + (48 + n / 10 ^ w % 10 - 48) = n / 10 ^ w % 10 by omega, Nat.mul_comm, Nat.add_comm]
/-- Digits are parsed to what they are of. -/
theorem parse_digits (n w : Int) (h : digitsI n w ≠ []) : parseI (digitsI n w) = (n.toNat, true) ∧ 0 ≤ n ∧ (digitsI n w).length = w.toNat ∧ 1 ≤ w := by
  unfold digitsI at h ⊢
  by_cases h1 : w < 1 ∨ 9 < w ∨ n < 0
  · rw [if_pos h1] at h; exact absurd rfl h
  rw [if_neg h1] at h ⊢
  by_cases h2 : n.toNat / 10 ^ w.toNat = 0
  · rw [if_pos h2]
    have hl := dg_length n.toNat w.toNat
    refine ⟨?_, by omega, hl, by omega⟩
    unfold parseI
    rw [hl, if_neg (by omega), allDig_dg, if_pos rfl, decN_dg]
    have hp : 0 < 10 ^ w.toNat := Nat.pow_pos (by omega)
    rw [Nat.mod_eq_of_lt ((Nat.div_eq_zero_iff_lt hp).1 h2)]
  · rw [if_neg h2] at h; exact absurd rfl h
theorem decN_lt (l : List UInt8) (h : allDig l = true) : decN l < 10 ^ l.length := by
  induction l with
  | nil => simp [decN]
  | cons c l ih =>
    unfold allDig at h ih
    simp only [List.all_cons, Bool.and_eq_true, decide_eq_true_eq] at h
    have i := ih h.2
    show l.foldl _ (10 * 0 + (c.toNat - 48)) < _
    rw [fold_from, List.length_cons, Nat.pow_succ]
    have : (10 * 0 + (c.toNat - 48)) * 10 ^ l.length ≤ 9 * 10 ^ l.length := Nat.mul_le_mul_right _ (by omega)
    omega
end Go.Proofs.YtfgecjlccngddaaGreat
namespace Go.Proofs.YtfgecjlccngddaaGreat
set_option linter.unusedSimpArgs false
set_option linter.unusedVariables false
open Go.RowKit

/-- Of the blocks that were there those of S alone may have turned. -/
structure Apart (S : List Nat) (w w' : World) : Prop where
  os : w'.os = w.os
  tape : w'.tape = w.tape
  output : w'.output = w.output
  size : w.heap.size ≤ w'.heap.size
  block : ∀ k, k < w.heap.size → k ∉ S → w'.heap[k]? = w.heap[k]?
theorem Apart.refl (S : List Nat) (w : World) : Apart S w w := ⟨rfl, rfl, rfl, Nat.le_refl _, fun _ _ _ => rfl⟩
theorem Apart.trans {S S' : List Nat} {a b c : World} (h : Apart S a b) (k : Apart S' b c) (hs : ∀ x ∈ S', x ∈ S ∨ a.heap.size ≤ x) : Apart S a c :=
  ⟨k.os.trans h.os, k.tape.trans h.tape, k.output.trans h.output, Nat.le_trans h.size k.size, fun i hi hn => (k.block i (Nat.lt_of_lt_of_le hi h.size) (fun g => by
    rcases hs i g with g | g
    · exact hn g
    · omega)).trans (h.block i hi hn)⟩
theorem Apart.more {S S' : List Nat} {w w' : World} (h : Apart S w w') (hs : ∀ x ∈ S, x ∈ S') : Apart S' w w' := ⟨h.os, h.tape, h.output, h.size, fun i hi hn => h.block i hi (fun g => hn (hs i g))⟩
theorem Apart.of_below {S : List Nat} {w w' : World} (h : Below w.heap.size w w') : Apart S w w' := ⟨h.os, h.tape, h.output, h.size, fun i hi _ => h.block i hi⟩
theorem Apart.to_below {S : List Nat} {B : Nat} {w w' : World} (h : Apart S w w') (hs : ∀ x ∈ S, B ≤ x) (hB : B ≤ w.heap.size) : Below B w w' :=
  ⟨h.os, h.tape, h.output, h.size, fun i hi => h.block i (Nat.lt_of_lt_of_le hi hB) (fun g => by have := hs i g; omega)⟩
theorem Apart.cell {S : List Nat} {w w' : World} (h : Apart S w w') {p : Addr} (hp : p.block < w.heap.size) (hn : p.block ∉ S) : w'.cell? p = w.cell? p := World.cell?_of_block (w := w) (h.block p.block hp hn)
theorem Apart.frozen {S : List Nat} {w w' : World} (h : Apart S w w') {p : Addr} (hp : p.block < w.heap.size) (hn : p.block ∉ S) : w'.frozen? p = w.frozen? p := World.frozen?_of_block (w := w) (h.block p.block hp hn)
theorem Apart.alloc {S : List Nat} {a w : World} (h : Apart S a w) (o : Obj) : Apart S a (w.alloc o) :=
  h.trans (S' := []) (.of_below ((Below.refl _ _).alloc (Nat.le_refl _) o)) (by simp)
theorem Apart.drewN {S : List Nat} {a w : World} (h : Apart S a w) (n : Nat) : Apart S a (w.drewN n) := ⟨h.os, h.tape, h.output, h.size, h.block⟩
theorem Apart.setCell {S : List Nat} {a w : World} (h : Apart S a w) {p : Addr} (hp : p.block ∈ S ∨ a.heap.size ≤ p.block) (u : Value) : Apart S a (w.setCell p u) :=
  ⟨h.os, h.tape, h.output, by simpa [World.setCell] using h.size, fun i hi hn => (Below.heap_setCell w p u i (fun e => by
    rcases hp with g | g
    · exact hn (e ▸ g)
    · omega)).trans (h.block i hi hn)⟩
end Go.Proofs.YtfgecjlccngddaaGreat
namespace Go.Proofs.YtfgecjlccngddaaGreat
set_option linter.unusedSimpArgs false
set_option linter.unusedVariables false
open Go.RowKit

theorem conv_row (xs : List Int) (n : Nat) (hn : xs.length = n) (w : World) :
    (convert 183 9 (.slice (some ⟨w.heap.size, 0, none⟩) n n)).run Tryz.prog (w.alloc (.cells (xs.map (Value.int .u8)).toArray 5)) = .ok (.string (strOfNums xs)) (w.alloc (.cells (xs.map (Value.int .u8)).toArray 5)) := by
  refine run_convert_bytes_arg _ 183 5 Tryz.underlying183 Tryz.underlying5 _ 0 n n xs hn (fun i hi => ?_) 9 Tryz.underlying9
  rw [Nat.zero_add, World.cell?_alloc_new]
  simp [List.getD_eq_getElem?_getD, List.getElem?_eq_getElem (show i < xs.length by omega)]

/-- A row of bytes of the call's own turned into a text. -/
theorem own_string {w : World} {base n : Nat} {v : Value} {l : List UInt8} (h : w.ownsRow base 5 1 v n (l.map fun b => Value.int .u8 (b.toNat : Nat))) :
    (convert 183 9 v).run Tryz.prog w = .ok (.string ⟨l.toArray⟩) w := by
  obtain ⟨hlen, h⟩ := h
  rw [List.length_map, Nat.mul_one] at hlen
  rcases h with ⟨rfl, rfl⟩ | ⟨g, cap, cur, rfl, _, hg, _, _, _, htake⟩
  · obtain rfl : l = [] := List.eq_nil_of_length_eq_zero hlen
    exact run_convert_bytes_nil w 183 5 Tryz.underlying183 Tryz.underlying5 0 0 9 Tryz.underlying9
  · subst hlen
    refine run_convert_bytes_back w 183 9 5 ⟨g, 0, none⟩ cap l Tryz.underlying183 Tryz.underlying5 Tryz.underlying9 fun j hj => ?_
    have hplain : (⟨g, 0, none⟩ : Addr).add j = ⟨g, 0 + j, none⟩ := by unfold Addr.add; split <;> simp_all
    rw [hplain, Nat.zero_add]
    have h2 : cur[j]? = some (.int .u8 ((l[j].toNat : Nat) : Int)) := by
      have h3 := congrArg (fun x => x[j]?) htake
      simp only [Nat.mul_one] at h3
      rw [List.getElem?_take_of_lt hj, List.getElem?_map, List.getElem?_eq_getElem hj] at h3
      simpa using h3
    show w.cell? ⟨g, j, none⟩ = _
    simp [World.cell?, hg, h2]
/-- Its block is one of the call's own. -/
theorem own_block {w : World} {base e size n : Nat} {v : Value} {xs : List Value} (h : w.ownsRow base e size v n xs) : ∀ k, v.ownBlock = some k → base ≤ k := by
  intro k hk
  rcases h.2 with ⟨rfl, _⟩ | ⟨g, cap, cur, rfl, hb, _⟩
  · simp [Value.ownBlock] at hk
  · simp [Value.ownBlock] at hk; omega
end Go.Proofs.YtfgecjlccngddaaGreat
namespace Go.Proofs.YtfgecjlccngddaaGreat
set_option linter.unusedSimpArgs false
set_option linter.unusedVariables false
open Go.RowKit

theorem allDig_take (l : List UInt8) (k : Nat) (h : k < l.length) : allDig (l.take (k + 1)) = (allDig (l.take k) && (decide (48 ≤ bt l k) && decide (bt l k ≤ 57))) := by
  rw [take_succ l k h, allDig_snoc]; rfl
theorem decN_take (l : List UInt8) (k : Nat) (h : k < l.length) : decN (l.take (k + 1)) = 10 * decN (l.take k) + (bt l k - 48) := by
  rw [take_succ l k h, decN_snoc]; rfl
theorem allDig_off (l : List UInt8) (k : Nat) (h : k < l.length) (g : ¬ (48 ≤ bt l k ∧ bt l k ≤ 57)) : allDig l = false := by
  have h1 := allDig_take l k h
  have h2 : (decide (48 ≤ bt l k) && decide (bt l k ≤ 57)) = false := by simp; omega
  rw [h2, Bool.and_false] at h1
  have h3 : l = l.take (k + 1) ++ l.drop (k + 1) := (List.take_append_drop _ _).symm
  rw [h3, allDig_app, h1, Bool.false_and]

theorem app_mk (x : Int) (t : ByteArray) : (strOfNums [x] ++ t).data.toList = UInt8.ofNat x.toNat :: t.data.toList := by
  rw [app_list]; rfl
theorem str_nil (l : List UInt8) : (⟨l.toArray⟩ : ByteArray).data.toList = l := by simp

theorem u64_wrap (n : Int) : IntKind.u64.wrap n = ((u64 n : Nat) : Int) := by
  rw [IntKind.wrap_u64]; unfold u64; omega
theorem u64_lt (n : Int) : u64 n < 18446744073709551616 := by unfold u64; omega
theorem uint8_info : (Tryz.prog.info? 5).map (fun i => (i.zero, i.size, i.bytes)) = some (some (.int .u8 0), 1, 1) := by kernel_rfl

end Go.Proofs.YtfgecjlccngddaaGreat
