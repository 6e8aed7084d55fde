/-
  Joined: TitleDevMath, TitleRead, TitleLib, NumDev, TitleDev.
-/
import Derived.Test.YtfgecjlccngddaaGreatJTitleRef
import Derived.Lib.Bytealg
import Derived.Deep.DeepCutAuto
import Derived.Deep.RegionLaw
import Derived.OwnWalk
import Derived.Test.YtfgecjlccngddaaGreatJBase
import Derived.Test.YtfgecjlccngddaaGreatJRow
import Derived.Lib.QuoteBits
import Derived.IntWalk
import Derived.StillTailTactics
namespace Go.Proofs.YtfgecjlccngddaaGreat
set_option linter.unusedSimpArgs false
set_option linter.unusedVariables false
open Go.RowKit

/-- What stands ahead of the first '-' and behind it. -/
def cutTi : List UInt8 → List UInt8 × List UInt8 × Bool
  | [] => ([], [], false)
  | c :: l => if (c == 45) = true then ([], l, true) else (c :: (cutTi l).1, (cutTi l).2.1, (cutTi l).2.2)
theorem cutTi_miss (l : List UInt8) (h : Lib.indexByte l 45 < 0) : cutTi l = (l, [], false) := by
  induction l with
  | nil => rfl
  | cons c l ih =>
    have hge := Lib.indexByte_ge l 45
    unfold Lib.indexByte at h
    unfold cutTi
    by_cases hc : (c == 45) = true
    · rw [if_pos hc] at h; omega
    · rw [if_neg hc] at h ⊢
      by_cases h1 : (Lib.indexByte l 45 == -1) = true
      · have h2 := beq_iff_eq.1 h1
        rw [ih (by omega)]
      · rw [if_neg h1] at h; omega
theorem cutTi_hit (l : List UInt8) (i : Nat) (h : Lib.indexByte l 45 = i) : cutTi l = (l.take i, l.drop (i + 1), true) ∧ i < l.length := by
  induction l generalizing i with
  | nil => unfold Lib.indexByte at h; omega
  | cons c l ih =>
    have hge := Lib.indexByte_ge l 45
    unfold Lib.indexByte at h
    unfold cutTi
    by_cases hc : (c == 45) = true
    · rw [if_pos hc] at h ⊢
      obtain rfl : i = 0 := by omega
      exact ⟨rfl, by simp⟩
    · rw [if_neg hc] at h ⊢
      by_cases h1 : (Lib.indexByte l 45 == -1) = true
      · rw [if_pos h1] at h; omega
      · rw [if_neg h1] at h
        have h2 : Lib.indexByte l 45 ≠ -1 := fun e => h1 (beq_iff_eq.2 e)
        obtain ⟨j, rfl⟩ : ∃ j, i = j + 1 := ⟨i - 1, by omega⟩
        obtain ⟨e, hl⟩ := ih j (by omega)
        rw [e]
        exact ⟨rfl, by simp; omega⟩
theorem cutTi_le (l : List UInt8) : (cutTi l).1.length ≤ l.length ∧ (cutTi l).2.1.length ≤ l.length := by
  induction l with
  | nil => simp [cutTi]
  | cons c l ih =>
    unfold cutTi
    split
    · simp
    · simp; omega
theorem cutTi_at (a b : List UInt8) (h : allDig a = true) : cutTi (a ++ [45] ++ b) = (a, b, true) := by
  induction a with
  | nil => rfl
  | cons c l ih =>
    unfold allDig at h ih
    rw [List.all_cons, Bool.and_eq_true] at h
    have hc : (c == 45) = false := by
      rw [beq_eq_false_iff_ne]
      rintro rfl
      have h1 := h.1
      simp at h1
    show cutTi (c :: (l ++ [45] ++ b)) = _
    unfold cutTi
    rw [ih h.2, hc]
    rfl

/-- What each kind's names begin with. -/
def headL : Nat → List UInt8
  | 1 => [99, 104, 101, 99, 107, 45]
  | 2 => [108, 111, 103, 45]
  | 3 => [116, 109, 112, 45]
  | 4 => [120, 45]
  | _ => []
/-- Of which kind a name may be, and what stands behind its head. -/
def begK (l : List UInt8) : Nat :=
  if Lib.hasPrefix l (headL 1) = true then 1 else if Lib.hasPrefix l (headL 2) = true then 2 else if Lib.hasPrefix l (headL 3) = true then 3 else if Lib.hasPrefix l (headL 4) = true then 4 else 0
def begR (l : List UInt8) : List UInt8 := l.drop (headL (begK l)).length
theorem pre_iff (l p : List UInt8) (h : Lib.hasPrefix l p = true) : l = p ++ l.drop p.length := by
  unfold Lib.hasPrefix at h
  obtain ⟨r, rfl⟩ := List.isPrefixOf_iff_prefix.1 h
  simp
theorem pre_app (p r : List UInt8) : Lib.hasPrefix (p ++ r) p = true := by
  unfold Lib.hasPrefix
  exact List.isPrefixOf_iff_prefix.2 ⟨r, rfl⟩
/-- The first kind by whose head it begins. -/
theorem begK_first (l : List UInt8) (k : Nat) (h1 : 1 ≤ k) (h4 : k ≤ 4) (hn : ∀ j, 1 ≤ j → j < k → Lib.hasPrefix l (headL j) = false) (h : Lib.hasPrefix l (headL k) = true) : begK l = k := by
  unfold begK
  rcases (show k = 1 ∨ k = 2 ∨ k = 3 ∨ k = 4 by omega) with rfl | rfl | rfl | rfl
  · rw [if_pos h]
  · rw [if_neg (by rw [hn 1 (by omega) (by omega)]; simp), if_pos h]
  · rw [if_neg (by rw [hn 1 (by omega) (by omega)]; simp), if_neg (by rw [hn 2 (by omega) (by omega)]; simp), if_pos h]
  · rw [if_neg (by rw [hn 1 (by omega) (by omega)]; simp), if_neg (by rw [hn 2 (by omega) (by omega)]; simp), if_neg (by rw [hn 3 (by omega) (by omega)]; simp), if_pos h]
theorem begK_none (l : List UInt8) (hn : ∀ j, 1 ≤ j → j < 5 → Lib.hasPrefix l (headL j) = false) : begK l = 0 := by
  unfold begK
  rw [if_neg (by rw [hn 1 (by omega) (by omega)]; simp), if_neg (by rw [hn 2 (by omega) (by omega)]; simp), if_neg (by rw [hn 3 (by omega) (by omega)]; simp), if_neg (by rw [hn 4 (by omega) (by omega)]; simp)]
theorem begR_0 (l : List UInt8) (h : begK l = 0) : begR l = l := by unfold begR; rw [h]; rfl
theorem beg_le (l : List UInt8) : begK l ≤ 4 := by
  unfold begK
  repeat' split
  all_goals omega
theorem beg_is (l : List UInt8) (k : Nat) (h : begK l = k) : l = headL k ++ begR l := by
  subst h
  unfold begR
  unfold begK
  split
  · rename_i h; exact pre_iff _ _ h
  · split
    · rename_i h; exact pre_iff _ _ h
    · split
      · rename_i h; exact pre_iff _ _ h
      · split
        · rename_i h; exact pre_iff _ _ h
        · rfl
theorem beg_of (k : Nat) (h1 : 1 ≤ k) (h4 : k ≤ 4) (r : List UInt8) : begK (headL k ++ r) = k := by
  refine begK_first _ k h1 h4 (fun j hj hk => ?_) (pre_app _ _)
  rcases (show (k = 2 ∧ j = 1) ∨ (k = 3 ∧ j = 1) ∨ (k = 3 ∧ j = 2) ∨ (k = 4 ∧ j = 1) ∨ (k = 4 ∧ j = 2) ∨ (k = 4 ∧ j = 3) by omega) with h | h | h | h | h | h <;> obtain ⟨rfl, rfl⟩ := h <;> rfl

theorem offC_is (e : Int) (l : List UInt8) (h : offC e = l) (hl : l ≠ []) : l = headL 1 ++ digitsI e 6 ∧ digitsI e 6 ≠ [] := by
  unfold offC at h
  split at h
  · exact absurd h.symm hl
  · rename_i hd; exact ⟨h.symm, hd⟩
theorem offL_is (e p : Int) (l : List UInt8) (h : offL e p = l) (hl : l ≠ []) : l = headL 2 ++ (digitsI e 6 ++ [45] ++ digitsI p 4) ∧ digitsI e 6 ≠ [] ∧ digitsI p 4 ≠ [] := by
  unfold offL at h
  split at h
  · exact absurd h.symm hl
  · rename_i hd
    rw [not_or] at hd
    refine ⟨?_, hd.1, hd.2⟩
    rw [← h]
    simp [headL]
theorem offX_is (n l : List UInt8) (h : offX n = l) (hl : l ≠ []) : l = headL 4 ++ n := by
  unfold offX at h
  split at h
  · exact h.symm
  · exact absurd h.symm hl
theorem readT_3 (l : List UInt8) (h : (readT l).k = 3) : condC l := by
  by_cases a : condA l
  · rw [readT_A l a] at h; simp at h
  by_cases b : condB l
  · rw [readT_B l a b] at h; simp at h
  by_cases c : condC l
  · exact c
  by_cases d : condD l
  · rw [readT_D l a b c d] at h; simp at h
  · rw [readT_E l a b c d] at h; simp at h
theorem readT_0 (l : List UInt8) (h1 : (readT l).k ≠ 1) (h2 : (readT l).k ≠ 2) (h3 : (readT l).k ≠ 3) (h4 : (readT l).k ≠ 4) : readT l = ⟨0, 0, 0, []⟩ := by
  obtain ⟨_, _, _, hz, hk⟩ := read_is l
  obtain ⟨he, hp, hn⟩ := hz h1 h2 h4
  have hk0 : (readT l).k = 0 := by omega
  generalize readT l = t at *
  cases t
  simp_all
theorem dropLen (a b : List UInt8) : (a ++ b).drop a.length = b := by simp
theorem readT_nil : readT [] = ⟨0, 0, 0, []⟩ := by
  refine readT_0 _ (fun h => ?_) (fun h => ?_) (fun h => ?_) (fun h => ?_)
  · have g := (read_is []).1 h
    unfold offC at g; split at g
    · rename_i hd
      have : condA [] := by
        by_cases a : condA []
        · exact a
        by_cases b : condB []
        · rw [readT_B _ a b] at h; simp at h
        by_cases c : condC []
        · rw [readT_C _ a b c] at h; simp at h
        by_cases d : condD []
        · rw [readT_D _ a b c d] at h; simp at h
        · rw [readT_E _ a b c d] at h; simp at h
      unfold condA at this; simp at this
    · simp at g
  · by_cases a : condA []
    · unfold condA at a; simp at a
    by_cases b : condB []
    · unfold condB at b; simp at b
    by_cases c : condC []
    · unfold condC at c; simp at c
    by_cases d : condD []
    · unfold condD at d; simp at d
    · rw [readT_E _ a b c d] at h; simp at h
  · have := (readT_3 _ h).1
    simp at this
  · by_cases a : condA []
    · unfold condA at a; simp at a
    by_cases b : condB []
    · unfold condB at b; simp at b
    by_cases c : condC []
    · unfold condC at c; simp at c
    by_cases d : condD []
    · unfold condD at d; simp at d
    · rw [readT_E _ a b c d] at h; simp at h
/-- A name of which more is read than nothing begins as its kind's do. -/
theorem read_beg (l : List UInt8) (k : Nat) (hl : l ≠ []) (h : (readT l).k = k) (h1 : 1 ≤ k) : begK l = k := by
  obtain ⟨r1, r2, r4, _, hk4⟩ := read_is l
  rcases (show k = 1 ∨ k = 2 ∨ k = 3 ∨ k = 4 by omega) with rfl | rfl | rfl | rfl
  · rw [(offC_is _ _ (r1 h) hl).1]; exact beg_of 1 (by omega) (by omega) _
  · rw [(offL_is _ _ _ (r2 h) hl).1]; exact beg_of 2 (by omega) (by omega) _
  · have h3 := (readT_3 _ h).1
    have e : l = headL 3 ++ l.drop 4 := by
      show l = [116, 109, 112, 45] ++ _
      rw [← h3]; exact (List.take_append_drop _ _).symm
    rw [e]; exact beg_of 3 (by omega) (by omega) _
  · rw [offX_is _ _ (r4 h) hl]; exact beg_of 4 (by omega) (by omega) _
theorem read_none (l : List UInt8) (h : begK l = 0) : readT l = ⟨0, 0, 0, []⟩ := by
  by_cases hl : l = []
  · rw [hl]; exact readT_nil
  · refine readT_0 _ (fun g => ?_) (fun g => ?_) (fun g => ?_) (fun g => ?_)
    all_goals
      have := read_beg l _ hl g (by omega)
      omega
theorem ne_of_beg (l : List UInt8) (k : Nat) (h1 : 1 ≤ k) (h : begK l = k) : l ≠ [] := by
  rintro rfl
  have : begK [] = 0 := rfl
  omega
/-- A checkpoint's name. -/
theorem read_1 (l : List UInt8) (h : begK l = 1) :
    (offC ((parseI (begR l)).1 : Nat) = l → readT l = ⟨1, (parseI (begR l)).1, 0, []⟩) ∧ (offC ((parseI (begR l)).1 : Nat) ≠ l → readT l = ⟨0, 0, 0, []⟩) := by
  have hl := ne_of_beg l 1 (by omega) h
  constructor
  · intro e
    have := (read_check ((parseI (begR l)).1 : Nat) (by rw [e]; exact hl)).2.1
    rw [e] at this
    simpa using this
  · intro hne
    refine readT_0 _ (fun g => ?_) (fun g => ?_) (fun g => ?_) (fun g => ?_)
    · have e := (read_is l).1 g
      obtain ⟨e1, e2⟩ := offC_is _ _ e hl
      refine hne ?_
      have er : begR l = digitsI ((readT l).e : Nat) 6 := by unfold begR; rw [h]; exact (congrArg (fun x => x.drop (headL 1).length) e1).trans (dropLen _ _)
      rw [er, (parse_digits _ _ e2).1]
      simpa using e
    all_goals
      have := read_beg l _ hl g (by omega)
      omega
/-- A log's name. -/
theorem read_2 (l : List UInt8) (h : begK l = 2) :
    (offL ((parseI (cutTi (begR l)).1).1 : Nat) ((parseI (cutTi (begR l)).2.1).1 : Nat) = l → readT l = ⟨2, (parseI (cutTi (begR l)).1).1, (parseI (cutTi (begR l)).2.1).1, []⟩) ∧
    (offL ((parseI (cutTi (begR l)).1).1 : Nat) ((parseI (cutTi (begR l)).2.1).1 : Nat) ≠ l → readT l = ⟨0, 0, 0, []⟩) := by
  have hl := ne_of_beg l 2 (by omega) h
  constructor
  · intro e
    have := (read_log ((parseI (cutTi (begR l)).1).1 : Nat) ((parseI (cutTi (begR l)).2.1).1 : Nat) (by rw [e]; exact hl)).2.1
    rw [e] at this
    simpa using this
  · intro hne
    refine readT_0 _ (fun g => ?_) (fun g => ?_) (fun g => ?_) (fun g => ?_)
    · have := read_beg l _ hl g (by omega); omega
    · have e := (read_is l).2.1 g
      obtain ⟨e1, e2, e3⟩ := offL_is _ _ _ e hl
      refine hne ?_
      have er : begR l = digitsI ((readT l).e : Nat) 6 ++ [45] ++ digitsI ((readT l).p : Nat) 4 := by unfold begR; rw [h]; exact (congrArg (fun x => x.drop (headL 2).length) e1).trans (dropLen _ _)
      rw [er, cutTi_at _ _ (allDig_digits _ _)]
      simp only
      rw [(parse_digits _ _ e2).1, (parse_digits _ _ e3).1]
      simpa using e
    all_goals
      have := read_beg l _ hl g (by omega)
      omega
/-- A file of the while. -/
theorem read_3 (l : List UInt8) (h : begK l = 3) : (mayB l = true → readT l = ⟨3, 0, 0, []⟩) ∧ (mayB l = false → readT l = ⟨0, 0, 0, []⟩) := by
  have hl := ne_of_beg l 3 (by omega) h
  have e := beg_is l 3 h
  constructor
  · intro hm
    have hc : condC l := ⟨by rw [e]; rfl, hm⟩
    by_cases a : condA l
    · have := read_beg l 1 hl (by rw [readT_A l a]) (by omega); omega
    by_cases b : condB l
    · have := read_beg l 2 hl (by rw [readT_B l a b]) (by omega); omega
    exact readT_C l a b hc
  · intro hm
    refine readT_0 _ (fun g => ?_) (fun g => ?_) (fun g => ?_) (fun g => ?_)
    · have := read_beg l _ hl g (by omega); omega
    · have := read_beg l _ hl g (by omega); omega
    · have := (readT_3 _ g).2; rw [hm] at this; cases this
    · have := read_beg l _ hl g (by omega); omega
/-- A saved file's name. -/
theorem read_4 (l : List UInt8) (h : begK l = 4) : (offX (begR l) = l → readT l = ⟨4, 0, 0, begR l⟩) ∧ (offX (begR l) ≠ l → readT l = ⟨0, 0, 0, []⟩) := by
  have hl := ne_of_beg l 4 (by omega) h
  constructor
  · intro e
    have := (read_export (begR l) (by rw [e]; exact hl)).2
    rw [e] at this
    exact this
  · intro hne
    refine readT_0 _ (fun g => ?_) (fun g => ?_) (fun g => ?_) (fun g => ?_)
    · have := read_beg l _ hl g (by omega); omega
    · have := read_beg l _ hl g (by omega); omega
    · have := read_beg l _ hl g (by omega); omega
    · have e := (read_is l).2.2.1 g
      refine hne ?_
      have e1 := offX_is _ _ e hl
      have er : begR l = (readT l).n := by unfold begR; rw [h]; exact (congrArg (fun x => x.drop (headL 4).length) e1).trans (dropLen _ _)
      rw [er]; exact e
end Go.Proofs.YtfgecjlccngddaaGreat
namespace Go.Proofs.YtfgecjlccngddaaGreat
set_option linter.unusedSimpArgs false
set_option linter.unusedVariables false
open Go.RowKit

/-- What a name is, as a value. -/
abbrev ttlV (k e p : Int) (n : ByteArray) : Value := .agg #[.int .i64 k, .int .i64 e, .int .i64 p, .string n]
abbrev ttl0 : Array Value := #[.int .i64 0, .int .i64 0, .int .i64 0, .string ByteArray.empty]
theorem bcell8 {W w1 : World} (hb : Below W.heap.size W w1) : (∀ b o, b < W.heap.size → w1.cell? ⟨b, o, none⟩ = W.cell? ⟨b, o, none⟩) ∧ (∀ b o, b < W.heap.size → w1.frozen? ⟨b, o, none⟩ = W.frozen? ⟨b, o, none⟩) :=
  ⟨fun b o h => hb.cell (p := ⟨b, o, none⟩) h, fun b o h => hb.frozen (p := ⟨b, o, none⟩) h⟩
theorem parseI_le (l : List UInt8) : (parseI l).1 ≤ 999999999 := by
  unfold parseI
  split
  · exact Nat.zero_le _
  · split
    · rename_i h1 h2
      have := decN_lt l h2
      have hp : 10 ^ l.length ≤ 10 ^ 9 := Nat.pow_le_pow_right (by omega) (by omega)
      show decN l ≤ _
      omega
    · exact Nat.zero_le _
def RetTtl (w : World) (t : Ttl) (e : Ending) (w' : World) : Prop := e = .returned (ttlV t.k t.e t.p (mkS t.n)) ∧ Below w.heap.size w w'

/-- Behind a call: a result's four cells written. -/
theorem below_set4 {w w2 : World} {o : Obj} (hb : Below (w.alloc o).heap.size (w.alloc o) w2) (u0 u1 u2 u3 : Value) :
    Below w.heap.size w ((((w2.setCell ⟨w.heap.size, 0, none⟩ u0).setCell ⟨w.heap.size, 1, none⟩ u1).setCell ⟨w.heap.size, 2, none⟩ u2).setCell ⟨w.heap.size, 3, none⟩ u3) :=
  ((((((Below.refl _ _).alloc (Nat.le_refl _) _).trans (hb.mono (by simp))).setCell (p := ⟨w.heap.size, 0, none⟩) (Nat.le_refl _) _).setCell (p := ⟨w.heap.size, 1, none⟩) (Nat.le_refl _) _).setCell (p := ⟨w.heap.size, 2, none⟩) (Nat.le_refl _) _).setCell (p := ⟨w.heap.size, 3, none⟩) (Nat.le_refl _) _
theorem retTtl_mk {w w' : World} {t : Ttl} {k e p : Nat} {l : List UInt8} (h : t = ⟨k, e, p, l⟩) (hb : Below w.heap.size w w') : RetTtl w t (.returned (ttlV k e p (mkS l))) w' := by subst h; exact ⟨rfl, hb⟩

end Go.Proofs.YtfgecjlccngddaaGreat
namespace Go.Proofs.YtfgecjlccngddaaGreat
set_option linter.unusedSimpArgs false
set_option linter.unusedVariables false
open Go.RowKit

set_option maxRecDepth 100000 in
set_option maxHeartbeats 400000 in
theorem sl_indexbyte (s : ByteArray) (c : Int) (w : World) :
    Calls Tryz.prog 177 #[.string s, .int .u8 c] w fun e w' => e = .returned (.int .i64 (Lib.indexByte s.data.toList c.toNat.toUInt8)) ∧ w = w' := by
  go_enter Tryz.func177, Tryz.ntmps177
  go_wp2
  rw [run_callFunc_extern Tryz.func192 (by kernel_rfl) (by kernel_rfl) (by kernel_rfl) (e := Extern.BytealgIndexByte.indexByte) (by kernel_rfl), Lib.run_indexByteString]
  simp only [Result.andThen]
  rw [Oper.upon_value]
  go_wp2
  go_ret
  exact ⟨rfl, rfl⟩
set_option maxRecDepth 100000 in
set_option maxHeartbeats 400000 in
theorem s_indexbyte (s : ByteArray) (c : Int) (w : World) :
    Calls Tryz.prog 158 #[.string s, .int .u8 c] w fun e w' => e = .returned (.int .i64 (Lib.indexByte s.data.toList c.toNat.toUInt8)) ∧ w = w' := by
  go_enter Tryz.func158, Tryz.ntmps158
  go_wp2_with (go_at_call 177; refine (sl_indexbyte _ _ _).mono ?_; rintro e w' ⟨rfl, rfl⟩)
  go_ret
  exact ⟨rfl, rfl⟩

/-- CutPrefix's answer. -/
def cpB (s p : ByteArray) : Bool := Lib.hasPrefix s.data.toList p.data.toList
def cpS (s p : ByteArray) : ByteArray := if cpB s p = true then s.extract p.size s.size else s
end Go.Proofs.YtfgecjlccngddaaGreat
namespace Go.Proofs.YtfgecjlccngddaaGreat
set_option linter.unusedSimpArgs false
set_option linter.unusedVariables false
open Go.RowKit

theorem leN_snoc (l : List UInt8) : ∀ m k, leN l k (m + 1) = leN l k m + 256 ^ m * bt l (k + m) := by
  intro m
  induction m with
  | zero => intro k; simp [leN]
  | succ m ih =>
    intro k
    have h1 : leN l k (m + 1 + 1) = bt l k + 256 * leN l (k + 1) (m + 1) := rfl
    have h2 : leN l k (m + 1) = bt l k + 256 * leN l (k + 1) m := rfl
    rw [h1, h2, ih (k + 1), Nat.pow_succ, show k + 1 + m = k + (m + 1) by omega, Nat.mul_add, ← Nat.mul_assoc, Nat.mul_comm 256 (256 ^ m), Nat.add_assoc]

/-- 'or' of two ints that share no bit, the one below 2^s, the other a multiple of it. -/
theorem i64_or_join (x b s : Nat) (hx : x < 2 ^ s) (hb : b * 2 ^ s + x < 9223372036854775808) : bits .or .i64 (x : Int) ((b * 2 ^ s : Nat) : Int) = ((x + b * 2 ^ s : Nat) : Int) := by
  show IntKind.i64.wrap ((BitVec.ofInt 64 (x : Int) ||| BitVec.ofInt 64 ((b * 2 ^ s : Nat) : Int)).toNat : Int) = _
  rw [BitVec.toNat_or, ofInt_u64 x (by omega), ofInt_u64 (b * 2 ^ s) (by omega)]
  have e : x ||| b * 2 ^ s = x + b * 2 ^ s := by
    rw [Nat.or_comm, Nat.mul_comm, ← Nat.two_pow_add_eq_or_of_lt hx b, Nat.add_comm]
  rw [e]
  exact Lib.wrap_i64_small _ (by omega)
theorem or_shl (x b j : Nat) (hj : j < 4) (hx : x < 256 ^ j) (hb : b < 256) : bits .or .i64 (x : Int) (wrap64 ((b : Int) * 2 ^ (8 * j))) = ((x + 256 ^ j * b : Nat) : Int) := by
  have e : (256 : Nat) ^ j = 2 ^ (8 * j) := by rw [Nat.pow_mul]
  have hp : 2 ^ (8 * j) ≤ 2 ^ 24 := Nat.pow_le_pow_right (by omega) (by omega)
  have hm : b * 2 ^ (8 * j) ≤ 255 * 2 ^ 24 := Nat.mul_le_mul (by omega) hp
  have w : wrap64 ((b : Int) * 2 ^ (8 * j)) = ((b * 2 ^ (8 * j) : Nat) : Int) := by
    have e2 : (b : Int) * 2 ^ (8 * j) = ((b * 2 ^ (8 * j) : Nat) : Int) := by simp
    rw [e2]
    have h63 : b * 2 ^ (8 * j) < 9223372036854775808 := by omega
    unfold wrap64; omega
  rw [e] at hx ⊢
  rw [w, i64_or_join x b (8 * j) hx (by omega), Nat.mul_comm]

theorem nums2 (s : ByteArray) (k : Nat) (h : k + 2 ≤ s.size) : leN [s[k], s[k + 1]] 0 2 = leN s.data.toList k 2 := by
  show (s[k]).toNat + 256 * ((s[k + 1]).toNat + 256 * 0) = bt _ k + 256 * (bt _ (k + 1) + 256 * 0)
  rw [bt_get s k (by omega), bt_get s (k + 1) (by omega)]
theorem nums4 (s : ByteArray) (k : Nat) (h : k + 4 ≤ s.size) : leN [s[k], s[k + 1], s[k + 2], s[k + 3]] 0 4 = leN s.data.toList k 4 := by
  show (s[k]).toNat + 256 * ((s[k + 1]).toNat + 256 * ((s[k + 2]).toNat + 256 * ((s[k + 3]).toNat + 256 * 0))) = bt _ k + 256 * (bt _ (k + 1) + 256 * (bt _ (k + 1 + 1) + 256 * (bt _ (k + 1 + 1 + 1) + 256 * 0)))
  rw [bt_get s k (by omega), bt_get s (k + 1) (by omega), bt_get s (k + 1 + 1) (by omega), bt_get s (k + 1 + 1 + 1) (by omega)]

theorem strOf_two (n : Int) : strOfNums [n % 256, n / 256 % 256] = ⟨(leL (u64 n) 2).toArray⟩ := by
  have h1 : (n % 256).toNat = u64 n % 256 := by unfold u64; omega
  have h2 : (n / 256 % 256).toNat = u64 n / 256 % 256 := by unfold u64; omega
  refine str_ext ?_
  simp [strOfNums, leL, h1, h2]
theorem strOf_four (n : Int) : strOfNums [n % 256, n / 256 % 256, n / 65536 % 256, n / 16777216 % 256] = ⟨(leL (u64 n) 4).toArray⟩ := by
  have h1 : (n % 256).toNat = u64 n % 256 := by unfold u64; omega
  have h2 : (n / 256 % 256).toNat = u64 n / 256 % 256 := by unfold u64; omega
  have h3 : (n / 65536 % 256).toNat = u64 n / 65536 % 256 := by unfold u64; omega
  have h4 : (n / 16777216 % 256).toNat = u64 n / 16777216 % 256 := by unfold u64; omega
  refine str_ext ?_
  simp [strOfNums, leL, h1, h2, h3, h4]

theorem set_digit (n v j : Nat) (hj : j < v) (d : UInt8) (hd : dg n (j + 1) = d :: dg n j) :
    (List.replicate (v - j) (0 : UInt8) ++ dg n j).set (v - 1 - j) d = List.replicate (v - (j + 1)) 0 ++ dg n (j + 1) := by
  rw [hd, show v - j = (v - (j + 1)) + 1 by omega, show v - 1 - j = v - (j + 1) by omega, List.replicate_succ', List.append_assoc, List.set_append_right _ _ (by simp)]
  simp

end Go.Proofs.YtfgecjlccngddaaGreat
namespace Go.Proofs.YtfgecjlccngddaaGreat
set_option linter.unusedSimpArgs false
set_option linter.unusedVariables false
open Go.RowKit

def headS (k : Nat) : ByteArray := mkS (headL k)
/-- What a name may hold, beside letters and digits. -/
def moreB (more : ByteArray) (b : Nat) : Bool := smB b || decide (0 ≤ Lib.indexByte more.data.toList ((b : Int).toNat.toUInt8))
def allMore (more : ByteArray) (l : List UInt8) : Bool := l.all fun c => moreB more c.toNat
theorem allMore_app (more : ByteArray) (a b : List UInt8) : allMore more (a ++ b) = (allMore more a && allMore more b) := by simp [allMore]
theorem allMore_take (more : ByteArray) (l : List UInt8) (k : Nat) (h : k < l.length) : allMore more (l.take (k + 1)) = (allMore more (l.take k) && moreB more (bt l k)) := by
  rw [List.take_succ_eq_append_getElem h, allMore_app]
  congr 1
  unfold bt allMore
  rw [List.getD_eq_getElem?_getD, List.getElem?_eq_getElem h]
  simp
theorem allMore_off (more : ByteArray) (l : List UInt8) (k : Nat) (h : k < l.length) (g : moreB more (bt l k) = false) : allMore more l = false := by
  have h1 := allMore_take more l k h
  rw [g, Bool.and_false] at h1
  have h3 : l = l.take (k + 1) ++ l.drop (k + 1) := (List.take_append_drop _ _).symm
  rw [h3, allMore_app, h1, Bool.false_and]
def hasB (l : List UInt8) (m : Nat) (more : ByteArray) : Bool := allMore more l && decide (1 ≤ l.length) && decide (l.length ≤ m)

set_option maxRecDepth 100000 in
set_option maxHeartbeats 800000 in
theorem thas_any (s more : ByteArray) (hs : s.size ≤ maxLen) (m : Nat) (w : World) :
    Calls Tryz.prog 130 #[.string s, .int .i64 (m : Nat), .string more] w fun e w' => e = .returned (.bool (hasB s.data.toList m more)) ∧ w = w' := by
  have hlen : s.data.toList.length = s.size := by simp
  unfold maxLen at hs
  have hB : hasB s.data.toList m more = (allMore more s.data.toList && decide (1 ≤ s.size) && decide (s.size ≤ m)) := by unfold hasB; rw [hlen]
  by_cases h1 : s.size < 1
  · have e : hasB s.data.toList m more = false := by rw [hB, decide_eq_false (by omega)]; simp
    rw [e]
    clear e hB hlen
    go_enter Tryz.func130, Tryz.ntmps130
    go_wp2
    go_ret
    exact ⟨rfl, rfl⟩
  by_cases h2 : m < s.size
  · have e : hasB s.data.toList m more = false := by rw [hB, decide_eq_false (p := s.size ≤ m) (by omega)]; simp
    rw [e]
    clear e hB hlen
    go_enter Tryz.func130, Tryz.ntmps130
    go_wp2
    go_ret
    exact ⟨rfl, rfl⟩
  have e : hasB s.data.toList m more = allMore more s.data.toList := by rw [hB, decide_eq_true (by omega), decide_eq_true (p := s.size ≤ m) (by omega)]; simp
  rw [e]
  have HN := Lib.hid hlen
  clear e hB hlen
  have f1 : decide ((s.size : Int) < 1) = false := by simp; omega
  have f2 : decide (m < s.size) = false := decide_eq_false h2
  clear h1 h2
  go_enter Tryz.func130, Tryz.ntmps130
  go_wp2
  go_loop [21] (fun i => ∃ j : Nat, j ≤ s.size ∧ i = .int .i64 j ∧ allMore more (s.data.toList.take j) = true) (fun i => s.size - (intOf i).toNat)
  case atStart => exact ⟨0, Nat.zero_le _, rfl, rfl⟩
  case round =>
    obtain ⟨j, hj, rfl, had⟩ := hrel
    by_cases hlt : j < s.size
    · have hjl : j < s.data.toList.length := by rw [HN.out]; exact hlt
      have hb := bt_get s j hlt
      have hb255 := s[j].toNat_lt
      have ha := allMore_take more s.data.toList j hjl
      have hoff := allMore_off more s.data.toList j hjl
      have hix := s_indexbyte more (s[j].toNat : Nat)
      rw [had, hb, Bool.true_and] at ha
      rw [hb] at hoff
      have hmo : moreB more s[j].toNat = (smB s[j].toNat || decide (0 ≤ Lib.indexByte more.data.toList (((s[j].toNat : Nat) : Int).toNat.toUInt8))) := rfl
      obtain ⟨x, hx⟩ : ∃ x, Lib.indexByte more.data.toList (((s[j].toNat : Nat) : Int).toNat.toUInt8) = x := ⟨_, rfl⟩
      rw [hx] at hmo hix
      rw [hmo] at ha hoff
      have HX := Lib.hid hix
      clear hmo hix hx had hb
      rcases (show s[j].toNat < 48 ∨ (48 ≤ s[j].toNat ∧ s[j].toNat ≤ 57) ∨ (57 < s[j].toNat ∧ s[j].toNat < 97) ∨ (97 ≤ s[j].toNat ∧ s[j].toNat ≤ 122) ∨ 122 < s[j].toNat by omega) with h | ⟨h, g⟩ | ⟨h, g⟩ | ⟨h, g⟩ | h
      case inr.inl =>
        rw [smB_2 _ h g, Bool.true_or] at ha
        have HA := Lib.hid ha
        clear ha hoff
        go_wp2_with (go_at_call 158; refine (HX.out _).mono ?_; rintro e w' ⟨rfl, rfl⟩)
        go_round
        case rel => exact ⟨j + 1, by omega, by go_num, HA.out⟩
        case measure => simp [intOf]; omega
      case inr.inr.inr.inl =>
        rw [smB_1 _ h g, Bool.true_or] at ha
        have HA := Lib.hid ha
        clear ha hoff
        go_wp2_with (go_at_call 158; refine (HX.out _).mono ?_; rintro e w' ⟨rfl, rfl⟩)
        go_round
        case rel => exact ⟨j + 1, by omega, by go_num, HA.out⟩
        case measure => simp [intOf]; omega
      all_goals
        rw [smB_0 _ (by omega) (by omega), Bool.false_or] at ha hoff
        try have d1 : decide (((s[j]'hlt).toNat : Int) ≤ 57) = false := decide_eq_false (by omega)
        try have d2 : decide (((s[j]'hlt).toNat : Int) ≤ 122) = false := decide_eq_false (by omega)
        by_cases hx0 : x < 0
        · have ho := hoff (decide_eq_false (by omega))
          have HO := Lib.hid ho
          clear ha hoff ho
          go_wp2_with (go_at_call 158; refine (HX.out _).mono ?_; rintro e w' ⟨rfl, rfl⟩)
          go_ret
          exact ⟨ret_bool HO.out.symm, rfl⟩
        · rw [decide_eq_true (by omega)] at ha
          have hx1 : 0 ≤ x := by omega
          have HA := Lib.hid ha
          clear ha hoff hx0
          go_wp2_with (go_at_call 158; refine (HX.out _).mono ?_; rintro e w' ⟨rfl, rfl⟩)
          go_round
          case rel => exact ⟨j + 1, by omega, by go_num, HA.out⟩
          case measure => simp [intOf]; omega
    · rw [List.take_of_length_le (by rw [HN.out]; omega)] at had
      have HA := Lib.hid had
      clear had
      go_wp2
      go_ret
      exact ⟨ret_bool HA.out.symm, rfl⟩

theorem more_may (l : List UInt8) : allMore ⟨#[45, 46]⟩ l = allMy l := by
  unfold allMore allMy
  congr 1
  funext c
  unfold moreB myB
  rw [Bool.or_assoc]
  congr 1
  have hc : ((c.toNat : Nat) : Int).toNat.toUInt8 = c := by simp
  rw [hc]
  show decide (0 ≤ (if ((45 : UInt8) == c) = true then (0 : Int) else if (if ((46 : UInt8) == c) = true then (0 : Int) else if (-1 : Int) == -1 then -1 else -1 + 1) == -1 then -1 else (if ((46 : UInt8) == c) = true then (0 : Int) else if (-1 : Int) == -1 then -1 else -1 + 1) + 1)) = _
  by_cases h1 : c = 45
  · subst h1; rfl
  · have e1 : ((45 : UInt8) == c) = false := beq_eq_false_iff_ne.2 (Ne.symm h1)
    have f1 : (c.toNat == 45) = false := beq_eq_false_iff_ne.2 fun e => h1 (UInt8.toNat_inj.1 e)
    rw [e1, f1]
    by_cases h2 : c = 46
    · subst h2; rfl
    · have e2 : ((46 : UInt8) == c) = false := beq_eq_false_iff_ne.2 (Ne.symm h2)
      have f2 : (c.toNat == 46) = false := beq_eq_false_iff_ne.2 fun e => h2 (UInt8.toNat_inj.1 e)
      rw [e2, f2]
      rfl
theorem more_user (l : List UInt8) : allMore ⟨#[]⟩ l = allSm l := by
  unfold allMore allSm
  congr 1
  funext c
  unfold moreB
  show (_ || decide ((0 : Int) ≤ -1)) = _
  rw [decide_eq_false (by omega), Bool.or_false]

set_option maxRecDepth 100000 in
set_option maxHeartbeats 400000 in
theorem tmay_eq (s : ByteArray) (hs : s.size ≤ maxLen) (w : World) : Calls Tryz.prog 74 #[.string s] w fun x w' => x = .returned (.bool (mayB s.data.toList)) ∧ w = w' := by
  have h := thas_any s ⟨#[45, 46]⟩ hs 24
  have e : hasB s.data.toList 24 ⟨#[45, 46]⟩ = mayB s.data.toList := by unfold hasB mayB; rw [more_may]
  rw [e] at h
  obtain ⟨b, hb⟩ : ∃ b, mayB s.data.toList = b := ⟨_, rfl⟩
  rw [hb] at h ⊢
  have H := Lib.hid h
  clear h e hb
  go_enter Tryz.func74, Tryz.ntmps74
  go_wp2_with fail
  refine (H.out _).mono ?_; rintro e w' ⟨rfl, rfl⟩
  go_wp2
  go_ret
  exact ⟨rfl, rfl⟩
theorem tmay_any (s : ByteArray) (hs : s.size ≤ maxLen) (w : World) : Calls Tryz.prog 74 #[.string s] w fun x w' => x = .returned (.bool (mayB s.data.toList)) ∧ Below w.heap.size w w' :=
  (tmay_eq s hs w).mono fun _ _ ⟨he, hw⟩ => ⟨he, hw ▸ Below.refl _ _⟩
end Go.Proofs.YtfgecjlccngddaaGreat
