/-
  Joined: TitleMath, TitleRef.
-/
import Derived.Test.YtfgecjlccngddaaGreatJBase
namespace Go.Proofs.YtfgecjlccngddaaGreat
set_option linter.unusedSimpArgs false
set_option linter.unusedVariables false
open Go.RowKit

def smB (b : Nat) : Bool := (decide (97 ≤ b) && decide (b ≤ 122)) || (decide (48 ≤ b) && decide (b ≤ 57))
def myB (b : Nat) : Bool := smB b || b == 45 || b == 46
def allMy (l : List UInt8) : Bool := l.all fun c => myB c.toNat
def allSm (l : List UInt8) : Bool := l.all fun c => smB c.toNat
def mayB (l : List UInt8) : Bool := allMy l && decide (1 ≤ l.length) && decide (l.length ≤ 24)
def userB (l : List UInt8) : Bool := allSm l && decide (1 ≤ l.length) && decide (l.length ≤ 16)
theorem allMy_app (a b : List UInt8) : allMy (a ++ b) = (allMy a && allMy b) := by simp [allMy]
theorem allSm_app (a b : List UInt8) : allSm (a ++ b) = (allSm a && allSm b) := by simp [allSm]
theorem byte_eq (c : UInt8) (n : Nat) (h : c.toNat = n) : c = UInt8.ofNat n := by rw [← h]; simp
theorem allMy_take (l : List UInt8) (k : Nat) (h : k < l.length) : allMy (l.take (k + 1)) = (allMy (l.take k) && myB (bt l k)) := by
  rw [List.take_succ_eq_append_getElem h, allMy_app]
  congr 1
  unfold bt allMy
  rw [List.getD_eq_getElem?_getD, List.getElem?_eq_getElem h]
  simp
theorem allSm_take (l : List UInt8) (k : Nat) (h : k < l.length) : allSm (l.take (k + 1)) = (allSm (l.take k) && smB (bt l k)) := by
  rw [List.take_succ_eq_append_getElem h, allSm_app]
  congr 1
  unfold bt allSm
  rw [List.getD_eq_getElem?_getD, List.getElem?_eq_getElem h]
  simp
theorem allMy_off (l : List UInt8) (k : Nat) (h : k < l.length) (g : myB (bt l k) = false) : allMy l = false := by
  have h1 := allMy_take l k h
  rw [g, Bool.and_false] at h1
  have h3 : l = l.take (k + 1) ++ l.drop (k + 1) := (List.take_append_drop _ _).symm
  rw [h3, allMy_app, h1, Bool.false_and]
theorem allSm_off (l : List UInt8) (k : Nat) (h : k < l.length) (g : smB (bt l k) = false) : allSm l = false := by
  have h1 := allSm_take l k h
  rw [g, Bool.and_false] at h1
  have h3 : l = l.take (k + 1) ++ l.drop (k + 1) := (List.take_append_drop _ _).symm
  rw [h3, allSm_app, h1, Bool.false_and]
theorem sm_my (l : List UInt8) (h : allSm l = true) : allMy l = true := by
  unfold allSm at h
  unfold allMy
  rw [List.all_eq_true] at h ⊢
  intro c hc
  have := h c hc
  unfold myB
  rw [this]; rfl
theorem dig_sm (l : List UInt8) (h : allDig l = true) : allSm l = true := by
  unfold allDig at h
  unfold allSm
  rw [List.all_eq_true] at h ⊢
  intro c hc
  have := h c hc
  unfold smB
  rw [this, Bool.or_true]

def offC (e : Int) : List UInt8 := if digitsI e 6 = [] then [] else [99, 104, 101, 99, 107, 45] ++ digitsI e 6
def offL (e p : Int) : List UInt8 := if digitsI e 6 = [] ∨ digitsI p 4 = [] then [] else [108, 111, 103, 45] ++ digitsI e 6 ++ [45] ++ digitsI p 4
def offX (l : List UInt8) : List UInt8 := if userB l = true then [120, 45] ++ l else []

/-- What a name is. -/
structure Ttl where
  k : Nat
  e : Nat
  p : Nat
  n : List UInt8
def readT (l : List UInt8) : Ttl :=
  if l.length = 12 ∧ (parseI (l.drop 6)).2 = true ∧ offC ((parseI (l.drop 6)).1 : Nat) = l then ⟨1, (parseI (l.drop 6)).1, 0, []⟩
  else if l.length = 15 ∧ (parseI ((l.drop 4).take 6)).2 = true ∧ (parseI (l.drop 11)).2 = true ∧ offL ((parseI ((l.drop 4).take 6)).1 : Nat) ((parseI (l.drop 11)).1 : Nat) = l then ⟨2, (parseI ((l.drop 4).take 6)).1, (parseI (l.drop 11)).1, []⟩
  else if l.take 4 = [116, 109, 112, 45] ∧ mayB l = true then ⟨3, 0, 0, []⟩
  else if 2 < l.length ∧ offX (l.drop 2) = l then ⟨4, 0, 0, l.drop 2⟩
  else ⟨0, 0, 0, []⟩

def condA (l : List UInt8) : Prop := l.length = 12 ∧ (parseI (l.drop 6)).2 = true ∧ offC ((parseI (l.drop 6)).1 : Nat) = l
def condB (l : List UInt8) : Prop := l.length = 15 ∧ (parseI ((l.drop 4).take 6)).2 = true ∧ (parseI (l.drop 11)).2 = true ∧ offL ((parseI ((l.drop 4).take 6)).1 : Nat) ((parseI (l.drop 11)).1 : Nat) = l
def condC (l : List UInt8) : Prop := l.take 4 = [116, 109, 112, 45] ∧ mayB l = true
def condD (l : List UInt8) : Prop := 2 < l.length ∧ offX (l.drop 2) = l
def condCb (l : List UInt8) : Bool := decide (l.take 4 = [116, 109, 112, 45]) && mayB l
def condDb (l : List UInt8) : Bool := decide (2 < l.length) && decide (offX (l.drop 2) = l)
theorem condCb_iff (l : List UInt8) : condCb l = true ↔ condC l := by unfold condCb condC; simp
theorem condDb_iff (l : List UInt8) : condDb l = true ↔ condD l := by unfold condDb condD; simp
theorem readT_A (l : List UInt8) (h : condA l) : readT l = ⟨1, (parseI (l.drop 6)).1, 0, []⟩ := if_pos h
theorem readT_B (l : List UInt8) (a : ¬ condA l) (h : condB l) : readT l = ⟨2, (parseI ((l.drop 4).take 6)).1, (parseI (l.drop 11)).1, []⟩ := (if_neg a).trans (if_pos h)
theorem readT_C (l : List UInt8) (a : ¬ condA l) (b : ¬ condB l) (h : condC l) : readT l = ⟨3, 0, 0, []⟩ := ((if_neg a).trans (if_neg b)).trans (if_pos h)
theorem readT_D (l : List UInt8) (a : ¬ condA l) (b : ¬ condB l) (c : ¬ condC l) (h : condD l) : readT l = ⟨4, 0, 0, l.drop 2⟩ := (((if_neg a).trans (if_neg b)).trans (if_neg c)).trans (if_pos h)
theorem readT_E (l : List UInt8) (a : ¬ condA l) (b : ¬ condB l) (c : ¬ condC l) (d : ¬ condD l) : readT l = ⟨0, 0, 0, []⟩ := (((if_neg a).trans (if_neg b)).trans (if_neg c)).trans (if_neg d)
theorem allDig_digits (n w : Int) : allDig (digitsI n w) = true := by
  unfold digitsI
  split
  · rfl
  · split
    · exact allDig_dg _ _
    · rfl
theorem read_check (e : Int) (h : offC e ≠ []) : mayB (offC e) = true ∧ readT (offC e) = ⟨1, e.toNat, 0, []⟩ ∧ 0 ≤ e := by
  unfold offC at h
  by_cases hd : digitsI e 6 = []
  · rw [if_pos hd] at h; exact absurd rfl h
  obtain ⟨h1, h2, h3, _⟩ := parse_digits e 6 hd
  have e1 : offC e = [99, 104, 101, 99, 107, 45] ++ digitsI e 6 := if_neg hd
  have h3' : (digitsI e 6).length = 6 := h3
  refine ⟨?_, ?_, h2⟩
  · rw [e1]
    unfold mayB
    rw [allMy_app, sm_my _ (dig_sm _ (allDig_digits e 6)), List.length_append, h3']
    decide
  · have hdrop : (offC e).drop 6 = digitsI e 6 := by rw [e1]; rfl
    have hlen : (offC e).length = 12 := by rw [e1, List.length_append, h3']; rfl
    unfold readT
    rw [hdrop, h1]
    have hn : ((e.toNat : Nat) : Int) = e := Int.toNat_of_nonneg h2
    rw [if_pos ⟨hlen, rfl, by show offC ((e.toNat : Nat) : Int) = offC e; rw [hn]⟩]
theorem read_log (e p : Int) (h : offL e p ≠ []) : mayB (offL e p) = true ∧ readT (offL e p) = ⟨2, e.toNat, p.toNat, []⟩ ∧ 0 ≤ e ∧ 0 ≤ p := by
  unfold offL at h
  by_cases hd : digitsI e 6 = [] ∨ digitsI p 4 = []
  · rw [if_pos hd] at h; exact absurd rfl h
  have hd' := hd
  rw [not_or] at hd'
  obtain ⟨hd1, hd2⟩ := hd'
  obtain ⟨h1, h2, h3, _⟩ := parse_digits e 6 hd1
  obtain ⟨g1, g2, g3, _⟩ := parse_digits p 4 hd2
  have e1 : offL e p = [108, 111, 103, 45] ++ digitsI e 6 ++ [45] ++ digitsI p 4 := if_neg hd
  have h3' : (digitsI e 6).length = 6 := h3
  have g3' : (digitsI p 4).length = 4 := g3
  have hlen : (offL e p).length = 15 := by rw [e1]; simp only [List.length_append, h3', g3']; rfl
  refine ⟨?_, ?_, h2, g2⟩
  · have hm := allMy_app
    unfold mayB
    rw [hlen, e1, allMy_app, allMy_app, allMy_app, sm_my _ (dig_sm _ (allDig_digits e 6)), sm_my _ (dig_sm _ (allDig_digits p 4))]
    decide
  · have hd4 : ((offL e p).drop 4).take 6 = digitsI e 6 := by
      rw [e1, List.append_assoc, List.append_assoc]
      show (digitsI e 6 ++ ([45] ++ digitsI p 4)).take 6 = _
      rw [List.take_append_of_le_length (by omega), List.take_of_length_le (by omega)]
    have hd11 : (offL e p).drop 11 = digitsI p 4 := by
      rw [e1, List.drop_append_of_le_length (by simp only [List.length_append, h3']; decide), List.drop_eq_nil_of_le (by simp only [List.length_append, h3']; decide)]
      rfl
    have hn : ((e.toNat : Nat) : Int) = e := Int.toNat_of_nonneg h2
    have gn : ((p.toNat : Nat) : Int) = p := Int.toNat_of_nonneg g2
    unfold readT
    rw [hd4, hd11, h1, g1, if_neg (by omega), if_pos ⟨hlen, rfl, rfl, by show offL ((e.toNat : Nat) : Int) ((p.toNat : Nat) : Int) = offL e p; rw [hn, gn]⟩]
theorem offC_head (e : Int) (l : List UInt8) (h : offC e = l) : l = [] ∨ l.head? = some 99 := by
  unfold offC at h
  split at h
  · exact .inl h.symm
  · right; rw [← h]; rfl
theorem offL_head (e p : Int) (l : List UInt8) (h : offL e p = l) : l = [] ∨ l.head? = some 108 := by
  unfold offL at h
  split at h
  · exact .inl h.symm
  · right; rw [← h]; rfl
theorem read_export (l : List UInt8) (h : offX l ≠ []) : mayB (offX l) = true ∧ readT (offX l) = ⟨4, 0, 0, l⟩ := by
  unfold offX at h
  by_cases hu : userB l = true
  · have e1 : offX l = [120, 45] ++ l := if_pos hu
    have hu' := hu
    unfold userB at hu'
    simp only [Bool.and_eq_true, decide_eq_true_eq] at hu'
    obtain ⟨⟨hs, hl1⟩, hl2⟩ := hu'
    constructor
    · unfold mayB
      rw [e1, allMy_app, sm_my _ hs, List.length_append]
      simp [allMy, myB, smB]; omega
    · have hh : (offX l).head? = some 120 := by rw [e1]; rfl
      have hne : offX l ≠ [] := by rw [e1]; simp
      unfold readT
      rw [if_neg, if_neg, if_neg, if_pos]
      · rw [e1]; rfl
      · rw [e1]
        refine ⟨by simp; omega, ?_⟩
        show offX l = _
        rw [e1]
      · rw [e1]; rintro ⟨h3, _⟩; simp at h3
      · rintro ⟨_, _, _, h3⟩
        rcases offL_head _ _ _ h3 with g | g
        · exact hne g
        · rw [hh] at g; simp at g
      · rintro ⟨_, _, h3⟩
        rcases offC_head _ _ h3 with g | g
        · exact hne g
        · rw [hh] at g; simp at g
  · rw [if_neg hu] at h; exact absurd rfl h
/-- What is read as one of ours has just that name. -/
theorem read_is (l : List UInt8) : ((readT l).k = 1 → offC ((readT l).e : Nat) = l) ∧ ((readT l).k = 2 → offL ((readT l).e : Nat) ((readT l).p : Nat) = l) ∧ ((readT l).k = 4 → offX (readT l).n = l) ∧
    ((readT l).k ≠ 1 → (readT l).k ≠ 2 → (readT l).k ≠ 4 → (readT l).e = 0 ∧ (readT l).p = 0 ∧ (readT l).n = []) ∧ (readT l).k ≤ 4 := by
  unfold readT
  split
  · rename_i h; exact ⟨fun _ => h.2.2, by simp, by simp, by simp, by simp⟩
  · split
    · rename_i h; exact ⟨by simp, fun _ => h.2.2.2, by simp, by simp, by simp⟩
    · split
      · exact ⟨by simp, by simp, by simp, by simp, by simp⟩
      · split
        · rename_i h; exact ⟨by simp, by simp, fun _ => h.2, by simp, by simp⟩
        · exact ⟨by simp, by simp, by simp, by simp, by simp⟩
end Go.Proofs.YtfgecjlccngddaaGreat
namespace Go.Proofs.YtfgecjlccngddaaGreat
set_option linter.unusedSimpArgs false
set_option linter.unusedVariables false
open Go.RowKit

theorem smB_1 (b : Nat) (h1 : 97 ≤ b) (h2 : b ≤ 122) : smB b = true := by unfold smB; simp; omega
theorem smB_2 (b : Nat) (h1 : 48 ≤ b) (h2 : b ≤ 57) : smB b = true := by unfold smB; simp; omega
theorem smB_0 (b : Nat) (h1 : ¬ (97 ≤ b ∧ b ≤ 122)) (h2 : ¬ (48 ≤ b ∧ b ≤ 57)) : smB b = false := by unfold smB; simp; omega
set_option maxRecDepth 100000 in
set_option maxHeartbeats 400000 in
theorem rsmall_any (b : Nat) (hb : b < 256) (w : World) :
    Calls Tryz.prog 125 #[.int .u8 b] w fun e w' => e = .returned (.bool (smB b)) ∧ w = w' := by
  rcases (show b < 48 ∨ (48 ≤ b ∧ b ≤ 57) ∨ (57 < b ∧ b < 97) ∨ (97 ≤ b ∧ b ≤ 122) ∨ 122 < b by omega) with h | ⟨h, g⟩ | ⟨h, g⟩ | ⟨h, g⟩ | h
  · rw [smB_0 b (by omega) (by omega)]
    go_enter Tryz.func125, Tryz.ntmps125
    go_wp2
    go_ret
    exact ⟨by simp <;> omega, rfl⟩
  · rw [smB_2 b h g]
    go_enter Tryz.func125, Tryz.ntmps125
    go_wp2
    go_ret
    exact ⟨by simp <;> omega, rfl⟩
  · rw [smB_0 b (by omega) (by omega)]
    go_enter Tryz.func125, Tryz.ntmps125
    go_wp2
    go_ret
    exact ⟨by simp <;> omega, rfl⟩
  · rw [smB_1 b h g]
    go_enter Tryz.func125, Tryz.ntmps125
    go_wp2
    go_ret
    exact ⟨by simp <;> omega, rfl⟩
  · rw [smB_0 b (by omega) (by omega)]
    go_enter Tryz.func125, Tryz.ntmps125
    go_wp2
    go_ret
    exact ⟨by simp <;> omega, rfl⟩

set_option maxRecDepth 100000 in
set_option maxHeartbeats 800000 in
theorem rmay_any (s : ByteArray) (hs : s.size ≤ maxLen) (w : World) :
    Calls Tryz.prog 67 #[.string s] w fun e w' => e = .returned (.bool (mayB s.data.toList)) ∧ w = w' := by
  have hlen : s.data.toList.length = s.size := by simp
  have HN := Lib.hid hlen; clear hlen
  unfold maxLen at hs
  go_enter Tryz.func67, Tryz.ntmps67
  go_wp2
  go_loop [3] (fun i => ∃ j : Nat, j ≤ s.size ∧ i = .int .i64 j ∧ allMy (s.data.toList.take j) = true) (fun i => s.size - (intOf i).toNat)
  case atStart => exact ⟨0, Nat.zero_le _, rfl, rfl⟩
  case round =>
    obtain ⟨j, hj, rfl, had⟩ := hrel
    by_cases hlt : j < s.size
    · have hjl : j < s.data.toList.length := by rw [HN.out]; exact hlt
      have hb := bt_get s j hlt
      have hb255 := s[j].toNat_lt
      have ha := allMy_take s.data.toList j hjl
      have hoff := allMy_off s.data.toList j hjl
      have hsm := rsmall_any s[j].toNat hb255
      rw [had, hb, Bool.true_and] at ha
      rw [hb] at hoff
      have hm : myB s[j].toNat = (smB s[j].toNat || s[j].toNat == 45 || s[j].toNat == 46) := rfl
      obtain ⟨c, hc⟩ : ∃ c, smB s[j].toNat = c := ⟨_, rfl⟩
      rw [hc] at hm hsm
      have HS := Lib.hid hsm
      clear hsm hc had hb
      rcases (show c = true ∨ (c = false ∧ s[j].toNat = 45) ∨ (c = false ∧ ¬ s[j].toNat = 45 ∧ s[j].toNat = 46) ∨ (c = false ∧ ¬ s[j].toNat = 45 ∧ ¬ s[j].toNat = 46) by
        rcases Bool.eq_false_or_eq_true c with h | h
        · exact .inl h
        · by_cases h1 : s[j].toNat = 45
          · exact .inr (.inl ⟨h, h1⟩)
          · by_cases h2 : s[j].toNat = 46
            · exact .inr (.inr (.inl ⟨h, h1, h2⟩))
            · exact .inr (.inr (.inr ⟨h, h1, h2⟩))) with h | ⟨h, h1⟩ | ⟨h, h1, h2⟩ | ⟨h, h1, h2⟩
      · subst h
        rw [hm] at ha
        have HA := Lib.hid ha
        clear ha hoff hm
        go_wp2_with (go_at_call 125; refine (HS.out _).mono ?_; rintro e w' ⟨rfl, rfl⟩)
        go_round
        case rel => exact ⟨j + 1, by omega, by go_num, by rw [HA.out]; rfl⟩
        case measure => simp [intOf]; omega
      · subst h
        have t1 : (((s[j]'hlt).toNat : Int) != 45) = false := by rw [h1]; rfl
        have t2 : ((s[j]'hlt).toNat != 45) = false := by rw [h1]; rfl
        rw [hm, h1] at ha
        have HA := Lib.hid ha
        clear ha hoff hm h1
        go_wp2_with (go_at_call 125; refine (HS.out _).mono ?_; rintro e w' ⟨rfl, rfl⟩)
        go_round
        case rel => exact ⟨j + 1, by omega, by go_num, by rw [HA.out]; rfl⟩
        case measure => simp [intOf]; omega
      · subst h
        have t1 : (((s[j]'hlt).toNat : Int) != 45) = true := by rw [bne_iff_ne]; omega
        have t2 : ((s[j]'hlt).toNat != 45) = true := by rw [bne_iff_ne]; exact h1
        have t3 : (((s[j]'hlt).toNat : Int) != 46) = false := by rw [h2]; rfl
        have t4 : ((s[j]'hlt).toNat != 46) = false := by rw [h2]; rfl
        rw [hm, h2] at ha
        have HA := Lib.hid ha
        clear ha hoff hm h1 h2
        go_wp2_with (go_at_call 125; refine (HS.out _).mono ?_; rintro e w' ⟨rfl, rfl⟩)
        go_round
        case rel => exact ⟨j + 1, by omega, by go_num, by rw [HA.out]; rfl⟩
        case measure => simp [intOf]; omega
      · subst h
        have t1 : (((s[j]'hlt).toNat : Int) != 45) = true := by rw [bne_iff_ne]; omega
        have t2 : ((s[j]'hlt).toNat != 45) = true := by rw [bne_iff_ne]; exact h1
        have t3 : (((s[j]'hlt).toNat : Int) != 46) = true := by rw [bne_iff_ne]; omega
        have t4 : ((s[j]'hlt).toNat != 46) = true := by rw [bne_iff_ne]; exact h2
        have ho := hoff (by rw [hm]; simp [h1, h2])
        have HO := Lib.hid ho
        clear ha hoff hm h1 h2 ho
        go_wp2_with (go_at_call 125; refine (HS.out _).mono ?_; rintro e w' ⟨rfl, rfl⟩)
        go_ret
        exact ⟨ret_bool (by unfold mayB; rw [HO.out]; rfl), rfl⟩
    · rw [List.take_of_length_le (by rw [HN.out]; omega)] at had
      have e : mayB s.data.toList = (decide (1 ≤ s.size) && decide (s.size ≤ 24)) := by unfold mayB; rw [had, HN.out, Bool.true_and]
      clear had
      rcases (show s.size < 1 ∨ (1 ≤ s.size ∧ s.size ≤ 24) ∨ 24 < s.size by omega) with h | ⟨h, g⟩ | h
      · have e2 : mayB s.data.toList = false := by rw [e]; (try simp); (try omega)
        have HE := Lib.hid e2
        clear e e2
        go_wp2
        go_ret
        exact ⟨ret_bool (by rw [HE.out]; try (first | rfl | (simp; done) | (simp; omega))), rfl⟩
      · have e2 : mayB s.data.toList = true := by rw [e]; (try simp); (try omega)
        have HE := Lib.hid e2
        clear e e2
        go_wp2
        go_ret
        exact ⟨ret_bool (by rw [HE.out]; try (first | rfl | (simp; done) | (simp; omega))), rfl⟩
      · have e2 : mayB s.data.toList = false := by rw [e]; (try simp); (try omega)
        have HE := Lib.hid e2
        clear e e2
        go_wp2
        go_ret
        exact ⟨ret_bool (by rw [HE.out]; try (first | rfl | (simp; done) | (simp; omega))), rfl⟩

/-- A list of bytes as a text. -/
def mkS (l : List UInt8) : ByteArray := ⟨l.toArray⟩
theorem mkS_list (l : List UInt8) : (mkS l).data.toList = l := rfl
theorem mkS_size (l : List UInt8) : (mkS l).size = l.length := by simp [mkS, ByteArray.size]
theorem mkS_empty (l : List UInt8) : (mkS l).toList.isEmpty = decide (l = []) := by
  rw [ByteArray.toList_eq, mkS_list]
  cases l <;> simp
theorem digits_len (e v : Int) : (digitsI e v).length ≤ 9 := by
  unfold digitsI
  split
  · simp
  · split
    · rw [dg_length]; omega
    · simp
end Go.Proofs.YtfgecjlccngddaaGreat
