/-
  Contracts of the program's head, has, May, User and of the names that are given (layer 8).
-/
import Derived.Test.YtfbocmmdkhnaoaaTitleLib
import Derived.Test.YtfbocmmdkhnaoaaNumDev
import Derived.Test.YtfbocmmdkhnaoaaTitleRead
namespace Go.Proofs.Ytfbocmmdkhnaoaa
open Go.RowKit

def headS (k : Nat) : ByteArray := mkS (headL k)
set_option maxRecDepth 100000 in
set_option maxHeartbeats 400000 in
theorem thead_any (k : Nat) (hk : k ≤ 4) (w : World) :
    Calls Try.prog 23 #[.int .i64 (k : Nat)] w fun e w' => e = .returned (.string (headS k)) ∧ Below w.heap.size w w' := by
  rcases (show k = 0 ∨ k = 1 ∨ k = 2 ∨ k = 3 ∨ k = 4 by omega) with rfl | rfl | rfl | rfl | rfl
  · show Calls Try.prog 23 #[.int .i64 0] w _
    go_enter Try.func23, Try.ntmps23
    go_wp2
    go_ret
    exact ⟨rfl, (Below.refl _ _).alloc (Nat.le_refl _) _⟩
  · show Calls Try.prog 23 #[.int .i64 1] w _
    go_enter Try.func23, Try.ntmps23
    go_wp2
    go_ret
    exact ⟨rfl, (Below.refl _ _).alloc (Nat.le_refl _) _⟩
  · show Calls Try.prog 23 #[.int .i64 2] w _
    go_enter Try.func23, Try.ntmps23
    go_wp2
    go_ret
    exact ⟨rfl, (Below.refl _ _).alloc (Nat.le_refl _) _⟩
  · show Calls Try.prog 23 #[.int .i64 3] w _
    go_enter Try.func23, Try.ntmps23
    go_wp2
    go_ret
    exact ⟨rfl, (Below.refl _ _).alloc (Nat.le_refl _) _⟩
  · show Calls Try.prog 23 #[.int .i64 4] w _
    go_enter Try.func23, Try.ntmps23
    go_wp2
    go_ret
    exact ⟨rfl, (Below.refl _ _).alloc (Nat.le_refl _) _⟩

/-- What a name may hold, beside letters and digits. -/
def moreB (more : ByteArray) (b : Nat) : Bool := smB b || decide (0 ≤ Lib.indexByte more.data.toList ((b : Int).toNat.toUInt8))
def allMore (more : ByteArray) (l : List UInt8) : Bool := l.all fun c => moreB more c.toNat
theorem allMore_app (more : ByteArray) (a b : List UInt8) : allMore more (a ++ b) = (allMore more a && allMore more b) := by simp [allMore]
theorem allMore_take (more : ByteArray) (l : List UInt8) (k : Nat) (h : k < l.length) : allMore more (l.take (k + 1)) = (allMore more (l.take k) && moreB more (bt l k)) := by
  rw [List.take_succ_eq_append_getElem h, allMore_app]
  congr 1
  unfold bt allMore
  rw [List.getD_eq_getElem?_getD, List.getElem?_eq_getElem h]
  simp
theorem allMore_off (more : ByteArray) (l : List UInt8) (k : Nat) (h : k < l.length) (g : moreB more (bt l k) = false) : allMore more l = false := by
  have h1 := allMore_take more l k h
  rw [g, Bool.and_false] at h1
  have h3 : l = l.take (k + 1) ++ l.drop (k + 1) := (List.take_append_drop _ _).symm
  rw [h3, allMore_app, h1, Bool.false_and]
def hasB (l : List UInt8) (m : Nat) (more : ByteArray) : Bool := allMore more l && decide (1 ≤ l.length) && decide (l.length ≤ m)

set_option maxRecDepth 100000 in
set_option maxHeartbeats 800000 in
theorem thas_any (s more : ByteArray) (hs : s.size ≤ maxLen) (m : Nat) (w : World) :
    Calls Try.prog 30 #[.string s, .int .i64 (m : Nat), .string more] w fun e w' => e = .returned (.bool (hasB s.data.toList m more)) ∧ w = w' := by
  have hlen : s.data.toList.length = s.size := by simp
  unfold maxLen at hs
  have hB : hasB s.data.toList m more = (allMore more s.data.toList && decide (1 ≤ s.size) && decide (s.size ≤ m)) := by unfold hasB; rw [hlen]
  by_cases h1 : s.size < 1
  · have e : hasB s.data.toList m more = false := by rw [hB, decide_eq_false (by omega)]; simp
    rw [e]
    clear e hB hlen
    go_enter Try.func30, Try.ntmps30
    go_wp2
    go_ret
    exact ⟨rfl, rfl⟩
  by_cases h2 : m < s.size
  · have e : hasB s.data.toList m more = false := by rw [hB, decide_eq_false (p := s.size ≤ m) (by omega)]; simp
    rw [e]
    clear e hB hlen
    go_enter Try.func30, Try.ntmps30
    go_wp2
    go_ret
    exact ⟨rfl, rfl⟩
  have e : hasB s.data.toList m more = allMore more s.data.toList := by rw [hB, decide_eq_true (by omega), decide_eq_true (p := s.size ≤ m) (by omega)]; simp
  rw [e]
  have HN := Lib.hid hlen
  clear e hB hlen
  have f1 : decide ((s.size : Int) < 1) = false := by simp; omega
  have f2 : decide (m < s.size) = false := decide_eq_false h2
  clear h1 h2
  go_enter Try.func30, Try.ntmps30
  go_wp2
  go_loop [21] (fun i => ∃ j : Nat, j ≤ s.size ∧ i = .int .i64 j ∧ allMore more (s.data.toList.take j) = true) (fun i => s.size - (intOf i).toNat)
  case atStart => exact ⟨0, Nat.zero_le _, rfl, rfl⟩
  case round =>
    obtain ⟨j, hj, rfl, had⟩ := hrel
    by_cases hlt : j < s.size
    · have hjl : j < s.data.toList.length := by rw [HN.out]; exact hlt
      have hb := bt_get s j hlt
      have hb255 := s[j].toNat_lt
      have ha := allMore_take more s.data.toList j hjl
      have hoff := allMore_off more s.data.toList j hjl
      have hix := s_indexbyte more (s[j].toNat : Nat)
      rw [had, hb, Bool.true_and] at ha
      rw [hb] at hoff
      have hmo : moreB more s[j].toNat = (smB s[j].toNat || decide (0 ≤ Lib.indexByte more.data.toList (((s[j].toNat : Nat) : Int).toNat.toUInt8))) := rfl
      obtain ⟨x, hx⟩ : ∃ x, Lib.indexByte more.data.toList (((s[j].toNat : Nat) : Int).toNat.toUInt8) = x := ⟨_, rfl⟩
      rw [hx] at hmo hix
      rw [hmo] at ha hoff
      have HX := Lib.hid hix
      clear hmo hix hx had hb
      rcases (show s[j].toNat < 48 ∨ (48 ≤ s[j].toNat ∧ s[j].toNat ≤ 57) ∨ (57 < s[j].toNat ∧ s[j].toNat < 97) ∨ (97 ≤ s[j].toNat ∧ s[j].toNat ≤ 122) ∨ 122 < s[j].toNat by omega) with h | ⟨h, g⟩ | ⟨h, g⟩ | ⟨h, g⟩ | h
      case inr.inl =>
        rw [smB_2 _ h g, Bool.true_or] at ha
        have HA := Lib.hid ha
        clear ha hoff
        go_wp2_with (go_at_call 35; refine (HX.out _).mono ?_; rintro e w' ⟨rfl, rfl⟩)
        go_round
        case rel => exact ⟨j + 1, by omega, by go_num, HA.out⟩
        case measure => simp [intOf]; omega
      case inr.inr.inr.inl =>
        rw [smB_1 _ h g, Bool.true_or] at ha
        have HA := Lib.hid ha
        clear ha hoff
        go_wp2_with (go_at_call 35; refine (HX.out _).mono ?_; rintro e w' ⟨rfl, rfl⟩)
        go_round
        case rel => exact ⟨j + 1, by omega, by go_num, HA.out⟩
        case measure => simp [intOf]; omega
      all_goals
        rw [smB_0 _ (by omega) (by omega), Bool.false_or] at ha hoff
        try have d1 : decide (((s[j]'hlt).toNat : Int) ≤ 57) = false := decide_eq_false (by omega)
        try have d2 : decide (((s[j]'hlt).toNat : Int) ≤ 122) = false := decide_eq_false (by omega)
        by_cases hx0 : x < 0
        · have ho := hoff (decide_eq_false (by omega))
          have HO := Lib.hid ho
          clear ha hoff ho
          go_wp2_with (go_at_call 35; refine (HX.out _).mono ?_; rintro e w' ⟨rfl, rfl⟩)
          go_ret
          exact ⟨ret_bool HO.out.symm, rfl⟩
        · rw [decide_eq_true (by omega)] at ha
          have hx1 : 0 ≤ x := by omega
          have HA := Lib.hid ha
          clear ha hoff hx0
          go_wp2_with (go_at_call 35; refine (HX.out _).mono ?_; rintro e w' ⟨rfl, rfl⟩)
          go_round
          case rel => exact ⟨j + 1, by omega, by go_num, HA.out⟩
          case measure => simp [intOf]; omega
    · rw [List.take_of_length_le (by rw [HN.out]; omega)] at had
      have HA := Lib.hid had
      clear had
      go_wp2
      go_ret
      exact ⟨ret_bool HA.out.symm, rfl⟩

theorem more_may (l : List UInt8) : allMore ⟨#[45, 46]⟩ l = allMy l := by
  unfold allMore allMy
  congr 1
  funext c
  unfold moreB myB
  rw [Bool.or_assoc]
  congr 1
  have hc : ((c.toNat : Nat) : Int).toNat.toUInt8 = c := by simp
  rw [hc]
  show decide (0 ≤ (if ((45 : UInt8) == c) = true then (0 : Int) else if (if ((46 : UInt8) == c) = true then (0 : Int) else if (-1 : Int) == -1 then -1 else -1 + 1) == -1 then -1 else (if ((46 : UInt8) == c) = true then (0 : Int) else if (-1 : Int) == -1 then -1 else -1 + 1) + 1)) = _
  by_cases h1 : c = 45
  · subst h1; rfl
  · have e1 : ((45 : UInt8) == c) = false := beq_eq_false_iff_ne.2 (Ne.symm h1)
    have f1 : (c.toNat == 45) = false := beq_eq_false_iff_ne.2 fun e => h1 (UInt8.toNat_inj.1 e)
    rw [e1, f1]
    by_cases h2 : c = 46
    · subst h2; rfl
    · have e2 : ((46 : UInt8) == c) = false := beq_eq_false_iff_ne.2 (Ne.symm h2)
      have f2 : (c.toNat == 46) = false := beq_eq_false_iff_ne.2 fun e => h2 (UInt8.toNat_inj.1 e)
      rw [e2, f2]
      rfl
theorem more_user (l : List UInt8) : allMore ⟨#[]⟩ l = allSm l := by
  unfold allMore allSm
  congr 1
  funext c
  unfold moreB
  show (_ || decide ((0 : Int) ≤ -1)) = _
  rw [decide_eq_false (by omega), Bool.or_false]

set_option maxRecDepth 100000 in
set_option maxHeartbeats 400000 in
theorem tmay_eq (s : ByteArray) (hs : s.size ≤ maxLen) (w : World) : Calls Try.prog 18 #[.string s] w fun x w' => x = .returned (.bool (mayB s.data.toList)) ∧ w = w' := by
  have h := thas_any s ⟨#[45, 46]⟩ hs 24
  have e : hasB s.data.toList 24 ⟨#[45, 46]⟩ = mayB s.data.toList := by unfold hasB mayB; rw [more_may]
  rw [e] at h
  obtain ⟨b, hb⟩ : ∃ b, mayB s.data.toList = b := ⟨_, rfl⟩
  rw [hb] at h ⊢
  have H := Lib.hid h
  clear h e hb
  go_enter Try.func18, Try.ntmps18
  go_wp2_with fail
  refine (H.out _).mono ?_; rintro e w' ⟨rfl, rfl⟩
  go_wp2
  go_ret
  exact ⟨rfl, rfl⟩
theorem tmay_any (s : ByteArray) (hs : s.size ≤ maxLen) (w : World) : Calls Try.prog 18 #[.string s] w fun x w' => x = .returned (.bool (mayB s.data.toList)) ∧ Below w.heap.size w w' :=
  (tmay_eq s hs w).mono fun _ _ ⟨he, hw⟩ => ⟨he, hw ▸ Below.refl _ _⟩
set_option maxRecDepth 100000 in
set_option maxHeartbeats 400000 in
theorem tuser_eq (s : ByteArray) (hs : s.size ≤ maxLen) (w : World) : Calls Try.prog 20 #[.string s] w fun x w' => x = .returned (.bool (userB s.data.toList)) ∧ w = w' := by
  have h := thas_any s ⟨#[]⟩ hs 16
  have e : hasB s.data.toList 16 ⟨#[]⟩ = userB s.data.toList := by unfold hasB userB; rw [more_user]
  rw [e] at h
  obtain ⟨b, hb⟩ : ∃ b, userB s.data.toList = b := ⟨_, rfl⟩
  rw [hb] at h ⊢
  have H := Lib.hid h
  clear h e hb
  go_enter Try.func20, Try.ntmps20
  go_wp2_with fail
  refine (H.out _).mono ?_; rintro e w' ⟨rfl, rfl⟩
  go_wp2
  go_ret
  exact ⟨rfl, rfl⟩
theorem tuser_any (s : ByteArray) (hs : s.size ≤ maxLen) (w : World) : Calls Try.prog 20 #[.string s] w fun x w' => x = .returned (.bool (userB s.data.toList)) ∧ Below w.heap.size w w' :=
  (tuser_eq s hs w).mono fun _ _ ⟨he, hw⟩ => ⟨he, hw ▸ Below.refl _ _⟩

theorem tdigits_mk (n v : Int) (hn : n ≤ 9223372036854775807) (w : World) :
    Calls Try.prog 22 #[.int .i64 n, .int .i64 v] w fun e w' => e = .returned (.string (mkS (digitsI n v))) ∧ Below w.heap.size w w' := ndigits_any n v hn w
set_option maxRecDepth 100000 in
set_option maxHeartbeats 400000 in
theorem tofcheck_any (e : Int) (_h0 : -9223372036854775808 ≤ e) (h1 : e ≤ 9223372036854775807) (w : World) :
    Calls Try.prog 7 #[.int .i64 e] w fun x w' => x = .returned (.string (mkS (offC e))) ∧ Below w.heap.size w w' := by
  have hd := tdigits_mk e 6 h1
  have he : offC e = if digitsI e 6 = [] then [] else [99, 104, 101, 99, 107, 45] ++ digitsI e 6 := rfl
  have hl := digits_len e 6
  have hm := mkS_empty (digitsI e 6)
  obtain ⟨d, hdd⟩ : ∃ d, digitsI e 6 = d := ⟨_, rfl⟩
  rw [hdd] at hd he hl hm
  rw [he]
  have hsz : (mkS d).size ≤ 9 := by rw [mkS_size]; exact hl
  have hh := fun w => thead_any 1 (by omega) w
  have hhs : (headS 1).size = 6 := rfl
  have e2 : headS 1 = mkS [99, 104, 101, 99, 107, 45] := rfl
  obtain ⟨G, hG⟩ : ∃ G, headS 1 = G := ⟨_, rfl⟩
  rw [hG] at hh hhs e2
  have HD := Lib.hid hd; have HH := Lib.hid hh
  clear hd he hdd hl hh hG
  by_cases hn : d = []
  · rw [if_pos hn]
    have t1 : (mkS d).toList.isEmpty = true := by rw [hm]; simp [hn]
    subst hn
    clear hm e2
    go_enter Try.func7, Try.ntmps7
    go_wp2_with fail
    refine (HD.out _).mono ?_
    rintro x w1 ⟨rfl, hb⟩
    go_wp2
    go_ret
    exact ⟨rfl, hb⟩
  · rw [if_neg hn]
    have t1 : (mkS d).toList.isEmpty = false := by rw [hm]; simp [hn]
    have e1 : mkS ([99, 104, 101, 99, 107, 45] ++ d) = G ++ mkS d := by rw [e2]; exact str_ext (by rw [app_list]; rfl)
    rw [e1]
    clear hm hn e1 e2
    obtain ⟨D, hD⟩ : ∃ D, mkS d = D := ⟨_, rfl⟩
    rw [hD] at HD t1 hsz ⊢
    clear hD
    go_enter Try.func7, Try.ntmps7
    go_wp2_with fail
    refine (HD.out _).mono ?_
    rintro x w1 ⟨rfl, hb⟩
    go_wp2_with fail
    refine (onward hb (HH.out _)).mono ?_
    rintro x w2 ⟨rfl, hb2⟩
    go_wp2
    go_ret
    exact ⟨rfl, hb2⟩

set_option maxRecDepth 100000 in
set_option maxHeartbeats 400000 in
theorem tofexport_any (s : ByteArray) (hs : s.size ≤ maxLen) (w : World) :
    Calls Try.prog 11 #[.string s] w fun x w' => x = .returned (.string (mkS (offX s.data.toList))) ∧ Below w.heap.size w w' := by
  have hu := tuser_eq s hs
  have he : offX s.data.toList = if userB s.data.toList = true then [120, 45] ++ s.data.toList else [] := rfl
  have hl : userB s.data.toList = true → s.size ≤ 16 := by
    intro h
    unfold userB at h
    simp only [Bool.and_eq_true, decide_eq_true_eq] at h
    have := h.2
    simpa using this
  obtain ⟨c, hc⟩ : ∃ c, userB s.data.toList = c := ⟨_, rfl⟩
  rw [hc] at hu he hl
  rw [he]
  have hh := fun w => thead_any 4 (by omega) w
  have hhs : (headS 4).size = 2 := rfl
  have e2 : headS 4 = mkS [120, 45] := rfl
  obtain ⟨G, hG⟩ : ∃ G, headS 4 = G := ⟨_, rfl⟩
  rw [hG] at hh hhs e2
  have HU := Lib.hid hu; have HH := Lib.hid hh
  clear hu he hc hh hG
  cases c with
  | true =>
    have hsz := hl rfl
    rw [if_pos rfl]
    have e1 : mkS ([120, 45] ++ s.data.toList) = G ++ s := by rw [e2]; exact str_ext (by rw [app_list]; rfl)
    rw [e1]
    clear e1 hl e2
    go_enter Try.func11, Try.ntmps11
    go_wp2_with fail
    refine (HU.out _).mono ?_
    rintro x w1 ⟨rfl, rfl⟩
    go_wp2_with fail
    refine (HH.out _).mono ?_
    rintro x w2 ⟨rfl, hb2⟩
    go_wp2
    go_ret
    exact ⟨rfl, hb2⟩
  | false =>
    rw [if_neg (by simp)]
    clear hl e2
    go_enter Try.func11, Try.ntmps11
    go_wp2_with fail
    refine (HU.out _).mono ?_
    rintro x w1 ⟨rfl, rfl⟩
    go_wp2
    go_ret
    exact ⟨rfl, Below.refl _ _⟩

set_option maxRecDepth 100000 in
set_option maxHeartbeats 400000 in
theorem ttempcheck_any (w : World) : Calls Try.prog 13 #[] w fun x w' => x = .returned (.string ⟨#[116, 109, 112, 45, 99, 104, 101, 99, 107]⟩) ∧ Below w.heap.size w w' := by
  have hh := fun w => thead_any 3 (by omega) w
  have e2 : headS 3 = ⟨#[116, 109, 112, 45]⟩ := rfl
  rw [e2] at hh
  have HH := Lib.hid hh
  clear hh
  go_enter Try.func13, Try.ntmps13
  go_wp2_with fail
  refine (HH.out _).mono ?_
  rintro x w2 ⟨rfl, hb2⟩
  go_wp2
  go_ret
  exact ⟨by rfl, hb2⟩
set_option maxRecDepth 100000 in
set_option maxHeartbeats 400000 in
theorem ttempsave_any (w : World) : Calls Try.prog 14 #[] w fun x w' => x = .returned (.string ⟨#[116, 109, 112, 45, 115, 97, 118, 101]⟩) ∧ Below w.heap.size w w' := by
  have hh := fun w => thead_any 3 (by omega) w
  have e2 : headS 3 = ⟨#[116, 109, 112, 45]⟩ := rfl
  rw [e2] at hh
  have HH := Lib.hid hh
  clear hh
  go_enter Try.func14, Try.ntmps14
  go_wp2_with fail
  refine (HH.out _).mono ?_
  rintro x w2 ⟨rfl, hb2⟩
  go_wp2
  go_ret
  exact ⟨by rfl, hb2⟩
set_option maxRecDepth 100000 in
set_option maxHeartbeats 800000 in
theorem toflog_any (e p : Int) (_h0 : -9223372036854775808 ≤ e) (h1 : e ≤ 9223372036854775807) (_h2 : -9223372036854775808 ≤ p) (h3 : p ≤ 9223372036854775807) (w : World) :
    Calls Try.prog 9 #[.int .i64 e, .int .i64 p] w fun x w' => x = .returned (.string (mkS (offL e p))) ∧ Below w.heap.size w w' := by
  have hd := tdigits_mk e 6 h1
  have hq := tdigits_mk p 4 h3
  have he : offL e p = if digitsI e 6 = [] ∨ digitsI p 4 = [] then [] else [108, 111, 103, 45] ++ digitsI e 6 ++ [45] ++ digitsI p 4 := rfl
  have l1 := digits_len e 6
  have l2 := digits_len p 4
  have m1 := mkS_empty (digitsI e 6)
  have m2 := mkS_empty (digitsI p 4)
  obtain ⟨d, hdd⟩ : ∃ d, digitsI e 6 = d := ⟨_, rfl⟩
  obtain ⟨q, hqq⟩ : ∃ d, digitsI p 4 = d := ⟨_, rfl⟩
  rw [hdd] at hd he l1 m1
  rw [hqq] at hq he l2 m2
  rw [he]
  have s1 : (mkS d).size ≤ 9 := by rw [mkS_size]; exact l1
  have s2 : (mkS q).size ≤ 9 := by rw [mkS_size]; exact l2
  have hh := fun w => thead_any 2 (by omega) w
  have hhs : (headS 2).size = 4 := rfl
  have e1 : mkS ([108, 111, 103, 45] ++ d ++ [45] ++ q) = headS 2 ++ mkS d ++ ⟨#[45]⟩ ++ mkS q := str_ext (by simp only [app_list]; rfl)
  obtain ⟨G, hG⟩ : ∃ G, headS 2 = G := ⟨_, rfl⟩
  rw [hG] at hh hhs e1
  have HD := Lib.hid hd; have HQ := Lib.hid hq; have HH := Lib.hid hh
  clear hd hq he hdd hqq l1 l2 hh hG
  by_cases hn : d = []
  · rw [if_pos (.inl hn)]
    have t1 : (mkS d).toList.isEmpty = true := by rw [m1]; simp [hn]
    subst hn
    clear m1 m2 e1
    go_enter Try.func9, Try.ntmps9
    go_wp2_with fail
    refine (HD.out _).mono ?_
    rintro x w1 ⟨rfl, hb⟩
    go_wp2_with fail
    refine (onward hb (HQ.out _)).mono ?_
    rintro x w2 ⟨rfl, hb2⟩
    go_wp2
    go_ret
    exact ⟨rfl, hb2⟩
  by_cases hn2 : q = []
  · rw [if_pos (.inr hn2)]
    have t1 : (mkS d).toList.isEmpty = false := by rw [m1]; simp [hn]
    have t2 : (mkS q).toList.isEmpty = true := by rw [m2]; simp [hn2]
    subst hn2
    clear m1 m2 e1
    go_enter Try.func9, Try.ntmps9
    go_wp2_with fail
    refine (HD.out _).mono ?_
    rintro x w1 ⟨rfl, hb⟩
    go_wp2_with fail
    refine (onward hb (HQ.out _)).mono ?_
    rintro x w2 ⟨rfl, hb2⟩
    go_wp2
    go_ret
    exact ⟨rfl, hb2⟩
  rw [if_neg (fun h => h.elim hn hn2), e1]
  have t1 : (mkS d).toList.isEmpty = false := by rw [m1]; simp [hn]
  have t2 : (mkS q).toList.isEmpty = false := by rw [m2]; simp [hn2]
  clear m1 m2 e1 hn hn2
  obtain ⟨D, hD⟩ : ∃ D, mkS d = D := ⟨_, rfl⟩
  obtain ⟨Q, hQ⟩ : ∃ D, mkS q = D := ⟨_, rfl⟩
  rw [hD] at HD t1 s1 ⊢
  rw [hQ] at HQ t2 s2 ⊢
  clear hD hQ
  go_enter Try.func9, Try.ntmps9
  go_wp2_with fail
  refine (HD.out _).mono ?_
  rintro x w1 ⟨rfl, hb⟩
  go_wp2_with fail
  refine (onward hb (HQ.out _)).mono ?_
  rintro x w2 ⟨rfl, hb2⟩
  go_wp2_with fail
  refine (onward hb2 (HH.out _)).mono ?_
  rintro x w3 ⟨rfl, hb3⟩
  go_wp2
  go_ret
  exact ⟨rfl, hb3⟩
end Go.Proofs.Ytfbocmmdkhnaoaa
