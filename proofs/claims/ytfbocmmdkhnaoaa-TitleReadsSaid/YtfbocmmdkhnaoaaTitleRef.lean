/-
  Contracts of the document's small, May, User, OfCheck, OfLog and OfExport (layer 8).
-/
import Derived.Test.YtfbocmmdkhnaoaaTitleMath
import Derived.Test.YtfbocmmdkhnaoaaNumRef
namespace Go.Proofs.Ytfbocmmdkhnaoaa
open Go.RowKit

theorem smB_1 (b : Nat) (h1 : 97 ≤ b) (h2 : b ≤ 122) : smB b = true := by unfold smB; simp; omega
theorem smB_2 (b : Nat) (h1 : 48 ≤ b) (h2 : b ≤ 57) : smB b = true := by unfold smB; simp; omega
theorem smB_0 (b : Nat) (h1 : ¬ (97 ≤ b ∧ b ≤ 122)) (h2 : ¬ (48 ≤ b ∧ b ≤ 57)) : smB b = false := by unfold smB; simp; omega
set_option maxRecDepth 100000 in
set_option maxHeartbeats 400000 in
theorem rsmall_any (b : Nat) (hb : b < 256) (w : World) :
    Calls Try.prog 31 #[.int .u8 b] w fun e w' => e = .returned (.bool (smB b)) ∧ w = w' := by
  rcases (show b < 48 ∨ (48 ≤ b ∧ b ≤ 57) ∨ (57 < b ∧ b < 97) ∨ (97 ≤ b ∧ b ≤ 122) ∨ 122 < b by omega) with h | ⟨h, g⟩ | ⟨h, g⟩ | ⟨h, g⟩ | h
  · rw [smB_0 b (by omega) (by omega)]
    go_enter Try.func31, Try.ntmps31
    go_wp2
    go_ret
    exact ⟨by simp <;> omega, rfl⟩
  · rw [smB_2 b h g]
    go_enter Try.func31, Try.ntmps31
    go_wp2
    go_ret
    exact ⟨by simp <;> omega, rfl⟩
  · rw [smB_0 b (by omega) (by omega)]
    go_enter Try.func31, Try.ntmps31
    go_wp2
    go_ret
    exact ⟨by simp <;> omega, rfl⟩
  · rw [smB_1 b h g]
    go_enter Try.func31, Try.ntmps31
    go_wp2
    go_ret
    exact ⟨by simp <;> omega, rfl⟩
  · rw [smB_0 b (by omega) (by omega)]
    go_enter Try.func31, Try.ntmps31
    go_wp2
    go_ret
    exact ⟨by simp <;> omega, rfl⟩

set_option maxRecDepth 100000 in
set_option maxHeartbeats 800000 in
theorem ruser_any (s : ByteArray) (hs : s.size ≤ maxLen) (w : World) :
    Calls Try.prog 21 #[.string s] w fun e w' => e = .returned (.bool (userB s.data.toList)) ∧ w = w' := by
  have hlen : s.data.toList.length = s.size := by simp
  have HN := Lib.hid hlen; clear hlen
  unfold maxLen at hs
  go_enter Try.func21, Try.ntmps21
  go_wp2
  go_loop [3] (fun i => ∃ j : Nat, j ≤ s.size ∧ i = .int .i64 j ∧ allSm (s.data.toList.take j) = true) (fun i => s.size - (intOf i).toNat)
  case atStart => exact ⟨0, Nat.zero_le _, rfl, rfl⟩
  case round =>
    obtain ⟨j, hj, rfl, had⟩ := hrel
    by_cases hlt : j < s.size
    · have hjl : j < s.data.toList.length := by rw [HN.out]; exact hlt
      have hb := bt_get s j hlt
      have hb255 := s[j].toNat_lt
      have ha := allSm_take s.data.toList j hjl
      have hoff := allSm_off s.data.toList j hjl
      have hsm := rsmall_any s[j].toNat hb255
      rw [had, hb, Bool.true_and] at ha
      rw [hb] at hoff
      obtain ⟨c, hc⟩ : ∃ c, smB s[j].toNat = c := ⟨_, rfl⟩
      rw [hc] at ha hoff hsm
      have HA := Lib.hid ha; have HS := Lib.hid hsm; have HO := Lib.hid hoff
      clear ha hsm hoff hc had hb
      cases c with
      | true =>
        go_wp2_with (go_at_call 31; refine (HS.out _).mono ?_; rintro e w' ⟨rfl, rfl⟩)
        go_round
        case rel => exact ⟨j + 1, by omega, by go_num, HA.out⟩
        case measure => simp [intOf]; omega
      | false =>
        go_wp2_with (go_at_call 31; refine (HS.out _).mono ?_; rintro e w' ⟨rfl, rfl⟩)
        go_ret
        exact ⟨ret_bool (by unfold userB; rw [HO.out trivial]; rfl), rfl⟩
    · rw [List.take_of_length_le (by rw [HN.out]; omega)] at had
      have e : userB s.data.toList = (decide (1 ≤ s.size) && decide (s.size ≤ 16)) := by unfold userB; rw [had, HN.out, Bool.true_and]
      clear had
      rcases (show s.size < 1 ∨ (1 ≤ s.size ∧ s.size ≤ 16) ∨ 16 < s.size by omega) with h | ⟨h, g⟩ | h
      · have e2 : userB s.data.toList = false := by rw [e]; (try simp); (try omega)
        have HE := Lib.hid e2
        clear e e2
        go_wp2
        go_ret
        exact ⟨ret_bool (by rw [HE.out]; try (first | rfl | (simp; done) | (simp; omega))), rfl⟩
      · have e2 : userB s.data.toList = true := by rw [e]; (try simp); (try omega)
        have HE := Lib.hid e2
        clear e e2
        go_wp2
        go_ret
        exact ⟨ret_bool (by rw [HE.out]; try (first | rfl | (simp; done) | (simp; omega))), rfl⟩
      · have e2 : userB s.data.toList = false := by rw [e]; (try simp); (try omega)
        have HE := Lib.hid e2
        clear e e2
        go_wp2
        go_ret
        exact ⟨ret_bool (by rw [HE.out]; try (first | rfl | (simp; done) | (simp; omega))), rfl⟩
set_option maxRecDepth 100000 in
set_option maxHeartbeats 800000 in
theorem rmay_any (s : ByteArray) (hs : s.size ≤ maxLen) (w : World) :
    Calls Try.prog 19 #[.string s] w fun e w' => e = .returned (.bool (mayB s.data.toList)) ∧ w = w' := by
  have hlen : s.data.toList.length = s.size := by simp
  have HN := Lib.hid hlen; clear hlen
  unfold maxLen at hs
  go_enter Try.func19, Try.ntmps19
  go_wp2
  go_loop [3] (fun i => ∃ j : Nat, j ≤ s.size ∧ i = .int .i64 j ∧ allMy (s.data.toList.take j) = true) (fun i => s.size - (intOf i).toNat)
  case atStart => exact ⟨0, Nat.zero_le _, rfl, rfl⟩
  case round =>
    obtain ⟨j, hj, rfl, had⟩ := hrel
    by_cases hlt : j < s.size
    · have hjl : j < s.data.toList.length := by rw [HN.out]; exact hlt
      have hb := bt_get s j hlt
      have hb255 := s[j].toNat_lt
      have ha := allMy_take s.data.toList j hjl
      have hoff := allMy_off s.data.toList j hjl
      have hsm := rsmall_any s[j].toNat hb255
      rw [had, hb, Bool.true_and] at ha
      rw [hb] at hoff
      have hm : myB s[j].toNat = (smB s[j].toNat || s[j].toNat == 45 || s[j].toNat == 46) := rfl
      obtain ⟨c, hc⟩ : ∃ c, smB s[j].toNat = c := ⟨_, rfl⟩
      rw [hc] at hm hsm
      have HS := Lib.hid hsm
      clear hsm hc had hb
      rcases (show c = true ∨ (c = false ∧ s[j].toNat = 45) ∨ (c = false ∧ ¬ s[j].toNat = 45 ∧ s[j].toNat = 46) ∨ (c = false ∧ ¬ s[j].toNat = 45 ∧ ¬ s[j].toNat = 46) by
        rcases Bool.eq_false_or_eq_true c with h | h
        · exact .inl h
        · by_cases h1 : s[j].toNat = 45
          · exact .inr (.inl ⟨h, h1⟩)
          · by_cases h2 : s[j].toNat = 46
            · exact .inr (.inr (.inl ⟨h, h1, h2⟩))
            · exact .inr (.inr (.inr ⟨h, h1, h2⟩))) with h | ⟨h, h1⟩ | ⟨h, h1, h2⟩ | ⟨h, h1, h2⟩
      · subst h
        rw [hm] at ha
        have HA := Lib.hid ha
        clear ha hoff hm
        go_wp2_with (go_at_call 31; refine (HS.out _).mono ?_; rintro e w' ⟨rfl, rfl⟩)
        go_round
        case rel => exact ⟨j + 1, by omega, by go_num, by rw [HA.out]; rfl⟩
        case measure => simp [intOf]; omega
      · subst h
        have t1 : (((s[j]'hlt).toNat : Int) != 45) = false := by rw [h1]; rfl
        have t2 : ((s[j]'hlt).toNat != 45) = false := by rw [h1]; rfl
        rw [hm, h1] at ha
        have HA := Lib.hid ha
        clear ha hoff hm h1
        go_wp2_with (go_at_call 31; refine (HS.out _).mono ?_; rintro e w' ⟨rfl, rfl⟩)
        go_round
        case rel => exact ⟨j + 1, by omega, by go_num, by rw [HA.out]; rfl⟩
        case measure => simp [intOf]; omega
      · subst h
        have t1 : (((s[j]'hlt).toNat : Int) != 45) = true := by rw [bne_iff_ne]; omega
        have t2 : ((s[j]'hlt).toNat != 45) = true := by rw [bne_iff_ne]; exact h1
        have t3 : (((s[j]'hlt).toNat : Int) != 46) = false := by rw [h2]; rfl
        have t4 : ((s[j]'hlt).toNat != 46) = false := by rw [h2]; rfl
        rw [hm, h2] at ha
        have HA := Lib.hid ha
        clear ha hoff hm h1 h2
        go_wp2_with (go_at_call 31; refine (HS.out _).mono ?_; rintro e w' ⟨rfl, rfl⟩)
        go_round
        case rel => exact ⟨j + 1, by omega, by go_num, by rw [HA.out]; rfl⟩
        case measure => simp [intOf]; omega
      · subst h
        have t1 : (((s[j]'hlt).toNat : Int) != 45) = true := by rw [bne_iff_ne]; omega
        have t2 : ((s[j]'hlt).toNat != 45) = true := by rw [bne_iff_ne]; exact h1
        have t3 : (((s[j]'hlt).toNat : Int) != 46) = true := by rw [bne_iff_ne]; omega
        have t4 : ((s[j]'hlt).toNat != 46) = true := by rw [bne_iff_ne]; exact h2
        have ho := hoff (by rw [hm]; simp [h1, h2])
        have HO := Lib.hid ho
        clear ha hoff hm h1 h2 ho
        go_wp2_with (go_at_call 31; refine (HS.out _).mono ?_; rintro e w' ⟨rfl, rfl⟩)
        go_ret
        exact ⟨ret_bool (by unfold mayB; rw [HO.out]; rfl), rfl⟩
    · rw [List.take_of_length_le (by rw [HN.out]; omega)] at had
      have e : mayB s.data.toList = (decide (1 ≤ s.size) && decide (s.size ≤ 24)) := by unfold mayB; rw [had, HN.out, Bool.true_and]
      clear had
      rcases (show s.size < 1 ∨ (1 ≤ s.size ∧ s.size ≤ 24) ∨ 24 < s.size by omega) with h | ⟨h, g⟩ | h
      · have e2 : mayB s.data.toList = false := by rw [e]; (try simp); (try omega)
        have HE := Lib.hid e2
        clear e e2
        go_wp2
        go_ret
        exact ⟨ret_bool (by rw [HE.out]; try (first | rfl | (simp; done) | (simp; omega))), rfl⟩
      · have e2 : mayB s.data.toList = true := by rw [e]; (try simp); (try omega)
        have HE := Lib.hid e2
        clear e e2
        go_wp2
        go_ret
        exact ⟨ret_bool (by rw [HE.out]; try (first | rfl | (simp; done) | (simp; omega))), rfl⟩
      · have e2 : mayB s.data.toList = false := by rw [e]; (try simp); (try omega)
        have HE := Lib.hid e2
        clear e e2
        go_wp2
        go_ret
        exact ⟨ret_bool (by rw [HE.out]; try (first | rfl | (simp; done) | (simp; omega))), rfl⟩

/-- A list of bytes as a text. -/
def mkS (l : List UInt8) : ByteArray := ⟨l.toArray⟩
theorem mkS_list (l : List UInt8) : (mkS l).data.toList = l := rfl
theorem mkS_size (l : List UInt8) : (mkS l).size = l.length := by simp [mkS, ByteArray.size]
theorem mkS_empty (l : List UInt8) : (mkS l).toList.isEmpty = decide (l = []) := by
  rw [ByteArray.toList_eq, mkS_list]
  cases l <;> simp
theorem rdigits_mk (n v : Int) (hn : n ≤ 9223372036854775807) (w : World) :
    Calls Try.prog 24 #[.int .i64 n, .int .i64 v] w fun e w' => e = .returned (.string (mkS (digitsI n v))) ∧ Below w.heap.size w w' := rdigits_any n v hn w
set_option maxRecDepth 100000 in
set_option maxHeartbeats 400000 in
theorem rofcheck_any (e : Int) (h1 : e ≤ 9223372036854775807) (w : World) :
    Calls Try.prog 8 #[.int .i64 e] w fun x w' => x = .returned (.string (mkS (offC e))) ∧ Below w.heap.size w w' := by
  have hd := rdigits_mk e 6 h1
  have he : offC e = if digitsI e 6 = [] then [] else [99, 104, 101, 99, 107, 45] ++ digitsI e 6 := rfl
  have hl : (digitsI e 6).length ≤ 6 := by
    unfold digitsI
    split
    · simp
    · split
      · rw [dg_length]; decide
      · simp
  have hm := mkS_empty (digitsI e 6)
  obtain ⟨d, hdd⟩ : ∃ d, digitsI e 6 = d := ⟨_, rfl⟩
  rw [hdd] at hd he hl hm
  rw [he]
  have hsz : (mkS d).size ≤ 6 := by rw [mkS_size]; exact hl
  have HD := Lib.hid hd
  clear hd he hdd hl
  by_cases hn : d = []
  · rw [if_pos hn]
    have t1 : (mkS d).toList.isEmpty = true := by rw [hm]; simp [hn]
    subst hn
    clear hm
    go_enter Try.func8, Try.ntmps8
    go_wp2_with fail
    refine (HD.out _).mono ?_
    rintro x w1 ⟨rfl, hb⟩
    go_wp2
    go_ret
    exact ⟨rfl, hb⟩
  · rw [if_neg hn]
    have t1 : (mkS d).toList.isEmpty = false := by rw [hm]; simp [hn]
    have e1 : mkS ([99, 104, 101, 99, 107, 45] ++ d) = mkS [99, 104, 101, 99, 107, 45] ++ mkS d := str_ext (by rw [app_list]; rfl)
    rw [e1]
    clear hm hn e1
    obtain ⟨D, hD⟩ : ∃ D, mkS d = D := ⟨_, rfl⟩
    rw [hD] at HD t1 hsz ⊢
    clear hD
    go_enter Try.func8, Try.ntmps8
    go_wp2_with fail
    refine (HD.out _).mono ?_
    rintro x w1 ⟨rfl, hb⟩
    go_wp2
    go_ret
    exact ⟨rfl, hb⟩

set_option maxRecDepth 100000 in
set_option maxHeartbeats 400000 in
theorem rofexport_any (s : ByteArray) (hs : s.size ≤ maxLen) (w : World) :
    Calls Try.prog 12 #[.string s] w fun x w' => x = .returned (.string (mkS (offX s.data.toList))) ∧ w = w' := by
  have hu := ruser_any s hs
  have he : offX s.data.toList = if userB s.data.toList = true then [120, 45] ++ s.data.toList else [] := rfl
  have hl : userB s.data.toList = true → s.size ≤ 16 := by
    intro h
    unfold userB at h
    simp only [Bool.and_eq_true, decide_eq_true_eq] at h
    have := h.2
    simpa using this
  obtain ⟨c, hc⟩ : ∃ c, userB s.data.toList = c := ⟨_, rfl⟩
  rw [hc] at hu he hl
  rw [he]
  have HU := Lib.hid hu
  clear hu he hc
  cases c with
  | true =>
    have hsz := hl rfl
    rw [if_pos rfl]
    have e1 : mkS ([120, 45] ++ s.data.toList) = mkS [120, 45] ++ s := str_ext (by rw [app_list]; rfl)
    rw [e1]
    clear e1 hl
    go_enter Try.func12, Try.ntmps12
    go_wp2_with fail
    refine (HU.out _).mono ?_
    rintro x w1 ⟨rfl, rfl⟩
    go_wp2
    go_ret
    exact ⟨rfl, rfl⟩
  | false =>
    rw [if_neg (by simp)]
    clear hl
    go_enter Try.func12, Try.ntmps12
    go_wp2_with fail
    refine (HU.out _).mono ?_
    rintro x w1 ⟨rfl, rfl⟩
    go_wp2
    go_ret
    exact ⟨rfl, rfl⟩

theorem digits_len (e v : Int) : (digitsI e v).length ≤ 9 := by
  unfold digitsI
  split
  · simp
  · split
    · rw [dg_length]; omega
    · simp
set_option maxRecDepth 100000 in
set_option maxHeartbeats 400000 in
theorem roflog_any (e p : Int) (h1 : e ≤ 9223372036854775807) (h2 : p ≤ 9223372036854775807) (w : World) :
    Calls Try.prog 10 #[.int .i64 e, .int .i64 p] w fun x w' => x = .returned (.string (mkS (offL e p))) ∧ Below w.heap.size w w' := by
  have hd := rdigits_mk e 6 h1
  have hq := rdigits_mk p 4 h2
  have he : offL e p = if digitsI e 6 = [] ∨ digitsI p 4 = [] then [] else [108, 111, 103, 45] ++ digitsI e 6 ++ [45] ++ digitsI p 4 := rfl
  have l1 := digits_len e 6
  have l2 := digits_len p 4
  have m1 := mkS_empty (digitsI e 6)
  have m2 := mkS_empty (digitsI p 4)
  obtain ⟨d, hdd⟩ : ∃ d, digitsI e 6 = d := ⟨_, rfl⟩
  obtain ⟨q, hqq⟩ : ∃ d, digitsI p 4 = d := ⟨_, rfl⟩
  rw [hdd] at hd he l1 m1
  rw [hqq] at hq he l2 m2
  rw [he]
  have s1 : (mkS d).size ≤ 9 := by rw [mkS_size]; exact l1
  have s2 : (mkS q).size ≤ 9 := by rw [mkS_size]; exact l2
  have e1 : mkS ([108, 111, 103, 45] ++ d ++ [45] ++ q) = mkS [108, 111, 103, 45] ++ mkS d ++ mkS [45] ++ mkS q := str_ext (by simp only [app_list]; rfl)
  have HD := Lib.hid hd; have HQ := Lib.hid hq
  clear hd hq he hdd hqq l1 l2
  obtain ⟨D, hD⟩ : ∃ D, mkS d = D := ⟨_, rfl⟩
  obtain ⟨E, hE⟩ : ∃ D, mkS q = D := ⟨_, rfl⟩
  rw [hD] at HD m1 s1 e1
  rw [hE] at HQ m2 s2 e1
  clear hD hE
  by_cases hn : d = [] ∨ q = []
  · rw [if_pos hn]
    clear e1
    by_cases hd0 : d = []
    · have t1 : D.toList.isEmpty = true := by rw [m1]; simp [hd0]
      clear m1 m2 hn hd0
      go_enter Try.func10, Try.ntmps10
      go_wp2_with fail
      refine (HD.out _).mono ?_
      rintro x w1 ⟨rfl, hb⟩
      go_wp2_with fail
      refine (onward hb (HQ.out _)).mono ?_
      rintro x w2 ⟨rfl, hb2⟩
      go_wp2
      go_ret
      exact ⟨rfl, hb2⟩
    · have t1 : D.toList.isEmpty = false := by rw [m1]; simp [hd0]
      have t2 : E.toList.isEmpty = true := by rw [m2]; simp [hn.resolve_left hd0]
      clear m1 m2 hn hd0
      go_enter Try.func10, Try.ntmps10
      go_wp2_with fail
      refine (HD.out _).mono ?_
      rintro x w1 ⟨rfl, hb⟩
      go_wp2_with fail
      refine (onward hb (HQ.out _)).mono ?_
      rintro x w2 ⟨rfl, hb2⟩
      go_wp2
      go_ret
      exact ⟨rfl, hb2⟩
  · rw [if_neg hn, e1]
    rw [not_or] at hn
    have t1 : D.toList.isEmpty = false := by rw [m1]; simp [hn.1]
    have t2 : E.toList.isEmpty = false := by rw [m2]; simp [hn.2]
    clear m1 m2 hn e1
    go_enter Try.func10, Try.ntmps10
    go_wp2_with fail
    refine (HD.out _).mono ?_
    rintro x w1 ⟨rfl, hb⟩
    go_wp2_with fail
    refine (onward hb (HQ.out _)).mono ?_
    rintro x w2 ⟨rfl, hb2⟩
    go_wp2
    go_ret
    exact ⟨rfl, hb2⟩
end Go.Proofs.Ytfbocmmdkhnaoaa
