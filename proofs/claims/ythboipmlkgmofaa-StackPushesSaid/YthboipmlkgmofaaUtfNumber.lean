/-
  Contract of the document's 'number': what one to four bytes would be as a rune; -1: they can't.
-/
import Derived.Test.YthboipmlkgmofaaLawPuts
namespace Go.Proofs.Ythboipmlkgmofaa
open Go.RowKit

/-- What some bytes would be as a rune. -/
def baseOf (n : Nat) : Nat := if n = 2 then 192 else if n = 3 then 224 else 240
def numI (l : List UInt8) : Int :=
  if l.length = 1 then bt l 0 else if bt l 0 < baseOf l.length then -1 else acc l 0 (bt l 0 - baseOf l.length) (l.length - 1)

theorem acc_le (l : List UInt8) (v : Nat) (hv : v < 256) (j : Nat) (hj : j ≤ 3) : acc l 0 v j < 256 * 262144 + 262144 := by
  match j, hj with
  | 0, _ => simp only [acc]; omega
  | 1, _ => simp only [acc]; omega
  | 2, _ => simp only [acc]; omega
  | 3, _ => simp only [acc]; omega

set_option maxRecDepth 100000 in
set_option maxHeartbeats 400000 in
theorem number_1 (s : ByteArray) (hs : s.size = 1) (w : World) :
    Calls Try.prog 48 #[.string s] w fun e w' => e = .returned (.int .i64 (numI s.data.toList)) ∧ w = w' := by
  have hlen : s.data.toList.length = s.size := by simp
  have h0 : 0 < s.size := by omega
  have e : numI s.data.toList = (s[0].toNat : Nat) := by unfold numI; rw [if_pos (by omega), bt_get s 0 h0]
  rw [e]
  have hz : ((s.size : Int) == 1) = true := by simp; omega
  have hb0 := s[0].toNat_lt
  clear hs hlen e
  go_enter Try.func48, Try.ntmps48
  go_wp2
  go_ret
  exact ⟨rfl, rfl⟩

set_option maxRecDepth 100000 in
set_option maxHeartbeats 400000 in
theorem number_more (s : ByteArray) (n : Nat) (hs : s.size = n) (h1 : 2 ≤ n) (h4 : n ≤ 4) (w : World) :
    Calls Try.prog 48 #[.string s] w fun e w' => e = .returned (.int .i64 (numI s.data.toList)) ∧ w = w' := by
  have hlen : s.data.toList.length = s.size := by simp
  have h0 : 0 < s.size := by omega
  obtain ⟨r, hr⟩ : ∃ r, numI s.data.toList = r := ⟨_, rfl⟩
  rw [hr]
  have hb := bt_get s 0 h0
  have hb0 := s[0].toNat_lt
  obtain ⟨b0, hb0'⟩ : ∃ b, s[0].toNat = b := ⟨_, rfl⟩
  unfold numI at hr
  rw [if_neg (by omega), hlen, hs, hb] at hr
  have hz1 : ((s.size : Int) == 1) = false := by simp; omega
  have hlo : 2 ≤ s.size := by omega
  have hhi : s.size ≤ 4 := by omega
  by_cases hlt : s[0].toNat < baseOf n
  · rw [if_pos hlt] at hr
    have HR := Lib.hid hr; clear hr
    by_cases e2 : n = 2
    · have hz2 : ((s.size : Int) == 2) = true := by simp; omega
      rw [e2] at hlt
      have hl : s[0].toNat < 192 := hlt
      clear hb hb0' hlen hs hlt e2
      go_enter Try.func48, Try.ntmps48
      go_wp2
      go_ret
      exact ⟨ret_int HR.out, rfl⟩
    have hz2 : ((s.size : Int) == 2) = false := by simp; omega
    by_cases e3 : n = 3
    · have hz3 : ((s.size : Int) == 3) = true := by simp; omega
      rw [e3] at hlt
      have hl : s[0].toNat < 224 := hlt
      clear hb hb0' hlen hs hlt e2 e3
      go_enter Try.func48, Try.ntmps48
      go_wp2
      go_ret
      exact ⟨ret_int HR.out, rfl⟩
    have hz3 : ((s.size : Int) == 3) = false := by simp; omega
    obtain rfl : n = 4 := by omega
    have hl : s[0].toNat < 240 := hlt
    clear hb hb0' hlen hs hlt e2 e3
    go_enter Try.func48, Try.ntmps48
    go_wp2
    go_ret
    exact ⟨ret_int HR.out, rfl⟩
  · rw [if_neg hlt] at hr
    rw [show acc s.data.toList 0 (s[0].toNat - baseOf n) (n - 1) = acc s.data.toList 0 (s[0].toNat - baseOf n) (s.size - 1) by rw [hs]] at hr
    by_cases e2 : n = 2
    · have hz2 : ((s.size : Int) == 2) = true := by simp; omega
      rw [e2] at hlt hr
      have hl : 192 ≤ s[0].toNat := Nat.not_lt.1 hlt
      clear hlt
      have HR := Lib.hid hr; clear hr
      clear hb hb0' hlen hs e2
      have HV : Hid (acc s.data.toList 0 (s[0].toNat - 192) 0 = s[0].toNat - 192) := rfl
      go_enter Try.func48, Try.ntmps48
      go_wp2
      go_loop [3, 4] (fun f i => ∃ j : Nat, j + 1 ≤ s.size ∧ i = .int .i64 (j + 1 : Nat) ∧ f = .int .i64 (acc s.data.toList 0 (s[0].toNat - 192) j)) (fun _ i => s.size - (intOf i).toNat)
      case atStart => exact ⟨0, by omega, rfl, by rw [HV.out]; go_num⟩
      case round =>
        obtain ⟨j, hj, rfl, rfl⟩ := hrel
        by_cases hlt : j + 1 < s.size
        · have hbj := bt_get s (j + 1) hlt
          have hac := acc_le s.data.toList (s[0].toNat - 192) (by omega) j (by omega)
          have hb255 := s[j + 1].toNat_lt
          obtain ⟨ac, ha⟩ : ∃ ac, acc s.data.toList 0 (s[0].toNat - 192) j = ac := ⟨_, rfl⟩
          rw [ha] at hac ⊢
          have HA := Lib.hid ha; clear ha
          have HJ := Lib.hid hbj; clear hbj
          go_wp2
          go_round
          case rel =>
            refine ⟨j + 1, by omega, by go_num, ?_⟩
            rw [show acc s.data.toList 0 (s[0].toNat - 192) (j + 1) = acc s.data.toList 0 (s[0].toNat - 192) j * 64 + bt s.data.toList (0 + 1 + j) % 64 from rfl, HA.out, show 0 + 1 + j = j + 1 by omega, HJ.out]
            go_num
          case measure => simp [intOf]; omega
        · have hend : s.size ≤ j + 1 := by omega
          go_wp2
          go_ret
          exact ⟨ret_int (by rw [← HR.out, show s.size - 1 = j by omega]; rfl), rfl⟩
    have hz2 : ((s.size : Int) == 2) = false := by simp; omega
    by_cases e3 : n = 3
    · have hz3 : ((s.size : Int) == 3) = true := by simp; omega
      rw [e3] at hlt hr
      have hl : 224 ≤ s[0].toNat := Nat.not_lt.1 hlt
      clear hlt e3
      have HR := Lib.hid hr; clear hr
      clear hb hb0' hlen hs e2
      have HV : Hid (acc s.data.toList 0 (s[0].toNat - 224) 0 = s[0].toNat - 224) := rfl
      go_enter Try.func48, Try.ntmps48
      go_wp2
      go_loop [3, 4] (fun f i => ∃ j : Nat, j + 1 ≤ s.size ∧ i = .int .i64 (j + 1 : Nat) ∧ f = .int .i64 (acc s.data.toList 0 (s[0].toNat - 224) j)) (fun _ i => s.size - (intOf i).toNat)
      case atStart => exact ⟨0, by omega, rfl, by rw [HV.out]; go_num⟩
      case round =>
        obtain ⟨j, hj, rfl, rfl⟩ := hrel
        by_cases hlt : j + 1 < s.size
        · have hbj := bt_get s (j + 1) hlt
          have hac := acc_le s.data.toList (s[0].toNat - 224) (by omega) j (by omega)
          have hb255 := s[j + 1].toNat_lt
          obtain ⟨ac, ha⟩ : ∃ ac, acc s.data.toList 0 (s[0].toNat - 224) j = ac := ⟨_, rfl⟩
          rw [ha] at hac ⊢
          have HA := Lib.hid ha; clear ha
          have HJ := Lib.hid hbj; clear hbj
          go_wp2
          go_round
          case rel =>
            refine ⟨j + 1, by omega, by go_num, ?_⟩
            rw [show acc s.data.toList 0 (s[0].toNat - 224) (j + 1) = acc s.data.toList 0 (s[0].toNat - 224) j * 64 + bt s.data.toList (0 + 1 + j) % 64 from rfl, HA.out, show 0 + 1 + j = j + 1 by omega, HJ.out]
            go_num
          case measure => simp [intOf]; omega
        · have hend : s.size ≤ j + 1 := by omega
          go_wp2
          go_ret
          exact ⟨ret_int (by rw [← HR.out, show s.size - 1 = j by omega]; rfl), rfl⟩
    have hz3 : ((s.size : Int) == 3) = false := by simp; omega
    obtain rfl : n = 4 := by omega
    have hl : 240 ≤ s[0].toNat := Nat.not_lt.1 hlt
    clear hlt e3
    have HR := Lib.hid hr; clear hr
    clear hb hb0' hlen hs e2
    have HV : Hid (acc s.data.toList 0 (s[0].toNat - 240) 0 = s[0].toNat - 240) := rfl
    go_enter Try.func48, Try.ntmps48
    go_wp2
    go_loop [3, 4] (fun f i => ∃ j : Nat, j + 1 ≤ s.size ∧ i = .int .i64 (j + 1 : Nat) ∧ f = .int .i64 (acc s.data.toList 0 (s[0].toNat - 240) j)) (fun _ i => s.size - (intOf i).toNat)
    case atStart => exact ⟨0, by omega, rfl, by rw [HV.out]; go_num⟩
    case round =>
      obtain ⟨j, hj, rfl, rfl⟩ := hrel
      by_cases hlt : j + 1 < s.size
      · have hbj := bt_get s (j + 1) hlt
        have hac := acc_le s.data.toList (s[0].toNat - 240) (by omega) j (by omega)
        have hb255 := s[j + 1].toNat_lt
        obtain ⟨ac, ha⟩ : ∃ ac, acc s.data.toList 0 (s[0].toNat - 240) j = ac := ⟨_, rfl⟩
        rw [ha] at hac ⊢
        have HA := Lib.hid ha; clear ha
        have HJ := Lib.hid hbj; clear hbj
        go_wp2
        go_round
        case rel =>
          refine ⟨j + 1, by omega, by go_num, ?_⟩
          rw [show acc s.data.toList 0 (s[0].toNat - 240) (j + 1) = acc s.data.toList 0 (s[0].toNat - 240) j * 64 + bt s.data.toList (0 + 1 + j) % 64 from rfl, HA.out, show 0 + 1 + j = j + 1 by omega, HJ.out]
          go_num
        case measure => simp [intOf]; omega
      · have hend : s.size ≤ j + 1 := by omega
        go_wp2
        go_ret
        exact ⟨ret_int (by rw [← HR.out, show s.size - 1 = j by omega]; rfl), rfl⟩
theorem number_any (s : ByteArray) (h1 : 1 ≤ s.size) (h4 : s.size ≤ 4) (w : World) :
    Calls Try.prog 48 #[.string s] w fun e w' => e = .returned (.int .i64 (numI s.data.toList)) ∧ w = w' := by
  by_cases h : s.size = 1
  · exact number_1 s h w
  · exact number_more s s.size rfl (by omega) h4 w
end Go.Proofs.Ythboipmlkgmofaa
