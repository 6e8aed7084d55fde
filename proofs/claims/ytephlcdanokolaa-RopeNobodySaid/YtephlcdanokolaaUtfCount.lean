/-
  Contracts of Runes and Lines, the program's and the document's.
-/
import Derived.Test.YtephlcdanokolaaUtfBad
namespace Go.Proofs.Ytephlcdanokolaa
open Go.RowKit

theorem runes_skip (l : List UInt8) (k j : Nat) (h : k + j ≤ l.length) (on : ∀ m, m < j → 128 ≤ bt l (k + m) ∧ bt l (k + m) ≤ 191) : runes (l.take (k + j)) = runes (l.take k) ∧ lines (l.take (k + j)) = lines (l.take k) := by
  induction j with
  | zero => exact ⟨rfl, rfl⟩
  | succ j ih =>
    obtain ⟨i1, i2⟩ := ih (by omega) (fun m hm => on m (by omega))
    have g := on j (by omega)
    rw [show k + (j + 1) = (k + j) + 1 by omega, runes_succ _ _ (by omega), lines_succ _ _ (by omega), if_pos g, if_neg (by omega), i1, i2]
    exact ⟨rfl, rfl⟩

/-- How many bytes a range over a text steps on. -/
def width (l : List UInt8) (p : Nat) : Nat := if (tkl (l.drop p)).2 = 0 then 1 else (tkl (l.drop p)).2
theorem decode_width (s : ByteArray) (p : Nat) (h : p < s.size) : (Utf8.decode s p).2 = width s.data.toList p := by
  rw [decode_tk s p h]; unfold width; split <;> rfl
theorem decode_ten (s : ByteArray) (p : Nat) (h : p < s.size) : (Utf8.decode s p).1 = 10 ↔ bt s.data.toList p = 10 := by
  rw [decode_tk s p h]
  have hl : p < s.data.toList.length := by simpa using h
  rw [tkl_drop _ _ hl]
  rcases tk_cases (bt s.data.toList p) (bt s.data.toList (p + 1)) (bt s.data.toList (p + 1 + 1)) (bt s.data.toList (p + 1 + 2)) with ⟨g1, e⟩ | ⟨g1, g2, g3, g4, e⟩ | ⟨g1, g2, g3, g4, g5, g6, g7, g8, e⟩ | ⟨g1, g2, g3, g4, g5, g6, g7, g8, g9, g10, e⟩ | ⟨g1, _, _, _, e⟩
  all_goals rw [e]; simp only [if_pos]
  · simp
  · simp; omega
  · simp; omega
  · simp; omega
  · simp; omega
theorem width_step (l : List UInt8) (p : Nat) (h : p < l.length) :
    1 ≤ width l p ∧ p + width l p ≤ l.length ∧ runes (l.take (p + width l p)) = runes (l.take p) + (if 128 ≤ bt l p ∧ bt l p ≤ 191 then 0 else 1) ∧ lines (l.take (p + width l p)) = lines (l.take p) + (if bt l p = 10 then 1 else 0) := by
  unfold width
  by_cases hz : (tkl (l.drop p)).2 = 0
  · rw [if_pos hz]
    exact ⟨Nat.le_refl _, h, runes_succ l p h, lines_succ l p h⟩
  · rw [if_neg hz]
    have hle := tkl_le (l.drop p)
    rw [List.length_drop] at hle
    rw [tkl_drop l p h] at hz hle ⊢
    obtain ⟨g0, g1, g2, g3⟩ := tk_on _ _ _ _ hz
    have h4 := tk_le (bt l p) (bt l (p + 1)) (bt l (p + 1 + 1)) (bt l (p + 1 + 2))
    obtain ⟨n, hn⟩ : ∃ n, (tk (bt l p) (bt l (p + 1)) (bt l (p + 1 + 1)) (bt l (p + 1 + 2))).2 = n := ⟨_, rfl⟩
    rw [hn] at hz hle h4 g1 g2 g3 ⊢
    have sk := runes_skip l (p + 1) (n - 1) (by omega) (fun m hm => by
      obtain rfl | rfl | rfl : m = 0 ∨ m = 1 ∨ m = 2 := by omega
      · exact g1 (by omega)
      · exact g2 (by omega)
      · exact g3 (by omega))
    rw [show p + 1 + (n - 1) = p + n by omega] at sk
    refine ⟨by omega, by omega, ?_, ?_⟩
    · rw [sk.1, runes_succ l p h]
    · rw [sk.2, lines_succ l p h]

theorem runes_int {a b : Nat} (h : a = b) : (a : Int) = b := by rw [h]
set_option maxRecDepth 100000 in
set_option maxHeartbeats 400000 in
theorem runes_any (s : ByteArray) (hs : s.size ≤ maxLen) (w : World) :
    Calls Try.prog 94 #[.string s] w fun e w' => e = .returned (.int .i64 (runes s.data.toList)) ∧ Below w.heap.size w w' := by
  have hlen : s.data.toList.length = s.size := by simp
  have HN := Lib.hid hlen; clear hlen
  unfold maxLen at hs
  go_enter Try.func94, Try.ntmps94
  go_wp2
  go_loopw [3] (fun n wr => ∃ pos : Nat, pos ≤ s.size ∧ wr = w.iter s pos ∧ n = .int .i64 (runes (s.data.toList.take pos))) (fun _ wr => s.size - wr.iterPos w.heap.size)
  case atStart => exact ⟨0, Nat.zero_le _, rfl, rfl⟩
  case round =>
    obtain ⟨pos, hle, rfl, rfl⟩ := hrel
    have hrl := runes_le (s.data.toList.take pos)
    rw [List.length_take] at hrl
    by_cases hp : pos < s.size
    · have hb := bt_get s pos hp
      obtain ⟨k1, k2, k3, _⟩ := width_step s.data.toList pos (by rw [HN.out]; exact hp)
      rw [HN.out] at k2
      rw [hb] at k3
      have hnx0 := fun ty => run_next_any (P := Try.prog) w s pos ty hp
      rw [decode_width s pos hp] at hnx0
      obtain ⟨x, hx⟩ : ∃ x, runes (s.data.toList.take pos) = x := ⟨_, rfl⟩
      obtain ⟨d, hd⟩ : ∃ d, width s.data.toList pos = d := ⟨_, rfl⟩
      rw [hx] at k3 hrl ⊢
      rw [hd] at k1 k2 k3 hnx0
      have hx2 : x < 9223372036854775807 := by omega
      clear hb hx hd hrl
      by_cases g : 128 ≤ s[pos].toNat ∧ s[pos].toNat ≤ 191
      · rw [if_pos g] at k3
        have K3 := Lib.hid k3; clear k3
        obtain ⟨g1, g2⟩ := g
        go_wp2_with (go_at_call 89; refine (goesOn_yes _ g1 g2 _).mono ?_; rintro e w' ⟨rfl, rfl⟩)
        go_roundw
        case rel => exact ⟨pos + d, k2, rfl, by rw [K3.out]; rfl⟩
        case measure => simp; omega
      · rw [if_neg g] at k3
        have K3 := Lib.hid k3; clear k3
        have G := Lib.hid g; clear g
        go_wp2_with (go_at_call 89; refine (goesOn_no _ G.out _).mono ?_; rintro e w' ⟨rfl, rfl⟩)
        go_roundw
        case rel => exact ⟨pos + d, k2, rfl, by rw [K3.out]; go_num⟩
        case measure => simp; omega
    · have hnx0 := fun ty => run_next_end (P := Try.prog) w s pos ty hp
      have hend : s.data.toList.take pos = s.data.toList := List.take_of_length_le (by rw [HN.out]; omega)
      rw [hend]
      clear hend hrl
      go_wp2
      go_ret
      exact ⟨rfl, (Below.refl _ _).alloc (Nat.le_refl _) _⟩

set_option maxRecDepth 100000 in
set_option maxHeartbeats 400000 in
theorem lines_any (s : ByteArray) (hs : s.size ≤ maxLen) (w : World) :
    Calls Try.prog 95 #[.string s] w fun e w' => e = .returned (.int .i64 (lines s.data.toList)) ∧ Below w.heap.size w w' := by
  have hlen : s.data.toList.length = s.size := by simp
  have HN := Lib.hid hlen; clear hlen
  unfold maxLen at hs
  go_enter Try.func95, Try.ntmps95
  go_wp2
  go_loopw [3] (fun n wr => ∃ pos : Nat, pos ≤ s.size ∧ wr = w.iter s pos ∧ n = .int .i64 (lines (s.data.toList.take pos))) (fun _ wr => s.size - wr.iterPos w.heap.size)
  case atStart => exact ⟨0, Nat.zero_le _, rfl, rfl⟩
  case round =>
    obtain ⟨pos, hle, rfl, rfl⟩ := hrel
    have hrl := lines_le (s.data.toList.take pos)
    rw [List.length_take] at hrl
    by_cases hp : pos < s.size
    · obtain ⟨k1, k2, _, k3⟩ := width_step s.data.toList pos (by rw [HN.out]; exact hp)
      rw [HN.out] at k2
      have ht := decode_ten s pos hp
      have hnx0 := fun ty => run_next_any (P := Try.prog) w s pos ty hp
      rw [decode_width s pos hp] at hnx0
      obtain ⟨x, hx⟩ : ∃ x, lines (s.data.toList.take pos) = x := ⟨_, rfl⟩
      obtain ⟨d, hd⟩ : ∃ d, width s.data.toList pos = d := ⟨_, rfl⟩
      obtain ⟨c, hc⟩ : ∃ c, (Utf8.decode s pos).1 = c := ⟨_, rfl⟩
      rw [hx] at k3 hrl ⊢
      rw [hd] at k1 k2 k3 hnx0
      rw [hc] at hnx0 ht
      have hx2 : x < 9223372036854775807 := by omega
      clear hx hd hrl hc
      by_cases g : bt s.data.toList pos = 10
      · rw [if_pos g] at k3
        have K3 := Lib.hid k3; clear k3
        have hq : ((c : Int) == 10) = true := by simp; have := ht.2 g; omega
        clear ht g
        go_wp2
        go_roundw
        case rel => exact ⟨pos + d, k2, rfl, by rw [K3.out]; go_num⟩
        case measure => simp; omega
      · rw [if_neg g] at k3
        have K3 := Lib.hid k3; clear k3
        have hq : ((c : Int) == 10) = false := by
          have : c ≠ 10 := fun e => g (ht.1 e)
          simp; omega
        clear ht g
        go_wp2
        go_roundw
        case rel => exact ⟨pos + d, k2, rfl, by rw [K3.out]; rfl⟩
        case measure => simp; omega
    · have hnx0 := fun ty => run_next_end (P := Try.prog) w s pos ty hp
      have hend : s.data.toList.take pos = s.data.toList := List.take_of_length_le (by rw [HN.out]; omega)
      rw [hend]
      clear hend hrl
      go_wp2
      go_ret
      exact ⟨rfl, (Below.refl _ _).alloc (Nat.le_refl _) _⟩

set_option maxRecDepth 100000 in
set_option maxHeartbeats 400000 in
theorem rrunes_any (s : ByteArray) (hs : s.size ≤ maxLen) (w : World) :
    Calls Try.prog 38 #[.string s] w fun e w' => e = .returned (.int .i64 (runes s.data.toList)) ∧ w = w' := by
  have hlen : s.data.toList.length = s.size := by simp
  have HN := Lib.hid hlen; clear hlen
  unfold maxLen at hs
  go_enter Try.func38, Try.ntmps38
  go_wp2
  go_loop [3, 4] (fun n i => ∃ pos : Nat, pos ≤ s.size ∧ i = .int .i64 pos ∧ n = .int .i64 (runes (s.data.toList.take pos))) (fun _ i => s.size - (intOf i).toNat)
  case atStart => exact ⟨0, Nat.zero_le _, rfl, rfl⟩
  case round =>
    obtain ⟨pos, hle, rfl, rfl⟩ := hrel
    have hrl := runes_le (s.data.toList.take pos)
    rw [List.length_take] at hrl
    by_cases hp : pos < s.size
    · have k3 := runes_succ s.data.toList pos (by rw [HN.out]; exact hp)
      rw [bt_get s pos hp] at k3
      obtain ⟨x, hx⟩ : ∃ x, runes (s.data.toList.take pos) = x := ⟨_, rfl⟩
      rw [hx] at k3 hrl ⊢
      have hx2 : x < 9223372036854775807 := by omega
      clear hx hrl
      by_cases g : 128 ≤ s[pos].toNat ∧ s[pos].toNat ≤ 191
      · rw [if_pos g] at k3
        have K3 := Lib.hid k3; clear k3
        obtain ⟨g1, g2⟩ := g
        go_wp2_with (go_at_call 30; refine (on_yes _ g1 g2 _).mono ?_; rintro e w' ⟨rfl, rfl⟩)
        go_round
        case rel => exact ⟨pos + 1, hp, by go_num, by rw [K3.out]; rfl⟩
        case measure => simp [intOf]; omega
      · rw [if_neg g] at k3
        have K3 := Lib.hid k3; clear k3
        have G := Lib.hid g; clear g
        go_wp2_with (go_at_call 30; refine (on_no _ G.out _).mono ?_; rintro e w' ⟨rfl, rfl⟩)
        go_round
        case rel => exact ⟨pos + 1, hp, by go_num, by rw [K3.out]; go_num⟩
        case measure => simp [intOf]; omega
    · have hend : s.data.toList.take pos = s.data.toList := List.take_of_length_le (by rw [HN.out]; omega)
      rw [hend]
      clear hend hrl
      go_wp2
      go_ret
      exact ⟨rfl, rfl⟩

set_option maxRecDepth 100000 in
set_option maxHeartbeats 400000 in
theorem rlines_any (s : ByteArray) (hs : s.size ≤ maxLen) (w : World) :
    Calls Try.prog 39 #[.string s] w fun e w' => e = .returned (.int .i64 (lines s.data.toList)) ∧ w = w' := by
  have hlen : s.data.toList.length = s.size := by simp
  have HN := Lib.hid hlen; clear hlen
  unfold maxLen at hs
  go_enter Try.func39, Try.ntmps39
  go_wp2
  go_loop [3, 4] (fun n i => ∃ pos : Nat, pos ≤ s.size ∧ i = .int .i64 pos ∧ n = .int .i64 (lines (s.data.toList.take pos))) (fun _ i => s.size - (intOf i).toNat)
  case atStart => exact ⟨0, Nat.zero_le _, rfl, rfl⟩
  case round =>
    obtain ⟨pos, hle, rfl, rfl⟩ := hrel
    have hrl := lines_le (s.data.toList.take pos)
    rw [List.length_take] at hrl
    by_cases hp : pos < s.size
    · have k3 := lines_succ s.data.toList pos (by rw [HN.out]; exact hp)
      rw [bt_get s pos hp] at k3
      obtain ⟨x, hx⟩ : ∃ x, lines (s.data.toList.take pos) = x := ⟨_, rfl⟩
      rw [hx] at k3 hrl ⊢
      have hx2 : x < 9223372036854775807 := by omega
      clear hx hrl
      by_cases g : s[pos].toNat = 10
      · rw [if_pos g] at k3
        have K3 := Lib.hid k3; clear k3
        have hq : ((s[pos].toNat : Int) == 10) = true := by simp; omega
        clear g
        go_wp2
        go_round
        case rel => exact ⟨pos + 1, hp, by go_num, by rw [K3.out]; go_num⟩
        case measure => simp [intOf]; omega
      · rw [if_neg g] at k3
        have K3 := Lib.hid k3; clear k3
        have hq : ((s[pos].toNat : Int) == 10) = false := by simp; omega
        clear g
        go_wp2
        go_round
        case rel => exact ⟨pos + 1, hp, by go_num, by rw [K3.out]; rfl⟩
        case measure => simp [intOf]; omega
    · have hend : s.data.toList.take pos = s.data.toList := List.take_of_length_le (by rw [HN.out]; omega)
      rw [hend]
      clear hend hrl
      go_wp2
      go_ret
      exact ⟨rfl, rfl⟩
end Go.Proofs.Ytephlcdanokolaa
