/-
  Contracts of the document's numbers: get, Get16, Get32, Parse, Digits, put, Put16, Put32.
-/
import Derived.Test.YtlgdlkiekodocaaRows
import Derived.Test.YtlgdlkiekodocaaNumMath
import Derived.Test.YtlgdlkiekodocaaConv
namespace Go.Proofs.Ytlgdlkiekodocaa
open Go.RowKit

set_option maxRecDepth 100000 in
set_option maxHeartbeats 400000 in
theorem rget_any (s : ByteArray) (hs : s.size ≤ maxLen) (p : Int) (m : Nat) (hm : 1 ≤ m) (hm4 : m ≤ 4) (w : World) :
    Calls Try.prog 24 #[.string s, .int .i64 p, .int .i64 m] w fun e w' => e = .returned (.tuple #[.int .i64 (getI s.data.toList p m).1, .bool (getI s.data.toList p m).2]) ∧ w = w' := by
  have hlen : s.data.toList.length = s.size := by simp
  unfold maxLen at hs
  by_cases h0 : p < 0
  · have e : getI s.data.toList p m = (0, false) := by unfold getI; rw [if_pos (.inl h0)]
    rw [e]; clear e hlen
    go_enter Try.func24, Try.ntmps24
    go_wp2
    go_ret2
    exact ⟨rfl, rfl⟩
  by_cases h1 : (s.size : Int) - m < p
  · have e : getI s.data.toList p m = (0, false) := by unfold getI; rw [if_pos (.inr (by rw [hlen]; exact h1))]
    rw [e]; clear e hlen
    go_enter Try.func24, Try.ntmps24
    go_wp2
    go_ret2
    exact ⟨rfl, rfl⟩
  obtain ⟨k, rfl⟩ := Int.eq_ofNat_of_zero_le (Int.not_lt.1 h0)
  have hk : k + m ≤ s.size := by omega
  have e : getI s.data.toList k m = (leN s.data.toList k m, true) := by unfold getI; rw [hlen, if_neg (by omega), Int.toNat_natCast]
  rw [e]; clear e h0 h1
  have HN := Lib.hid hlen; clear hlen
  go_enter Try.func24, Try.ntmps24
  go_wp2
  go_loop [8, 9] (fun n i => ∃ j : Nat, j ≤ m ∧ i = .int .i64 ((j : Int) - 1) ∧ n = .int .i64 (leN s.data.toList (k + j) (m - j))) (fun _ i => (intOf i + 1).toNat)
  case atStart => exact ⟨m, Nat.le_refl _, rfl, by rw [Nat.sub_self]; rfl⟩
  case round =>
    obtain ⟨j, hj, rfl, rfl⟩ := hrel
    by_cases hlt : 1 ≤ j
    · obtain ⟨i, rfl⟩ : ∃ i, j = i + 1 := ⟨j - 1, by omega⟩
      have hi : k + i < s.size := by omega
      have hx := leN_lt s.data.toList (m - (i + 1)) (k + (i + 1))
      have hx2 : leN s.data.toList (k + (i + 1)) (m - (i + 1)) < 256 ^ 3 := Nat.lt_of_lt_of_le hx (Nat.pow_le_pow_right (by omega) (by omega))
      have hs2 : leN s.data.toList (k + i) (m - i) = bt s.data.toList (k + i) + 256 * leN s.data.toList (k + (i + 1)) (m - (i + 1)) := by
        rw [show m - i = (m - (i + 1)) + 1 by omega]; rfl
      rw [bt_get s (k + i) hi] at hs2
      obtain ⟨x, hxx⟩ : ∃ x, leN s.data.toList (k + (i + 1)) (m - (i + 1)) = x := ⟨_, rfl⟩
      rw [hxx] at hx2 hs2 ⊢
      have hx3 : x < 16777216 := by omega
      have hb := s[k + i].toNat_lt
      have HS := Lib.hid hs2; clear hs2 hxx hx hx2
      have e1 : ((i + 1 : Nat) : Int) - 1 = (i : Int) := by omega
      rw [e1]
      clear e1
      go_wp2
      go_round
      case rel => exact ⟨i, by omega, by go_num, by rw [HS.out]; go_num⟩
      case measure => simp [intOf]
    · obtain rfl : j = 0 := by omega
      go_wp2
      go_ret2
      exact ⟨rfl, rfl⟩
theorem rget32_any (s : ByteArray) (hs : s.size ≤ maxLen) (p : Int) (w : World) :
    Calls Try.prog 17 #[.string s, .int .i64 p] w fun e w' => e = .returned (.tuple #[.int .i64 (getI s.data.toList p 4).1, .bool (getI s.data.toList p 4).2]) ∧ w = w' := by
  have hg := rget_any s hs p 4 (by omega) (by omega)
  obtain ⟨⟨x, b⟩, hx⟩ : ∃ x, getI s.data.toList p 4 = x := ⟨_, rfl⟩
  rw [hx] at hg ⊢
  have HG := Lib.hid hg; clear hg hx
  go_enter Try.func17, Try.ntmps17
  go_wp2_with fail
  refine (HG.out _).mono ?_; rintro e w' ⟨rfl, rfl⟩
  go_wp2
  go_ret2
  exact ⟨rfl, rfl⟩

theorem allDig_take (l : List UInt8) (k : Nat) (h : k < l.length) : allDig (l.take (k + 1)) = (allDig (l.take k) && (decide (48 ≤ bt l k) && decide (bt l k ≤ 57))) := by
  rw [take_succ l k h, allDig_snoc]; rfl
theorem decN_take (l : List UInt8) (k : Nat) (h : k < l.length) : decN (l.take (k + 1)) = 10 * decN (l.take k) + (bt l k - 48) := by
  rw [take_succ l k h, decN_snoc]; rfl
theorem allDig_off (l : List UInt8) (k : Nat) (h : k < l.length) (g : ¬ (48 ≤ bt l k ∧ bt l k ≤ 57)) : allDig l = false := by
  have h1 := allDig_take l k h
  have h2 : (decide (48 ≤ bt l k) && decide (bt l k ≤ 57)) = false := by simp; omega
  rw [h2, Bool.and_false] at h1
  have h3 : l = l.take (k + 1) ++ l.drop (k + 1) := (List.take_append_drop _ _).symm
  rw [h3, allDig_app, h1, Bool.false_and]

theorem app_mk (x : Int) (t : ByteArray) : (strOfNums [x] ++ t).data.toList = UInt8.ofNat x.toNat :: t.data.toList := by
  rw [app_list]; rfl
theorem str_nil (l : List UInt8) : (⟨l.toArray⟩ : ByteArray).data.toList = l := by simp

theorem u64_wrap (n : Int) : IntKind.u64.wrap n = ((u64 n : Nat) : Int) := by
  rw [IntKind.wrap_u64]; unfold u64; omega
theorem u64_lt (n : Int) : u64 n < 18446744073709551616 := by unfold u64; omega
theorem uint8_info : (Try.prog.info? 5).map (fun i => (i.zero, i.size, i.bytes)) = some (some (.int .u8 0), 1, 1) := by kernel_rfl

set_option maxRecDepth 100000 in
set_option maxHeartbeats 800000 in
theorem rnput_any (n : Int) (m : Nat) (hm : m ≤ 4) (w : World) :
    Calls Try.prog 27 #[.int .i64 n, .int .i64 m] w fun e w' => e = .returned (.string ⟨(leL (u64 n) m).toArray⟩) ∧ Below w.heap.size w w' := by
  obtain ⟨i0, hi, hz0, hz1, hz2⟩ := info_parts uint8_info
  have hw0 := u64_wrap n
  have hlt0 := u64_lt n
  obtain ⟨u, hu⟩ : ∃ u, u64 n = u := ⟨_, rfl⟩
  rw [hu] at hw0 hlt0 ⊢
  have HW := Lib.hid hw0
  have HLT := Lib.hid hlt0
  clear hu hlt0
  go_enter Try.func27, Try.ntmps27
  go_wp2
  go_loopw [5, 6, 7] (fun v x i wr => ∃ j : Nat, j ≤ m ∧ i = .int .i64 j ∧ x = .int .u64 (u / 256 ^ j : Nat) ∧ wr.ownsRow w.heap.size 5 1 v j ((leL u j).map fun b => Value.int .u8 (b.toNat : Nat)) ∧ Below w.heap.size w wr) (fun _ _ i _ => m - (intOf i).toNat)
  case atStart => exact ⟨0, Nat.zero_le _, rfl, by simp, World.ownsRow_nil _ _ _ _, Below.refl _ _⟩
  case round =>
    obtain ⟨j, hj, rfl, rfl, hown, hbel⟩ := hrel
    clear hw0
    have hs1 : u / 256 ^ (j + 1) = u / 256 ^ j / 256 := by rw [Nat.pow_succ, Nat.div_div_eq_div_mul]
    have hl : leL u (j + 1) = leL u j ++ [UInt8.ofNat (u / 256 ^ j % 256)] := rfl
    have hx : u / 256 ^ j < 18446744073709551616 := Nat.lt_of_le_of_lt (Nat.div_le_self _ _) HLT.out
    obtain ⟨x, hxx⟩ : ∃ x, u / 256 ^ j = x := ⟨_, rfl⟩
    rw [hxx] at hs1 hl hx ⊢
    have H1 := Lib.hid hs1; have H2 := Lib.hid hl; have H3 := Lib.hid hx
    clear hs1 hl hxx hx
    by_cases hlt : j < m
    · go_wp2_with (at_builtin; refine wpList_append_own _ rfl _ _ 33 rfl w.heap.size 5 i0 (.int .u8 0) 1 1 Try.underlying33 hi hz0 hz1 hz2 rfl (by decide) _ _ _ rfl (hown.alloc _) ⟨wr.heap.size, 0, none⟩ 1 1 [.int .u8 ((x % 256 : Nat) : Int)] rfl rfl ?c1 ?c2 ?c3 ?c4 ?c5 ?_)
      case c1 =>
        intro j u hj
        match j, hj with
        | 0, hj => simp at hj; subst hj; simp [Addr.add]
      case c2 => intro u hu; simp at hu; subst hu; rfl
      case c3 => unfold maxLen; omega
      case c4 => omega
      case c5 => have := hbel.size; simp; omega
      intro v' w1 hown' hgrow _
      have hb1 : Below w.heap.size w w1 := (hbel.alloc hbel.size _).grown hgrow (by have := hbel.size; simp; omega) (own_block hown)
      have ho1 : w1.ownsRow w.heap.size 5 1 v' (j + 1) ((leL u (j + 1)).map fun b => Value.int .u8 (b.toNat : Nat)) := by
        rw [H2.out, List.map_append]
        have e : (UInt8.ofNat (x % 256)).toNat = x % 256 := by show x % 256 % 256 = _; omega
        simp only [List.map_cons, List.map_nil, e]
        exact hown'
      have HO := Lib.hid ho1; have HB := Lib.hid hb1
      clear hown' hgrow hown hbel ho1 hb1
      have hx := H3.out
      go_wp2
      go_roundw
      case rel => exact ⟨j + 1, by omega, by go_num, by rw [H1.out]; go_num, HO.out, HB.out⟩
      case measure => simp [intOf]; omega
    · obtain rfl : j = m := by omega
      have hcv := own_string hown
      clear hown
      go_wp2
      go_ret
      exact ⟨rfl, hbel⟩
theorem rput32_any (n : Int) (w : World) :
    Calls Try.prog 22 #[.int .i64 n] w fun e w' => e = .returned (.string ⟨(leL (u64 n) 4).toArray⟩) ∧ Below w.heap.size w w' := by
  have hp := rnput_any n 4 (by omega)
  obtain ⟨R, hR⟩ : ∃ R, leL (u64 n) 4 = R := ⟨_, rfl⟩
  rw [hR] at hp ⊢
  have HP := Lib.hid hp; clear hp hR
  go_enter Try.func22, Try.ntmps22
  go_wp2_with fail
  refine (HP.out _).mono ?_; rintro e w1 ⟨rfl, hb1⟩
  go_wp2
  go_ret
  exact ⟨rfl, hb1⟩
end Go.Proofs.Ytlgdlkiekodocaa
