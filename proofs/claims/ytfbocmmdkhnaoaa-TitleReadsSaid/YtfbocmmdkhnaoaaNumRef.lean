/-
  Contracts of the document's numbers: get, Get16, Get32, Parse, Digits, put, Put16, Put32.
-/
import Derived.Test.YtfbocmmdkhnaoaaRows
import Derived.Test.YtfbocmmdkhnaoaaNumMath
import Derived.Test.YtfbocmmdkhnaoaaConv
namespace Go.Proofs.Ytfbocmmdkhnaoaa
open Go.RowKit

theorem allDig_take (l : List UInt8) (k : Nat) (h : k < l.length) : allDig (l.take (k + 1)) = (allDig (l.take k) && (decide (48 ≤ bt l k) && decide (bt l k ≤ 57))) := by
  rw [take_succ l k h, allDig_snoc]; rfl
theorem decN_take (l : List UInt8) (k : Nat) (h : k < l.length) : decN (l.take (k + 1)) = 10 * decN (l.take k) + (bt l k - 48) := by
  rw [take_succ l k h, decN_snoc]; rfl
theorem allDig_off (l : List UInt8) (k : Nat) (h : k < l.length) (g : ¬ (48 ≤ bt l k ∧ bt l k ≤ 57)) : allDig l = false := by
  have h1 := allDig_take l k h
  have h2 : (decide (48 ≤ bt l k) && decide (bt l k ≤ 57)) = false := by simp; omega
  rw [h2, Bool.and_false] at h1
  have h3 : l = l.take (k + 1) ++ l.drop (k + 1) := (List.take_append_drop _ _).symm
  rw [h3, allDig_app, h1, Bool.false_and]

set_option maxRecDepth 100000 in
set_option maxHeartbeats 400000 in
theorem rparse_any (s : ByteArray) (hs : s.size ≤ maxLen) (w : World) :
    Calls Try.prog 29 #[.string s] w fun e w' => e = .returned (.tuple #[.int .i64 (parseI s.data.toList).1, .bool (parseI s.data.toList).2]) ∧ w = w' := by
  have hlen : s.data.toList.length = s.size := by simp
  unfold maxLen at hs
  by_cases h0 : s.size < 1
  · have e : parseI s.data.toList = (0, false) := by unfold parseI; rw [hlen, if_pos (.inl h0)]
    rw [e]; clear e hlen
    go_enter Try.func29, Try.ntmps29
    go_wp2
    go_ret2
    exact ⟨rfl, rfl⟩
  by_cases h1 : 9 < s.size
  · have e : parseI s.data.toList = (0, false) := by unfold parseI; rw [hlen, if_pos (.inr h1)]
    rw [e]; clear e hlen
    go_enter Try.func29, Try.ntmps29
    go_wp2
    go_ret2
    exact ⟨rfl, rfl⟩
  obtain ⟨⟨x, b⟩, hx⟩ : ∃ x, parseI s.data.toList = x := ⟨_, rfl⟩
  rw [hx]
  have hx2 := hx
  unfold parseI at hx2
  rw [hlen, if_neg (by omega)] at hx2
  have HX := Lib.hid hx2
  have HN := Lib.hid hlen
  clear hx hx2 hlen
  go_enter Try.func29, Try.ntmps29
  go_wp2
  go_loop [4, 5] (fun n i => ∃ j : Nat, j ≤ s.size ∧ i = .int .i64 j ∧ allDig (s.data.toList.take j) = true ∧ n = .int .i64 (decN (s.data.toList.take j))) (fun _ i => s.size - (intOf i).toNat)
  case atStart => exact ⟨0, Nat.zero_le _, rfl, rfl, rfl⟩
  case round =>
    obtain ⟨j, hj, rfl, had, rfl⟩ := hrel
    by_cases hlt : j < s.size
    · have hjl : j < s.data.toList.length := by rw [HN.out]; exact hlt
      have hb := bt_get s j hlt
      have hb255 := s[j].toNat_lt
      have hd := decN_take s.data.toList j hjl
      have ha := allDig_take s.data.toList j hjl
      have hlt2 := decN_lt _ had
      rw [List.length_take, HN.out] at hlt2
      have hp : 10 ^ (min j s.size) ≤ 10 ^ 8 := Nat.pow_le_pow_right (by omega) (by omega)
      rw [hb] at hd ha
      obtain ⟨y, hy⟩ : ∃ y, decN (s.data.toList.take j) = y := ⟨_, rfl⟩
      rw [hy] at hd hlt2 ⊢
      have hy2 : y < 100000000 := by omega
      by_cases g : 48 ≤ s[j].toNat ∧ s[j].toNat ≤ 57
      · obtain ⟨g1, g2⟩ := g
        have ha2 : allDig (s.data.toList.take (j + 1)) = true := by rw [ha, had]; simp; omega
        have HD := Lib.hid hd; have HA := Lib.hid ha2
        clear hd ha ha2 had hb hy hlt2 hp
        go_wp2
        go_round
        case rel => exact ⟨j + 1, by omega, by go_num, HA.out, by rw [HD.out]; go_num⟩
        case measure => simp [intOf]; omega
      · have hoff := allDig_off s.data.toList j hjl (by rw [hb]; exact g)
        have hres : x = 0 ∧ b = false := by
          have := HX.out
          rw [hoff] at this
          simp at this
          exact ⟨this.1.symm, this.2⟩
        have HRES := Lib.hid hres
        clear hd ha had hb hy hlt2 hp hoff hres
        by_cases g1 : s[j].toNat < 48
        · clear g
          go_wp2
          go_ret2
          exact ⟨ret_ib (by rw [HRES.out.1]; rfl) HRES.out.2.symm, rfl⟩
        · have g2 : 57 < s[j].toNat := by omega
          clear g
          go_wp2
          go_ret2
          exact ⟨ret_ib (by rw [HRES.out.1]; rfl) HRES.out.2.symm, rfl⟩
    · rw [List.take_of_length_le (by rw [HN.out]; omega)] at had ⊢
      have hres : x = decN s.data.toList ∧ b = true := by
        have := HX.out
        rw [had] at this
        simp at this
        exact ⟨this.1.symm, this.2⟩
      obtain ⟨y, hy⟩ : ∃ y, decN s.data.toList = y := ⟨_, rfl⟩
      rw [hy] at hres ⊢
      have HRES := Lib.hid hres
      clear had hres hy
      go_wp2
      go_ret2
      exact ⟨ret_ib (by rw [HRES.out.1]) HRES.out.2.symm, rfl⟩

theorem app_mk (x : Int) (t : ByteArray) : (strOfNums [x] ++ t).data.toList = UInt8.ofNat x.toNat :: t.data.toList := by
  rw [app_list]; rfl
theorem str_nil (l : List UInt8) : (⟨l.toArray⟩ : ByteArray).data.toList = l := by simp

set_option maxRecDepth 100000 in
set_option maxHeartbeats 400000 in
theorem rdigits_any (n v : Int) (hn : n ≤ 9223372036854775807) (w : World) :
    Calls Try.prog 24 #[.int .i64 n, .int .i64 v] w fun e w' => e = .returned (.string ⟨(digitsI n v).toArray⟩) ∧ Below w.heap.size w w' := by
  by_cases h0 : v < 1
  · have e : digitsI n v = [] := by unfold digitsI; rw [if_pos (.inl h0)]
    rw [e]; clear e
    go_enter Try.func24, Try.ntmps24
    go_wp2
    go_ret
    exact ⟨rfl, Below.refl _ _⟩
  by_cases h1 : 9 < v
  · have e : digitsI n v = [] := by unfold digitsI; rw [if_pos (.inr (.inl h1))]
    rw [e]; clear e
    go_enter Try.func24, Try.ntmps24
    go_wp2
    go_ret
    exact ⟨rfl, Below.refl _ _⟩
  by_cases h2 : n < 0
  · have e : digitsI n v = [] := by unfold digitsI; rw [if_pos (.inr (.inr h2))]
    rw [e]; clear e
    go_enter Try.func24, Try.ntmps24
    go_wp2
    go_ret
    exact ⟨rfl, Below.refl _ _⟩
  obtain ⟨v, rfl⟩ := Int.eq_ofNat_of_zero_le (show 0 ≤ v by omega)
  obtain ⟨n, rfl⟩ := Int.eq_ofNat_of_zero_le (show 0 ≤ n by omega)
  have e : digitsI n v = if n / 10 ^ v = 0 then dg n v else [] := by unfold digitsI; rw [if_neg (by omega), Int.toNat_natCast, Int.toNat_natCast]
  obtain ⟨R, hR⟩ : ∃ R, digitsI n v = R := ⟨_, rfl⟩
  rw [hR] at e ⊢
  have HR := Lib.hid e; clear e hR
  have hv : v ≤ 9 := by omega
  have hv1 : 1 ≤ v := by omega
  clear h0 h1 h2
  go_enter Try.func24, Try.ntmps24
  go_wp2
  go_loopw [0, 5, 6] (fun x t i wr => ∃ (j : Nat) (s : ByteArray), j ≤ v ∧ i = .int .i64 j ∧ x = .int .i64 (n / 10 ^ j : Nat) ∧ t = .string s ∧ s.data.toList = dg n j ∧ Below w.heap.size w wr) (fun _ _ i _ => v - (intOf i).toNat)
  case atStart => exact ⟨0, ⟨#[]⟩, by omega, rfl, by simp, rfl, rfl, Below.refl _ _⟩
  case round =>
    obtain ⟨j, s, hj, rfl, rfl, rfl, hs, hbel⟩ := hrel
    have HB := Lib.hid hbel; have HS := Lib.hid hs
    clear hbel hs
    have hx : n / 10 ^ j ≤ n := Nat.div_le_self _ _
    have hs1 : n / 10 ^ (j + 1) = n / 10 ^ j / 10 := by rw [Nat.pow_succ, Nat.div_div_eq_div_mul]
    have hdg : dg n (j + 1) = UInt8.ofNat (48 + n / 10 ^ j % 10) :: dg n j := rfl
    by_cases hlt : j < v
    · obtain ⟨x, hxx⟩ : ∃ x, n / 10 ^ j = x := ⟨_, rfl⟩
      rw [hxx] at hx hs1 hdg ⊢
      have H1 := Lib.hid hs1; have H2 := Lib.hid hdg
      clear hs1 hdg hxx
      have hcv := conv_row [48 + (x : Int) % 10] 1 rfl wr
      simp only [List.map_cons, List.map_nil] at hcv
      have z1 : (strOfNums [48 + (x : Int) % 10]).size = 1 := rfl
      have z2 : s.size ≤ 9 := by
        have : s.size = j := by rw [← dg_length n j, ← HS.out]; simp
        omega
      go_wp2
      go_roundw
      case rel =>
        refine ⟨j + 1, _, by omega, by go_num, by rw [H1.out]; go_num, rfl, ?_, HB.out.alloc HB.out.size _⟩
        rw [app_mk, HS.out, H2.out]
        congr 2
      case measure => simp [intOf]; omega
    · obtain rfl : j = v := by omega
      obtain ⟨x, hxx⟩ : ∃ x, n / 10 ^ j = x := ⟨_, rfl⟩
      rw [hxx] at hx ⊢
      have HX := Lib.hid hxx
      clear hs1 hdg hxx
      by_cases hz : x = 0
      · subst hz
        go_wp2
        go_ret
        exact ⟨ret_str (str_ext (by rw [HS.out, HR.out, HX.out, if_pos rfl])), HB.out⟩
      · have hz2 : 0 < x := by omega
        go_wp2
        go_ret
        exact ⟨ret_str (by rw [HR.out, HX.out, if_neg hz]), HB.out⟩

theorem u64_wrap (n : Int) : IntKind.u64.wrap n = ((u64 n : Nat) : Int) := by
  rw [IntKind.wrap_u64]; unfold u64; omega
theorem u64_lt (n : Int) : u64 n < 18446744073709551616 := by unfold u64; omega
theorem uint8_info : (Try.prog.info? 5).map (fun i => (i.zero, i.size, i.bytes)) = some (some (.int .u8 0), 1, 1) := by kernel_rfl

end Go.Proofs.Ytfbocmmdkhnaoaa
