/-
  Contracts of the program's numbers (its code at e2f1e76b).
-/
import Derived.Test.YtfbocmmdkhnaoaaNumRef
import Derived.Test.YtfbocmmdkhnaoaaRow
import Derived.Lib.QuoteBits
import Derived.IntWalk
import Derived.StillTailTactics
namespace Go.Proofs.Ytfbocmmdkhnaoaa
open Go.RowKit

theorem leN_snoc (l : List UInt8) : ∀ m k, leN l k (m + 1) = leN l k m + 256 ^ m * bt l (k + m) := by
  intro m
  induction m with
  | zero => intro k; simp [leN]
  | succ m ih =>
    intro k
    have h1 : leN l k (m + 1 + 1) = bt l k + 256 * leN l (k + 1) (m + 1) := rfl
    have h2 : leN l k (m + 1) = bt l k + 256 * leN l (k + 1) m := rfl
    rw [h1, h2, ih (k + 1), Nat.pow_succ, show k + 1 + m = k + (m + 1) by omega, Nat.mul_add, ← Nat.mul_assoc, Nat.mul_comm 256 (256 ^ m), Nat.add_assoc]

/-- 'or' of two ints that share no bit, the one below 2^s, the other a multiple of it. -/
theorem i64_or_join (x b s : Nat) (hx : x < 2 ^ s) (hb : b * 2 ^ s + x < 9223372036854775808) : bits .or .i64 (x : Int) ((b * 2 ^ s : Nat) : Int) = ((x + b * 2 ^ s : Nat) : Int) := by
  show IntKind.i64.wrap ((BitVec.ofInt 64 (x : Int) ||| BitVec.ofInt 64 ((b * 2 ^ s : Nat) : Int)).toNat : Int) = _
  rw [BitVec.toNat_or, ofInt_u64 x (by omega), ofInt_u64 (b * 2 ^ s) (by omega)]
  have e : x ||| b * 2 ^ s = x + b * 2 ^ s := by
    rw [Nat.or_comm, Nat.mul_comm, ← Nat.two_pow_add_eq_or_of_lt hx b, Nat.add_comm]
  rw [e]
  exact Lib.wrap_i64_small _ (by omega)
theorem or_shl (x b j : Nat) (hj : j < 4) (hx : x < 256 ^ j) (hb : b < 256) : bits .or .i64 (x : Int) (wrap64 ((b : Int) * 2 ^ (8 * j))) = ((x + 256 ^ j * b : Nat) : Int) := by
  have e : (256 : Nat) ^ j = 2 ^ (8 * j) := by rw [Nat.pow_mul]
  have hp : 2 ^ (8 * j) ≤ 2 ^ 24 := Nat.pow_le_pow_right (by omega) (by omega)
  have hm : b * 2 ^ (8 * j) ≤ 255 * 2 ^ 24 := Nat.mul_le_mul (by omega) hp
  have w : wrap64 ((b : Int) * 2 ^ (8 * j)) = ((b * 2 ^ (8 * j) : Nat) : Int) := by
    have e2 : (b : Int) * 2 ^ (8 * j) = ((b * 2 ^ (8 * j) : Nat) : Int) := by simp
    rw [e2]
    have h63 : b * 2 ^ (8 * j) < 9223372036854775808 := by omega
    unfold wrap64; omega
  rw [e] at hx ⊢
  rw [w, i64_or_join x b (8 * j) hx (by omega), Nat.mul_comm]

theorem laid_any (xs : List Int) (n : Nat) (hn : xs.length = n) (w : World) :
    Calls Try.prog 32 #[.slice (some ⟨w.heap.size, 0, none⟩) n n] (w.alloc (.cells (xs.map (Value.int .u8)).toArray 5)) fun e w' => e = .returned (.string (strOfNums xs)) ∧ w.alloc (.cells (xs.map (Value.int .u8)).toArray 5) = w' := by
  have hc := conv_row xs n hn w
  go_enter Try.func32, Try.ntmps32
  go_wp2
  go_ret
  exact ⟨rfl, rfl⟩

theorem nums2 (s : ByteArray) (k : Nat) (h : k + 2 ≤ s.size) : leN [s[k], s[k + 1]] 0 2 = leN s.data.toList k 2 := by
  show (s[k]).toNat + 256 * ((s[k + 1]).toNat + 256 * 0) = bt _ k + 256 * (bt _ (k + 1) + 256 * 0)
  rw [bt_get s k (by omega), bt_get s (k + 1) (by omega)]
theorem nums4 (s : ByteArray) (k : Nat) (h : k + 4 ≤ s.size) : leN [s[k], s[k + 1], s[k + 2], s[k + 3]] 0 4 = leN s.data.toList k 4 := by
  show (s[k]).toNat + 256 * ((s[k + 1]).toNat + 256 * ((s[k + 2]).toNat + 256 * ((s[k + 3]).toNat + 256 * 0))) = bt _ k + 256 * (bt _ (k + 1) + 256 * (bt _ (k + 1 + 1) + 256 * (bt _ (k + 1 + 1 + 1) + 256 * 0)))
  rw [bt_get s k (by omega), bt_get s (k + 1) (by omega), bt_get s (k + 1 + 1) (by omega), bt_get s (k + 1 + 1 + 1) (by omega)]

theorem strOf_two (n : Int) : strOfNums [n % 256, n / 256 % 256] = ⟨(leL (u64 n) 2).toArray⟩ := by
  have h1 : (n % 256).toNat = u64 n % 256 := by unfold u64; omega
  have h2 : (n / 256 % 256).toNat = u64 n / 256 % 256 := by unfold u64; omega
  refine str_ext ?_
  simp [strOfNums, leL, h1, h2]
theorem strOf_four (n : Int) : strOfNums [n % 256, n / 256 % 256, n / 65536 % 256, n / 16777216 % 256] = ⟨(leL (u64 n) 4).toArray⟩ := by
  have h1 : (n % 256).toNat = u64 n % 256 := by unfold u64; omega
  have h2 : (n / 256 % 256).toNat = u64 n / 256 % 256 := by unfold u64; omega
  have h3 : (n / 65536 % 256).toNat = u64 n / 65536 % 256 := by unfold u64; omega
  have h4 : (n / 16777216 % 256).toNat = u64 n / 16777216 % 256 := by unfold u64; omega
  refine str_ext ?_
  simp [strOfNums, leL, h1, h2, h3, h4]

set_option maxRecDepth 100000 in
set_option maxHeartbeats 400000 in
theorem nparse_any (s : ByteArray) (hs : s.size ≤ maxLen) (w : World) :
    Calls Try.prog 27 #[.string s] w fun e w' => e = .returned (.tuple #[.int .i64 (parseI s.data.toList).1, .bool (parseI s.data.toList).2]) ∧ w = w' := by
  have hlen : s.data.toList.length = s.size := by simp
  unfold maxLen at hs
  by_cases h0 : s.size < 1
  · have e : parseI s.data.toList = (0, false) := by unfold parseI; rw [hlen, if_pos (.inl h0)]
    rw [e]; clear e hlen
    go_enter Try.func27, Try.ntmps27
    go_wp2
    go_ret2
    exact ⟨rfl, rfl⟩
  by_cases h1 : 9 < s.size
  · have e : parseI s.data.toList = (0, false) := by unfold parseI; rw [hlen, if_pos (.inr h1)]
    rw [e]; clear e hlen
    go_enter Try.func27, Try.ntmps27
    go_wp2
    go_ret2
    exact ⟨rfl, rfl⟩
  obtain ⟨⟨x, b⟩, hx⟩ : ∃ x, parseI s.data.toList = x := ⟨_, rfl⟩
  rw [hx]
  have hx2 := hx
  unfold parseI at hx2
  rw [hlen, if_neg (by omega)] at hx2
  have HX := Lib.hid hx2
  have HN := Lib.hid hlen
  clear hx hx2 hlen
  go_enter Try.func27, Try.ntmps27
  go_wp2
  go_loop [4, 16] (fun n i => ∃ j : Nat, j ≤ s.size ∧ i = .int .i64 j ∧ allDig (s.data.toList.take j) = true ∧ n = .int .i64 (decN (s.data.toList.take j))) (fun _ i => s.size - (intOf i).toNat)
  case atStart => exact ⟨0, Nat.zero_le _, rfl, rfl, rfl⟩
  case round =>
    obtain ⟨j, hj, rfl, had, rfl⟩ := hrel
    by_cases hlt : j < s.size
    · have hjl : j < s.data.toList.length := by rw [HN.out]; exact hlt
      have hb := bt_get s j hlt
      have hb255 := s[j].toNat_lt
      have hd := decN_take s.data.toList j hjl
      have ha := allDig_take s.data.toList j hjl
      have hlt2 := decN_lt _ had
      rw [List.length_take, HN.out] at hlt2
      have hp : 10 ^ (min j s.size) ≤ 10 ^ 8 := Nat.pow_le_pow_right (by omega) (by omega)
      rw [hb] at hd ha
      obtain ⟨y, hy⟩ : ∃ y, decN (s.data.toList.take j) = y := ⟨_, rfl⟩
      rw [hy] at hd hlt2 ⊢
      have hy2 : y < 100000000 := by omega
      by_cases g : 48 ≤ s[j].toNat ∧ s[j].toNat ≤ 57
      · obtain ⟨g1, g2⟩ := g
        have ha2 : allDig (s.data.toList.take (j + 1)) = true := by rw [ha, had]; simp; omega
        have HD := Lib.hid hd; have HA := Lib.hid ha2
        clear hd ha ha2 had hb hy hlt2 hp
        go_wp2
        go_round
        case rel => exact ⟨j + 1, by omega, by go_num, HA.out, by rw [HD.out]; go_num⟩
        case measure => simp [intOf]; omega
      · have hoff := allDig_off s.data.toList j hjl (by rw [hb]; exact g)
        have hres : x = 0 ∧ b = false := by
          have := HX.out
          rw [hoff] at this
          simp at this
          exact ⟨this.1.symm, this.2⟩
        have HRES := Lib.hid hres
        clear hd ha had hb hy hlt2 hp hoff hres
        by_cases g1 : s[j].toNat < 48
        · clear g
          go_wp2
          go_ret2
          exact ⟨ret_ib (by rw [HRES.out.1]; rfl) HRES.out.2.symm, rfl⟩
        · have g2 : 57 < s[j].toNat := by omega
          clear g
          go_wp2
          go_ret2
          exact ⟨ret_ib (by rw [HRES.out.1]; rfl) HRES.out.2.symm, rfl⟩
    · rw [List.take_of_length_le (by rw [HN.out]; omega)] at had ⊢
      have hres : x = decN s.data.toList ∧ b = true := by
        have := HX.out
        rw [had] at this
        simp at this
        exact ⟨this.1.symm, this.2⟩
      obtain ⟨y, hy⟩ : ∃ y, decN s.data.toList = y := ⟨_, rfl⟩
      rw [hy] at hres ⊢
      have HRES := Lib.hid hres
      clear had hres hy
      go_wp2
      go_ret2
      exact ⟨ret_ib (by rw [HRES.out.1]) HRES.out.2.symm, rfl⟩

theorem nparse_b (s : ByteArray) (hs : s.size ≤ maxLen) (w : World) :
    Calls Try.prog 27 #[.string s] w fun e w' => e = .returned (.tuple #[.int .i64 (parseI s.data.toList).1, .bool (parseI s.data.toList).2]) ∧ Below w.heap.size w w' :=
  (nparse_any s hs w).mono fun _ _ ⟨he, hw⟩ => ⟨he, hw ▸ Below.refl _ _⟩

theorem laid_row {W : World} {g : Nat} {l : List UInt8} (h : RowAt W g l) (n : Nat) (hn : l.length = n) :
    Calls Try.prog 32 #[.slice (some ⟨g, 0, none⟩) n n] W fun e w' => e = .returned (.string ⟨l.toArray⟩) ∧ W = w' := by
  have hc := row_string h n n hn
  clear h
  go_enter Try.func32, Try.ntmps32
  go_wp2
  go_ret
  exact ⟨rfl, rfl⟩
theorem set_digit (n v j : Nat) (hj : j < v) (d : UInt8) (hd : dg n (j + 1) = d :: dg n j) :
    (List.replicate (v - j) (0 : UInt8) ++ dg n j).set (v - 1 - j) d = List.replicate (v - (j + 1)) 0 ++ dg n (j + 1) := by
  rw [hd, show v - j = (v - (j + 1)) + 1 by omega, show v - 1 - j = v - (j + 1) by omega, List.replicate_succ', List.append_assoc, List.set_append_right _ _ (by simp)]
  simp

set_option maxRecDepth 100000 in
set_option maxHeartbeats 400000 in
theorem ndigits_any (n v : Int) (hn : n ≤ 9223372036854775807) (w : World) :
    Calls Try.prog 22 #[.int .i64 n, .int .i64 v] w fun e w' => e = .returned (.string ⟨(digitsI n v).toArray⟩) ∧ Below w.heap.size w w' := by
  by_cases h0 : v < 1
  · have e : digitsI n v = [] := by unfold digitsI; rw [if_pos (.inl h0)]
    rw [e]; clear e
    go_enter Try.func22, Try.ntmps22
    go_wp2
    go_ret
    exact ⟨rfl, Below.refl _ _⟩
  by_cases h1 : 9 < v
  · have e : digitsI n v = [] := by unfold digitsI; rw [if_pos (.inr (.inl h1))]
    rw [e]; clear e
    go_enter Try.func22, Try.ntmps22
    go_wp2
    go_ret
    exact ⟨rfl, Below.refl _ _⟩
  by_cases h2 : n < 0
  · have e : digitsI n v = [] := by unfold digitsI; rw [if_pos (.inr (.inr h2))]
    rw [e]; clear e
    go_enter Try.func22, Try.ntmps22
    go_wp2
    go_ret
    exact ⟨rfl, Below.refl _ _⟩
  obtain ⟨v, rfl⟩ := Int.eq_ofNat_of_zero_le (show 0 ≤ v by omega)
  obtain ⟨n, rfl⟩ := Int.eq_ofNat_of_zero_le (show 0 ≤ n by omega)
  have e : digitsI n v = if n / 10 ^ v = 0 then dg n v else [] := by unfold digitsI; rw [if_neg (by omega), Int.toNat_natCast, Int.toNat_natCast]
  obtain ⟨R, hR⟩ : ∃ R, digitsI n v = R := ⟨_, rfl⟩
  rw [hR] at e ⊢
  have HR := Lib.hid e; clear e hR
  have hv : v ≤ 9 := by omega
  have hv1 : 1 ≤ v := by omega
  have hmk := make_zeros (v : Int) v rfl (by omega) w
  have hrow := rowAt_zeros w v 5
  have hbel : Below w.heap.size w (w.alloc (.cells (zs v) 5)) := (Below.refl _ _).alloc (Nat.le_refl _) _
  have HROW := Lib.hid hrow; have HBEL := Lib.hid hbel
  clear h0 h1 h2 hrow hbel
  go_enter Try.func22, Try.ntmps22
  go_wp2
  go_loopw [0, 6] (fun x i wr => ∃ j : Nat, j ≤ v ∧ i = .int .i64 ((v : Int) - 1 - j) ∧ x = .int .i64 (n / 10 ^ j : Nat) ∧ RowAt wr w.heap.size (List.replicate (v - j) 0 ++ dg n j) ∧ Below w.heap.size w wr) (fun _ i _ => (intOf i + 1).toNat)
  case atStart => exact ⟨0, by omega, by simp, by simp, by simpa [dg] using HROW.out, HBEL.out⟩
  case round =>
    obtain ⟨j, hj, rfl, rfl, hrow, hbel⟩ := hrel
    have hx : n / 10 ^ j ≤ n := Nat.div_le_self _ _
    have hs1 : n / 10 ^ (j + 1) = n / 10 ^ j / 10 := by rw [Nat.pow_succ, Nat.div_div_eq_div_mul]
    have hdg : dg n (j + 1) = UInt8.ofNat (48 + n / 10 ^ j % 10) :: dg n j := rfl
    by_cases hlt : j < v
    · have hset := set_digit n v j hlt _ hdg
      have hlen : (List.replicate (v - j) (0 : UInt8) ++ dg n j).length = v := by simp [dg_length]; omega
      obtain ⟨x, hxx⟩ : ∃ x, n / 10 ^ j = x := ⟨_, rfl⟩
      rw [hxx] at hx hs1 hset ⊢
      have hd2 : (UInt8.ofNat (48 + x % 10)).toNat = 48 + x % 10 := by show (48 + x % 10) % 256 = _; omega
      obtain ⟨d, hdd⟩ : ∃ d, UInt8.ofNat (48 + x % 10) = d := ⟨_, rfl⟩
      rw [hdd] at hset hd2
      obtain ⟨k, hk⟩ : ∃ k, v - 1 - j = k := ⟨_, rfl⟩
      rw [hk] at hset
      have ei : (v : Int) - 1 - j = (k : Int) := by omega
      rw [ei]
      have hkv : k < v := by omega
      have hby := rowAt_set hrow k (by rw [hlen]; exact hkv) d
      rw [hset, hd2] at hby
      obtain ⟨hc, hf⟩ := hrow k (by rw [hlen]; exact hkv)
      obtain ⟨b, hb⟩ : ∃ b, ((List.replicate (v - j) (0 : UInt8) ++ dg n j).getD k 0).toNat = b := ⟨_, rfl⟩
      rw [hb] at hc
      have hbel2 := (hbel.setCell (p := ⟨w.heap.size, k, none⟩) (Nat.le_refl _) (.int .u8 ((48 + x % 10 : Nat) : Int)))
      have H1 := Lib.hid hs1; have H2 := Lib.hid hby; have H3 := Lib.hid hbel2
      have HK := Lib.hid hk
      clear hs1 hdg hxx hset hlen hd2 hdd hk ei hrow hbel hby hbel2 hb HROW HBEL
      go_wp2
      go_roundw
      case rel => exact ⟨j + 1, by omega, by have := HK.out; go_num, by rw [H1.out]; go_num, H2.out, H3.out⟩
      case measure => simp [intOf]
    · obtain rfl : j = v := by omega
      rw [Nat.sub_self, List.replicate_zero, List.nil_append] at hrow
      have hl := laid_row hrow j (dg_length n j)
      obtain ⟨x, hxx⟩ : ∃ x, n / 10 ^ j = x := ⟨_, rfl⟩
      rw [hxx] at hx ⊢
      have HX := Lib.hid hxx; have HL := Lib.hid hl; have HB := Lib.hid hbel
      have ei : (j : Int) - 1 - j = -1 := by omega
      rw [ei]
      clear hs1 hdg hxx hl hrow hbel ei HROW HBEL
      by_cases hz : x = 0
      · subst hz
        go_wp2_with fail
        refine (HL.out).mono ?_; rintro e w' ⟨rfl, rfl⟩
        go_wp2
        go_ret
        exact ⟨ret_str (by rw [HR.out, HX.out, if_pos rfl]), HB.out⟩
      · have hz2 : 0 < x := by omega
        go_wp2
        go_ret
        exact ⟨ret_str (by rw [HR.out, HX.out, if_neg hz]), HB.out⟩
end Go.Proofs.Ytfbocmmdkhnaoaa
