/-
  Contracts of the program's numbers (its code at e2f1e76b).
-/
import Derived.Test.YtlgdlkiekodocaaDoorNumRef
import Derived.Test.YtlgdlkiekodocaaDoorRow
import Derived.Lib.QuoteBits
import Derived.IntWalk
import Derived.StillTailTactics
namespace Go.Proofs.YtlgdlkiekodocaaDoor
open Go.RowKit

theorem leN_snoc (l : List UInt8) : ∀ m k, leN l k (m + 1) = leN l k m + 256 ^ m * bt l (k + m) := by
  intro m
  induction m with
  | zero => intro k; simp [leN]
  | succ m ih =>
    intro k
    have h1 : leN l k (m + 1 + 1) = bt l k + 256 * leN l (k + 1) (m + 1) := rfl
    have h2 : leN l k (m + 1) = bt l k + 256 * leN l (k + 1) m := rfl
    rw [h1, h2, ih (k + 1), Nat.pow_succ, show k + 1 + m = k + (m + 1) by omega, Nat.mul_add, ← Nat.mul_assoc, Nat.mul_comm 256 (256 ^ m), Nat.add_assoc]

/-- 'or' of two ints that share no bit, the one below 2^s, the other a multiple of it. -/
theorem i64_or_join (x b s : Nat) (hx : x < 2 ^ s) (hb : b * 2 ^ s + x < 9223372036854775808) : bits .or .i64 (x : Int) ((b * 2 ^ s : Nat) : Int) = ((x + b * 2 ^ s : Nat) : Int) := by
  show IntKind.i64.wrap ((BitVec.ofInt 64 (x : Int) ||| BitVec.ofInt 64 ((b * 2 ^ s : Nat) : Int)).toNat : Int) = _
  rw [BitVec.toNat_or, ofInt_u64 x (by omega), ofInt_u64 (b * 2 ^ s) (by omega)]
  have e : x ||| b * 2 ^ s = x + b * 2 ^ s := by
    rw [Nat.or_comm, Nat.mul_comm, ← Nat.two_pow_add_eq_or_of_lt hx b, Nat.add_comm]
  rw [e]
  exact Lib.wrap_i64_small _ (by omega)
theorem or_shl (x b j : Nat) (hj : j < 4) (hx : x < 256 ^ j) (hb : b < 256) : bits .or .i64 (x : Int) (wrap64 ((b : Int) * 2 ^ (8 * j))) = ((x + 256 ^ j * b : Nat) : Int) := by
  have e : (256 : Nat) ^ j = 2 ^ (8 * j) := by rw [Nat.pow_mul]
  have hp : 2 ^ (8 * j) ≤ 2 ^ 24 := Nat.pow_le_pow_right (by omega) (by omega)
  have hm : b * 2 ^ (8 * j) ≤ 255 * 2 ^ 24 := Nat.mul_le_mul (by omega) hp
  have w : wrap64 ((b : Int) * 2 ^ (8 * j)) = ((b * 2 ^ (8 * j) : Nat) : Int) := by
    have e2 : (b : Int) * 2 ^ (8 * j) = ((b * 2 ^ (8 * j) : Nat) : Int) := by simp
    rw [e2]
    have h63 : b * 2 ^ (8 * j) < 9223372036854775808 := by omega
    unfold wrap64; omega
  rw [e] at hx ⊢
  rw [w, i64_or_join x b (8 * j) hx (by omega), Nat.mul_comm]

theorem laid_any (xs : List Int) (n : Nat) (hn : xs.length = n) (w : World) :
    Calls Tryd.prog 37 #[.slice (some ⟨w.heap.size, 0, none⟩) n n] (w.alloc (.cells (xs.map (Value.int .u8)).toArray 5)) fun e w' => e = .returned (.string (strOfNums xs)) ∧ w.alloc (.cells (xs.map (Value.int .u8)).toArray 5) = w' := by
  have hc := conv_row xs n hn w
  go_enter Tryd.func37, Tryd.ntmps37
  go_wp2
  go_ret
  exact ⟨rfl, rfl⟩

set_option maxRecDepth 100000 in
set_option maxHeartbeats 400000 in
theorem nnumber_any (l : List UInt8) (n : Nat) (hn : l.length = n) (hn4 : n ≤ 4) (g : Nat) (W : World) (hc : ∀ i (h : i < l.length), W.cell? ⟨g, i, none⟩ = some (.int .u8 ((l[i].toNat : Nat) : Int))) :
    Calls Tryd.prog 39 #[.slice (some ⟨g, 0, none⟩) n n] W fun e w' => e = .returned (.int .i64 (leN l 0 n)) ∧ W = w' := by
  have HC := Lib.hid hc; clear hc
  have HN := Lib.hid hn; clear hn
  go_enter Tryd.func39, Tryd.ntmps39
  go_wp2
  go_loop [3, 8] (fun x i => ∃ j : Nat, j ≤ n ∧ i = .int .i64 j ∧ x = .int .i64 (leN l 0 j)) (fun _ i => n - (intOf i).toNat)
  case atStart => exact ⟨0, Nat.zero_le _, rfl, rfl⟩
  case round =>
    obtain ⟨j, hj, rfl, rfl⟩ := hrel
    by_cases hlt : j < n
    · have hb := HC.out j (by rw [HN.out]; exact hlt)
      have hb2 := (l[j]'(by rw [HN.out]; exact hlt)).toNat_lt
      have hle := leN_lt l j 0
      have hs := leN_snoc l j 0
      have hbt : bt l j = (l[j]'(by rw [HN.out]; exact hlt)).toNat := by unfold bt; simp [List.getD_eq_getElem?_getD, List.getElem?_eq_getElem (show j < l.length by rw [HN.out]; exact hlt)]
      rw [Nat.zero_add, hbt] at hs
      obtain ⟨b, hbb⟩ : ∃ b, (l[j]'(by rw [HN.out]; exact hlt)).toNat = b := ⟨_, rfl⟩
      rw [hbb] at hb hb2 hs
      obtain ⟨x, hx⟩ : ∃ x, leN l 0 j = x := ⟨_, rfl⟩
      rw [hx] at hle hs ⊢
      have HS := Lib.hid hs
      clear hs hbt hbb hx
      have hj4 : j < 4 := by omega
      go_wp2
      go_round
      case rel => exact ⟨j + 1, by omega, by go_num, by rw [HS.out, or_shl x b j hj4 hle hb2]⟩
      case measure => simp [intOf]; omega
    · obtain rfl : j = n := by omega
      go_wp2
      go_ret
      exact ⟨rfl, rfl⟩

set_option maxRecDepth 100000 in
theorem stand_any (s : ByteArray) (hs : s.size ≤ maxLen) (p : Int) (m : Nat) (hm : m ≤ 4) (w : World) :
    Calls Tryd.prog 38 #[.string s, .int .i64 p, .int .i64 m] w fun e w' => e = .returned (.bool (decide (0 ≤ p) && decide (p ≤ (s.size : Int) - m))) ∧ w = w' := by
  unfold maxLen at hs
  by_cases h0 : 0 ≤ p
  · by_cases h1 : p ≤ (s.size : Int) - m
    · go_enter Tryd.func38, Tryd.ntmps38
      go_wp2
      go_ret
      exact ⟨ret_bool (by rw [decide_eq_true h0, decide_eq_true h1]; rfl), rfl⟩
    · have h1' : (s.size : Int) - m < p := by omega
      go_enter Tryd.func38, Tryd.ntmps38
      go_wp2
      go_ret
      exact ⟨ret_bool (by rw [decide_eq_false (by omega : ¬ p ≤ (s.size : Int) - m)]), rfl⟩
  · have h0' : p < 0 := by omega
    go_enter Tryd.func38, Tryd.ntmps38
    go_wp2
    go_ret
    exact ⟨ret_bool (by rw [decide_eq_false (by omega : ¬ 0 ≤ p)]; rfl), rfl⟩
theorem number_new (l : List UInt8) (n : Nat) (hn : l.length = n) (hn4 : n ≤ 4) (w : World) (xs : Array Value) (hx : xs = (l.map fun b => Value.int .u8 ((b.toNat : Nat) : Int)).toArray) :
    Calls Tryd.prog 39 #[.slice (some ⟨w.heap.size, 0, none⟩) n n] (w.alloc (.cells xs 5)) fun e w' => e = .returned (.int .i64 (leN l 0 n)) ∧ w.alloc (.cells xs 5) = w' := by
  subst hx
  refine nnumber_any l n hn hn4 _ _ fun i h => ?_
  rw [World.cell?_alloc_new]
  simp [h]

theorem nums2 (s : ByteArray) (k : Nat) (h : k + 2 ≤ s.size) : leN [s[k], s[k + 1]] 0 2 = leN s.data.toList k 2 := by
  show (s[k]).toNat + 256 * ((s[k + 1]).toNat + 256 * 0) = bt _ k + 256 * (bt _ (k + 1) + 256 * 0)
  rw [bt_get s k (by omega), bt_get s (k + 1) (by omega)]
theorem nums4 (s : ByteArray) (k : Nat) (h : k + 4 ≤ s.size) : leN [s[k], s[k + 1], s[k + 2], s[k + 3]] 0 4 = leN s.data.toList k 4 := by
  show (s[k]).toNat + 256 * ((s[k + 1]).toNat + 256 * ((s[k + 2]).toNat + 256 * ((s[k + 3]).toNat + 256 * 0))) = bt _ k + 256 * (bt _ (k + 1) + 256 * (bt _ (k + 1 + 1) + 256 * (bt _ (k + 1 + 1 + 1) + 256 * 0)))
  rw [bt_get s k (by omega), bt_get s (k + 1) (by omega), bt_get s (k + 1 + 1) (by omega), bt_get s (k + 1 + 1 + 1) (by omega)]

set_option maxRecDepth 100000 in
set_option maxHeartbeats 400000 in
theorem nget32_b (s : ByteArray) (hs : s.size ≤ maxLen) (p : Int) (w : World) :
    Calls Tryd.prog 30 #[.string s, .int .i64 p] w fun e w' => e = .returned (.tuple #[.int .i64 (getI s.data.toList p 4).1, .bool (getI s.data.toList p 4).2]) ∧ Below w.heap.size w w' := by
  have hlen : s.data.toList.length = s.size := by simp
  have hst := stand_any s hs p 4 (by omega)
  unfold maxLen at hs
  by_cases hin : 0 ≤ p ∧ p ≤ (s.size : Int) - 4
  · have e : getI s.data.toList p 4 = (leN s.data.toList p.toNat 4, true) := by unfold getI; rw [hlen, if_neg (by omega)]
    have eb : (decide (0 ≤ p) && decide (p ≤ (s.size : Int) - (4 : Nat))) = true := by simp; omega
    rw [eb] at hst
    rw [e]
    obtain ⟨h0, h1⟩ := hin
    obtain ⟨k, rfl⟩ := Int.eq_ofNat_of_zero_le h0
    have hk : k + 4 ≤ s.size := by omega
    have k0 : k < s.size := by omega
    have k1 : k + 1 < s.size := by omega
    have k2 : k + 2 < s.size := by omega
    have k3 : k + 3 < s.size := by omega
    rw [Int.toNat_natCast, ← nums4 s k hk]
    have HST := Lib.hid hst
    have HNUM := Lib.hid (number_new [s[k]'k0, s[k + 1]'k1, s[k + 2]'k2, s[k + 3]'k3] 4 rfl (by omega))
    clear e eb hst hlen h0 h1
    go_enter Tryd.func30, Tryd.ntmps30
    go_wp2_with fail
    refine (HST.out _).mono ?_; rintro e w' ⟨rfl, rfl⟩
    have y1 : IntKind.i64.wrap ((k : Int) + 1) = (k : Int) + 1 := IntWalk.i64_in _ (by omega)
    have x1 : ((k : Int) + 1).toNat = k + 1 := by omega
    have v1 : (0 : Int) ≤ (k : Int) + 1 := by omega
    have u1 : (k : Int) + 1 < (s.size : Int) := by omega
    have y2 : IntKind.i64.wrap ((k : Int) + 2) = (k : Int) + 2 := IntWalk.i64_in _ (by omega)
    have x2 : ((k : Int) + 2).toNat = k + 2 := by omega
    have v2 : (0 : Int) ≤ (k : Int) + 2 := by omega
    have u2 : (k : Int) + 2 < (s.size : Int) := by omega
    have y3 : IntKind.i64.wrap ((k : Int) + 3) = (k : Int) + 3 := IntWalk.i64_in _ (by omega)
    have x3 : ((k : Int) + 3).toNat = k + 3 := by omega
    have v3 : (0 : Int) ≤ (k : Int) + 3 := by omega
    have u3 : (k : Int) + 3 < (s.size : Int) := by omega
    go_wp2
    go_still_tail 15, (by kernel_rfl)
    change wpList _ _ _ _ _ w.drew
    have hb2 : Below w.heap.size w w.drew := (Below.refl _ _).drew
    revert hb2
    generalize w.drew = w2
    intro hb2
    have HB := Lib.hid hb2; clear hb2
    go_wp2_with fail
    refine (HNUM.out _ _ rfl).mono ?_; rintro e w' ⟨rfl, rfl⟩
    go_wp2
    go_ret2
    exact ⟨rfl, HB.out.alloc HB.out.size _⟩
  · have e : getI s.data.toList p 4 = (0, false) := by unfold getI; rw [hlen, if_pos (by omega)]
    have eb : (decide (0 ≤ p) && decide (p ≤ (s.size : Int) - (4 : Nat))) = false := by simp; omega
    rw [eb] at hst
    rw [e]
    have HST := Lib.hid hst
    clear e eb hst hlen hin
    go_enter Tryd.func30, Tryd.ntmps30
    go_wp2_with fail
    refine (HST.out _).mono ?_; rintro e w' ⟨rfl, rfl⟩
    go_wp2
    go_ret2
    exact ⟨rfl, Below.refl _ _⟩

theorem strOf_two (n : Int) : strOfNums [n % 256, n / 256 % 256] = ⟨(leL (u64 n) 2).toArray⟩ := by
  have h1 : (n % 256).toNat = u64 n % 256 := by unfold u64; omega
  have h2 : (n / 256 % 256).toNat = u64 n / 256 % 256 := by unfold u64; omega
  refine str_ext ?_
  simp [strOfNums, leL, h1, h2]
theorem strOf_four (n : Int) : strOfNums [n % 256, n / 256 % 256, n / 65536 % 256, n / 16777216 % 256] = ⟨(leL (u64 n) 4).toArray⟩ := by
  have h1 : (n % 256).toNat = u64 n % 256 := by unfold u64; omega
  have h2 : (n / 256 % 256).toNat = u64 n / 256 % 256 := by unfold u64; omega
  have h3 : (n / 65536 % 256).toNat = u64 n / 65536 % 256 := by unfold u64; omega
  have h4 : (n / 16777216 % 256).toNat = u64 n / 16777216 % 256 := by unfold u64; omega
  refine str_ext ?_
  simp [strOfNums, leL, h1, h2, h3, h4]

set_option maxRecDepth 100000 in
set_option maxHeartbeats 400000 in
theorem nput32_any (n : Int) (w : World) :
    Calls Tryd.prog 29 #[.int .i64 n] w fun e w' => e = .returned (.string ⟨(leL (u64 n) 4).toArray⟩) ∧ Below w.heap.size w w' := by
  rw [← strOf_four]
  have HL := Lib.hid (laid_any [n % 256, n / 256 % 256, n / 65536 % 256, n / 16777216 % 256] 4 rfl)
  go_enter Tryd.func29, Tryd.ntmps29
  go_wp2_with fail
  refine (HL.out _).mono ?_; rintro e w1 ⟨rfl, rfl⟩
  go_wp2
  go_ret
  exact ⟨rfl, (Below.refl _ _).alloc (Nat.le_refl _) _⟩

theorem laid_row {W : World} {g : Nat} {l : List UInt8} (h : RowAt W g l) (n : Nat) (hn : l.length = n) :
    Calls Tryd.prog 37 #[.slice (some ⟨g, 0, none⟩) n n] W fun e w' => e = .returned (.string ⟨l.toArray⟩) ∧ W = w' := by
  have hc := row_string h n n hn
  clear h
  go_enter Tryd.func37, Tryd.ntmps37
  go_wp2
  go_ret
  exact ⟨rfl, rfl⟩
theorem set_digit (n v j : Nat) (hj : j < v) (d : UInt8) (hd : dg n (j + 1) = d :: dg n j) :
    (List.replicate (v - j) (0 : UInt8) ++ dg n j).set (v - 1 - j) d = List.replicate (v - (j + 1)) 0 ++ dg n (j + 1) := by
  rw [hd, show v - j = (v - (j + 1)) + 1 by omega, show v - 1 - j = v - (j + 1) by omega, List.replicate_succ', List.append_assoc, List.set_append_right _ _ (by simp)]
  simp

end Go.Proofs.YtlgdlkiekodocaaDoor
