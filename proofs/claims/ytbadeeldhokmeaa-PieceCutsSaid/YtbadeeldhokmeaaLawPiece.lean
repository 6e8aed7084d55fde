/-
  The walks of the laws PieceCuts, PieceSlices and PieceWhole.
-/
import Derived.Test.YtbadeeldhokmeaaPieceDev
import Derived.Deep.QuietTactic
import Derived.BigQuiet
namespace Go.Proofs.Ytbadeeldhokmeaa
open Go.RowKit

theorem cut_here : cutL 30 4 = [(30, 32), (32, 34)] := by decide +kernel
set_option maxRecDepth 100000 in
set_option maxHeartbeats 400000 in
theorem lives5_any (w : World) : Calls Try.prog 6 #[] w fun e w' => e = .returned (.bool true) ∧ Below w.heap.size w w' := by
  have hp := pcut_any 30 4
  rw [cut_here] at hp
  have HP := Lib.hid hp; clear hp
  go_enter Try.func6, Try.ntmps6
  go_wp2_with fail
  refine (HP.out _).mono ?_
  rintro e w' ⟨a, c, rfl, hr, hb⟩
  obtain ⟨ad, rfl, _, q0, q1⟩ := hr 0 (by simp)
  obtain ⟨ad', he, _, q2, q3⟩ := hr 1 (by simp)
  obtain rfl : ad = ad' := by simpa using he
  simp [Addr.add] at q0 q1 q2 q3
  clear hr he
  go_wp2
  go_ret
  exact ⟨rfl, hb⟩

theorem cutL_len (p n : Int) (h : n ≤ 5000) : (cutL p n).length ≤ 5000 := by
  unfold cutL
  split
  · simp
  · rw [spL_len]; have := spN_le p.toNat n.toNat; omega

set_option maxRecDepth 100000 in
set_option maxHeartbeats 800000 in
theorem pieceCuts_walk (p n : Int) (w0 : (Lit.int .i64 p).wf = true) (w1 : (Lit.int .i64 n).wf = true) (w : World) :
    Calls Try.prog 3 #[.int .i64 p, .int .i64 n] w fun e w' => e = .returned (.bool true) ∧ Below w.heap.size w w' := by
  obtain ⟨p0, p1⟩ := bounds_i64 w0
  obtain ⟨n0, n1⟩ := bounds_i64 w1
  clear w0 w1
  by_cases hbig : 5000 < n ∧ n ≤ 131072
  · obtain ⟨g1, g2⟩ := hbig
    go_enter Try.func3, Try.ntmps3
    go_wp2_with fail
    refine (lives5_any _).mono ?_; rintro e w1 ⟨rfl, hb1⟩
    go_wp2
    go_ret
    exact ⟨rfl, hb1⟩
  have hle : (cutL p n).length ≤ 5000 := by
    by_cases h : n ≤ 5000
    · exact cutL_len p n h
    · rw [cutL_no p n (by omega)]; simp
  have c1 := pcut_any p n
  have c2 := rcut_any p n
  have c3 := pcount_any n n0 n1
  have c4 := rcount_any n n0 n1
  obtain ⟨L, hL⟩ : ∃ L, cutL p n = L := ⟨_, rfl⟩
  obtain ⟨m, hm⟩ : ∃ m, cntI n = m := ⟨_, rfl⟩
  rw [hL] at c1 c2 hle
  rw [hm] at c3 c4
  have C1 := Lib.hid c1; have C2 := Lib.hid c2; have C3 := Lib.hid c3; have C4 := Lib.hid c4
  clear c1 c2 c3 c4 hL hm
  have t0 : (decide (5000 < n) && decide (n ≤ 131072)) = false := by simp; omega
  rcases (show n ≤ 5000 ∨ 131072 < n by omega) with hn | hn
  all_goals
    clear hbig
    go_enter Try.func3, Try.ntmps3
    go_wp2_with fail
    refine (C1.out _).mono ?_
    rintro e w1 ⟨a1, k1, rfl, hr1, hb1⟩
    go_wp2_with fail
    refine (C2.out _).mono ?_
    rintro e w2 ⟨a2, k2, rfl, hr2, hb2⟩
    have hb3 := hb1.trans (hb2.mono hb1.size)
    have hr3 := hr1.below hb2
    have R1 := Lib.hid hr3; have R2 := Lib.hid hr2
    clear hr1 hr2 hr3
    go_wp2_with (first | (go_at_call 9; (with_reducible refine (C3.out _).mono ?_); rintro e w' ⟨rfl, rfl⟩) | (go_at_call 10; (with_reducible refine (C4.out _).mono ?_); rintro e w' ⟨rfl, rfl⟩))
    go_loopw [7] (fun i wr => ∃ k d : Nat, k ≤ L.length ∧ i = .int .i64 k ∧ wr = w2.drewN d) (fun i _ => L.length - (intOf i).toNat)
    case atStart => exact ⟨0, 0, Nat.zero_le _, rfl, rfl⟩
    case round =>
      obtain ⟨k, d, hk, rfl, rfl⟩ := hrel
      by_cases hlt : k < L.length
      · obtain ⟨a, rfl, _, q0, q1⟩ := R1.out k hlt
        obtain ⟨b, rfl, _, q2, q3⟩ := R2.out k hlt
        obtain ⟨x, hx⟩ : ∃ x, (L[k]'hlt).1 = x := ⟨_, rfl⟩
        obtain ⟨y, hy⟩ : ∃ x, (L[k]'hlt).2 = x := ⟨_, rfl⟩
        rw [hx] at q0 q2
        rw [hy] at q1 q3
        clear hx hy
        have t1 : ((x : Int) != (x : Int)) = false := by simp
        have t2 : ((y : Int) != (y : Int)) = false := by simp
        have b0 : (0 : Int) ≤ (k : Int) := by omega
        have b1 : (k : Int) < (L.length : Int) := by omega
        go_wp2
        go_quiet (fail)
        go_wp2
        go_roundw
        case rel => exact ⟨k + 1, _, by omega, by go_num, rfl⟩
        case measure => simp [intOf]; omega
      · obtain rfl : k = L.length := by omega
        go_wp2_with fail
        refine (lives5_any _).mono ?_; rintro e w3 ⟨rfl, hb4⟩
        go_wp2
        go_ret
        exact ⟨rfl, hb3.trans ((drewN_below (Below.refl _ _) d).trans (hb4.mono hb3.size))⟩

set_option maxRecDepth 100000 in
set_option maxHeartbeats 800000 in
theorem pieceSlices_walk (a b : ByteArray) (j : Int) (_w0 : a.size ≤ maxLen) (_w1 : b.size ≤ maxLen) (_w2 : (Lit.int .i64 j).wf = true) (w : World) :
    Calls Try.prog 4 #[.string a, .string b, .int .i64 j] w fun e w' => e = .returned (.bool true) ∧ Below w.heap.size w w' := by
  clear _w0 _w1 _w2
  by_cases ha : 1000 < a.size
  · go_enter Try.func4, Try.ntmps4
    go_wp2_with fail
    refine (lives5_any _).mono ?_; rintro e w1 ⟨rfl, hb1⟩
    go_wp2
    go_ret
    exact ⟨rfl, hb1⟩
  by_cases hb : 1000 < b.size
  · go_enter Try.func4, Try.ntmps4
    go_wp2_with fail
    refine (lives5_any _).mono ?_; rintro e w1 ⟨rfl, hb1⟩
    go_wp2
    go_ret
    exact ⟨rfl, hb1⟩
  have ha' : a.size ≤ 1000 := by omega
  have hb' : b.size ≤ 1000 := by omega
  clear ha hb
  have hle : (unlL a.data.toList b.data.toList).length ≤ 1000 := by
    have := unl_len a.data.toList b.data.toList (max (cntN a.data.toList.length) (cntN b.data.toList.length))
    have e1 : a.data.toList.length = a.size := by simp
    have e2 : b.data.toList.length = b.size := by simp
    unfold unlL
    rw [e1, e2] at this ⊢
    unfold cntN at this ⊢
    omega
  have c1 := punlike_any a b (by omega) (by omega)
  have c2 := runlike_any a b (by omega) (by omega)
  have c3 := pslice_any a (by omega) j
  have c4 := rslice_any a (by omega) j
  obtain ⟨L, hL⟩ : ∃ L, unlL a.data.toList b.data.toList = L := ⟨_, rfl⟩
  obtain ⟨s, hs⟩ : ∃ s, slS a j = s := ⟨_, rfl⟩
  rw [hL] at c1 c2 hle
  rw [hs] at c3 c4
  have C1 := Lib.hid c1; have C2 := Lib.hid c2; have C3 := Lib.hid c3; have C4 := Lib.hid c4
  clear c1 c2 c3 c4 hL hs
  go_enter Try.func4, Try.ntmps4
  go_wp2_with fail
  refine (C1.out _).mono ?_
  rintro e w1 ⟨a1, k1, rfl, hr1, hb1⟩
  go_wp2_with fail
  refine (C2.out _).mono ?_
  rintro e w2 ⟨a2, k2, rfl, hr2, hb2⟩
  have hb3 := hb1.trans (hb2.mono hb1.size)
  have hr3 := hr1.below hb2
  have R1 := Lib.hid hr3; have R2 := Lib.hid hr2
  clear hr1 hr2 hr3
  go_wp2
  go_loopw [9] (fun i wr => ∃ k d : Nat, k ≤ L.length ∧ i = .int .i64 k ∧ wr = w2.drewN d) (fun i _ => L.length - (intOf i).toNat)
  case atStart => exact ⟨0, 0, Nat.zero_le _, rfl, rfl⟩
  case round =>
    obtain ⟨k, d, hk, rfl, rfl⟩ := hrel
    by_cases hlt : k < L.length
    · obtain ⟨a, rfl, _, q0⟩ := R1.out k hlt
      obtain ⟨b, rfl, _, q2⟩ := R2.out k hlt
      obtain ⟨x, hx⟩ : ∃ x, L[k]'hlt = x := ⟨_, rfl⟩
      rw [hx] at q0 q2
      clear hx
      have t1 : ((x : Int) != (x : Int)) = false := by simp
      have b0 : (0 : Int) ≤ (k : Int) := by omega
      have b1 : (k : Int) < (L.length : Int) := by omega
      go_wp2
      go_quiet (fail)
      go_wp2
      go_roundw
      case rel => exact ⟨k + 1, _, by omega, by go_num, rfl⟩
      case measure => simp [intOf]; omega
    · obtain rfl : k = L.length := by omega
      go_wp2_with (first | (go_at_call 13; (with_reducible refine (C3.out _).mono ?_); rintro e w5 ⟨rfl, hb5⟩) | (go_at_call 14; (with_reducible refine (C4.out _).mono ?_); rintro e w' ⟨rfl, rfl⟩) | (go_at_call 6; refine (lives5_any _).mono ?_; rintro e w3 ⟨rfl, hb4⟩))
      go_ret
      have hb6 := (drewN_below (Below.refl _ _) d).trans hb5
      exact ⟨by simp, hb3.trans ((hb6.trans (hb4.mono hb6.size)).mono hb3.size)⟩

/-- The text so far: as many sectors as there are. -/
def firsts (a : ByteArray) (k : Nat) : ByteArray := a.extract 0 (min (32 * k) a.size)
theorem firsts_size (a : ByteArray) (k : Nat) : (firsts a k).size = min (32 * k) a.size := by unfold firsts; rw [ByteArray.size_extract]; omega
theorem firsts_list (a : ByteArray) (k : Nat) : (firsts a k).data.toList = a.data.toList.take (32 * k) := by
  have hlen : a.data.toList.length = a.size := by simp
  unfold firsts
  rw [extract_list, List.drop_zero, Nat.sub_zero]
  by_cases h : 32 * k ≤ a.size
  · rw [Nat.min_eq_left h]
  · rw [Nat.min_eq_right (by omega), List.take_of_length_le (by omega), List.take_of_length_le (by omega)]
theorem firsts_zero (a : ByteArray) : firsts a 0 = ByteArray.empty := str_ext (by rw [firsts_list]; rfl)
theorem firsts_succ (a : ByteArray) (k : Nat) : firsts a k ++ slS a k = firsts a (k + 1) :=
  str_ext (by rw [app_list, firsts_list, firsts_list, slS_list, ← take_sector])
theorem firsts_all (a : ByteArray) (k : Nat) (h : cntN a.size ≤ k) : firsts a k = a := by
  have hlen : a.data.toList.length = a.size := by simp
  exact str_ext (by rw [firsts_list, List.take_of_length_le (by unfold cntN at h; omega)])

set_option maxRecDepth 100000 in
set_option maxHeartbeats 800000 in
theorem pieceWhole_walk (a b : ByteArray) (_w0 : a.size ≤ maxLen) (_w1 : b.size ≤ maxLen) (w : World) :
    Calls Try.prog 5 #[.string a, .string b] w fun e w' => e = .returned (.bool true) ∧ Below w.heap.size w w' := by
  clear _w0 _w1
  by_cases ha : 1000 < a.size
  · go_enter Try.func5, Try.ntmps5
    go_wp2_with fail
    refine (lives5_any _).mono ?_; rintro e w1 ⟨rfl, hb1⟩
    go_wp2
    go_ret
    exact ⟨rfl, hb1⟩
  by_cases hb : 1000 < b.size
  · go_enter Try.func5, Try.ntmps5
    go_wp2_with fail
    refine (lives5_any _).mono ?_; rintro e w1 ⟨rfl, hb1⟩
    go_wp2
    go_ret
    exact ⟨rfl, hb1⟩
  have ha' : a.size ≤ 1000 := by omega
  have hb' : b.size ≤ 1000 := by omega
  clear ha hb
  have c1 := pcount_any a.size (by omega) (by omega)
  rw [cntI_nat] at c1
  obtain ⟨n, hn⟩ : ∃ n, cntN a.size = n := ⟨_, rfl⟩
  rw [hn] at c1
  have hn32 : n ≤ 32 := by unfold cntN at hn; omega
  have hn1 : a.size ≤ 32 * n := by unfold cntN at hn; omega
  have hn2 : 32 * n < a.size + 32 := by unfold cntN at hn; omega
  have c2 := pslice_any a (by omega) n
  have e2 : slS a n = ByteArray.empty := by
    refine str_ext ?_
    rw [slS_list]
    unfold slL
    rw [List.drop_eq_nil_of_le (by simpa using hn1)]
    rfl
  rw [e2] at c2
  have c3 := punlike_any a b (by omega) (by omega)
  have C1 := Lib.hid c1; have C2 := Lib.hid c2; have C3 := Lib.hid c3
  have HN := Lib.hid hn
  clear c1 c2 c3 e2 hn
  go_enter Try.func5, Try.ntmps5
  go_wp2_with (go_at_call 9; (with_reducible refine (C1.out _).mono ?_); rintro e w' ⟨rfl, rfl⟩)
  go_loopw [5, 7] (fun v i wr => ∃ k : Nat, k ≤ n ∧ i = .int .i64 k ∧ v = .string (firsts a k) ∧ Below w.heap.size w wr) (fun _ i _ => n - (intOf i).toNat)
  case atStart => exact ⟨0, Nat.zero_le _, rfl, by rw [firsts_zero]; rfl, Below.refl _ _⟩
  case round =>
    obtain ⟨k, hk, rfl, rfl, hbel⟩ := hrel
    have hfs := firsts_size a k
    by_cases hlt : k < n
    · have s1 := pslice_any a (by omega) k
      have z1 := slS_size a k
      have f1 := firsts_succ a k
      obtain ⟨x, hx⟩ : ∃ x, slS a k = x := ⟨_, rfl⟩
      obtain ⟨y, hy⟩ : ∃ x, firsts a k = x := ⟨_, rfl⟩
      rw [hx] at s1 z1 f1
      rw [hy] at f1 hfs ⊢
      have S1 := Lib.hid s1; have F1 := Lib.hid f1
      clear s1 f1 hx hy
      have hx1 : 1 ≤ x.size := by omega
      have hx2 : x.size ≤ 32 := by omega
      have hy1 : y.size ≤ 1000 := by omega
      have t1 : x.toList.isEmpty = false := by
        rw [ByteArray.toList_eq]
        cases h : x.data.toList with
        | nil => have : x.size = 0 := by rw [← ByteArray.size_data, ← Array.length_toList, h]; rfl
                 omega
        | cons _ _ => rfl
      have HZ := Lib.hid z1; clear z1 hfs
      by_cases hlast : k + 1 < n
      · have h32 : x.size = 32 := by have := HZ.out; omega
        have t2 : ((x.size : Int) != 32) = false := by rw [h32]; rfl
        clear h32
        go_wp2_with (go_at_call 13; (with_reducible refine (S1.out _).mono ?_); rintro e w1 ⟨rfl, hb1⟩)
        go_roundw
        case rel => exact ⟨k + 1, by omega, by go_num, by rw [F1.out], hbel.trans (hb1.mono hbel.size)⟩
        case measure => simp [intOf]; omega
      · have t2 : (n : Int) - 1 ≤ (k : Int) := by omega
        clear hlast
        go_wp2_with (go_at_call 13; (with_reducible refine (S1.out _).mono ?_); rintro e w1 ⟨rfl, hb1⟩)
        go_roundw
        case rel => exact ⟨k + 1, by omega, by go_num, by rw [F1.out], hbel.trans (hb1.mono hbel.size)⟩
        case measure => simp [intOf]; omega
    · obtain rfl : k = n := by omega
      rw [firsts_all a k (by rw [HN.out]; exact Nat.le_refl _)] at hfs ⊢
      clear hfs hn1 hn2
      have t1 : (a.toList == a.toList) = true := by simp
      by_cases hab : a = b
      · have hu : unlL a.data.toList b.data.toList = [] := by rw [unlL_nil, hab]
        have t2 : (a.toList == b.toList) = true := by rw [hab]; simp
        have c3 := C3.out
        rw [hu] at c3
        have C4 := Lib.hid c3
        clear hu c3 hab C3
        go_wp2_with fail
        refine (C2.out _).mono ?_
        rintro e w5 ⟨rfl, hb5⟩
        go_wp2_with fail
        refine (C4.out _).mono ?_
        rintro e w1 ⟨a1, k1, rfl, hr1, hb1⟩
        clear hr1
        go_wp2_with fail
        refine (lives5_any _).mono ?_
        rintro e w3 ⟨rfl, hb4⟩
        go_wp2
        go_ret
        have hb6 := hbel.trans (hb5.mono hbel.size)
        have hb7 := hb6.trans (hb1.mono hb6.size)
        exact ⟨by simp, hb7.trans (hb4.mono hb7.size)⟩
      · have hu : (unlL a.data.toList b.data.toList).length ≠ 0 := by
          rw [Ne, List.length_eq_zero_iff, unlL_nil]
          exact fun h => hab (str_ext h)
        have t2 := str_ne hab
        have c3 := C3.out
        obtain ⟨L, hL⟩ : ∃ L, unlL a.data.toList b.data.toList = L := ⟨_, rfl⟩
        rw [hL] at c3 hu
        have t3 : ((L.length : Int) == 0) = false := beq_eq_false_iff_ne.2 (by omega)
        have t4 : (L.length == 0) = false := beq_eq_false_iff_ne.2 hu
        have C4 := Lib.hid c3
        have HU := Lib.hid hu
        clear hu c3 hab C3 hL
        go_wp2_with fail
        refine (C2.out _).mono ?_
        rintro e w5 ⟨rfl, hb5⟩
        go_wp2_with fail
        refine (C4.out _).mono ?_
        rintro e w1 ⟨a1, k1, rfl, hr1, hb1⟩
        clear hr1
        go_wp2_with fail
        refine (lives5_any _).mono ?_
        rintro e w3 ⟨rfl, hb4⟩
        go_wp2
        go_ret
        have hb6 := hbel.trans (hb5.mono hbel.size)
        have hb7 := hb6.trans (hb1.mono hb6.size)
        exact ⟨by simp, hb7.trans (hb4.mono hb7.size)⟩
end Go.Proofs.Ytbadeeldhokmeaa
