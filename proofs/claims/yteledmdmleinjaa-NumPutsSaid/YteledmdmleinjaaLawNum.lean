/-
  The walks of the laws NumPuts, NumGets, NumDigits and NumParses.
-/
import Derived.Test.YteledmdmleinjaaNumDev
namespace Go.Proofs.Yteledmdmleinjaa
open Go.RowKit

theorem l3_get : getI (⟨#[2, 1]⟩ : ByteArray).data.toList 0 2 = (258, true) := by decide +kernel
theorem l3_put : leL (u64 258) 2 = [2, 1] := by decide +kernel
theorem l3_dig : digitsI 7 3 = [48, 48, 55] := by decide +kernel

set_option maxRecDepth 100000 in
theorem lives3_any (w : World) : Calls Try.prog 13 #[] w fun e w' => e = .returned (.bool true) ∧ Below w.heap.size w w' := by
  have c1 := nget16_b ⟨#[2, 1]⟩ (by decide +kernel) 0
  have c2 := nput16_any 258
  have c3 := ndigits_any 7 3 (by omega)
  rw [l3_get] at c1
  rw [l3_put] at c2
  rw [l3_dig] at c3
  have C1 := Lib.hid c1; have C2 := Lib.hid c2; have C3 := Lib.hid c3
  clear c1 c2 c3
  have hb0 := Below.refl w.heap.size w
  go_enter Try.func13, Try.ntmps13
  go_wp2_with fail
  refine (onward (w0 := w) hb0 (C1.out _)).mono ?_; rintro e w1 ⟨rfl, hb1⟩
  go_wp2_with fail
  refine (onward (w0 := w) hb1 (C2.out _)).mono ?_; rintro e w2 ⟨rfl, hb2⟩
  go_wp2_with fail
  refine (onward (w0 := w) hb2 (C3.out _)).mono ?_; rintro e w3 ⟨rfl, hb3⟩
  go_wp2
  go_ret
  exact ⟨by simp, hb3⟩

theorem getI_all (l : List UInt8) (m : Nat) (h : l.length = m) : getI l 0 m = (leN l 0 m, true) := by
  unfold getI; rw [if_neg (by omega)]; rfl
theorem mk_size (l : List UInt8) : (⟨l.toArray⟩ : ByteArray).size = l.length := by show l.toArray.size = _; simp
theorem u64_of (n : Int) (h0 : 0 ≤ n) (h1 : n ≤ 9223372036854775807) : ((u64 n : Nat) : Int) = n := by unfold u64; omega

set_option maxRecDepth 100000 in
set_option maxHeartbeats 1000000 in
theorem numPuts_walk (n : Int) (w0 : (Lit.int .i64 n).wf = true) (w : World) :
    Calls Try.prog 3 #[.int .i64 n] w fun e w' => e = .returned (.bool true) ∧ Below w.heap.size w w' := by
  obtain ⟨n0, n1⟩ := bounds_i64 w0
  clear w0
  have c1 := nput16_any n
  have c2 := nput32_any n
  have c3 := rput16_any n
  have c4 := rput32_any n
  have c5 := nget16_b ⟨(leL (u64 n) 2).toArray⟩ (by rw [mk_size, leL_length]; decide) 0
  have c6 := nget32_b ⟨(leL (u64 n) 4).toArray⟩ (by rw [mk_size, leL_length]; decide) 0
  rw [str_nil, getI_all _ _ (leL_length _ _), leN_leL2] at c5
  rw [str_nil, getI_all _ _ (leL_length _ _), leN_leL4] at c6
  simp only at c5 c6
  obtain ⟨a, ha⟩ : ∃ a, (⟨(leL (u64 n) 2).toArray⟩ : ByteArray) = a := ⟨_, rfl⟩
  obtain ⟨b, hb⟩ : ∃ b, (⟨(leL (u64 n) 4).toArray⟩ : ByteArray) = b := ⟨_, rfl⟩
  rw [ha] at c1 c3 c5
  rw [hb] at c2 c4 c6
  clear ha hb
  have hu := u64_of n
  obtain ⟨u, hu'⟩ : ∃ u, u64 n = u := ⟨_, rfl⟩
  rw [hu'] at hu c5 c6
  clear hu'
  obtain ⟨x, hx⟩ : ∃ x, u % 65536 = x := ⟨_, rfl⟩
  obtain ⟨y, hy⟩ : ∃ y, u % 4294967296 = y := ⟨_, rfl⟩
  rw [hx] at c5
  rw [hy] at c6
  have hX := Lib.hid hx; have hY := Lib.hid hy
  have C1 := Lib.hid c1; have C2 := Lib.hid c2; have C3 := Lib.hid c3; have C4 := Lib.hid c4; have C5 := Lib.hid c5; have C6 := Lib.hid c6
  have HU := Lib.hid hu
  clear c1 c2 c3 c4 c5 c6 hx hy hu
  by_cases g0 : n < 0
  · clear n0 n1 hX hY HU
    have hb0 := Below.refl w.heap.size w
    go_enter Try.func3, Try.ntmps3
    go_wp2_with fail
    refine (onward (w0 := w) hb0 (C1.out _)).mono ?_; rintro e w1 ⟨rfl, hb1⟩
    go_wp2_with fail
    refine (onward (w0 := w) hb1 (C2.out _)).mono ?_; rintro e w2 ⟨rfl, hb2⟩
    go_wp2_with fail
    refine (onward (w0 := w) hb2 (C3.out _)).mono ?_; rintro e w3 ⟨rfl, hb3⟩
    go_wp2_with fail
    refine (onward (w0 := w) hb3 (C4.out _)).mono ?_; rintro e w4 ⟨rfl, hb4⟩
    go_wp2_with fail
    refine (onward (w0 := w) hb4 (C5.out _)).mono ?_; rintro e w5 ⟨rfl, hb5⟩
    go_wp2_with fail
    refine (onward (w0 := w) hb5 (C6.out _)).mono ?_; rintro e w6 ⟨rfl, hb6⟩
    go_wp2_with fail
    refine (onward (w0 := w) hb6 (lives3_any _)).mono ?_; rintro e w7 ⟨rfl, hb7⟩
    go_wp2
    go_ret
    exact ⟨by simp, hb7⟩
  have g0' : 0 ≤ n := by omega
  have hun := HU.out g0' n1
  by_cases g1 : n ≤ 65535
  · have e1 : (x : Int) = n := by have := hX.out; omega
    have e2 : (y : Int) = n := by have := hY.out; omega
    have q1 : ((x : Int) == n) = true := by simp; omega
    have q2 : ((y : Int) == n) = true := by simp; omega
    clear n0 n1 hX hY HU e1 e2 hun g0
    have hb0 := Below.refl w.heap.size w
    go_enter Try.func3, Try.ntmps3
    go_wp2_with fail
    refine (onward (w0 := w) hb0 (C1.out _)).mono ?_; rintro e w1 ⟨rfl, hb1⟩
    go_wp2_with fail
    refine (onward (w0 := w) hb1 (C2.out _)).mono ?_; rintro e w2 ⟨rfl, hb2⟩
    go_wp2_with fail
    refine (onward (w0 := w) hb2 (C3.out _)).mono ?_; rintro e w3 ⟨rfl, hb3⟩
    go_wp2_with fail
    refine (onward (w0 := w) hb3 (C4.out _)).mono ?_; rintro e w4 ⟨rfl, hb4⟩
    go_wp2_with fail
    refine (onward (w0 := w) hb4 (C5.out _)).mono ?_; rintro e w5 ⟨rfl, hb5⟩
    go_wp2_with fail
    refine (onward (w0 := w) hb5 (C6.out _)).mono ?_; rintro e w6 ⟨rfl, hb6⟩
    go_wp2_with fail
    refine (onward (w0 := w) hb6 (lives3_any _)).mono ?_; rintro e w7 ⟨rfl, hb7⟩
    go_wp2
    go_ret
    exact ⟨by simp, hb7⟩
  have g1' : 65535 < n := by omega
  by_cases g2 : n ≤ 4294967295
  · have e2 : (y : Int) = n := by have := hY.out; omega
    have q2 : ((y : Int) == n) = true := by simp; omega
    clear n0 n1 hX hY HU e2 hun g0 g1
    have hb0 := Below.refl w.heap.size w
    go_enter Try.func3, Try.ntmps3
    go_wp2_with fail
    refine (onward (w0 := w) hb0 (C1.out _)).mono ?_; rintro e w1 ⟨rfl, hb1⟩
    go_wp2_with fail
    refine (onward (w0 := w) hb1 (C2.out _)).mono ?_; rintro e w2 ⟨rfl, hb2⟩
    go_wp2_with fail
    refine (onward (w0 := w) hb2 (C3.out _)).mono ?_; rintro e w3 ⟨rfl, hb3⟩
    go_wp2_with fail
    refine (onward (w0 := w) hb3 (C4.out _)).mono ?_; rintro e w4 ⟨rfl, hb4⟩
    go_wp2_with fail
    refine (onward (w0 := w) hb4 (C5.out _)).mono ?_; rintro e w5 ⟨rfl, hb5⟩
    go_wp2_with fail
    refine (onward (w0 := w) hb5 (C6.out _)).mono ?_; rintro e w6 ⟨rfl, hb6⟩
    go_wp2_with fail
    refine (onward (w0 := w) hb6 (lives3_any _)).mono ?_; rintro e w7 ⟨rfl, hb7⟩
    go_wp2
    go_ret
    exact ⟨by simp, hb7⟩
  · have g2' : 4294967295 < n := by omega
    clear n0 n1 hX hY HU hun g0 g1 g2
    have hb0 := Below.refl w.heap.size w
    go_enter Try.func3, Try.ntmps3
    go_wp2_with fail
    refine (onward (w0 := w) hb0 (C1.out _)).mono ?_; rintro e w1 ⟨rfl, hb1⟩
    go_wp2_with fail
    refine (onward (w0 := w) hb1 (C2.out _)).mono ?_; rintro e w2 ⟨rfl, hb2⟩
    go_wp2_with fail
    refine (onward (w0 := w) hb2 (C3.out _)).mono ?_; rintro e w3 ⟨rfl, hb3⟩
    go_wp2_with fail
    refine (onward (w0 := w) hb3 (C4.out _)).mono ?_; rintro e w4 ⟨rfl, hb4⟩
    go_wp2_with fail
    refine (onward (w0 := w) hb4 (C5.out _)).mono ?_; rintro e w5 ⟨rfl, hb5⟩
    go_wp2_with fail
    refine (onward (w0 := w) hb5 (C6.out _)).mono ?_; rintro e w6 ⟨rfl, hb6⟩
    go_wp2_with fail
    refine (onward (w0 := w) hb6 (lives3_any _)).mono ?_; rintro e w7 ⟨rfl, hb7⟩
    go_wp2
    go_ret
    exact ⟨by simp, hb7⟩

set_option maxRecDepth 100000 in
set_option maxHeartbeats 400000 in
theorem numGets_walk (s : ByteArray) (p : Int) (w0 : s.size ≤ maxLen) (_w1 : (Lit.int .i64 p).wf = true) (w : World) :
    Calls Try.prog 4 #[.string s, .int .i64 p] w fun e w' => e = .returned (.bool true) ∧ Below w.heap.size w w' := by
  by_cases hl : s.size ≤ 400
  · have c1 := nget16_b s w0 p
    have c2 := rget16_any s w0 p
    have c3 := nget32_b s w0 p
    have c4 := rget32_any s w0 p
    obtain ⟨⟨x, b⟩, hx⟩ : ∃ x, getI s.data.toList p 2 = x := ⟨_, rfl⟩
    obtain ⟨⟨y, d⟩, hy⟩ : ∃ x, getI s.data.toList p 4 = x := ⟨_, rfl⟩
    rw [hx] at c1 c2
    rw [hy] at c3 c4
    have C1 := Lib.hid c1; have C2 := Lib.hid c2; have C3 := Lib.hid c3; have C4 := Lib.hid c4
    clear c1 c2 c3 c4 hx hy w0
    have hb0 := Below.refl w.heap.size w
    go_enter Try.func4, Try.ntmps4
    go_wp2_with fail
    refine (onward (w0 := w) hb0 (C1.out _)).mono ?_; rintro e w1 ⟨rfl, hb1⟩
    go_wp2_with fail
    refine (C2.out _).mono ?_; rintro e w' ⟨rfl, rfl⟩
    go_wp2_with fail
    refine (onward (w0 := w) hb1 (C3.out _)).mono ?_; rintro e w3 ⟨rfl, hb3⟩
    go_wp2_with fail
    refine (C4.out _).mono ?_; rintro e w' ⟨rfl, rfl⟩
    go_wp2_with fail
    refine (onward (w0 := w) hb3 (lives3_any _)).mono ?_; rintro e w4 ⟨rfl, hb4⟩
    go_wp2
    go_ret
    exact ⟨by simp, hb4⟩
  · have hg : 400 < s.size := by omega
    clear hl w0
    go_enter Try.func4, Try.ntmps4
    go_wp2_with fail
    refine (lives3_any _).mono ?_; rintro e w1 ⟨rfl, hb1⟩
    go_wp2
    go_ret
    exact ⟨rfl, hb1⟩

set_option maxRecDepth 100000 in
set_option maxHeartbeats 400000 in
theorem numParses_walk (s : ByteArray) (w0 : s.size ≤ maxLen) (w : World) :
    Calls Try.prog 6 #[.string s] w fun e w' => e = .returned (.bool true) ∧ Below w.heap.size w w' := by
  by_cases hl : s.size ≤ 400
  · have c1 := nparse_b s w0
    have c2 := rparse_any s w0
    obtain ⟨⟨x, b⟩, hx⟩ : ∃ x, parseI s.data.toList = x := ⟨_, rfl⟩
    rw [hx] at c1 c2
    have C1 := Lib.hid c1; have C2 := Lib.hid c2
    clear c1 c2 hx w0
    have hb0 := Below.refl w.heap.size w
    go_enter Try.func6, Try.ntmps6
    go_wp2_with fail
    refine (onward (w0 := w) hb0 (C1.out _)).mono ?_; rintro e w1 ⟨rfl, hb1⟩
    go_wp2_with fail
    refine (C2.out _).mono ?_; rintro e w' ⟨rfl, rfl⟩
    go_wp2_with fail
    refine (onward (w0 := w) hb1 (lives3_any _)).mono ?_; rintro e w4 ⟨rfl, hb4⟩
    go_wp2
    go_ret
    exact ⟨by simp, hb4⟩
  · have hg : 400 < s.size := by omega
    clear hl w0
    go_enter Try.func6, Try.ntmps6
    go_wp2_with fail
    refine (lives3_any _).mono ?_; rintro e w1 ⟨rfl, hb1⟩
    go_wp2
    go_ret
    exact ⟨rfl, hb1⟩

set_option maxRecDepth 100000 in
set_option maxHeartbeats 400000 in
theorem numDigits_walk (n v : Int) (w0 : (Lit.int .i64 n).wf = true) (_w1 : (Lit.int .i64 v).wf = true) (w : World) :
    Calls Try.prog 5 #[.int .i64 n, .int .i64 v] w fun e w' => e = .returned (.bool true) ∧ Below w.heap.size w w' := by
  obtain ⟨n0, n1⟩ := bounds_i64 w0
  clear w0
  have c1 := ndigits_any n v n1
  have c2 := rdigits_any n v n1
  have hb0 := Below.refl w.heap.size w
  by_cases hd : digitsI n v = []
  · rw [hd] at c1 c2
    have c3 := nparse_b ⟨#[]⟩ (by decide)
    rw [show parseI (⟨#[]⟩ : ByteArray).data.toList = (0, false) from rfl] at c3
    have C1 := Lib.hid c1; have C2 := Lib.hid c2; have C3 := Lib.hid c3
    clear c1 c2 c3 hd n0 n1
    go_enter Try.func5, Try.ntmps5
    go_wp2_with fail
    refine (onward (w0 := w) hb0 (C1.out _)).mono ?_; rintro e w1 ⟨rfl, hb1⟩
    go_wp2_with fail
    refine (onward (w0 := w) hb1 (C2.out _)).mono ?_; rintro e w2 ⟨rfl, hb2⟩
    go_wp2_with fail
    refine (onward (w0 := w) hb2 (C3.out _)).mono ?_; rintro e w3 ⟨rfl, hb3⟩
    go_wp2_with fail
    refine (onward (w0 := w) hb3 (lives3_any _)).mono ?_; rintro e w4 ⟨rfl, hb4⟩
    go_wp2
    go_ret
    exact ⟨by simp, hb4⟩
  · obtain ⟨p1, p2, p3, p4⟩ := parse_digits n v hd
    have p5 : v ≤ 9 := by
      rcases Int.lt_or_le 9 v with h | h
      · exact absurd (by unfold digitsI; rw [if_pos (.inr (.inl h))]) hd
      · exact h
    obtain ⟨t, ht⟩ : ∃ t, (⟨(digitsI n v).toArray⟩ : ByteArray) = t := ⟨_, rfl⟩
    have hsz : (t.size : Int) = v := by rw [← ht, mk_size, p3]; omega
    have htl : t.data.toList = digitsI n v := by rw [← ht, str_nil]
    have hne : ¬ t = ⟨#[]⟩ := fun e => hd (by rw [← htl, e])
    have hq1 : ¬ t.toList = [] := fun e => hne (str_ext (by rw [← ByteArray.toList_eq, e]))
    have hq2 : t.toList.isEmpty = false := by cases h : t.toList with | nil => exact absurd h hq1 | cons => rfl
    have c3 := nparse_b t (by unfold maxLen; omega)
    rw [htl, p1] at c3
    rw [ht] at c1 c2
    simp only at c3
    rw [show ((n.toNat : Nat) : Int) = n by omega] at c3
    have C1 := Lib.hid c1; have C2 := Lib.hid c2; have C3 := Lib.hid c3
    have hz : ((t.size : Int) == v) = true := by simp; omega
    clear c1 c2 c3 hd n0 n1 p1 p2 p3 p4 p5 ht hsz htl hne
    go_enter Try.func5, Try.ntmps5
    go_wp2_with fail
    refine (onward (w0 := w) hb0 (C1.out _)).mono ?_; rintro e w1 ⟨rfl, hb1⟩
    go_wp2_with fail
    refine (onward (w0 := w) hb1 (C2.out _)).mono ?_; rintro e w2 ⟨rfl, hb2⟩
    go_wp2_with fail
    refine (onward (w0 := w) hb2 (C3.out _)).mono ?_; rintro e w3 ⟨rfl, hb3⟩
    go_wp2_with fail
    refine (onward (w0 := w) hb3 (lives3_any _)).mono ?_; rintro e w4 ⟨rfl, hb4⟩
    go_wp2
    go_ret
    exact ⟨by simp, hb4⟩
end Go.Proofs.Yteledmdmleinjaa
