/-
  The law OpcodeBack.
-/
import Derived.Test.YtlgdlkiekodocaaLawOp
import Derived.Test.YtlgdlkiekodocaaOpBack
namespace Go.Proofs.Ytlgdlkiekodocaa
open Go.RowKit
set_option linter.unusedVariables false

theorem bytesR_yes {k a n : Int} {s : ByteArray} (h : rightB k a n s.data.toList = true) : bytesR k a n s = (⟨(bodyL k a n s.data.toList).toArray⟩, 0) := by unfold bytesR; rw [if_pos h]
theorem bytesR_no {k a n : Int} {s : ByteArray} (h : rightB k a n s.data.toList = false) : bytesR k a n s = (⟨#[]⟩, 2) := by unfold bytesR; rw [if_neg (by rw [h]; decide)]
theorem body_fits (k a n : Int) (s : ByteArray) (h : s.size ≤ 4294967000) : (⟨(bodyL k a n s.data.toList).toArray⟩ : ByteArray).size ≤ 4294967296 := by
  have := body_size k a n s
  rw [mk_size14]; omega
theorem read_fits {s : ByteArray} {k a n : Int} {t : ByteArray} (hs : s.size ≤ 4294967296) (h : RdOk s.data.toList ⟨k, a, n, t, 0⟩) : bodyL k a n t.data.toList = s.data.toList ∧ t.size ≤ 4294967296 ∧ rightB k a n t.data.toList = true := by
  rcases h with ⟨-, hr, hb⟩ | ⟨h, -⟩
  · have hb : bodyL k a n t.data.toList = s.data.toList := hb
    refine ⟨hb, ?_, hr⟩
    have e := congrArg List.length hb
    rw [list_size] at e
    have : t.size ≤ (bodyL k a n t.data.toList).length := by
      unfold bodyL
      simp
      omega
    omega
  · exact absurd rfl h
set_option maxRecDepth 100000 in
set_option maxHeartbeats 1600000 in
theorem back_r_g (k a n : Int) (s t : ByteArray) (hs : s.size ≤ 600) (ht : t.size ≤ 700) (hr : rightB k a n s.data.toList = true) (k2 a2 n2 : Int) (t2 : ByteArray) (hg : readR t = ⟨k2, a2, n2, t2, 0⟩) (w : World) :
    Calls Try.prog 5 #[.agg #[.int .i64 k, .int .i64 a, .int .i64 n, .string s], .string t] w fun e w' => e = .returned (.bool true) ∧ Below w.heap.size w w' := by
  have HB := Lib.hid (Blk.new w #[.int .i64 k, .int .i64 a, .int .i64 n, .string s] 23)
  have c1 := op_bytes_any k a n s (by omega)
  rw [bytesR_yes hr] at c1
  have c2 := op_read_any ⟨(bodyL k a n s.data.toList).toArray⟩ (body_fits _ _ _ _ (by omega))
  rw [op_back hr] at c2
  have c3 := op_right_any k a n s (by unfold maxLen; omega)
  rw [hr] at c3
  unfold rdV at c2
  obtain ⟨Y, hY⟩ : ∃ Y : ByteArray, ⟨(bodyL k a n s.data.toList).toArray⟩ = Y := ⟨_, rfl⟩
  rw [hY] at c1 c2
  have C2 := Lib.hid c2; have C3 := Lib.hid c3
  clear c2 c3 hY
  have hw := op_whole t
  rw [hg] at hw
  have c4 := op_read_any t (by omega)
  rw [hg] at c4
  unfold rdV at c4
  obtain ⟨hb5, hs5, hr5⟩ := read_fits (by omega) hw
  have c5 := op_bytes_any k2 a2 n2 t2 hs5
  rw [bytesR_yes hr5, hb5, mk_self] at c5
  have C5 := Lib.hid c5
  clear c5 hb5 hs5 hr5
  have C1 := Lib.hid c1; have C4 := Lib.hid c4
  clear c1 c4 hw hg hr
  go_enter Try.func5, Try.ntmps5
  go_wp2_with fail
  refine (C1.out _).mono ?_; rintro e w1 ⟨rfl, hb1⟩
  have HB1 := Lib.hid (HB.out.onto hb1)
  have HW1 := Lib.hid (box_on14 hb1)
  clear hb1
  go_wp2_with fail
  refine (C2.out _).mono ?_; rintro e w2 ⟨rfl, hb2⟩
  have HB2 := Lib.hid (HB1.out.onto hb2)
  have HW2 := Lib.hid (HW1.out.trans (hb2.mono HW1.out.size))
  have hlt := HB2.out.lt
  obtain ⟨k0, k1, k2', k3, -, -, -, -⟩ := HB2.out.four
  clear hb2
  go_wp2_with fail
  refine (C3.out _).mono ?_; rintro e w3 ⟨rfl, hb3⟩
  have HW3 := Lib.hid (HW2.out.trans ((box_on14 hb3).mono HW2.out.size))
  clear hb3 hlt k0 k1 k2' k3
  go_wp2_with fail
  refine (C4.out _).mono ?_; rintro e w4 ⟨rfl, hb4⟩
  have HW4 := Lib.hid (HW3.out.trans (hb4.mono HW3.out.size))
  clear hb4
  go_wp2_with fail
  refine (C5.out _).mono ?_; rintro e w5 ⟨rfl, hb5⟩
  have HW5 := Lib.hid (HW4.out.trans ((box_on14 hb5).mono HW4.out.size))
  have CL := Lib.hid (lives14_any w5)
  clear hb5
  go_wp2_with fail
  refine CL.out.mono ?_; rintro e w6 ⟨rfl, hb6⟩
  go_wp2
  go_ret
  exact ⟨rfl, HW5.out.trans (hb6.mono HW5.out.size)⟩
set_option maxRecDepth 100000 in
set_option maxHeartbeats 1600000 in
theorem back_r_b (k a n : Int) (s t : ByteArray) (hs : s.size ≤ 600) (ht : t.size ≤ 700) (hr : rightB k a n s.data.toList = true) (e2 : Int) (he2 : e2 ≠ 0) (hg : readR t = OpRd.none e2) (w : World) :
    Calls Try.prog 5 #[.agg #[.int .i64 k, .int .i64 a, .int .i64 n, .string s], .string t] w fun e w' => e = .returned (.bool true) ∧ Below w.heap.size w w' := by
  have HB := Lib.hid (Blk.new w #[.int .i64 k, .int .i64 a, .int .i64 n, .string s] 23)
  have c1 := op_bytes_any k a n s (by omega)
  rw [bytesR_yes hr] at c1
  have c2 := op_read_any ⟨(bodyL k a n s.data.toList).toArray⟩ (body_fits _ _ _ _ (by omega))
  rw [op_back hr] at c2
  have c3 := op_right_any k a n s (by unfold maxLen; omega)
  rw [hr] at c3
  unfold rdV at c2
  obtain ⟨Y, hY⟩ : ∃ Y : ByteArray, ⟨(bodyL k a n s.data.toList).toArray⟩ = Y := ⟨_, rfl⟩
  rw [hY] at c1 c2
  have C2 := Lib.hid c2; have C3 := Lib.hid c3
  clear c2 c3 hY
  have hw := op_whole t
  rw [hg] at hw
  have c4 := op_read_any t (by omega)
  rw [hg] at c4
  unfold rdV at c4
  have hz1 : (e2 == 0) = false := by simpa using he2
  have hz2 : (e2 != 0) = true := by simpa using he2
  unfold OpRd.none at c4
  have C1 := Lib.hid c1; have C4 := Lib.hid c4
  clear c1 c4 hw hg hr
  go_enter Try.func5, Try.ntmps5
  go_wp2_with fail
  refine (C1.out _).mono ?_; rintro e w1 ⟨rfl, hb1⟩
  have HB1 := Lib.hid (HB.out.onto hb1)
  have HW1 := Lib.hid (box_on14 hb1)
  clear hb1
  go_wp2_with fail
  refine (C2.out _).mono ?_; rintro e w2 ⟨rfl, hb2⟩
  have HB2 := Lib.hid (HB1.out.onto hb2)
  have HW2 := Lib.hid (HW1.out.trans (hb2.mono HW1.out.size))
  have hlt := HB2.out.lt
  obtain ⟨k0, k1, k2', k3, -, -, -, -⟩ := HB2.out.four
  clear hb2
  go_wp2_with fail
  refine (C3.out _).mono ?_; rintro e w3 ⟨rfl, hb3⟩
  have HW3 := Lib.hid (HW2.out.trans ((box_on14 hb3).mono HW2.out.size))
  clear hb3 hlt k0 k1 k2' k3
  go_wp2_with fail
  refine (C4.out _).mono ?_; rintro e w4 ⟨rfl, hb4⟩
  have HW4 := Lib.hid (HW3.out.trans (hb4.mono HW3.out.size))
  clear hb4
  have CL := Lib.hid (lives14_any (w4.alloc (.cells #[.int .i64 0, .int .i64 0, .int .i64 0, .string ⟨#[]⟩] 23)))
  go_wp2_with fail
  refine CL.out.mono ?_; rintro e w6 ⟨rfl, hb6⟩
  go_wp2
  go_ret
  exact ⟨rfl, HW4.out.trans ((box_on14 hb6).mono HW4.out.size)⟩
set_option maxRecDepth 100000 in
set_option maxHeartbeats 1600000 in
theorem back_n_g (k a n : Int) (s t : ByteArray) (hs : s.size ≤ 600) (ht : t.size ≤ 700) (hr : rightB k a n s.data.toList = false) (k2 a2 n2 : Int) (t2 : ByteArray) (hg : readR t = ⟨k2, a2, n2, t2, 0⟩) (w : World) :
    Calls Try.prog 5 #[.agg #[.int .i64 k, .int .i64 a, .int .i64 n, .string s], .string t] w fun e w' => e = .returned (.bool true) ∧ Below w.heap.size w w' := by
  have HB := Lib.hid (Blk.new w #[.int .i64 k, .int .i64 a, .int .i64 n, .string s] 23)
  have c1 := op_bytes_any k a n s (by omega)
  rw [bytesR_no hr] at c1
  have hw := op_whole t
  rw [hg] at hw
  have c4 := op_read_any t (by omega)
  rw [hg] at c4
  unfold rdV at c4
  obtain ⟨hb5, hs5, hr5⟩ := read_fits (by omega) hw
  have c5 := op_bytes_any k2 a2 n2 t2 hs5
  rw [bytesR_yes hr5, hb5, mk_self] at c5
  have C5 := Lib.hid c5
  clear c5 hb5 hs5 hr5
  have C1 := Lib.hid c1; have C4 := Lib.hid c4
  clear c1 c4 hw hg hr
  go_enter Try.func5, Try.ntmps5
  go_wp2_with fail
  refine (C1.out _).mono ?_; rintro e w1 ⟨rfl, hb1⟩
  have HB1 := Lib.hid (HB.out.onto hb1)
  have HW1 := Lib.hid (box_on14 hb1)
  clear hb1
  go_wp2_with fail
  refine (C4.out _).mono ?_; rintro e w4 ⟨rfl, hb4⟩
  have HW4 := Lib.hid (HW1.out.trans (hb4.mono HW1.out.size))
  clear hb4
  go_wp2_with fail
  refine (C5.out _).mono ?_; rintro e w5 ⟨rfl, hb5⟩
  have HW5 := Lib.hid (HW4.out.trans ((box_on14 hb5).mono HW4.out.size))
  have CL := Lib.hid (lives14_any w5)
  clear hb5
  go_wp2_with fail
  refine CL.out.mono ?_; rintro e w6 ⟨rfl, hb6⟩
  go_wp2
  go_ret
  exact ⟨rfl, HW5.out.trans (hb6.mono HW5.out.size)⟩
set_option maxRecDepth 100000 in
set_option maxHeartbeats 1600000 in
theorem back_n_b (k a n : Int) (s t : ByteArray) (hs : s.size ≤ 600) (ht : t.size ≤ 700) (hr : rightB k a n s.data.toList = false) (e2 : Int) (he2 : e2 ≠ 0) (hg : readR t = OpRd.none e2) (w : World) :
    Calls Try.prog 5 #[.agg #[.int .i64 k, .int .i64 a, .int .i64 n, .string s], .string t] w fun e w' => e = .returned (.bool true) ∧ Below w.heap.size w w' := by
  have HB := Lib.hid (Blk.new w #[.int .i64 k, .int .i64 a, .int .i64 n, .string s] 23)
  have c1 := op_bytes_any k a n s (by omega)
  rw [bytesR_no hr] at c1
  have hw := op_whole t
  rw [hg] at hw
  have c4 := op_read_any t (by omega)
  rw [hg] at c4
  unfold rdV at c4
  have hz1 : (e2 == 0) = false := by simpa using he2
  have hz2 : (e2 != 0) = true := by simpa using he2
  unfold OpRd.none at c4
  have C1 := Lib.hid c1; have C4 := Lib.hid c4
  clear c1 c4 hw hg hr
  go_enter Try.func5, Try.ntmps5
  go_wp2_with fail
  refine (C1.out _).mono ?_; rintro e w1 ⟨rfl, hb1⟩
  have HB1 := Lib.hid (HB.out.onto hb1)
  have HW1 := Lib.hid (box_on14 hb1)
  clear hb1
  go_wp2_with fail
  refine (C4.out _).mono ?_; rintro e w4 ⟨rfl, hb4⟩
  have HW4 := Lib.hid (HW1.out.trans (hb4.mono HW1.out.size))
  clear hb4
  have CL := Lib.hid (lives14_any (w4.alloc (.cells #[.int .i64 0, .int .i64 0, .int .i64 0, .string ⟨#[]⟩] 23)))
  go_wp2_with fail
  refine CL.out.mono ?_; rintro e w6 ⟨rfl, hb6⟩
  go_wp2
  go_ret
  exact ⟨rfl, HW4.out.trans ((box_on14 hb6).mono HW4.out.size)⟩
set_option maxRecDepth 100000 in
set_option maxHeartbeats 800000 in
theorem opcodeBack_walk (x : Opr) (t : ByteArray) (w : World) (fx : x.fits) (ht : t.size ≤ maxLen) :
    Calls Try.prog 5 #[x.v, .string t] w fun e w' => e = .returned (.bool true) ∧ Below w.heap.size w w' := by
  obtain ⟨k, a, n, s⟩ := x
  obtain ⟨-, -, -, hs⟩ := fx
  have hs : s.size ≤ maxLen := hs
  show Calls Try.prog 5 #[.agg #[.int .i64 k, .int .i64 a, .int .i64 n, .string s], .string t] w _
  unfold maxLen at hs ht
  by_cases h6 : 600 < s.size
  · have C1 := Lib.hid (lives14_any (w.alloc (.cells #[.int .i64 k, .int .i64 a, .int .i64 n, .string s] 23)))
    go_enter Try.func5, Try.ntmps5
    go_wp2_with fail
    refine C1.out.mono ?_; rintro e w1 ⟨rfl, hb1⟩
    go_wp2
    go_ret
    exact ⟨rfl, box_on14 hb1⟩
  by_cases h7 : 700 < t.size
  · have C1 := Lib.hid (lives14_any (w.alloc (.cells #[.int .i64 k, .int .i64 a, .int .i64 n, .string s] 23)))
    have h6' : s.size ≤ 600 := by omega
    clear h6
    go_enter Try.func5, Try.ntmps5
    go_wp2_with fail
    refine C1.out.mono ?_; rintro e w1 ⟨rfl, hb1⟩
    go_wp2
    go_ret
    exact ⟨rfl, box_on14 hb1⟩
  have hw := op_whole t
  obtain ⟨⟨k2, a2, n2, t2, e2⟩, hg⟩ : ∃ r, readR t = r := ⟨_, rfl⟩
  rw [hg] at hw
  cases hr : rightB k a n s.data.toList
  · rcases hw with ⟨he, -, -⟩ | ⟨he, hn⟩
    · obtain rfl : e2 = 0 := he
      exact back_n_g k a n s t (by omega) (by omega) hr k2 a2 n2 t2 hg w
    · exact back_n_b k a n s t (by omega) (by omega) hr e2 he (hg.trans hn) w
  · rcases hw with ⟨he, -, -⟩ | ⟨he, hn⟩
    · obtain rfl : e2 = 0 := he
      exact back_r_g k a n s t (by omega) (by omega) hr k2 a2 n2 t2 hg w
    · exact back_r_b k a n s t (by omega) (by omega) hr e2 he (hg.trans hn) w
end Go.Proofs.Ytlgdlkiekodocaa
