/-
  The document's reading of an operation.
-/
import Derived.Test.YtlgdlkiekodocaaOpRef2
namespace Go.Proofs.Ytlgdlkiekodocaa
open Go.RowKit

/-- What Read answers, as a value. -/
def rdV (r : OpRd) : Value := .tuple #[.agg #[.int .i64 r.k, .int .i64 r.a, .int .i64 r.n, .string r.s], .int .i64 r.e]
theorem getI_short (s : ByteArray) (h : s.size < 4) : getI s.data.toList 0 4 = (0, false) := by
  unfold getI; rw [if_pos (by rw [list_size]; omega)]
theorem getI_long (s : ByteArray) (h : 4 ≤ s.size) : getI s.data.toList 0 4 = (leN s.data.toList 0 4, true) := by
  unfold getI; rw [if_neg (by rw [list_size]; omega)]; rfl
theorem rdEnd_yes {k a n : Int} {s : ByteArray} (h : rightB k a n s.data.toList = true) : rdEnd k a n s = ⟨k, a, n, s, 0⟩ := by unfold rdEnd; rw [if_pos h]
theorem rdEnd_no {k a n : Int} {s : ByteArray} (h : rightB k a n s.data.toList = false) : rdEnd k a n s = OpRd.none 5 := by unfold rdEnd; rw [if_neg (by rw [h]; decide)]

set_option maxRecDepth 100000 in
set_option maxHeartbeats 1600000 in
theorem rread_empty (w : World) :
    Calls Try.prog 10 #[.string ⟨#[]⟩] w fun e w' => e = .returned (rdV (OpRd.none 18)) ∧ Below w.heap.size w w' := by
  go_enter Try.func10, Try.ntmps10
  go_wp2
  exact bodyPost_ret (v := rdV (OpRd.none 18)) (by simp [results, Try.results10, go_sem, rdV, OpRd.none]) rfl ⟨rfl, (Below.refl _ _).alloc (Nat.le_refl _) _⟩
set_option maxRecDepth 100000 in
set_option maxHeartbeats 1600000 in
theorem rread_off (s : ByteArray) (k : Nat) (h0 : 0 < s.size) (hk : s[0].toNat = k) (ho : k < 1 ∨ 8 < k) (w : World) :
    Calls Try.prog 10 #[.string s] w fun e w' => e = .returned (rdV (OpRd.none 5)) ∧ Below w.heap.size w w' := by
  have he := isEmpty_size s
  rw [decide_eq_false (by omega)] at he
  have hk255 : k < 256 := by rw [← hk]; exact s[0].toNat_lt
  by_cases k0 : k < 1
  · go_enter Try.func10, Try.ntmps10
    go_wp2
    exact bodyPost_ret (v := rdV (OpRd.none 5)) (by simp [results, Try.results10, go_sem, rdV, OpRd.none]) rfl ⟨rfl, ((Below.refl _ _).alloc (Nat.le_refl _) _).alloc (by simp) _⟩
  · have k1 : 8 < k := by omega
    go_enter Try.func10, Try.ntmps10
    go_wp2
    exact bodyPost_ret (v := rdV (OpRd.none 5)) (by simp [results, Try.results10, go_sem, rdV, OpRd.none]) rfl ⟨rfl, ((Below.refl _ _).alloc (Nat.le_refl _) _).alloc (by simp) _⟩
/-- Two blocks that a call made, known whole in what came behind. -/
theorem two_blks {w w1 : World} {cs ds : Array Value} {T : TypeId} (hb : Below ((w.alloc (.cells cs T)).alloc (.cells ds T)).heap.size ((w.alloc (.cells cs T)).alloc (.cells ds T)) w1) :
    Blk w1 w.heap.size cs T ∧ Blk w1 (w.heap.size + 1) ds T ∧ Below w.heap.size w w1 ∧ w.heap.size + 2 ≤ w1.heap.size := by
  have e : (w.alloc (.cells cs T)).heap.size = w.heap.size + 1 := by simp
  refine ⟨((Blk.new w cs T).alloc _).onto hb, ?_, ?_, ?_⟩
  · have := (Blk.new (w.alloc (.cells cs T)) ds T).onto hb
    rwa [e] at this
  · exact (((Below.refl _ _).alloc (Nat.le_refl _) _).alloc (by simp) _).trans (hb.mono (by simp; omega))
  · have := hb.size; simp at this; omega
theorem sets4_below {B b : Nat} {w W : World} (h : Below B w W) (hb : B ≤ b) (u0 u1 u2 u3 : Value) :
    Below B w ((((W.setCell ⟨b, 0, none⟩ u0).setCell ⟨b, 1, none⟩ u1).setCell ⟨b, 2, none⟩ u2).setCell ⟨b, 3, none⟩ u3) :=
  (((h.setCell hb _).setCell hb _).setCell hb _).setCell hb _

set_option maxRecDepth 100000 in
set_option maxHeartbeats 1600000 in
/-- A kind with nothing but a text. -/
theorem rread_bare (s T : ByteArray) (k : Nat) (hs : s.size ≤ 4294967296) (h0 : 0 < s.size) (hk : s[0].toNat = k) (hT : s.extract 1 s.size = T) (hk1 : 4 ≤ k) (hk2 : k ≤ 8) (w : World) :
    Calls Try.prog 10 #[.string s] w fun e w' => e = .returned (rdV (rdEnd k 0 0 T)) ∧ Below w.heap.size w w' := by
  have he := isEmpty_size s
  rw [decide_eq_false (by omega)] at he
  have hts : T.size ≤ 4294967296 := by rw [← hT]; simp; omega
  have hr := rright_any k 0 0 T hts
  have hk3 : k ≠ 2 := by omega
  obtain ⟨r, hr1⟩ : ∃ r, rightB k 0 0 T.data.toList = r := ⟨_, rfl⟩
  rw [hr1] at hr
  have HR1 := Lib.hid hr1; have HR := Lib.hid hr
  clear hr hr1
  cases r
  · rw [rdEnd_no HR1.out]
    go_enter Try.func10, Try.ntmps10
    go_wp2_with fail
    refine (HR.out _).mono ?_; rintro e w1 ⟨rfl, hb1⟩
    obtain ⟨B0, B1, hbw, -⟩ := two_blks hb1
    have HB1 := Lib.hid hbw; clear hb1 hbw
    obtain ⟨c0, c1, c2, c3, f0, f1, f2, f3⟩ := B0.four
    go_wp2
    exact bodyPost_ret (v := rdV (OpRd.none 5)) (by simp [results, Try.results10, go_sem, rdV, OpRd.none, c0, c1, c2, c3]) rfl ⟨rfl, sets4_below HB1.out (Nat.le_refl _) _ _ _ _⟩
  · rw [rdEnd_yes HR1.out]
    go_enter Try.func10, Try.ntmps10
    go_wp2_with fail
    refine (HR.out _).mono ?_; rintro e w1 ⟨rfl, hb1⟩
    obtain ⟨B0, B1, hbw, -⟩ := two_blks hb1
    have HB1 := Lib.hid hbw; clear hb1 hbw
    obtain ⟨c0, c1, c2, c3, f0, f1, f2, f3⟩ := B0.four
    obtain ⟨d0, d1, d2, d3, -, -, -, -⟩ := B1.four
    go_wp2
    exact bodyPost_ret (v := rdV ⟨k, 0, 0, T, 0⟩) (by simp [results, Try.results10, go_sem, rdV, c0, c1, c2, c3]) rfl ⟨rfl, sets4_below HB1.out (Nat.le_refl _) _ _ _ _⟩
set_option maxRecDepth 100000 in
set_option maxHeartbeats 1600000 in
/-- A kind with a number, whose bytes lack. -/
theorem rread_short1 (s T : ByteArray) (k : Nat) (hs : s.size ≤ 4294967296) (h0 : 0 < s.size) (hk : s[0].toNat = k) (hT : s.extract 1 s.size = T) (hk1 : 1 ≤ k) (hk2 : k ≤ 3) (h4 : T.size < 4) (w : World) :
    Calls Try.prog 10 #[.string s] w fun e w' => e = .returned (rdV (OpRd.none 18)) ∧ Below w.heap.size w w' := by
  have he := isEmpty_size s
  rw [decide_eq_false (by omega)] at he
  have hg := rget32_any T (by unfold maxLen; omega) 0
  rw [getI_short T h4] at hg
  have HG := Lib.hid hg
  clear hg
  go_enter Try.func10, Try.ntmps10
  go_wp2_with fail
  refine (HG.out _).mono ?_; rintro e w1 ⟨rfl, rfl⟩
  go_wp2
  exact bodyPost_ret (v := rdV (OpRd.none 18)) (by simp [results, Try.results10, go_sem, rdV, OpRd.none]) rfl ⟨rfl, ((Below.refl _ _).alloc (Nat.le_refl _) _).alloc (by simp) _⟩
set_option maxRecDepth 100000 in
set_option maxHeartbeats 1600000 in
/-- A kind with one number. -/
theorem rread_num (s T : ByteArray) (k : Nat) (hs : s.size ≤ 4294967296) (h0 : 0 < s.size) (hk : s[0].toNat = k) (hT : s.extract 1 s.size = T) (hk1 : k = 1 ∨ k = 3) (h4 : 4 ≤ T.size) (w : World) :
    Calls Try.prog 10 #[.string s] w fun e w' => e = .returned (rdV (rdEnd k (headN T) 0 (restN T))) ∧ Below w.heap.size w w' := by
  have he := isEmpty_size s
  rw [decide_eq_false (by omega)] at he
  have hts : T.size ≤ 4294967296 := by rw [← hT]; simp; omega
  have hg := rget32_any T (by unfold maxLen; omega) 0
  rw [getI_long T h4] at hg
  have hr := rright_any k (headN T) 0 (restN T) (by unfold restN; simp; omega)
  have hx := leN_lt T.data.toList 4 0
  unfold headN at hr ⊢
  obtain ⟨x, hx1⟩ : ∃ x, leN T.data.toList 0 4 = x := ⟨_, rfl⟩
  rw [hx1] at hg hr hx ⊢
  obtain ⟨U, hU⟩ : ∃ U, restN T = U := ⟨_, rfl⟩
  rw [hU] at hr ⊢
  have hU2 : T.extract 4 T.size = U := hU
  obtain ⟨r, hr1⟩ : ∃ r, rightB k x 0 U.data.toList = r := ⟨_, rfl⟩
  rw [hr1] at hr
  have HR1 := Lib.hid hr1; have HR := Lib.hid hr; have HG := Lib.hid hg
  clear hr hr1 hg hx1 hU
  have hk3 : k ≠ 2 := by omega
  have hk4 : k ≤ 3 := by omega
  have hk5 : 1 ≤ k := by omega
  clear hk1
  cases r
  · rw [rdEnd_no HR1.out]
    go_enter Try.func10, Try.ntmps10
    go_wp2_with fail
    refine (HG.out _).mono ?_; rintro e w1 ⟨rfl, rfl⟩
    go_wp2_with fail
    refine (HR.out _).mono ?_; rintro e w1 ⟨rfl, hb1⟩
    obtain ⟨B0, B1, hbw, -⟩ := two_blks hb1
    have HB1 := Lib.hid hbw; clear hb1 hbw
    obtain ⟨c0, c1, c2, c3, f0, f1, f2, f3⟩ := B0.four
    go_wp2
    exact bodyPost_ret (v := rdV (OpRd.none 5)) (by simp [results, Try.results10, go_sem, rdV, OpRd.none, c0, c1, c2, c3]) rfl ⟨rfl, sets4_below HB1.out (Nat.le_refl _) _ _ _ _⟩
  · rw [rdEnd_yes HR1.out]
    go_enter Try.func10, Try.ntmps10
    go_wp2_with fail
    refine (HG.out _).mono ?_; rintro e w1 ⟨rfl, rfl⟩
    go_wp2_with fail
    refine (HR.out _).mono ?_; rintro e w1 ⟨rfl, hb1⟩
    obtain ⟨B0, B1, hbw, -⟩ := two_blks hb1
    have HB1 := Lib.hid hbw; clear hb1 hbw
    obtain ⟨c0, c1, c2, c3, f0, f1, f2, f3⟩ := B0.four
    obtain ⟨d0, d1, d2, d3, -, -, -, -⟩ := B1.four
    go_wp2
    exact bodyPost_ret (v := rdV ⟨k, x, 0, U, 0⟩) (by simp [results, Try.results10, go_sem, rdV, c0, c1, c2, c3]) rfl ⟨rfl, sets4_below HB1.out (Nat.le_refl _) _ _ _ _⟩
set_option maxRecDepth 100000 in
set_option maxHeartbeats 1600000 in
/-- The kind with two numbers, whose second one lacks. -/
theorem rread_short2 (s T : ByteArray) (hs : s.size ≤ 4294967296) (h0 : 0 < s.size) (hk : s[0].toNat = 2) (hT : s.extract 1 s.size = T) (h4 : 4 ≤ T.size) (h8 : T.size < 8) (w : World) :
    Calls Try.prog 10 #[.string s] w fun e w' => e = .returned (rdV (OpRd.none 18)) ∧ Below w.heap.size w w' := by
  have he := isEmpty_size s
  rw [decide_eq_false (by omega)] at he
  have hg := rget32_any T (by unfold maxLen; omega) 0
  rw [getI_long T h4] at hg
  have hu : (restN T).size < 4 := by unfold restN; simp; omega
  have hg2 := rget32_any (restN T) (by unfold maxLen; omega) 0
  rw [getI_short _ hu] at hg2
  obtain ⟨U, hU⟩ : ∃ U, restN T = U := ⟨_, rfl⟩
  rw [hU] at hg2 hu
  have hU2 : T.extract 4 T.size = U := hU
  have hx := leN_lt T.data.toList 4 0
  obtain ⟨x, hx1⟩ : ∃ x, leN T.data.toList 0 4 = x := ⟨_, rfl⟩
  rw [hx1] at hg hx
  have HG := Lib.hid hg; have HG2 := Lib.hid hg2
  clear hg hg2 hU hx1
  go_enter Try.func10, Try.ntmps10
  go_wp2_with fail
  refine (HG.out _).mono ?_; rintro e w1 ⟨rfl, rfl⟩
  go_wp2_with fail
  refine (HG2.out _).mono ?_; rintro e w1 ⟨rfl, rfl⟩
  go_wp2
  exact bodyPost_ret (v := rdV (OpRd.none 18)) (by simp [results, Try.results10, go_sem, rdV, OpRd.none]) rfl ⟨rfl, ((Below.refl _ _).alloc (Nat.le_refl _) _).alloc (by simp) _⟩
set_option maxRecDepth 100000 in
set_option maxHeartbeats 1600000 in
/-- The kind with two numbers. -/
theorem rread_two (s T : ByteArray) (hs : s.size ≤ 4294967296) (h0 : 0 < s.size) (hk : s[0].toNat = 2) (hT : s.extract 1 s.size = T) (h8 : 8 ≤ T.size) (w : World) :
    Calls Try.prog 10 #[.string s] w fun e w' => e = .returned (rdV (rdEnd 2 (headN T) (headN (restN T)) (restN (restN T)))) ∧ Below w.heap.size w w' := by
  have he := isEmpty_size s
  rw [decide_eq_false (by omega)] at he
  have hts : T.size ≤ 4294967296 := by rw [← hT]; simp; omega
  have hg := rget32_any T (by unfold maxLen; omega) 0
  rw [getI_long T (by omega)] at hg
  have hu : (restN T).size ≤ 4294967296 := by unfold restN; simp; omega
  have hu4 : 4 ≤ (restN T).size := by unfold restN; simp; omega
  have hg2 := rget32_any (restN T) (by unfold maxLen; omega) 0
  rw [getI_long _ hu4] at hg2
  have hr := rright_any 2 (headN T) (headN (restN T)) (restN (restN T)) (by unfold restN; simp; omega)
  have hx := leN_lt T.data.toList 4 0
  have hy := leN_lt (restN T).data.toList 4 0
  unfold headN at hr ⊢
  obtain ⟨x, hx1⟩ : ∃ x, leN T.data.toList 0 4 = x := ⟨_, rfl⟩
  rw [hx1] at hg hr hx ⊢
  obtain ⟨U, hU⟩ : ∃ U, restN T = U := ⟨_, rfl⟩
  rw [hU] at hr hg2 hy hu4 ⊢
  have hU2 : T.extract 4 T.size = U := hU
  obtain ⟨y, hy1⟩ : ∃ y, leN U.data.toList 0 4 = y := ⟨_, rfl⟩
  rw [hy1] at hg2 hr hy ⊢
  obtain ⟨V, hV⟩ : ∃ V, restN U = V := ⟨_, rfl⟩
  rw [hV] at hr ⊢
  have hV2 : U.extract 4 U.size = V := hV
  obtain ⟨r, hr1⟩ : ∃ r, rightB 2 x y V.data.toList = r := ⟨_, rfl⟩
  rw [hr1] at hr
  have HR1 := Lib.hid hr1; have HR := Lib.hid hr; have HG := Lib.hid hg; have HG2 := Lib.hid hg2
  clear hr hr1 hg hg2 hx1 hy1 hU hV hu
  cases r
  · rw [rdEnd_no HR1.out]
    go_enter Try.func10, Try.ntmps10
    go_wp2_with fail
    refine (HG.out _).mono ?_; rintro e w1 ⟨rfl, rfl⟩
    go_wp2_with fail
    refine (HG2.out _).mono ?_; rintro e w1 ⟨rfl, rfl⟩
    go_wp2_with fail
    refine (HR.out _).mono ?_; rintro e w1 ⟨rfl, hb1⟩
    obtain ⟨B0, B1, hbw, -⟩ := two_blks hb1
    have HB1 := Lib.hid hbw; clear hb1 hbw
    obtain ⟨c0, c1, c2, c3, f0, f1, f2, f3⟩ := B0.four
    go_wp2
    exact bodyPost_ret (v := rdV (OpRd.none 5)) (by simp [results, Try.results10, go_sem, rdV, OpRd.none, c0, c1, c2, c3]) rfl ⟨rfl, sets4_below HB1.out (Nat.le_refl _) _ _ _ _⟩
  · rw [rdEnd_yes HR1.out]
    go_enter Try.func10, Try.ntmps10
    go_wp2_with fail
    refine (HG.out _).mono ?_; rintro e w1 ⟨rfl, rfl⟩
    go_wp2_with fail
    refine (HG2.out _).mono ?_; rintro e w1 ⟨rfl, rfl⟩
    go_wp2_with fail
    refine (HR.out _).mono ?_; rintro e w1 ⟨rfl, hb1⟩
    obtain ⟨B0, B1, hbw, -⟩ := two_blks hb1
    have HB1 := Lib.hid hbw; clear hb1 hbw
    obtain ⟨c0, c1, c2, c3, f0, f1, f2, f3⟩ := B0.four
    obtain ⟨d0, d1, d2, d3, -, -, -, -⟩ := B1.four
    go_wp2
    exact bodyPost_ret (v := rdV ⟨2, x, y, V, 0⟩) (by simp [results, Try.results10, go_sem, rdV, c0, c1, c2, c3]) rfl ⟨rfl, sets4_below HB1.out (Nat.le_refl _) _ _ _ _⟩

/-- Read: the operation of bytes, or why there is none. -/
theorem rop_read_any (s : ByteArray) (hs : s.size ≤ 4294967296) (w : World) :
    Calls Try.prog 10 #[.string s] w fun e w' => e = .returned (rdV (readR s)) ∧ Below w.heap.size w w' := by
  unfold readR
  by_cases h0 : 0 < s.size
  · rw [dif_pos h0]
    obtain ⟨k, hk⟩ : ∃ k, s[0].toNat = k := ⟨_, rfl⟩
    obtain ⟨T, hT⟩ : ∃ T, s.extract 1 s.size = T := ⟨_, rfl⟩
    rw [hk, hT]
    unfold rdKind
    by_cases ho : k < 1 ∨ 8 < k
    · rw [if_pos (by omega)]; exact rread_off s k h0 hk ho w
    rw [if_neg (by omega)]
    by_cases h13 : k = 1 ∨ k = 3
    · rw [if_pos (by omega)]
      by_cases h4 : T.size < 4
      · rw [if_pos h4]; exact rread_short1 s T k hs h0 hk hT (by omega) (by omega) h4 w
      · rw [if_neg h4]; exact rread_num s T k hs h0 hk hT h13 (by omega) w
    rw [if_neg (by omega)]
    by_cases h2 : k = 2
    · subst h2
      rw [if_pos (by omega)]
      by_cases h8 : T.size < 8
      · rw [if_pos h8]
        by_cases h4 : T.size < 4
        · exact rread_short1 s T 2 hs h0 hk hT (by omega) (by omega) h4 w
        · exact rread_short2 s T hs h0 hk hT (by omega) h8 w
      · rw [if_neg h8]; exact rread_two s T hs h0 hk hT (by omega) w
    · rw [if_neg (by omega)]
      exact rread_bare s T k hs h0 hk hT (by omega) (by omega) w
  · rw [dif_neg h0, nil_size (show s.size = 0 by omega)]
    exact rread_empty w
end Go.Proofs.Ytlgdlkiekodocaa
