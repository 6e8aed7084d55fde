/-
  Contracts of the program's operations: Right.
-/
import Derived.Test.YtlgdlkiekodocaaDoorOpHas
namespace Go.Proofs.YtlgdlkiekodocaaDoor
open Go.RowKit
set_option linter.unusedSimpArgs false

/-- A round of the fields: the operation's cells, the row of its fields. -/
structure Rt (w : World) (b g : Nat) (cs fs : Array Value) (wr : World) : Prop where
  x : Blk wr b cs 23
  f : Blk wr g fs 38
  B : Below w.heap.size w wr
  ne : b < g
  lo : w.heap.size ≤ b
/-- Where the two fields' loop stands. -/
def Rt2 (p0 p1 : Bool) (w : World) (b g : Nat) (fs c0 c1 c2 : Array Value) (i : Value) (wr : World) : Prop :=
  (i = .int .i64 0 ∧ Rt w b g c0 fs wr) ∨ (i = .int .i64 1 ∧ p0 = true ∧ Rt w b g c1 fs wr) ∨ (i = .int .i64 2 ∧ p0 = true ∧ p1 = true ∧ Rt w b g c2 fs wr)
theorem Rt.set {w : World} {b g : Nat} {cs fs : Array Value} {wr : World} (h : Rt w b g cs fs wr) (i : Nat) (u : Value) : Rt w b g (cs.set! i u) fs (wr.setCell ⟨b, i, none⟩ u) :=
  ⟨h.x.set i u, h.f.other _ (by have := h.ne; show b ≠ g; omega) u, h.B.setCell h.lo u, h.ne, h.lo⟩
theorem Rt.on {w : World} {b g : Nat} {cs fs : Array Value} {wr w1 : World} (h : Rt w b g cs fs wr) (hb : Below wr.heap.size wr w1) : Rt w b g cs fs w1 :=
  ⟨h.x.onto hb, h.f.onto hb, h.B.trans (hb.mono h.B.size), h.ne, h.lo⟩

theorem Blk.duo {w : World} {b : Nat} {x0 x1 : Value} {t : TypeId} (h : Blk w b #[x0, x1] t) : w.cell? ⟨b, 0, none⟩ = some x0 ∧ w.cell? ⟨b, 1, none⟩ = some x1 := ⟨h.cell 0 _ rfl, h.cell 1 _ rfl⟩
theorem Blk.lone {w : World} {b : Nat} {x0 : Value} {t : TypeId} (h : Blk w b #[x0] t) : w.cell? ⟨b, 0, none⟩ = some x0 := h.cell 0 _ rfl
theorem rt_start {w w1 : World} {g : Nat} {cs fs : Array Value} (hbx : Blk (w.alloc (.cells cs 23)) w.heap.size cs 23) (hg : Blk w1 g fs 38)
    (hgl : (w.alloc (.cells cs 23)).heap.size ≤ g) (hb1 : Below (w.alloc (.cells cs 23)).heap.size (w.alloc (.cells cs 23)) w1) : Rt w w.heap.size g cs fs w1 :=
  ⟨hbx.onto hb1, hg, ((Below.refl _ _).alloc (Nat.le_refl _) _).trans (hb1.mono (by simp)), by simp at hgl; omega, Nat.le_refl _⟩

set_option maxRecDepth 100000 in
set_option maxHeartbeats 1600000 in
theorem right_one (a n : Int) (s : ByteArray) (hs : s.size ≤ maxLen) (w : World) :
    Calls Tryd.prog 5 #[.agg #[.int .i64 1, .int .i64 a, .int .i64 n, .string s]] w fun e w' => e = .returned (.bool (rightB 1 a n s.data.toList)) ∧ Below w.heap.size w w' := by
  rw [right1, list_size]
  have HBX := Lib.hid (Blk.new w #[.int .i64 1, .int .i64 a, .int .i64 n, .string s] 23)
  have HH := Lib.hid (has_one (.int .i64 a) (.int .i64 n) (.string s) w.heap.size _ HBX.out)
  have he := isEmpty_size s
  have q0 := num_right a
  obtain ⟨p0, e0⟩ : ∃ p, plB a = p := ⟨_, rfl⟩
  rw [e0] at q0 ⊢
  have Q0 := Lib.hid q0
  clear q0 e0
  have q1 := con_right s hs
  obtain ⟨p1, e1⟩ : ∃ p, (decide (s.size ≤ 512) && vldB s.data.toList) = p := ⟨_, rfl⟩
  rw [e1] at q1 ⊢
  have Q1 := Lib.hid q1
  clear q1 e1
  go_enter Tryd.func5, Tryd.ntmps5
  go_wp2_with fail
  refine HH.out.mono ?_
  rintro e w1 ⟨g, rfl, hg, hgl, hb1⟩
  go_wp2
  have HT := Lib.hid (rt_start HBX.out hg hgl hb1)
  clear hb1 hgl hg
  go_loopw [15] (fun i wr => Rt2 p0 p1 w w.heap.size g #[.iface 48 (.pointer (some ⟨w.heap.size, 1, none⟩)), .iface 50 (.pointer (some ⟨w.heap.size, 3, none⟩))] #[.int .i64 1, .int .i64 a, .int .i64 n, .string s] #[.int .i64 1, .int .i64 0, .int .i64 n, .string s] #[.int .i64 1, .int .i64 0, .int .i64 n, .string ⟨#[]⟩] i wr) (fun i _ => 2 - (intOf i).toNat)
  case atStart => exact .inl ⟨rfl, HT.out⟩
  case round =>
    clear HT
    rcases hrel with ⟨rfl, ht⟩ | ⟨rfl, rfl, ht⟩ | ⟨rfl, rfl, rfl, ht⟩
    · obtain ⟨g0, g1⟩ := ht.f.duo
      obtain ⟨x0, x1, x2, x3, y0, y1, y2, y3⟩ := ht.x.four
      have HT := Lib.hid ht
      clear ht he
      go_wp2_with fail
      refine (Q0.out _ _ _ x1).mono ?_; rintro e w2 ⟨rfl, rfl⟩
      have HT2 := Lib.hid HT.out
      clear HT
      cases p0
      · go_wp2
        go_ret
        exact ⟨ret_bool (by simp), HT2.out.B⟩
      · go_wp2_with fail
        refine (num_clear _ _ _ _ x1 y1).mono ?_; rintro e w3 ⟨rfl, rfl⟩
        go_wp2
        go_roundw
        case rel => exact .inr (.inl ⟨by go_num, rfl, by simpa using HT2.out.set 1 (.int .i64 0)⟩)
        case measure => simp [intOf]
    · obtain ⟨g0, g1⟩ := ht.f.duo
      obtain ⟨x0, x1, x2, x3, y0, y1, y2, y3⟩ := ht.x.four
      have HT := Lib.hid ht
      clear ht he
      go_wp2_with fail
      refine (Q1.out _ _ _ x3).mono ?_; rintro e w2 ⟨rfl, hb2⟩
      have HT2 := Lib.hid (HT.out.on hb2)
      clear HT hb2 g0 g1 x0 x1 x2 x3 y0 y1 y2 y3
      obtain ⟨g0, g1⟩ := HT2.out.f.duo
      obtain ⟨x0, x1, x2, x3, y0, y1, y2, y3⟩ := HT2.out.x.four
      cases p1
      · go_wp2
        go_ret
        exact ⟨ret_bool (by simp), HT2.out.B⟩
      · go_wp2_with fail
        refine (con_clear _ _ _ _ x3 y3).mono ?_; rintro e w3 ⟨rfl, rfl⟩
        go_wp2
        go_roundw
        case rel => exact .inr (.inr ⟨by go_num, rfl, rfl, by simpa using HT2.out.set 3 (.string ⟨#[]⟩)⟩)
        case measure => simp [intOf]
    · obtain ⟨x0, x1, x2, x3, y0, y1, y2, y3⟩ := ht.x.four
      have HT2 := Lib.hid ht
      clear ht
      clear he
      by_cases n0 : n = 0
      · subst n0
        go_wp2
        go_ret
        exact ⟨ret_bool (by simp), HT2.out.B⟩
      · go_wp2
        go_ret
        exact ⟨ret_bool (by simp [n0]), HT2.out.B⟩
set_option maxRecDepth 100000 in
set_option maxHeartbeats 1600000 in
theorem right_two (a n : Int) (s : ByteArray) (w : World) :
    Calls Tryd.prog 5 #[.agg #[.int .i64 2, .int .i64 a, .int .i64 n, .string s]] w fun e w' => e = .returned (.bool (rightB 2 a n s.data.toList)) ∧ Below w.heap.size w w' := by
  rw [right2, list_size]
  have HBX := Lib.hid (Blk.new w #[.int .i64 2, .int .i64 a, .int .i64 n, .string s] 23)
  have HH := Lib.hid (has_two (.int .i64 a) (.int .i64 n) (.string s) w.heap.size _ HBX.out)
  have he := isEmpty_size s
  have q0 := num_right a
  obtain ⟨p0, e0⟩ : ∃ p, plB a = p := ⟨_, rfl⟩
  rw [e0] at q0 ⊢
  have Q0 := Lib.hid q0
  clear q0 e0
  have q1 := num_right n
  obtain ⟨p1, e1⟩ : ∃ p, plB n = p := ⟨_, rfl⟩
  rw [e1] at q1 ⊢
  have Q1 := Lib.hid q1
  clear q1 e1
  go_enter Tryd.func5, Tryd.ntmps5
  go_wp2_with fail
  refine HH.out.mono ?_
  rintro e w1 ⟨g, rfl, hg, hgl, hb1⟩
  go_wp2
  have HT := Lib.hid (rt_start HBX.out hg hgl hb1)
  clear hb1 hgl hg
  go_loopw [15] (fun i wr => Rt2 p0 p1 w w.heap.size g #[.iface 48 (.pointer (some ⟨w.heap.size, 1, none⟩)), .iface 48 (.pointer (some ⟨w.heap.size, 2, none⟩))] #[.int .i64 2, .int .i64 a, .int .i64 n, .string s] #[.int .i64 2, .int .i64 0, .int .i64 n, .string s] #[.int .i64 2, .int .i64 0, .int .i64 0, .string s] i wr) (fun i _ => 2 - (intOf i).toNat)
  case atStart => exact .inl ⟨rfl, HT.out⟩
  case round =>
    clear HT
    rcases hrel with ⟨rfl, ht⟩ | ⟨rfl, rfl, ht⟩ | ⟨rfl, rfl, rfl, ht⟩
    · obtain ⟨g0, g1⟩ := ht.f.duo
      obtain ⟨x0, x1, x2, x3, y0, y1, y2, y3⟩ := ht.x.four
      have HT := Lib.hid ht
      clear ht he
      go_wp2_with fail
      refine (Q0.out _ _ _ x1).mono ?_; rintro e w2 ⟨rfl, rfl⟩
      have HT2 := Lib.hid HT.out
      clear HT
      cases p0
      · go_wp2
        go_ret
        exact ⟨ret_bool (by simp), HT2.out.B⟩
      · go_wp2_with fail
        refine (num_clear _ _ _ _ x1 y1).mono ?_; rintro e w3 ⟨rfl, rfl⟩
        go_wp2
        go_roundw
        case rel => exact .inr (.inl ⟨by go_num, rfl, by simpa using HT2.out.set 1 (.int .i64 0)⟩)
        case measure => simp [intOf]
    · obtain ⟨g0, g1⟩ := ht.f.duo
      obtain ⟨x0, x1, x2, x3, y0, y1, y2, y3⟩ := ht.x.four
      have HT := Lib.hid ht
      clear ht he
      go_wp2_with fail
      refine (Q1.out _ _ _ x2).mono ?_; rintro e w2 ⟨rfl, rfl⟩
      have HT2 := Lib.hid HT.out
      clear HT
      cases p1
      · go_wp2
        go_ret
        exact ⟨ret_bool (by simp), HT2.out.B⟩
      · go_wp2_with fail
        refine (num_clear _ _ _ _ x2 y2).mono ?_; rintro e w3 ⟨rfl, rfl⟩
        go_wp2
        go_roundw
        case rel => exact .inr (.inr ⟨by go_num, rfl, rfl, by simpa using HT2.out.set 2 (.int .i64 0)⟩)
        case measure => simp [intOf]
    · obtain ⟨x0, x1, x2, x3, y0, y1, y2, y3⟩ := ht.x.four
      have HT2 := Lib.hid ht
      clear ht
      by_cases hz : s.size = 0
      · rw [decide_eq_true hz] at he
        go_wp2
        go_ret
        exact ⟨ret_bool (by simp [hz]), HT2.out.B⟩
      · rw [decide_eq_false hz] at he
        go_wp2
        go_ret
        exact ⟨ret_bool (by simp [hz]), HT2.out.B⟩
set_option maxRecDepth 100000 in
set_option maxHeartbeats 1600000 in
theorem right_three (a n : Int) (s : ByteArray) (hs : s.size ≤ maxLen) (w : World) :
    Calls Tryd.prog 5 #[.agg #[.int .i64 3, .int .i64 a, .int .i64 n, .string s]] w fun e w' => e = .returned (.bool (rightB 3 a n s.data.toList)) ∧ Below w.heap.size w w' := by
  rw [right3]
  have HBX := Lib.hid (Blk.new w #[.int .i64 3, .int .i64 a, .int .i64 n, .string s] 23)
  have HH := Lib.hid (has_three (.int .i64 a) (.int .i64 n) (.string s) w.heap.size _ HBX.out)
  have he := isEmpty_size s
  have q0 := num_right a
  obtain ⟨p0, e0⟩ : ∃ p, plB a = p := ⟨_, rfl⟩
  rw [e0] at q0 ⊢
  have Q0 := Lib.hid q0
  clear q0 e0
  have q1 := nam_right s hs
  obtain ⟨p1, e1⟩ : ∃ p, markB s.data.toList = p := ⟨_, rfl⟩
  rw [e1] at q1 ⊢
  have Q1 := Lib.hid q1
  clear q1 e1
  go_enter Tryd.func5, Tryd.ntmps5
  go_wp2_with fail
  refine HH.out.mono ?_
  rintro e w1 ⟨g, rfl, hg, hgl, hb1⟩
  go_wp2
  have HT := Lib.hid (rt_start HBX.out hg hgl hb1)
  clear hb1 hgl hg
  go_loopw [15] (fun i wr => Rt2 p0 p1 w w.heap.size g #[.iface 48 (.pointer (some ⟨w.heap.size, 1, none⟩)), .iface 52 (.pointer (some ⟨w.heap.size, 3, none⟩))] #[.int .i64 3, .int .i64 a, .int .i64 n, .string s] #[.int .i64 3, .int .i64 0, .int .i64 n, .string s] #[.int .i64 3, .int .i64 0, .int .i64 n, .string ⟨#[]⟩] i wr) (fun i _ => 2 - (intOf i).toNat)
  case atStart => exact .inl ⟨rfl, HT.out⟩
  case round =>
    clear HT
    rcases hrel with ⟨rfl, ht⟩ | ⟨rfl, rfl, ht⟩ | ⟨rfl, rfl, rfl, ht⟩
    · obtain ⟨g0, g1⟩ := ht.f.duo
      obtain ⟨x0, x1, x2, x3, y0, y1, y2, y3⟩ := ht.x.four
      have HT := Lib.hid ht
      clear ht he
      go_wp2_with fail
      refine (Q0.out _ _ _ x1).mono ?_; rintro e w2 ⟨rfl, rfl⟩
      have HT2 := Lib.hid HT.out
      clear HT
      cases p0
      · go_wp2
        go_ret
        exact ⟨ret_bool (by simp), HT2.out.B⟩
      · go_wp2_with fail
        refine (num_clear _ _ _ _ x1 y1).mono ?_; rintro e w3 ⟨rfl, rfl⟩
        go_wp2
        go_roundw
        case rel => exact .inr (.inl ⟨by go_num, rfl, by simpa using HT2.out.set 1 (.int .i64 0)⟩)
        case measure => simp [intOf]
    · obtain ⟨g0, g1⟩ := ht.f.duo
      obtain ⟨x0, x1, x2, x3, y0, y1, y2, y3⟩ := ht.x.four
      have HT := Lib.hid ht
      clear ht he
      go_wp2_with fail
      refine (Q1.out _ _ _ x3).mono ?_; rintro e w2 ⟨rfl, rfl⟩
      have HT2 := Lib.hid HT.out
      clear HT
      cases p1
      · go_wp2
        go_ret
        exact ⟨ret_bool (by simp), HT2.out.B⟩
      · go_wp2_with fail
        refine (nam_clear _ _ _ _ x3 y3).mono ?_; rintro e w3 ⟨rfl, rfl⟩
        go_wp2
        go_roundw
        case rel => exact .inr (.inr ⟨by go_num, rfl, rfl, by simpa using HT2.out.set 3 (.string ⟨#[]⟩)⟩)
        case measure => simp [intOf]
    · obtain ⟨x0, x1, x2, x3, y0, y1, y2, y3⟩ := ht.x.four
      have HT2 := Lib.hid ht
      clear ht
      clear he
      by_cases n0 : n = 0
      · subst n0
        go_wp2
        go_ret
        exact ⟨ret_bool (by simp), HT2.out.B⟩
      · go_wp2
        go_ret
        exact ⟨ret_bool (by simp [n0]), HT2.out.B⟩
set_option maxRecDepth 100000 in
set_option maxHeartbeats 1600000 in
theorem right_four (a n : Int) (s : ByteArray) (hs : s.size ≤ maxLen) (w : World) :
    Calls Tryd.prog 5 #[.agg #[.int .i64 4, .int .i64 a, .int .i64 n, .string s]] w fun e w' => e = .returned (.bool (rightB 4 a n s.data.toList)) ∧ Below w.heap.size w w' := by
  rw [right4]
  have HBX := Lib.hid (Blk.new w #[.int .i64 4, .int .i64 a, .int .i64 n, .string s] 23)
  have HH := Lib.hid (has_four (.int .i64 a) (.int .i64 n) (.string s) w.heap.size _ HBX.out)
  have q0 := nam_right s hs
  obtain ⟨p0, e0⟩ : ∃ p, markB s.data.toList = p := ⟨_, rfl⟩
  rw [e0] at q0 ⊢
  have Q0 := Lib.hid q0
  clear q0 e0
  go_enter Tryd.func5, Tryd.ntmps5
  go_wp2_with fail
  refine HH.out.mono ?_
  rintro e w1 ⟨g, rfl, hg, hgl, hb1⟩
  go_wp2
  have HT := Lib.hid (rt_start HBX.out hg hgl hb1)
  clear hb1 hgl hg
  go_loopw [15] (fun i wr => Rt2 p0 false w w.heap.size g #[.iface 52 (.pointer (some ⟨w.heap.size, 3, none⟩))] #[.int .i64 4, .int .i64 a, .int .i64 n, .string s] #[.int .i64 4, .int .i64 a, .int .i64 n, .string ⟨#[]⟩] #[] i wr) (fun i _ => 2 - (intOf i).toNat)
  case atStart => exact .inl ⟨rfl, HT.out⟩
  case round =>
    clear HT
    rcases hrel with ⟨rfl, ht⟩ | ⟨rfl, rfl, ht⟩ | ⟨rfl, rfl, hz, ht⟩
    · have g0 := ht.f.lone
      obtain ⟨x0, x1, x2, x3, y0, y1, y2, y3⟩ := ht.x.four
      have HT := Lib.hid ht
      clear ht
      go_wp2_with fail
      refine (Q0.out _ _ _ x3).mono ?_; rintro e w2 ⟨rfl, rfl⟩
      have HT2 := Lib.hid HT.out
      clear HT
      cases p0
      · go_wp2
        go_ret
        exact ⟨ret_bool (by simp), HT2.out.B⟩
      · go_wp2_with fail
        refine (nam_clear _ _ _ _ x3 y3).mono ?_; rintro e w3 ⟨rfl, rfl⟩
        go_wp2
        go_roundw
        case rel => exact .inr (.inl ⟨by go_num, rfl, by simpa using HT2.out.set 3 (.string ⟨#[]⟩)⟩)
        case measure => simp [intOf]
    · obtain ⟨x0, x1, x2, x3, y0, y1, y2, y3⟩ := ht.x.four
      have HT2 := Lib.hid ht
      clear ht
      by_cases a0 : a = 0
      · subst a0
        by_cases n0 : n = 0
        · subst n0
          go_wp2
          go_ret
          exact ⟨ret_bool (by simp), HT2.out.B⟩
        · go_wp2
          go_ret
          exact ⟨ret_bool (by simp [n0]), HT2.out.B⟩
      · go_wp2
        go_ret
        exact ⟨ret_bool (by simp [a0]), HT2.out.B⟩
    · cases hz
set_option maxRecDepth 100000 in
set_option maxHeartbeats 1600000 in
theorem right_bare (k a n : Int) (hk : 5 ≤ k) (hk2 : k ≤ 8) (s : ByteArray) (w : World) :
    Calls Tryd.prog 5 #[.agg #[.int .i64 k, .int .i64 a, .int .i64 n, .string s]] w fun e w' => e = .returned (.bool (rightB k a n s.data.toList)) ∧ Below w.heap.size w w' := by
  rw [right5 hk hk2, list_size]
  have HBX := Lib.hid (Blk.new w #[.int .i64 k, .int .i64 a, .int .i64 n, .string s] 23)
  have HH := Lib.hid (has_none k (.inr (by omega)) (.int .i64 a) (.int .i64 n) (.string s) w.heap.size _ HBX.out)
  have he := isEmpty_size s
  have HB := Lib.hid (show Below w.heap.size w (w.alloc (.cells #[.int .i64 k, .int .i64 a, .int .i64 n, .string s] 23)).drew from ((Below.refl _ _).alloc (Nat.le_refl _) _).drew)
  have k1 : 1 ≤ k := by omega
  clear hk
  go_enter Tryd.func5, Tryd.ntmps5
  go_wp2_with fail
  refine HH.out.mono ?_
  rintro e w1 ⟨rfl, rfl⟩
  go_wp2
  go_loopw [15] (fun i wr => i = .int .i64 0 ∧ wr = (w.alloc (.cells #[.int .i64 k, .int .i64 a, .int .i64 n, .string s] 23)).drew) (fun _ _ => 0)
  case atStart => exact ⟨rfl, rfl⟩
  case round =>
    obtain ⟨rfl, rfl⟩ := hrel
    by_cases a0 : a = 0
    · subst a0
      by_cases n0 : n = 0
      · subst n0
        by_cases hz : s.size = 0
        · rw [decide_eq_true hz] at he
          go_wp2
          go_ret
          exact ⟨ret_bool (by simp [hz]), HB.out⟩
        · rw [decide_eq_false hz] at he
          go_wp2
          go_ret
          exact ⟨ret_bool (by simp [hz]), HB.out⟩
      · clear he
        go_wp2
        go_ret
        exact ⟨ret_bool (by simp [n0]), HB.out⟩
    · clear he
      go_wp2
      go_ret
      exact ⟨ret_bool (by simp [a0]), HB.out⟩
theorem right_no (k a n : Int) (hk : k < 1 ∨ 8 < k) (s : ByteArray) (w : World) :
    Calls Tryd.prog 5 #[.agg #[.int .i64 k, .int .i64 a, .int .i64 n, .string s]] w fun e w' => e = .returned (.bool (rightB k a n s.data.toList)) ∧ Below w.heap.size w w' := by
  rw [right_off hk]
  by_cases k1 : k < 1
  · go_enter Tryd.func5, Tryd.ntmps5
    go_wp2
    go_ret
    exact ⟨rfl, (Below.refl _ _).alloc (Nat.le_refl _) _⟩
  · have k8 : 8 < k := by omega
    go_enter Tryd.func5, Tryd.ntmps5
    go_wp2
    go_ret
    exact ⟨rfl, (Below.refl _ _).alloc (Nat.le_refl _) _⟩
/-- Right: which operations may be. -/
theorem op_right_any (k a n : Int) (s : ByteArray) (hs : s.size ≤ maxLen) (w : World) :
    Calls Tryd.prog 5 #[.agg #[.int .i64 k, .int .i64 a, .int .i64 n, .string s]] w fun e w' => e = .returned (.bool (rightB k a n s.data.toList)) ∧ Below w.heap.size w w' := by
  rcases opKinds k with rfl | rfl | rfl | rfl | g | g
  · exact right_one a n s hs w
  · exact right_two a n s w
  · exact right_three a n s hs w
  · exact right_four a n s hs w
  · exact right_bare k a n g.1 g.2 s w
  · exact right_no k a n g s w
end Go.Proofs.YtlgdlkiekodocaaDoor
