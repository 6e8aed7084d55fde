/-
  The law EditBack.
-/
import Derived.Test.YtncppnioaegjmaaLawEdit
import Derived.Test.YtncppnioaegjmaaEditBack
import Derived.Test.YtncppnioaegjmaaOpenArr
namespace Go.Proofs.Ytncppnioaegjmaa
open Go.RowKit
set_option linter.unusedVariables false

/-- The boxes of an edit and of two places. -/
theorem Ed.two (w : World) (p : Int) (o n : ByteArray) (a b : Int) : Ed w p o n ((w.alloc (.cells #[.int .i64 p, .string o, .string n] 23)).alloc (.cells #[.int .i64 a, .int .i64 b] 32)).drew :=
  (Ed.on (Ed.new w p o n) ((Below.refl _ _).alloc (Nat.le_refl _) _)).drew

set_option maxRecDepth 100000 in
set_option maxHeartbeats 1600000 in
theorem editBack_off (t o n : ByteArray) (p a b : Int) (ht : t.size ≤ 9223372036854775807) (ho : o.size ≤ 9223372036854775807) (hn : n.size ≤ 9223372036854775807)
    (h1 : 600 < t.size ∨ 600 < o.size ∨ 600 < n.size) (w : World) :
    Calls Try.prog 5 #[.string t, edV p o n, .agg #[.int .i64 a, .int .i64 b]] w fun e w' => e = .returned (.bool true) ∧ Below w.heap.size w w' := by
  rcases (show 600 < t.size ∨ (t.size ≤ 600 ∧ 600 < o.size) ∨ (t.size ≤ 600 ∧ o.size ≤ 600 ∧ 600 < n.size) by omega) with h | ⟨h, h2⟩ | ⟨h, h2, h3⟩
  all_goals
    clear h1
    go_enter Try.func5, Try.ntmps5
    go_wp2_with fail
    go_region
    obtain ⟨w0, hw0⟩ : ∃ w0, w0 = ((w.alloc (.cells #[.int .i64 p, .string o, .string n] 23)).alloc (.cells #[.int .i64 a, .int .i64 b] 32)).drew := ⟨_, rfl⟩
    have HE := Lib.hid (Ed.two w p o n a b)
    rw [← hw0] at HE ⊢
    clear hw0
    obtain ⟨-, -, k0, k1, k2⟩ := HE.out
    go_wp2_with fail
    refine (lives21_any _).mono ?_; rintro e w1 ⟨rfl, hb1⟩
    go_wp2
    go_ret
    exact ⟨rfl, HE.out.1.trans (hb1.mono HE.out.1.size)⟩

set_option maxRecDepth 100000 in
set_option maxHeartbeats 1600000 in
theorem editBack_bad (t o n : ByteArray) (p a b : Int) (ht : t.size ≤ 600) (ho : o.size ≤ 600) (hn : n.size ≤ 600) (hv : vldB t.data.toList = false) (w : World) :
    Calls Try.prog 5 #[.string t, edV p o n, .agg #[.int .i64 a, .int .i64 b]] w fun e w' => e = .returned (.bool true) ∧ Below w.heap.size w w' := by
  have v1 := rvalid_any t (by omega)
  rw [hv] at v1
  have V1 := Lib.hid v1
  clear v1 hv
  go_enter Try.func5, Try.ntmps5
  go_wp2_with fail
  go_region
  obtain ⟨w0, hw0⟩ : ∃ w0, w0 = ((w.alloc (.cells #[.int .i64 p, .string o, .string n] 23)).alloc (.cells #[.int .i64 a, .int .i64 b] 32)).drew := ⟨_, rfl⟩
  have HE := Lib.hid (Ed.two w p o n a b)
  rw [← hw0] at HE ⊢
  clear hw0
  obtain ⟨-, -, k0, k1, k2⟩ := HE.out
  go_wp2_with fail
  refine (V1.out _).mono ?_; rintro e w1 ⟨rfl, hb1⟩
  have HE1 := Lib.hid (HE.out.on hb1)
  clear hb1
  go_wp2_with fail
  refine (lives21_any _).mono ?_; rintro e w2 ⟨rfl, hb2⟩
  go_wp2
  go_ret
  exact ⟨rfl, HE1.out.1.trans (hb2.mono HE1.out.1.size)⟩

set_option maxRecDepth 100000 in
set_option maxHeartbeats 1600000 in
/-- Where the edit is not applied. -/
theorem editBack_no (t o n : ByteArray) (p a b : Int) (ht : t.size ≤ 600) (ho : o.size ≤ 600) (hn : n.size ≤ 600) (hv : vldB t.data.toList = true) (hr : (appE t p o n).2 ≠ 0) (w : World) :
    Calls Try.prog 5 #[.string t, edV p o n, .agg #[.int .i64 a, .int .i64 b]] w fun e w' => e = .returned (.bool true) ∧ Below w.heap.size w w' := by
  have v1 := rvalid_any t (by omega)
  rw [hv] at v1
  have V1 := Lib.hid v1
  have c1 := apply_any t o n (by omega) (by omega) (by omega) p
  have he := appE_empty hr
  obtain ⟨⟨s, r⟩, hx⟩ : ∃ x, appE t p o n = x := ⟨_, rfl⟩
  rw [hx] at c1 hr he
  obtain rfl : s = ⟨#[]⟩ := he
  have hr : r ≠ 0 := hr
  have C1 := Lib.hid c1
  clear v1 hv c1 hx
  go_enter Try.func5, Try.ntmps5
  go_wp2_with fail
  go_region
  obtain ⟨w0, hw0⟩ : ∃ w0, w0 = ((w.alloc (.cells #[.int .i64 p, .string o, .string n] 23)).alloc (.cells #[.int .i64 a, .int .i64 b] 32)).drew := ⟨_, rfl⟩
  have HE := Lib.hid (Ed.two w p o n a b)
  rw [← hw0] at HE ⊢
  clear hw0
  obtain ⟨-, -, k0, k1, k2⟩ := HE.out
  go_wp2_with fail
  refine (V1.out _).mono ?_; rintro e w1 ⟨rfl, hb1⟩
  have HE1 := Lib.hid (HE.out.on hb1)
  obtain ⟨-, -, k0, k1, k2⟩ := HE1.out
  clear hb1
  go_wp2_with fail
  refine (C1.out _).mono ?_; rintro e w2 ⟨rfl, hb2⟩
  have HE2 := Lib.hid (HE1.out.on hb2)
  clear hb2
  go_wp2_with fail
  refine (lives21_any _).mono ?_; rintro e w3 ⟨rfl, hb3⟩
  go_wp2
  go_ret
  exact ⟨rfl, HE2.out.1.trans (hb3.mono HE2.out.1.size)⟩

set_option maxRecDepth 100000 in
set_option maxHeartbeats 3200000 in
/-- Where it is, and the first place is no edge. -/
theorem editBack_e1 (t o n : ByteArray) (p a b : Int) (s : ByteArray) (ht : t.size ≤ 600) (ho : o.size ≤ 600) (hn : n.size ≤ 600) (hv : vldB t.data.toList = true) (hr : appE t p o n = (s, 0)) (hea : edgeB t.data.toList a = false) (w : World) :
    Calls Try.prog 5 #[.string t, edV p o n, .agg #[.int .i64 a, .int .i64 b]] w fun e w' => e = .returned (.bool true) ∧ Below w.heap.size w w' := by
  have v1 := rvalid_any t (by omega)
  rw [hv] at v1
  have hs : s.size ≤ 4096 := by
    obtain ⟨k, A, B, rfl, hc⟩ := cut3 ((vldB_iff _).1 hv) hr
    have := hc.size
    have := hc.turn.size
    omega
  obtain ⟨hb, hvs⟩ := back_app hv (by omega) hr
  have v2 := rvalid_any s (by omega)
  rw [hvs] at v2
  have V1 := Lib.hid v1; have V2 := Lib.hid v2
  have c1 := apply_any t o n (by omega) (by omega) (by omega) p
  rw [hr] at c1
  have c2 := apply_any s n o (by omega) (by omega) (by omega) p
  rw [hb] at c2
  have c3 := inverse_any p o n
  have hp : 0 ≤ p ∧ p ≤ 600 := by obtain ⟨k, rfl, hk, -⟩ := appE_zero hr; omega
  have x1 := redge_any t (by unfold maxLen; omega) a
  rw [hea] at x1
  have X1 := Lib.hid x1
  clear x1
  have C1 := Lib.hid c1; have C2 := Lib.hid c2; have C3 := Lib.hid c3
  clear v1 v2 c1 c2 c3 hb hvs
  clear hea hr hv
  go_enter Try.func5, Try.ntmps5
  go_wp2_with fail
  go_region
  obtain ⟨w0, hw0⟩ : ∃ w0, w0 = ((w.alloc (.cells #[.int .i64 p, .string o, .string n] 23)).alloc (.cells #[.int .i64 a, .int .i64 b] 32)).drew := ⟨_, rfl⟩
  have HE := Lib.hid (Ed.two w p o n a b)
  rw [← hw0] at HE ⊢
  clear hw0
  obtain ⟨-, -, k0, k1, k2⟩ := HE.out
  go_wp2_with fail
  refine (V1.out _).mono ?_; rintro e w1 ⟨rfl, hb1⟩
  have HE1 := Lib.hid (HE.out.on hb1)
  obtain ⟨-, -, k0, k1, k2⟩ := HE1.out
  clear hb1
  go_wp2_with fail
  refine (C1.out _).mono ?_; rintro e w2 ⟨rfl, hb2⟩
  have HE2 := Lib.hid (HE1.out.on hb2)
  obtain ⟨-, -, k0, k1, k2⟩ := HE2.out
  clear hb2
  go_wp2_with fail
  refine (C3.out _).mono ?_; rintro e w3 ⟨rfl, hb3⟩
  have HE2b := Lib.hid (HE2.out.on hb3)
  clear hb3
  go_wp2_with fail
  refine (C2.out _).mono ?_; rintro e w3b ⟨rfl, hb3⟩
  have HE3 := Lib.hid (HE2b.out.on hb3)
  obtain ⟨-, -, k0, k1, k2⟩ := HE3.out
  clear hb3
  go_wp2_with fail
  refine (V2.out _).mono ?_; rintro e w4 ⟨rfl, hb4⟩
  have HE4 := Lib.hid (HE3.out.on hb4)
  obtain ⟨-, -, k0, k1, k2⟩ := HE4.out
  clear hb4
  go_wp2_with (first | (go_at_call 15; (with_reducible refine (X1.out _).mono ?_); rintro e w2 ⟨rfl, rfl⟩))
  refine (lives21_any _).mono ?_; rintro e w5 ⟨rfl, hb5⟩
  go_wp2
  go_ret
  exact ⟨rfl, HE4.out.1.trans (hb5.mono HE4.out.1.size)⟩

set_option maxRecDepth 100000 in
set_option maxHeartbeats 3200000 in
/-- The second is none. -/
theorem editBack_e2 (t o n : ByteArray) (p a b : Int) (s : ByteArray) (ht : t.size ≤ 600) (ho : o.size ≤ 600) (hn : n.size ≤ 600) (hv : vldB t.data.toList = true) (hr : appE t p o n = (s, 0)) (hea : edgeB t.data.toList a = true) (heb : edgeB t.data.toList b = false) (w : World) :
    Calls Try.prog 5 #[.string t, edV p o n, .agg #[.int .i64 a, .int .i64 b]] w fun e w' => e = .returned (.bool true) ∧ Below w.heap.size w w' := by
  have v1 := rvalid_any t (by omega)
  rw [hv] at v1
  have hs : s.size ≤ 4096 := by
    obtain ⟨k, A, B, rfl, hc⟩ := cut3 ((vldB_iff _).1 hv) hr
    have := hc.size
    have := hc.turn.size
    omega
  obtain ⟨hb, hvs⟩ := back_app hv (by omega) hr
  have v2 := rvalid_any s (by omega)
  rw [hvs] at v2
  have V1 := Lib.hid v1; have V2 := Lib.hid v2
  have c1 := apply_any t o n (by omega) (by omega) (by omega) p
  rw [hr] at c1
  have c2 := apply_any s n o (by omega) (by omega) (by omega) p
  rw [hb] at c2
  have c3 := inverse_any p o n
  have hp : 0 ≤ p ∧ p ≤ 600 := by obtain ⟨k, rfl, hk, -⟩ := appE_zero hr; omega
  have x1 := redge_any t (by unfold maxLen; omega) a
  have x2 := redge_any t (by unfold maxLen; omega) b
  rw [hea] at x1
  rw [heb] at x2
  have X1 := Lib.hid x1; have X2 := Lib.hid x2
  clear x1 x2
  have C1 := Lib.hid c1; have C2 := Lib.hid c2; have C3 := Lib.hid c3
  clear v1 v2 c1 c2 c3 hb hvs
  clear hea heb hr hv
  go_enter Try.func5, Try.ntmps5
  go_wp2_with fail
  go_region
  obtain ⟨w0, hw0⟩ : ∃ w0, w0 = ((w.alloc (.cells #[.int .i64 p, .string o, .string n] 23)).alloc (.cells #[.int .i64 a, .int .i64 b] 32)).drew := ⟨_, rfl⟩
  have HE := Lib.hid (Ed.two w p o n a b)
  rw [← hw0] at HE ⊢
  clear hw0
  obtain ⟨-, -, k0, k1, k2⟩ := HE.out
  go_wp2_with fail
  refine (V1.out _).mono ?_; rintro e w1 ⟨rfl, hb1⟩
  have HE1 := Lib.hid (HE.out.on hb1)
  obtain ⟨-, -, k0, k1, k2⟩ := HE1.out
  clear hb1
  go_wp2_with fail
  refine (C1.out _).mono ?_; rintro e w2 ⟨rfl, hb2⟩
  have HE2 := Lib.hid (HE1.out.on hb2)
  obtain ⟨-, -, k0, k1, k2⟩ := HE2.out
  clear hb2
  go_wp2_with fail
  refine (C3.out _).mono ?_; rintro e w3 ⟨rfl, hb3⟩
  have HE2b := Lib.hid (HE2.out.on hb3)
  clear hb3
  go_wp2_with fail
  refine (C2.out _).mono ?_; rintro e w3b ⟨rfl, hb3⟩
  have HE3 := Lib.hid (HE2b.out.on hb3)
  obtain ⟨-, -, k0, k1, k2⟩ := HE3.out
  clear hb3
  go_wp2_with fail
  refine (V2.out _).mono ?_; rintro e w4 ⟨rfl, hb4⟩
  have HE4 := Lib.hid (HE3.out.on hb4)
  obtain ⟨-, -, k0, k1, k2⟩ := HE4.out
  clear hb4
  go_wp2_with (first | (go_at_call 15; (with_reducible refine (X1.out _).mono ?_); rintro e w2 ⟨rfl, rfl⟩) | (go_at_call 15; (with_reducible refine (X2.out _).mono ?_); rintro e w2 ⟨rfl, rfl⟩))
  refine (lives21_any _).mono ?_; rintro e w5 ⟨rfl, hb5⟩
  go_wp2
  go_ret
  exact ⟨rfl, HE4.out.1.trans (hb5.mono HE4.out.1.size)⟩

set_option maxRecDepth 100000 in
set_option maxHeartbeats 3200000 in
/-- The second stands ahead of the first. -/
theorem editBack_e3 (t o n : ByteArray) (p a b : Int) (s : ByteArray) (ht : t.size ≤ 600) (ho : o.size ≤ 600) (hn : n.size ≤ 600) (hv : vldB t.data.toList = true) (hr : appE t p o n = (s, 0)) (hea : edgeB t.data.toList a = true) (heb : edgeB t.data.toList b = true) (hlt : b < a) (w : World) :
    Calls Try.prog 5 #[.string t, edV p o n, .agg #[.int .i64 a, .int .i64 b]] w fun e w' => e = .returned (.bool true) ∧ Below w.heap.size w w' := by
  have v1 := rvalid_any t (by omega)
  rw [hv] at v1
  have hs : s.size ≤ 4096 := by
    obtain ⟨k, A, B, rfl, hc⟩ := cut3 ((vldB_iff _).1 hv) hr
    have := hc.size
    have := hc.turn.size
    omega
  obtain ⟨hb, hvs⟩ := back_app hv (by omega) hr
  have v2 := rvalid_any s (by omega)
  rw [hvs] at v2
  have V1 := Lib.hid v1; have V2 := Lib.hid v2
  have c1 := apply_any t o n (by omega) (by omega) (by omega) p
  rw [hr] at c1
  have c2 := apply_any s n o (by omega) (by omega) (by omega) p
  rw [hb] at c2
  have c3 := inverse_any p o n
  have hp : 0 ≤ p ∧ p ≤ 600 := by obtain ⟨k, rfl, hk, -⟩ := appE_zero hr; omega
  have x1 := redge_any t (by unfold maxLen; omega) a
  have x2 := redge_any t (by unfold maxLen; omega) b
  rw [hea] at x1
  rw [heb] at x2
  have X1 := Lib.hid x1; have X2 := Lib.hid x2
  clear x1 x2
  have C1 := Lib.hid c1; have C2 := Lib.hid c2; have C3 := Lib.hid c3
  clear v1 v2 c1 c2 c3 hb hvs
  clear hea heb hr hv
  go_enter Try.func5, Try.ntmps5
  go_wp2_with fail
  go_region
  obtain ⟨w0, hw0⟩ : ∃ w0, w0 = ((w.alloc (.cells #[.int .i64 p, .string o, .string n] 23)).alloc (.cells #[.int .i64 a, .int .i64 b] 32)).drew := ⟨_, rfl⟩
  have HE := Lib.hid (Ed.two w p o n a b)
  rw [← hw0] at HE ⊢
  clear hw0
  obtain ⟨-, -, k0, k1, k2⟩ := HE.out
  go_wp2_with fail
  refine (V1.out _).mono ?_; rintro e w1 ⟨rfl, hb1⟩
  have HE1 := Lib.hid (HE.out.on hb1)
  obtain ⟨-, -, k0, k1, k2⟩ := HE1.out
  clear hb1
  go_wp2_with fail
  refine (C1.out _).mono ?_; rintro e w2 ⟨rfl, hb2⟩
  have HE2 := Lib.hid (HE1.out.on hb2)
  obtain ⟨-, -, k0, k1, k2⟩ := HE2.out
  clear hb2
  go_wp2_with fail
  refine (C3.out _).mono ?_; rintro e w3 ⟨rfl, hb3⟩
  have HE2b := Lib.hid (HE2.out.on hb3)
  clear hb3
  go_wp2_with fail
  refine (C2.out _).mono ?_; rintro e w3b ⟨rfl, hb3⟩
  have HE3 := Lib.hid (HE2b.out.on hb3)
  obtain ⟨-, -, k0, k1, k2⟩ := HE3.out
  clear hb3
  go_wp2_with fail
  refine (V2.out _).mono ?_; rintro e w4 ⟨rfl, hb4⟩
  have HE4 := Lib.hid (HE3.out.on hb4)
  obtain ⟨-, -, k0, k1, k2⟩ := HE4.out
  clear hb4
  go_wp2_with (first | (go_at_call 15; (with_reducible refine (X1.out _).mono ?_); rintro e w2 ⟨rfl, rfl⟩) | (go_at_call 15; (with_reducible refine (X2.out _).mono ?_); rintro e w2 ⟨rfl, rfl⟩))
  refine (lives21_any _).mono ?_; rintro e w5 ⟨rfl, hb5⟩
  go_wp2
  go_ret
  exact ⟨rfl, HE4.out.1.trans (hb5.mono HE4.out.1.size)⟩

set_option maxRecDepth 100000 in
set_option maxHeartbeats 3200000 in
/-- Both are edges. -/
theorem editBack_e4 (t o n : ByteArray) (p a b : Int) (s : ByteArray) (ht : t.size ≤ 600) (ho : o.size ≤ 600) (hn : n.size ≤ 600) (hv : vldB t.data.toList = true) (hr : appE t p o n = (s, 0)) (hea : edgeB t.data.toList a = true) (heb : edgeB t.data.toList b = true) (hab : a ≤ b) (a0 : 0 ≤ a) (a1 : a ≤ 600) (b1 : b ≤ 600) (w : World) :
    Calls Try.prog 5 #[.string t, edV p o n, .agg #[.int .i64 a, .int .i64 b]] w fun e w' => e = .returned (.bool true) ∧ Below w.heap.size w w' := by
  have v1 := rvalid_any t (by omega)
  rw [hv] at v1
  have hs : s.size ≤ 4096 := by
    obtain ⟨k, A, B, rfl, hc⟩ := cut3 ((vldB_iff _).1 hv) hr
    have := hc.size
    have := hc.turn.size
    omega
  obtain ⟨hb, hvs⟩ := back_app hv (by omega) hr
  have v2 := rvalid_any s (by omega)
  rw [hvs] at v2
  have V1 := Lib.hid v1; have V2 := Lib.hid v2
  have c1 := apply_any t o n (by omega) (by omega) (by omega) p
  rw [hr] at c1
  have c2 := apply_any s n o (by omega) (by omega) (by omega) p
  rw [hb] at c2
  have c3 := inverse_any p o n
  have hp : 0 ≤ p ∧ p ≤ 600 := by obtain ⟨k, rfl, hk, -⟩ := appE_zero hr; omega
  have x1 := redge_any t (by unfold maxLen; omega) a
  have x2 := redge_any t (by unfold maxLen; omega) b
  rw [hea] at x1
  rw [heb] at x2
  have X1 := Lib.hid x1; have X2 := Lib.hid x2
  clear x1 x2
  have C1 := Lib.hid c1; have C2 := Lib.hid c2; have C3 := Lib.hid c3
  clear v1 v2 c1 c2 c3 hb hvs
  obtain ⟨x, hx⟩ : ∃ x, shiftI p o.size n.size a = x := ⟨_, rfl⟩
  obtain ⟨y, hy⟩ : ∃ y, shiftI p o.size n.size b = y := ⟨_, rfl⟩
  have hxy : x ≤ y := by rw [← hx, ← hy]; exact shift_mono hab
  have f1 := shift_any p a o n (by omega) (by omega) (by omega) (by omega)
  have f2 := shift_any p b o n (by omega) (by omega) (by omega) (by omega)
  have g1 := redge_any s (by unfold maxLen; omega) x
  have g2 := redge_any s (by unfold maxLen; omega) y
  have q1 := shift_edge hv hr hea
  have q2 := shift_edge hv hr heb
  rw [hx] at q1 f1
  rw [hy] at q2 f2
  rw [q1] at g1
  rw [q2] at g2
  have Y1 := Lib.hid f1; have Y2 := Lib.hid f2; have G1 := Lib.hid g1; have G2 := Lib.hid g2
  clear f1 f2 g1 g2 q1 q2 hx hy hea heb hr hv
  go_enter Try.func5, Try.ntmps5
  go_wp2_with fail
  go_region
  obtain ⟨w0, hw0⟩ : ∃ w0, w0 = ((w.alloc (.cells #[.int .i64 p, .string o, .string n] 23)).alloc (.cells #[.int .i64 a, .int .i64 b] 32)).drew := ⟨_, rfl⟩
  have HE := Lib.hid (Ed.two w p o n a b)
  rw [← hw0] at HE ⊢
  clear hw0
  obtain ⟨-, -, k0, k1, k2⟩ := HE.out
  go_wp2_with fail
  refine (V1.out _).mono ?_; rintro e w1 ⟨rfl, hb1⟩
  have HE1 := Lib.hid (HE.out.on hb1)
  obtain ⟨-, -, k0, k1, k2⟩ := HE1.out
  clear hb1
  go_wp2_with fail
  refine (C1.out _).mono ?_; rintro e w2 ⟨rfl, hb2⟩
  have HE2 := Lib.hid (HE1.out.on hb2)
  obtain ⟨-, -, k0, k1, k2⟩ := HE2.out
  clear hb2
  go_wp2_with fail
  refine (C3.out _).mono ?_; rintro e w3 ⟨rfl, hb3⟩
  have HE2b := Lib.hid (HE2.out.on hb3)
  clear hb3
  go_wp2_with fail
  refine (C2.out _).mono ?_; rintro e w3b ⟨rfl, hb3⟩
  have HE3 := Lib.hid (HE2b.out.on hb3)
  obtain ⟨-, -, k0, k1, k2⟩ := HE3.out
  clear hb3
  go_wp2_with fail
  refine (V2.out _).mono ?_; rintro e w4 ⟨rfl, hb4⟩
  have HE4 := Lib.hid (HE3.out.on hb4)
  obtain ⟨-, -, k0, k1, k2⟩ := HE4.out
  clear hb4
  go_wp2_with (first | (go_at_call 15; (with_reducible refine (X1.out _).mono ?_); rintro e w2 ⟨rfl, rfl⟩) | (go_at_call 15; (with_reducible refine (X2.out _).mono ?_); rintro e w2 ⟨rfl, rfl⟩))
  go_region_held3 (fun w' => Below w.heap.size w w' ∧ w.heap.size + 1 ≤ w'.heap.size ∧ w'.cell? ⟨w.heap.size, 0, none⟩ = some (.int .i64 p) ∧ w'.cell? ⟨w.heap.size, 1, none⟩ = some (.string o) ∧ w'.cell? ⟨w.heap.size, 2, none⟩ = some (.string n))
    (first | exact HE4.out.drew | exact Ed.on (by assumption) hb5)
    (first
      | (go_at_call 12; (with_reducible refine (Y1.out _).mono ?_); rintro e w5 ⟨rfl, hb5⟩)
      | (go_at_call 12; (with_reducible refine (Y2.out _).mono ?_); rintro e w5 ⟨rfl, hb5⟩))
  have HE5 := Lib.hid (show Ed w p o n _ by assumption)
  have hd : decide (x ≤ y) = true := by simpa using hxy
  go_wp2_with (first | (go_at_call 15; (with_reducible refine (G1.out _).mono ?_); rintro e w2 ⟨rfl, rfl⟩) | (go_at_call 15; (with_reducible refine (G2.out _).mono ?_); rintro e w2 ⟨rfl, rfl⟩))
  refine (lives21_any _).mono ?_; rintro e w6 ⟨rfl, hb6⟩
  go_wp2
  go_ret
  exact ⟨by simp, HE5.out.1.trans (hb6.mono HE5.out.1.size)⟩

theorem edgeB_in {t : ByteArray} {a : Int} (h : edgeB t.data.toList a = true) : 0 ≤ a ∧ a ≤ t.size := by
  unfold edgeB at h
  simp only [decide_eq_true_eq] at h
  obtain ⟨h0, h⟩ := h
  refine ⟨h0, ?_⟩
  rcases h with h | h | ⟨h, -⟩ <;> (try rw [len_list] at h) <;> omega

theorem editBack_walk (t : ByteArray) (x : Edt) (a b : Int) (w : World) (ht : t.size ≤ maxLen) (fx : x.fits) (fa : -9223372036854775808 ≤ a ∧ a ≤ 9223372036854775807) (fb : -9223372036854775808 ≤ b ∧ b ≤ 9223372036854775807) :
    Calls Try.prog 5 #[.string t, x.v, .agg #[.int .i64 a, .int .i64 b]] w fun e w' => e = .returned (.bool true) ∧ Below w.heap.size w w' := by
  obtain ⟨p, o, n⟩ := x
  obtain ⟨-, ho, hn⟩ := fx
  have ho : o.size ≤ maxLen := ho
  have hn : n.size ≤ maxLen := hn
  unfold maxLen at ht ho hn
  by_cases h1 : 600 < t.size ∨ 600 < o.size ∨ 600 < n.size
  · exact editBack_off t o n p a b (by omega) (by omega) (by omega) h1 w
  obtain ⟨b1, b2, b3⟩ : t.size ≤ 600 ∧ o.size ≤ 600 ∧ n.size ≤ 600 := by omega
  cases hv : vldB t.data.toList
  · exact editBack_bad t o n p a b b1 b2 b3 hv w
  obtain ⟨⟨s, r⟩, hr⟩ : ∃ y, appE t p o n = y := ⟨_, rfl⟩
  by_cases hz : r = 0
  case neg => exact editBack_no t o n p a b b1 b2 b3 hv (by rw [hr]; exact hz) w
  subst hz
  cases e1 : edgeB t.data.toList a
  · exact editBack_e1 t o n p a b s b1 b2 b3 hv hr e1 w
  cases e2 : edgeB t.data.toList b
  · exact editBack_e2 t o n p a b s b1 b2 b3 hv hr e1 e2 w
  by_cases hab : a ≤ b
  · have i1 := edgeB_in e1
    have i2 := edgeB_in e2
    exact editBack_e4 t o n p a b s b1 b2 b3 hv hr e1 e2 hab (by omega) (by omega) (by omega) w
  · exact editBack_e3 t o n p a b s b1 b2 b3 hv hr e1 e2 (by omega) w
end Go.Proofs.Ytncppnioaegjmaa
