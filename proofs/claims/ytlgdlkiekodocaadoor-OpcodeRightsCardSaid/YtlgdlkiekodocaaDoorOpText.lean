/-
  The document's words of an operation.
-/
import Derived.Test.YtlgdlkiekodocaaDoorOpPlain
import Derived.Deep.RegionHeld3
namespace Go.Proofs.YtlgdlkiekodocaaDoor
open Go.RowKit

/-- A number's digits as a text. -/
def decS (n : Int) : ByteArray := ⟨(Lib.itoa n).toArray⟩
theorem decS_size {n : Int} (h0 : 0 ≤ n) (h1 : n ≤ 1000000) : (decS n).size ≤ 1000001 := by
  obtain ⟨u, rfl⟩ := Int.eq_ofNat_of_zero_le h0
  unfold decS
  have : (⟨(Lib.itoa (u : Int)).toArray⟩ : ByteArray).size = (Lib.itoa (u : Int)).length := by show (Lib.itoa (u : Int)).toArray.size = _; simp
  rw [this, Lib.itoa_nonneg]
  have := dec_len u
  omega
/-- An operation's words. -/
def wordsS (k a n : Int) (s : ByteArray) : ByteArray :=
  if k = 1 then ⟨#[105, 110, 115, 101, 114, 116, 32]⟩ ++ decS a ++ ⟨#[32]⟩ ++ s
  else if k = 2 then ⟨#[100, 101, 108, 101, 116, 101, 32]⟩ ++ decS a ++ ⟨#[32]⟩ ++ decS n
  else if k = 3 then ⟨#[109, 97, 114, 107, 32]⟩ ++ s ++ ⟨#[32]⟩ ++ decS a
  else if k = 4 then ⟨#[117, 110, 109, 97, 114, 107, 32]⟩ ++ s
  else if k = 5 then ⟨#[117, 110, 100, 111]⟩
  else if k = 6 then ⟨#[114, 101, 100, 111]⟩
  else if k = 7 then ⟨#[98, 101, 103, 105, 110]⟩
  else ⟨#[101, 110, 100]⟩
/-- What Text answers. -/
def textR (k a n : Int) (s : ByteArray) : ByteArray := if rightB k a n s.data.toList = true then wordsS k a n s else ⟨#[]⟩

/-- The operation's cells in a drawn region. -/
def Op4 (w : World) (a n : Int) (s : ByteArray) (w' : World) : Prop :=
  Below w.heap.size w w' ∧ w.heap.size + 1 ≤ w'.heap.size ∧ w'.cell? ⟨w.heap.size, 1, none⟩ = some (.int .i64 a) ∧ w'.cell? ⟨w.heap.size, 2, none⟩ = some (.int .i64 n) ∧ w'.cell? ⟨w.heap.size, 3, none⟩ = some (.string s)
theorem op4_drew {w w' : World} {a n : Int} {s : ByteArray} (h : Op4 w a n s w') : Op4 w a n s w'.drew := ⟨h.1.drew, h.2⟩
theorem op4_call {w w' w1 : World} {a n : Int} {s : ByteArray} (h : Op4 w a n s w') (hb : Below w'.heap.size w' w1) : Op4 w a n s w1 :=
  ⟨h.1.trans (hb.mono h.1.size), Nat.le_trans h.2.1 hb.size, (hb.cell (p := ⟨_, _, _⟩) h.2.1).trans h.2.2.1, (hb.cell (p := ⟨_, _, _⟩) h.2.1).trans h.2.2.2.1, (hb.cell (p := ⟨_, _, _⟩) h.2.1).trans h.2.2.2.2⟩
theorem op4_start {w w1 : World} {k a n : Int} {s : ByteArray} (hb : Below (w.alloc (.cells #[.int .i64 k, .int .i64 a, .int .i64 n, .string s] 23)).heap.size (w.alloc (.cells #[.int .i64 k, .int .i64 a, .int .i64 n, .string s] 23)) w1) : Op4 w a n s w1 := by
  have hB := (Blk.new w #[.int .i64 k, .int .i64 a, .int .i64 n, .string s] 23).onto hb
  exact ⟨((Below.refl _ _).alloc (Nat.le_refl _) _).trans (hb.mono (by simp)), hB.lt, hB.cell 1 _ rfl, hB.cell 2 _ rfl, hB.cell 3 _ rfl⟩

theorem rtext_no (k a n : Int) (s : ByteArray) (hs : s.size ≤ 4294967296) (hr : rightB k a n s.data.toList = false) (w : World) :
    Calls Tryd.prog 8 #[.agg #[.int .i64 k, .int .i64 a, .int .i64 n, .string s]] w fun e w' => e = .returned (.string ⟨#[]⟩) ∧ Below w.heap.size w w' := by
  have hq := rright_any k a n s hs
  rw [hr] at hq
  have HQ := Lib.hid hq
  clear hr hq
  go_enter Tryd.func8, Tryd.ntmps8
  go_wp2_with fail
  refine (HQ.out _).mono ?_; rintro e w1 ⟨rfl, hb1⟩
  go_wp2
  go_ret
  exact ⟨rfl, ((Below.refl _ _).alloc (Nat.le_refl _) _).trans (hb1.mono (by simp))⟩
set_option maxRecDepth 100000 in
set_option maxHeartbeats 1600000 in
theorem rtext_one (a n : Int) (s : ByteArray) (hs : s.size ≤ 4294967296) (hr : rightB 1 a n s.data.toList = true) (w : World) :
    Calls Tryd.prog 8 #[.agg #[.int .i64 1, .int .i64 a, .int .i64 n, .string s]] w fun e w' => e = .returned (.string (wordsS 1 a n s)) ∧ Below w.heap.size w w' := by
  have hq := rright_any 1 a n s hs
  rw [hr] at hq
  have HQ := Lib.hid hq
  have hp : plB a = true := by
    rw [right1] at hr
    simp only [Bool.and_eq_true, decide_eq_true_eq] at hr
    exact hr.1.1
  obtain ⟨p0, p1⟩ := plB_in hp
  have c1 := rplain_any a p0 (by omega)
  have z1 := decS_size p0 (by omega)
  rw [show wordsS 1 a n s = ⟨#[105, 110, 115, 101, 114, 116, 32]⟩ ++ decS a ++ ⟨#[32]⟩ ++ s from rfl]
  unfold decS at z1 ⊢
  obtain ⟨D, hD⟩ : ∃ D : ByteArray, ⟨(Lib.itoa a).toArray⟩ = D := ⟨_, rfl⟩
  rw [hD] at c1 z1 ⊢
  have C1 := Lib.hid c1
  have y1 : ((⟨#[105, 110, 115, 101, 114, 116, 32]⟩ : ByteArray) ++ D).size = 7 + D.size := by rw [ByteArray.size_append]; rfl
  have y2 : ((⟨#[105, 110, 115, 101, 114, 116, 32]⟩ : ByteArray) ++ D ++ ⟨#[32]⟩).size = 8 + D.size := by rw [ByteArray.size_append, y1]; show 7 + D.size + 1 = _; omega
  have F1 : ¬ (9223372036854775807 < (⟨#[105, 110, 115, 101, 114, 116, 32]⟩ : ByteArray).size + D.size) := by show ¬ (_ < 7 + D.size); omega
  have F1' : ¬ (9223372036854775807 < 7 + D.size) := by omega
  have F2 : ¬ (9223372036854775807 < ((⟨#[105, 110, 115, 101, 114, 116, 32]⟩ : ByteArray) ++ D).size + (⟨#[32]⟩ : ByteArray).size) := by rw [y1]; show ¬ (_ < 7 + D.size + 1); omega
  have F2' : ¬ (9223372036854775807 < 7 + D.size + 1) := by omega
  have F3 : ¬ (9223372036854775807 < ((⟨#[105, 110, 115, 101, 114, 116, 32]⟩ : ByteArray) ++ D ++ ⟨#[32]⟩).size + s.size) := by rw [y2]; omega
  have F3' : ¬ (9223372036854775807 < 7 + D.size + 1 + s.size) := by omega
  clear hr hq hp c1 hD p0 p1 y1 y2 z1 hs
  go_enter Tryd.func8, Tryd.ntmps8
  go_wp2_with fail
  refine (HQ.out _).mono ?_; rintro e w1 ⟨rfl, hb1⟩
  obtain ⟨k0, -, -, -, -, -, -, -⟩ := ((Blk.new w #[.int .i64 1, .int .i64 a, .int .i64 n, .string s] 23).onto hb1).four
  have B0 := Lib.hid (op4_start hb1)
  clear hb1
  go_wp2_with fail
  go_region_held3 (fun w' => Below w.heap.size w w' ∧ w.heap.size + 1 ≤ w'.heap.size ∧ w'.cell? ⟨w.heap.size, 1, none⟩ = some (.int .i64 a) ∧ w'.cell? ⟨w.heap.size, 2, none⟩ = some (.int .i64 n) ∧ w'.cell? ⟨w.heap.size, 3, none⟩ = some (.string s))
    (first | exact op4_drew B0.out | exact op4_call (by assumption) hb1)
    ((go_at_call 19; refine (C1.out _).mono ?_; rintro e w1 ⟨rfl, hb1⟩))
  have HB := Lib.hid (show Op4 w a n s _ by assumption)
  go_wp2
  go_ret
  exact ⟨rfl, HB.out.1⟩
set_option maxRecDepth 100000 in
set_option maxHeartbeats 1600000 in
theorem rtext_two (a n : Int) (s : ByteArray) (hs : s.size ≤ 4294967296) (hr : rightB 2 a n s.data.toList = true) (w : World) :
    Calls Tryd.prog 8 #[.agg #[.int .i64 2, .int .i64 a, .int .i64 n, .string s]] w fun e w' => e = .returned (.string (wordsS 2 a n s)) ∧ Below w.heap.size w w' := by
  have hq := rright_any 2 a n s hs
  rw [hr] at hq
  have HQ := Lib.hid hq
  rw [right2] at hr
  simp only [Bool.and_eq_true, decide_eq_true_eq] at hr
  obtain ⟨⟨hp, hpn⟩, -⟩ := hr
  obtain ⟨p0, p1⟩ := plB_in hp
  obtain ⟨p2, p3⟩ := plB_in hpn
  have c1 := rplain_any a p0 (by omega)
  have z1 := decS_size p0 (by omega)
  have c2 := rplain_any n p2 (by omega)
  have z2 := decS_size p2 (by omega)
  rw [show wordsS 2 a n s = ⟨#[100, 101, 108, 101, 116, 101, 32]⟩ ++ decS a ++ ⟨#[32]⟩ ++ decS n from rfl]
  unfold decS at z1 z2 ⊢
  obtain ⟨D, hD⟩ : ∃ D : ByteArray, ⟨(Lib.itoa a).toArray⟩ = D := ⟨_, rfl⟩
  obtain ⟨M, hM⟩ : ∃ D : ByteArray, ⟨(Lib.itoa n).toArray⟩ = D := ⟨_, rfl⟩
  rw [hD] at c1 z1 ⊢
  rw [hM] at c2 z2 ⊢
  have C1 := Lib.hid c1; have C2 := Lib.hid c2
  have y1 : ((⟨#[100, 101, 108, 101, 116, 101, 32]⟩ : ByteArray) ++ D).size = 7 + D.size := by rw [ByteArray.size_append]; rfl
  have y2 : ((⟨#[100, 101, 108, 101, 116, 101, 32]⟩ : ByteArray) ++ D ++ ⟨#[32]⟩).size = 8 + D.size := by rw [ByteArray.size_append, y1]; show 7 + D.size + 1 = _; omega
  have F1 : ¬ (9223372036854775807 < (⟨#[100, 101, 108, 101, 116, 101, 32]⟩ : ByteArray).size + D.size) := by show ¬ (_ < 7 + D.size); omega
  have F1' : ¬ (9223372036854775807 < 7 + D.size) := by omega
  have F2 : ¬ (9223372036854775807 < ((⟨#[100, 101, 108, 101, 116, 101, 32]⟩ : ByteArray) ++ D).size + (⟨#[32]⟩ : ByteArray).size) := by rw [y1]; show ¬ (_ < 7 + D.size + 1); omega
  have F2' : ¬ (9223372036854775807 < 7 + D.size + 1) := by omega
  have F3 : ¬ (9223372036854775807 < ((⟨#[100, 101, 108, 101, 116, 101, 32]⟩ : ByteArray) ++ D ++ ⟨#[32]⟩).size + M.size) := by rw [y2]; omega
  have F3' : ¬ (9223372036854775807 < 7 + D.size + 1 + M.size) := by omega
  clear hq hp hpn c1 c2 hD hM p0 p1 p2 p3 y1 y2 z1 z2 hs
  go_enter Tryd.func8, Tryd.ntmps8
  go_wp2_with fail
  refine (HQ.out _).mono ?_; rintro e w1 ⟨rfl, hb1⟩
  obtain ⟨k0, -, -, -, -, -, -, -⟩ := ((Blk.new w #[.int .i64 2, .int .i64 a, .int .i64 n, .string s] 23).onto hb1).four
  have B0 := Lib.hid (op4_start hb1)
  clear hb1
  go_wp2_with fail
  go_region_held3 (fun w' => Below w.heap.size w w' ∧ w.heap.size + 1 ≤ w'.heap.size ∧ w'.cell? ⟨w.heap.size, 1, none⟩ = some (.int .i64 a) ∧ w'.cell? ⟨w.heap.size, 2, none⟩ = some (.int .i64 n) ∧ w'.cell? ⟨w.heap.size, 3, none⟩ = some (.string s))
    (first | exact op4_drew B0.out | exact op4_call (by assumption) hb1)
    (first
      | (go_at_call 19; (with_reducible refine (C1.out _).mono ?_); rintro e w1 ⟨rfl, hb1⟩)
      | (go_at_call 19; (with_reducible refine (C2.out _).mono ?_); rintro e w1 ⟨rfl, hb1⟩))
  have HB := Lib.hid (show Op4 w a n s _ by assumption)
  go_wp2
  go_ret
  exact ⟨rfl, HB.out.1⟩
set_option maxRecDepth 100000 in
set_option maxHeartbeats 1600000 in
theorem rtext_three (a n : Int) (s : ByteArray) (hs : s.size ≤ 4294967296) (hr : rightB 3 a n s.data.toList = true) (w : World) :
    Calls Tryd.prog 8 #[.agg #[.int .i64 3, .int .i64 a, .int .i64 n, .string s]] w fun e w' => e = .returned (.string (wordsS 3 a n s)) ∧ Below w.heap.size w w' := by
  have hq := rright_any 3 a n s hs
  rw [hr] at hq
  have HQ := Lib.hid hq
  rw [right3] at hr
  simp only [Bool.and_eq_true, decide_eq_true_eq] at hr
  obtain ⟨⟨hp, -⟩, -⟩ := hr
  obtain ⟨p0, p1⟩ := plB_in hp
  have c1 := rplain_any a p0 (by omega)
  have z1 := decS_size p0 (by omega)
  rw [show wordsS 3 a n s = ⟨#[109, 97, 114, 107, 32]⟩ ++ s ++ ⟨#[32]⟩ ++ decS a from rfl]
  unfold decS at z1 ⊢
  obtain ⟨D, hD⟩ : ∃ D : ByteArray, ⟨(Lib.itoa a).toArray⟩ = D := ⟨_, rfl⟩
  rw [hD] at c1 z1 ⊢
  have C1 := Lib.hid c1
  have y1 : ((⟨#[109, 97, 114, 107, 32]⟩ : ByteArray) ++ s).size = 5 + s.size := by rw [ByteArray.size_append]; rfl
  have y2 : ((⟨#[109, 97, 114, 107, 32]⟩ : ByteArray) ++ s ++ ⟨#[32]⟩).size = 6 + s.size := by rw [ByteArray.size_append, y1]; show 5 + s.size + 1 = _; omega
  have F1 : ¬ (9223372036854775807 < (⟨#[109, 97, 114, 107, 32]⟩ : ByteArray).size + s.size) := by show ¬ (_ < 5 + s.size); omega
  have F1' : ¬ (9223372036854775807 < 5 + s.size) := by omega
  have F2 : ¬ (9223372036854775807 < ((⟨#[109, 97, 114, 107, 32]⟩ : ByteArray) ++ s).size + (⟨#[32]⟩ : ByteArray).size) := by rw [y1]; show ¬ (_ < 5 + s.size + 1); omega
  have F2' : ¬ (9223372036854775807 < 5 + s.size + 1) := by omega
  have F3 : ¬ (9223372036854775807 < ((⟨#[109, 97, 114, 107, 32]⟩ : ByteArray) ++ s ++ ⟨#[32]⟩).size + D.size) := by rw [y2]; omega
  have F3' : ¬ (9223372036854775807 < 5 + s.size + 1 + D.size) := by omega
  clear hq hp c1 hD p0 p1 y1 y2 z1 hs
  go_enter Tryd.func8, Tryd.ntmps8
  go_wp2_with fail
  refine (HQ.out _).mono ?_; rintro e w1 ⟨rfl, hb1⟩
  obtain ⟨k0, -, -, -, -, -, -, -⟩ := ((Blk.new w #[.int .i64 3, .int .i64 a, .int .i64 n, .string s] 23).onto hb1).four
  have B0 := Lib.hid (op4_start hb1)
  clear hb1
  go_wp2_with fail
  go_region_held3 (fun w' => Below w.heap.size w w' ∧ w.heap.size + 1 ≤ w'.heap.size ∧ w'.cell? ⟨w.heap.size, 1, none⟩ = some (.int .i64 a) ∧ w'.cell? ⟨w.heap.size, 2, none⟩ = some (.int .i64 n) ∧ w'.cell? ⟨w.heap.size, 3, none⟩ = some (.string s))
    (first | exact op4_drew B0.out | exact op4_call (by assumption) hb1)
    ((go_at_call 19; refine (C1.out _).mono ?_; rintro e w1 ⟨rfl, hb1⟩))
  have HB := Lib.hid (show Op4 w a n s _ by assumption)
  go_wp2
  go_ret
  exact ⟨rfl, HB.out.1⟩
theorem rtext_four (a n : Int) (s : ByteArray) (hs : s.size ≤ 4294967296) (hr : rightB 4 a n s.data.toList = true) (w : World) :
    Calls Tryd.prog 8 #[.agg #[.int .i64 4, .int .i64 a, .int .i64 n, .string s]] w fun e w' => e = .returned (.string (wordsS 4 a n s)) ∧ Below w.heap.size w w' := by
  have hq := rright_any 4 a n s hs
  rw [hr] at hq
  have HQ := Lib.hid hq
  rw [show wordsS 4 a n s = ⟨#[117, 110, 109, 97, 114, 107, 32]⟩ ++ s from rfl]
  clear hr hq
  go_enter Tryd.func8, Tryd.ntmps8
  go_wp2_with fail
  refine (HQ.out _).mono ?_; rintro e w1 ⟨rfl, hb1⟩
  obtain ⟨k0, k1, k2, k3, -, -, -, -⟩ := ((Blk.new w #[.int .i64 4, .int .i64 a, .int .i64 n, .string s] 23).onto hb1).four
  have B0 := Lib.hid (op4_start hb1)
  clear hb1
  go_wp2
  go_ret
  exact ⟨rfl, B0.out.1⟩
set_option maxRecDepth 100000 in
set_option maxHeartbeats 1600000 in
theorem rtext_bare (k a n : Int) (hk : k = 5 ∨ k = 6 ∨ k = 7 ∨ k = 8) (s : ByteArray) (hs : s.size ≤ 4294967296) (hr : rightB k a n s.data.toList = true) (w : World) :
    Calls Tryd.prog 8 #[.agg #[.int .i64 k, .int .i64 a, .int .i64 n, .string s]] w fun e w' => e = .returned (.string (wordsS k a n s)) ∧ Below w.heap.size w w' := by
  have hq := rright_any k a n s hs
  rw [hr] at hq
  have HQ := Lib.hid hq
  clear hr hq
  rcases hk with rfl | rfl | rfl | rfl <;>
  · go_enter Tryd.func8, Tryd.ntmps8
    go_wp2_with fail
    refine (HQ.out _).mono ?_; rintro e w1 ⟨rfl, hb1⟩
    have hk0 := ((Blk.new w #[_, .int .i64 a, .int .i64 n, .string s] 23).onto hb1).four.1
    have B0 := Lib.hid (op4_start hb1)
    clear hb1
    go_wp2
    go_ret
    exact ⟨rfl, B0.out.1⟩
/-- Text: an operation's words. -/
theorem rtext_any (k a n : Int) (s : ByteArray) (hs : s.size ≤ 4294967296) (w : World) :
    Calls Tryd.prog 8 #[.agg #[.int .i64 k, .int .i64 a, .int .i64 n, .string s]] w fun e w' => e = .returned (.string (textR k a n s)) ∧ Below w.heap.size w w' := by
  unfold textR
  cases hr : rightB k a n s.data.toList
  · exact rtext_no k a n s hs hr w
  · rw [if_pos rfl]
    rcases opKinds k with rfl | rfl | rfl | rfl | g | g
    · exact rtext_one a n s hs hr w
    · exact rtext_two a n s hs hr w
    · exact rtext_three a n s hs hr w
    · exact rtext_four a n s hs hr w
    · exact rtext_bare k a n (by omega) s hs hr w
    · rw [right_off g] at hr; cases hr
end Go.Proofs.YtlgdlkiekodocaaDoor
