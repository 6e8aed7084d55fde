/-
  What the program's names need of the library: IndexByte, CutPrefix, Cut at one byte (each walked in the library's own text).
-/
import Derived.Test.YtfbocmmdkhnaoaaTitleDevMath
import Derived.Test.YtfbocmmdkhnaoaaTitleRef
import Derived.Deep.RegionLaw
import Derived.OwnWalk
namespace Go.Proofs.Ytfbocmmdkhnaoaa
open Go.RowKit

set_option maxRecDepth 100000 in
set_option maxHeartbeats 400000 in
theorem sl_indexbyte (s : ByteArray) (c : Int) (w : World) :
    Calls Try.prog 38 #[.string s, .int .u8 c] w fun e w' => e = .returned (.int .i64 (Lib.indexByte s.data.toList c.toNat.toUInt8)) ∧ w = w' := by
  go_enter Try.func38, Try.ntmps38
  go_wp2
  rw [run_callFunc_extern Try.func43 (by kernel_rfl) (by kernel_rfl) (by kernel_rfl) (e := Extern.BytealgIndexByte.indexByte) (by kernel_rfl), Lib.run_indexByteString]
  simp only [Result.andThen]
  rw [Oper.upon_value]
  go_wp2
  go_ret
  exact ⟨rfl, rfl⟩
set_option maxRecDepth 100000 in
set_option maxHeartbeats 400000 in
theorem s_indexbyte (s : ByteArray) (c : Int) (w : World) :
    Calls Try.prog 35 #[.string s, .int .u8 c] w fun e w' => e = .returned (.int .i64 (Lib.indexByte s.data.toList c.toNat.toUInt8)) ∧ w = w' := by
  go_enter Try.func35, Try.ntmps35
  go_wp2_with (go_at_call 38; refine (sl_indexbyte _ _ _).mono ?_; rintro e w' ⟨rfl, rfl⟩)
  go_ret
  exact ⟨rfl, rfl⟩

set_option maxRecDepth 100000 in
set_option maxHeartbeats 400000 in
/-- Index of one byte. -/
theorem sl_index1 (s : ByteArray) (c : UInt8) (w : World) :
    Calls Try.prog 37 #[.string s, .string ⟨#[c]⟩] w fun e w' => e = .returned (.int .i64 (Lib.indexByte s.data.toList c)) ∧ w = w' := by
  go_enter Try.func37, Try.ntmps37
  go_wp2_with (go_at_call 38; refine (sl_indexbyte _ _ _).mono ?_; rintro e w' ⟨rfl, rfl⟩)
  · have h : ([c] == s.toList) = true := by assumption
    go_ret
    refine ⟨?_, rfl⟩
    have e : s.data.toList = [c] := by rw [← Lib.toList_data]; exact (beq_iff_eq.1 h).symm
    rw [e]
    simp [Lib.indexByte]
  · go_ret
    exact ⟨rfl, rfl⟩

set_option maxRecDepth 100000 in
set_option maxHeartbeats 400000 in
/-- Cut at '-'. -/
theorem sl_cut (s : ByteArray) (hs : s.size ≤ maxLen) (w : World) :
    Calls Try.prog 34 #[.string s, .string ⟨#[45]⟩] w fun e w' =>
      e = .returned (.tuple #[.string (mkS (cutL s.data.toList).1), .string (mkS (cutL s.data.toList).2.1), .bool (cutL s.data.toList).2.2]) ∧ Below w.heap.size w w' := by
  have hge := Lib.indexByte_ge s.data.toList 45
  have hi := sl_index1 s 45
  have hlen : s.data.toList.length = s.size := by simp
  have hmiss := cutL_miss s.data.toList
  have hhit := cutL_hit s.data.toList
  unfold maxLen at hs
  obtain ⟨x, hx⟩ : ∃ x, Lib.indexByte s.data.toList 45 = x := ⟨_, rfl⟩
  rw [hx] at hge hi hmiss hhit
  by_cases h0 : x < 0
  · have e := hmiss h0
    rw [e]
    have e1 : mkS s.data.toList = s := rfl
    simp only [e1]
    have HI := Lib.hid hi
    clear hi hmiss hhit hx e e1 hlen hge
    go_enter Try.func34, Try.ntmps34
    go_wp2_with fail
    refine (HI.out _).mono ?_; rintro e w' ⟨rfl, rfl⟩
    go_wp2
    go_ret3
    exact ⟨rfl, Below.refl _ _⟩
  · obtain ⟨i, rfl⟩ := Int.eq_ofNat_of_zero_le (show 0 ≤ x by omega)
    obtain ⟨e, hl⟩ := hhit i rfl
    rw [e]
    have e1 : mkS (s.data.toList.take i) = s.extract 0 i := str_ext (by rw [extract_list, mkS_list]; simp)
    have e2 : mkS (s.data.toList.drop (i + 1)) = s.extract (i + 1) s.size := str_ext (by rw [extract_list, mkS_list, List.take_of_length_le (by rw [List.length_drop]; omega)])
    simp only [e1, e2]
    have HI := Lib.hid hi
    rw [hlen] at hl
    clear hi hmiss hhit hx e e1 e2 hlen hge h0
    have c1 : (0 : Int) ≤ (i : Int) := by omega
    have c2 : (i : Int) ≤ (s.size : Int) := by omega
    have y1 : IntKind.i64.wrap ((i : Int) + 1) = (i : Int) + 1 := IntWalk.i64_in _ (by omega)
    have c3 : (0 : Int) ≤ (i : Int) + 1 := by omega
    have c4 : (i : Int) + 1 ≤ (s.size : Int) := by omega
    have x1 : ((i : Int) + 1).toNat = i + 1 := by omega
    go_enter Try.func34, Try.ntmps34
    go_wp2_with fail
    refine (HI.out _).mono ?_; rintro e w' ⟨rfl, rfl⟩
    go_wp2
    go_region
    go_wp2
    go_ret3
    exact ⟨rfl, (Below.refl _ _).drew⟩
set_option maxRecDepth 100000 in
set_option maxHeartbeats 400000 in
theorem s_cut (s : ByteArray) (hs : s.size ≤ maxLen) (w : World) :
    Calls Try.prog 26 #[.string s, .string ⟨#[45]⟩] w fun e w' =>
      e = .returned (.tuple #[.string (mkS (cutL s.data.toList).1), .string (mkS (cutL s.data.toList).2.1), .bool (cutL s.data.toList).2.2]) ∧ Below w.heap.size w w' := by
  have h := sl_cut s hs
  generalize mkS (cutL s.data.toList).1 = a at *
  generalize mkS (cutL s.data.toList).2.1 = b at *
  generalize (cutL s.data.toList).2.2 = c at *
  have H := Lib.hid h
  clear h
  go_enter Try.func26, Try.ntmps26
  go_wp2_with fail
  refine (H.out _).mono ?_; rintro e w' ⟨rfl, hb⟩
  go_wp2
  go_ret3
  exact ⟨rfl, hb⟩

/-- CutPrefix's answer. -/
def cpB (s p : ByteArray) : Bool := Lib.hasPrefix s.data.toList p.data.toList
def cpS (s p : ByteArray) : ByteArray := if cpB s p = true then s.extract p.size s.size else s
set_option maxRecDepth 100000 in
set_option maxHeartbeats 400000 in
theorem s_cutprefix (s p : ByteArray) (w : World) :
    Calls Try.prog 33 #[.string s, .string p] w fun e w' => e = .returned (.tuple #[.string (cpS s p), .bool (cpB s p)]) ∧ w = w' := by
  have hr : (decide (p.size ≤ s.size) && ((s.extract 0 p.size).toList == p.toList)) = cpB s p := Lib.hasPrefix_raw s p
  by_cases h1 : p.size ≤ s.size
  · rw [decide_eq_true h1, Bool.true_and] at hr
    obtain ⟨b, hb⟩ : ∃ b, cpB s p = b := ⟨_, rfl⟩
    have e : cpS s p = if b = true then s.extract p.size s.size else s := by unfold cpS; rw [hb]
    rw [e, hb]
    rw [hb] at hr
    clear e hb
    cases b with
    | true =>
      rw [if_pos rfl]
      go_enter Try.func33, Try.ntmps33
      go_wp2
      go_ret2
      exact ⟨rfl, rfl⟩
    | false =>
      rw [if_neg (by simp)]
      go_enter Try.func33, Try.ntmps33
      go_wp2
      go_ret2
      exact ⟨rfl, rfl⟩
  · rw [decide_eq_false h1, Bool.false_and] at hr
    have e : cpS s p = s := by unfold cpS; rw [← hr]; rfl
    rw [e, ← hr]
    clear e hr
    go_enter Try.func33, Try.ntmps33
    go_wp2
    go_ret2
    exact ⟨rfl, rfl⟩
end Go.Proofs.Ytfbocmmdkhnaoaa
