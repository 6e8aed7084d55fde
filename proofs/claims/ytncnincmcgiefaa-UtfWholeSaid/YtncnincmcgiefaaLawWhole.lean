/-
  The walk of the law UtfWhole: valid texts, one behind the other, are valid; and a valid text cut at an edge is two valid ones.
-/
import Derived.Test.YtncnincmcgiefaaLawTexts
namespace Go.Proofs.Ytncnincmcgiefaa
open Go.RowKit

set_option maxRecDepth 100000 in
set_option maxHeartbeats 400000 in
theorem whole_long (a b : ByteArray) (p : Int) (h : 400 < a.size ∨ 400 < b.size) (w : World) :
    Calls Try.prog 7 #[.string a, .string b, .int .i64 p] w fun e w' => e = .returned (.bool true) ∧ Below w.heap.size w w' := by
  by_cases h1 : 400 < a.size
  · clear h
    go_enter Try.func7, Try.ntmps7
    go_wp2_with (go_at_call 11; refine (lives_any _).mono ?_; rintro e w' ⟨rfl, rfl⟩)
    go_ret
    exact ⟨rfl, Below.refl _ _⟩
  · have h2 : 400 < b.size := by omega
    clear h
    go_enter Try.func7, Try.ntmps7
    go_wp2_with (go_at_call 11; refine (lives_any _).mono ?_; rintro e w' ⟨rfl, rfl⟩)
    go_ret
    exact ⟨rfl, Below.refl _ _⟩

set_option maxRecDepth 100000 in
set_option maxHeartbeats 400000 in
theorem whole_not (a b : ByteArray) (p : Int) (ha : a.size ≤ 400) (hb : b.size ≤ 400) (hn : ¬ (vld a.data.toList ∧ vld b.data.toList)) (w : World) :
    Calls Try.prog 7 #[.string a, .string b, .int .i64 p] w fun e w' => e = .returned (.bool true) ∧ Below w.heap.size w w' := by
  have c1 := valid_any a (by unfold maxLen; omega)
  have c2 := valid_any b (by unfold maxLen; omega)
  have c3 := valid_any (a ++ ⟨#[32]⟩ ++ b) (by unfold maxLen; rw [ByteArray.size_append, ByteArray.size_append]; show a.size + 1 + b.size ≤ _; omega)
  have e3 : vldB (a ++ ⟨#[32]⟩ ++ b).data.toList = false := by
    rw [Bool.eq_false_iff]
    intro h
    rw [vldB_iff, app_list, app_list] at h
    exact hn (vld_blank _ _ h)
  rw [e3] at c3
  have C1 := Lib.hid c1; have C2 := Lib.hid c2; have C3 := Lib.hid c3
  clear c1 c2 c3 e3
  have hb0 := Below.refl w.heap.size w
  by_cases va : vldB a.data.toList = true
  · have vb : vldB b.data.toList = false := by
      rw [Bool.eq_false_iff]; exact fun h => hn ⟨(vldB_iff _).1 va, (vldB_iff _).1 h⟩
    rw [va] at C1
    rw [vb] at C2
    clear va vb hn
    go_enter Try.func7, Try.ntmps7
    go_wp2_with fail
    refine (onward (w0 := w) hb0 (C1.out _)).mono ?_; rintro e w1 ⟨rfl, hb1⟩
    go_wp2_with fail
    refine (onward (w0 := w) hb1 (C2.out _)).mono ?_; rintro e w2 ⟨rfl, hb2⟩
    go_wp2_with fail
    refine (onward (w0 := w) hb2 (C3.out _)).mono ?_; rintro e w3 ⟨rfl, hb3⟩
    go_wp2_with fail
    refine (lives_any _).mono ?_; rintro e w' ⟨rfl, rfl⟩
    go_wp2
    go_ret
    exact ⟨by simp, hb3⟩
  · rw [Bool.eq_false_iff.2 va] at C1
    clear va hn
    go_enter Try.func7, Try.ntmps7
    go_wp2_with fail
    refine (onward (w0 := w) hb0 (C1.out _)).mono ?_; rintro e w1 ⟨rfl, hb1⟩
    go_wp2_with fail
    refine (onward (w0 := w) hb1 (C3.out _)).mono ?_; rintro e w3 ⟨rfl, hb3⟩
    go_wp2_with fail
    refine (lives_any _).mono ?_; rintro e w' ⟨rfl, rfl⟩
    go_wp2
    go_ret
    exact ⟨by simp, hb3⟩

set_option maxRecDepth 100000 in
set_option maxHeartbeats 1000000 in
theorem whole_yes (a b : ByteArray) (p : Int) (ha : a.size ≤ 400) (hb : b.size ≤ 400) (va : vld a.data.toList) (vb : vld b.data.toList) (w : World) :
    Calls Try.prog 7 #[.string a, .string b, .int .i64 p] w fun e w' => e = .returned (.bool true) ∧ Below w.heap.size w w' := by
  have hlen : a.data.toList.length = a.size := by simp
  have c1 := valid_any a (by unfold maxLen; omega)
  have c2 := valid_any b (by unfold maxLen; omega)
  have c3 := valid_any (a ++ b) (by unfold maxLen; rw [ByteArray.size_append]; omega)
  rw [(vldB_iff _).2 va] at c1
  rw [(vldB_iff _).2 vb] at c2
  rw [(vldB_iff (a ++ b).data.toList).2 (by rw [app_list]; exact vld_app _ _ va vb)] at c3
  have r1 := runes_any a (by unfold maxLen; omega)
  have r2 := runes_any b (by unfold maxLen; omega)
  have r3 := runes_any (a ++ b) (by unfold maxLen; rw [ByteArray.size_append]; omega)
  rw [app_list, runes_app] at r3
  have l1 := runes_le a.data.toList
  have l2 := runes_le b.data.toList
  have hlenb : b.data.toList.length = b.size := by simp
  rw [hlen] at l1
  rw [hlenb] at l2
  obtain ⟨x, hx⟩ : ∃ x, runes a.data.toList = x := ⟨_, rfl⟩
  obtain ⟨y, hy⟩ : ∃ y, runes b.data.toList = y := ⟨_, rfl⟩
  rw [hx] at r1 r3 l1
  rw [hy] at r2 r3 l2
  have bd := bad_any a (by unfold maxLen; omega)
  rw [show bad a.data.toList = -1 from va] at bd
  have C1 := Lib.hid c1; have C2 := Lib.hid c2; have C3 := Lib.hid c3; have R1 := Lib.hid r1; have R2 := Lib.hid r2; have R3 := Lib.hid r3; have BD := Lib.hid bd
  clear c1 c2 c3 r1 r2 r3 bd hx hy hlenb
  have hb0 := Below.refl w.heap.size w
  have ed := edge_any a (by unfold maxLen; omega) p
  have HV := Lib.hid va; clear va vb
  have hadd : IntKind.i64.wrap ((x : Int) + (y : Int)) = ((x + y : Nat) : Int) := by rw [IntWalk.i64_in _ (by omega)]; omega
  by_cases he : edgeB a.data.toList p = true
  · rw [he] at ed
    have hp : 0 ≤ p ∧ edge a.data.toList p.toNat := by simpa [edgeB] using he
    obtain ⟨hp0, hedge⟩ := hp
    obtain ⟨k, rfl⟩ := Int.eq_ofNat_of_zero_le hp0
    rw [Int.toNat_natCast] at hedge
    have hk : k ≤ a.size := by unfold edge at hedge; omega
    obtain ⟨v1, v2⟩ := vld_edge _ k HV.out hedge
    have d1 := valid_any (a.extract 0 k) (by unfold maxLen; simp; omega)
    have d2 := valid_any (a.extract k a.size) (by unfold maxLen; simp; omega)
    rw [(vldB_iff (a.extract 0 k).data.toList).2 (by rw [extract_list]; simpa using v1)] at d1
    rw [(vldB_iff (a.extract k a.size).data.toList).2 (by rw [extract_list, List.take_of_length_le (by simp)]; exact v2)] at d2
    have ED := Lib.hid ed; have D1 := Lib.hid d1; have D2 := Lib.hid d2
    clear ed d1 d2 he hp0 hedge v1 v2 hlen
    go_enter Try.func7, Try.ntmps7
    go_wp2_with fail
    refine (onward (w0 := w) hb0 (C1.out _)).mono ?_; rintro e w1 ⟨rfl, hb1⟩
    go_wp2_with fail
    refine (onward (w0 := w) hb1 (C2.out _)).mono ?_; rintro e w2 ⟨rfl, hb2⟩
    go_wp2_with fail
    refine (onward (w0 := w) hb2 (C3.out _)).mono ?_; rintro e w3 ⟨rfl, hb3⟩
    go_wp2_with fail
    refine (onward (w0 := w) hb3 (R3.out _)).mono ?_; rintro e w4 ⟨rfl, hb4⟩
    go_wp2_with fail
    refine (onward (w0 := w) hb4 (R1.out _)).mono ?_; rintro e w5 ⟨rfl, hb5⟩
    go_wp2_with fail
    refine (onward (w0 := w) hb5 (R2.out _)).mono ?_; rintro e w6 ⟨rfl, hb6⟩
    go_wp2_with fail
    refine (onward (w0 := w) hb6 (BD.out _)).mono ?_; rintro e w7 ⟨rfl, hb7⟩
    go_wp2_with fail
    refine (ED.out _).mono ?_; rintro e w' ⟨rfl, rfl⟩
    go_wp2_with fail
    refine (onward (w0 := w) hb7 (D1.out _)).mono ?_; rintro e w8 ⟨rfl, hb8⟩
    go_wp2_with fail
    refine (onward (w0 := w) hb8 (D2.out _)).mono ?_; rintro e w9 ⟨rfl, hb9⟩
    go_wp2_with fail
    refine (lives_any _).mono ?_; rintro e w' ⟨rfl, rfl⟩
    go_wp2
    go_ret
    exact ⟨by simp, hb9⟩
  · rw [Bool.eq_false_iff.2 he] at ed
    have ED := Lib.hid ed
    clear ed he hlen
    go_enter Try.func7, Try.ntmps7
    go_wp2_with fail
    refine (onward (w0 := w) hb0 (C1.out _)).mono ?_; rintro e w1 ⟨rfl, hb1⟩
    go_wp2_with fail
    refine (onward (w0 := w) hb1 (C2.out _)).mono ?_; rintro e w2 ⟨rfl, hb2⟩
    go_wp2_with fail
    refine (onward (w0 := w) hb2 (C3.out _)).mono ?_; rintro e w3 ⟨rfl, hb3⟩
    go_wp2_with fail
    refine (onward (w0 := w) hb3 (R3.out _)).mono ?_; rintro e w4 ⟨rfl, hb4⟩
    go_wp2_with fail
    refine (onward (w0 := w) hb4 (R1.out _)).mono ?_; rintro e w5 ⟨rfl, hb5⟩
    go_wp2_with fail
    refine (onward (w0 := w) hb5 (R2.out _)).mono ?_; rintro e w6 ⟨rfl, hb6⟩
    go_wp2_with fail
    refine (onward (w0 := w) hb6 (BD.out _)).mono ?_; rintro e w7 ⟨rfl, hb7⟩
    go_wp2_with fail
    refine (ED.out _).mono ?_; rintro e w' ⟨rfl, rfl⟩
    go_wp2_with fail
    refine (lives_any _).mono ?_; rintro e w' ⟨rfl, rfl⟩
    go_wp2
    go_ret
    exact ⟨by simp, hb7⟩

theorem utfWhole_walk (a b : ByteArray) (p : Int) (_w0 : a.size ≤ maxLen) (_w1 : b.size ≤ maxLen) (_w2 : (Lit.int .i64 p).wf = true) (w : World) :
    Calls Try.prog 7 #[.string a, .string b, .int .i64 p] w fun e w' => e = .returned (.bool true) ∧ Below w.heap.size w w' := by
  by_cases hl : 400 < a.size ∨ 400 < b.size
  · exact whole_long a b p hl w
  by_cases hv : vld a.data.toList ∧ vld b.data.toList
  · exact whole_yes a b p (by omega) (by omega) hv.1 hv.2 w
  · exact whole_not a b p (by omega) (by omega) hv w
end Go.Proofs.Ytncnincmcgiefaa
