/-
  Contracts of the document's Any, Why and Same, and of the program's Why.
-/
import Derived.Test.YtibbglmhcjnedaaDoorScanRef
import Derived.Test.YtibbglmhcjnedaaDoorScanAny
namespace Go.Proofs.YtibbglmhcjnedaaDoor
open Go.RowKit
set_option linter.unusedVariables false

set_option maxRecDepth 100000 in
set_option maxHeartbeats 1000000 in
theorem rany_any (s : ByteArray) (hs : s.size ≤ 4294967296) (w : World) :
    Calls Tryd.prog 17 #[.string s] w fun e w' => ∃ L a c, AnyR s.data.toList 0 L ∧ e = .returned (.slice a L.length c) ∧ Frms w' (fun b => w.heap.size ≤ b ∧ b < w'.heap.size) a L ∧ Below w.heap.size w w' := by
  obtain ⟨i0, hi, hz0, hz1, hz2⟩ := info_parts frm_info
  have hlen : s.data.toList.length = s.size := by simp
  go_enter Tryd.func17, Tryd.ntmps17
  go_wp2
  go_loopw [3, 4] (fun t3 t4 wr => ∃ (k : Nat) (L : List Frm), t4 = .int .i64 k ∧ k ≤ s.size ∧ 16 * L.length ≤ k ∧ wr.ownsRow w.heap.size 40 3 t3 L.length (Frm.flat L) ∧ Below w.heap.size w wr ∧ Hid (∀ L', AnyR s.data.toList k L' → AnyR s.data.toList 0 (L ++ L'))) (fun _ t4 _ => s.size - (intOf t4).toNat)
  case atStart => exact ⟨0, [], rfl, Nat.zero_le _, Nat.zero_le _, World.ownsRow_nil _ _ _ _, Below.refl _ _, fun L' h => h⟩
  case round =>
    obtain ⟨k, L, rfl, hk, hL, hown, hbel, HP⟩ := hrel
    by_cases hlt : k < s.size
    · have hz : (s.extract k s.size).size = s.size - k := by simp
      have c1 := rone_any (s.extract k s.size) (by rw [hz]; unfold maxLen; omega)
      by_cases hok : okL s.data.toList k
      · obtain ⟨e1, e2, e3, e4⟩ := one_fr hok
        have h0 : frmE (s.extract k s.size).data.toList = 0 := by rw [tl_list]; exact hok
        unfold oneV at c1
        rw [e1, e2, e3, e4, h0] at c1
        have HO := Lib.hid (ok_len hok)
        have HR := Lib.hid (fun L' => @AnyR.one s.data.toList k L' hok)
        obtain ⟨⟨x, y, d⟩, hfr⟩ : ∃ f, frL s.data.toList k = f := ⟨_, rfl⟩
        rw [hfr] at c1 HR
        obtain ⟨m, hm⟩ : ∃ m, lnL s.data.toList k = m := ⟨_, rfl⟩
        rw [hm] at c1 HO HR
        have C1 := Lib.hid c1
        obtain ⟨m1, m2, m3⟩ := HO.out
        rw [hlen] at m1
        clear c1 hz hok e1 e2 e3 e4 h0 hfr hm
        go_wp2_with fail
        refine (C1.out _).mono ?_; rintro e w1 ⟨rfl, hb1⟩
        have HW1 := Lib.hid ((hbel.trans (hb1.mono hbel.size)).alloc (hbel.trans (hb1.mono hbel.size)).size (.cells #[.int .i64 x, .int .i64 y, .string d] 40))
        have hown2 := (own_below' hown hb1).alloc (.cells #[.int .i64 x, .int .i64 y, .string d] 40)
        have hsz := HW1.out.size
        have hnews := news_frm (w1.alloc (.cells #[.int .i64 x, .int .i64 y, .string d] 40)) x y d 40
        rw [World.size_alloc] at hnews
        clear hown hbel hb1
        go_wp2_with (at_builtin; refine wpList_append_own _ rfl _ _ 23 rfl w.heap.size 40 i0 _ 3 32 Tryd.underlying23 hi hz0 hz1 hz2 rfl (by decide) _ _ _ rfl (hown2.alloc _) ⟨w1.heap.size + 1, 0, none⟩ 1 1 [.int .i64 x, .int .i64 y, .string d] rfl rfl hnews (one_frm _ _ _) (by unfold maxLen; omega) (by omega) (by simp at hsz ⊢; omega) ?_; intro v' w3 hown' hgrow _)
        have HW3 : Below w.heap.size w w3 := ((HW1.out.alloc HW1.out.size _).grown hgrow (by have := HW1.out.size; simp at this ⊢; omega) (own_block hown2))
        have HO3 := Lib.hid hown'
        clear hown' hgrow hown2 hnews
        go_wp2
        go_roundw
        case rel => exact ⟨k + m, L ++ [⟨x, y, d⟩], by go_num, by omega, by simp; omega, by rw [Frm.flat_one', List.length_append]; exact HO3.out, HW3, fun L' hr => by
          have := HP.out _ (HR.out L' hr)
          simpa using this⟩
        case measure => simp [intOf]; omega
      · have h0 : frmE (s.extract k s.size).data.toList ≠ 0 := by rw [tl_list]; exact hok
        obtain ⟨e1, e2, e3, e4⟩ := one_no rfl h0
        unfold oneV at c1
        rw [e1, e2, e3, e4] at c1
        obtain ⟨m, hm⟩ : ∃ m, frmE (s.extract k s.size).data.toList = m := ⟨_, rfl⟩
        rw [hm] at c1 h0
        have C1 := Lib.hid c1
        have r0 : ((m : Int) == 0) = false := by simp; omega
        have HS := Lib.hid (fun L' => @AnyR.skip s.data.toList k L' hok (by omega))
        clear c1 hz hok e1 e2 e3 e4 h0 hm
        go_wp2_with fail
        refine (C1.out _).mono ?_; rintro e w1 ⟨rfl, hb1⟩
        have HW1 := Lib.hid ((hbel.trans (hb1.mono hbel.size)).alloc (hbel.trans (hb1.mono hbel.size)).size (.cells #[.int .i64 0, .int .i64 0, .string ⟨#[]⟩] 40))
        have HO1 := Lib.hid ((own_below' hown hb1).alloc (.cells #[.int .i64 0, .int .i64 0, .string ⟨#[]⟩] 40))
        clear hown hbel hb1
        go_wp2
        go_roundw
        case rel => exact ⟨k + 1, L, by go_num, by omega, by omega, HO1.out, HW1.out, fun L' hr => HP.out _ (HS.out L' hr)⟩
        case measure => simp [intOf]; omega
    · have hst := Lib.hid (HP.out [] (AnyR.stop (by omega)))
      obtain ⟨a, c, e', hfr⟩ := own_frms hown
      subst e'
      go_wp2
      go_ret
      have hst' := hst.out
      rw [List.append_nil] at hst'
      exact ⟨L, a, c, hst', rfl, hfr, hbel⟩

theorem why_size {l : List UInt8} {L : List Frm} {ep sq : Int} {en : Nat} (h : Ran l ep sq 0 L en) : en ≤ l.length := (h.ends (Nat.zero_le _)).2
set_option maxRecDepth 100000 in
set_option maxHeartbeats 400000 in
theorem rwhy_any (s : ByteArray) (hs : s.size ≤ 4294967296) (ep sq : Int) (hsq : -9223372036854775808 ≤ sq ∧ sq ≤ 9223372036854775807) (L : List Frm) (en : Nat) (hr : Ran s.data.toList ep sq 0 L en) (w : World) :
    Calls Tryd.prog 13 #[.string s, .int .i64 ep, .int .i64 sq] w fun e w' => e = .returned (.int .i64 (whyN s.data.toList en)) ∧ Below w.heap.size w w' := by
  have hlen : s.data.toList.length = s.size := by simp
  have hen := why_size hr
  rw [hlen] at hen
  have c1 := rrun_any s hs ep sq hsq
  have c1' : ∀ w, Calls Tryd.prog 10 #[.string s, .int .i64 ep, .int .i64 sq] w fun e w' => ∃ a c n, e = .returned (.tuple #[.slice a n c, .int .i64 (en : Nat)]) ∧ Below w.heap.size w w' := fun w => (c1 w).mono fun e w' ⟨L', en', a, c, h1, h2, h3, h4⟩ => by
    obtain ⟨rfl, rfl⟩ := hr.same h1
    exact ⟨a, c, _, h2, h4⟩
  have hz : (s.extract en s.size).size = s.size - en := by simp
  have c2 := rone_any (s.extract en s.size) (by rw [hz]; unfold maxLen; omega)
  have hE : frmE (s.extract en s.size).data.toList = frmE (s.data.toList.drop en) := by rw [tl_list]
  rw [hE] at c2
  unfold whyN
  rw [hlen]
  obtain ⟨m, hm⟩ : ∃ m, frmE (s.data.toList.drop en) = m := ⟨_, rfl⟩
  rw [hm] at c2 ⊢
  obtain ⟨y1, hy1⟩ : ∃ y, oneEp (s.extract en s.size) = y := ⟨_, rfl⟩
  obtain ⟨y2, hy2⟩ : ∃ y, oneSq (s.extract en s.size) = y := ⟨_, rfl⟩
  obtain ⟨y3, hy3⟩ : ∃ y, oneD (s.extract en s.size) = y := ⟨_, rfl⟩
  obtain ⟨y4, hy4⟩ : ∃ y, oneN (s.extract en s.size) = y := ⟨_, rfl⟩
  rw [hy1, hy2, hy3, hy4] at c2
  have C1 := Lib.hid c1'; have C2 := Lib.hid c2
  clear c1 c1' c2 hy1 hy2 hy3 hy4 hm hE hz hr hlen
  by_cases h1 : en = s.size
  · rw [if_pos h1]
    subst h1
    go_enter Tryd.func13, Tryd.ntmps13
    go_wp2_with fail
    refine (C1.out _).mono ?_; rintro e w1 ⟨a, c, n, rfl, hb1⟩
    go_wp2
    go_ret
    exact ⟨rfl, hb1⟩
  · rw [if_neg h1]
    have r1 : ((en : Int) == (s.size : Int)) = false := by simp; omega
    by_cases h2 : m = 0
    · rw [if_pos h2]
      subst h2
      go_enter Tryd.func13, Tryd.ntmps13
      go_wp2_with fail
      refine (C1.out _).mono ?_; rintro e w1 ⟨a, c, n, rfl, hb1⟩
      go_wp2_with fail
      refine (C2.out _).mono ?_; rintro e w2 ⟨rfl, hb2⟩
      have HB := Lib.hid ((hb1.trans (hb2.mono hb1.size)).alloc (hb1.trans (hb2.mono hb1.size)).size (.cells #[.int .i64 y1, .int .i64 y2, .string y3] 40))
      clear hb1 hb2
      go_wp2
      go_ret
      exact ⟨rfl, HB.out⟩
    · rw [if_neg h2]
      have r2 : ((m : Int) == 0) = false := by simp; omega
      go_enter Tryd.func13, Tryd.ntmps13
      go_wp2_with fail
      refine (C1.out _).mono ?_; rintro e w1 ⟨a, c, n, rfl, hb1⟩
      go_wp2_with fail
      refine (C2.out _).mono ?_; rintro e w2 ⟨rfl, hb2⟩
      have HB := Lib.hid ((hb1.trans (hb2.mono hb1.size)).alloc (hb1.trans (hb2.mono hb1.size)).size (.cells #[.int .i64 y1, .int .i64 y2, .string y3] 40))
      clear hb1 hb2
      go_wp2
      go_ret
      exact ⟨rfl, HB.out⟩

set_option maxRecDepth 100000 in
set_option maxHeartbeats 400000 in
theorem swhy_any (s : ByteArray) (hs : s.size ≤ 4294967296) (ep sq : Int) (L : List Frm) (en : Nat) (hr : Ran s.data.toList ep sq 0 L en) (w : World) (hF : First w) :
    Calls Tryd.prog 12 #[.string s, .int .i64 ep, .int .i64 sq] w fun e w' => e = .returned (.int .i64 (whyN s.data.toList en)) ∧ Below w.heap.size w w' := by
  have hlen : s.data.toList.length = s.size := by simp
  have hen := why_size hr
  rw [hlen] at hen
  have c1 := srun_any s hs ep sq
  have c1' : ∀ w, First w → Calls Tryd.prog 9 #[.string s, .int .i64 ep, .int .i64 sq] w fun e w' => ∃ a c n, e = .returned (.tuple #[.slice a n c, .int .i64 (en : Nat)]) ∧ Below w.heap.size w w' := fun w hw => (c1 w hw).mono fun e w' ⟨L', en', a, c, h1, h2, h3, h4⟩ => by
    obtain ⟨rfl, rfl⟩ := hr.same h1
    exact ⟨a, c, _, h2, h4⟩
  have hz : (s.extract en s.size).size = s.size - en := by simp
  have c2 := fone_any (s.extract en s.size) (by rw [hz]; unfold maxLen; omega)
  have hE : frmE (s.extract en s.size).data.toList = frmE (s.data.toList.drop en) := by rw [tl_list]
  rw [hE] at c2
  unfold whyN
  rw [hlen]
  obtain ⟨m, hm⟩ : ∃ m, frmE (s.data.toList.drop en) = m := ⟨_, rfl⟩
  rw [hm] at c2 ⊢
  obtain ⟨y1, hy1⟩ : ∃ y, oneEp (s.extract en s.size) = y := ⟨_, rfl⟩
  obtain ⟨y2, hy2⟩ : ∃ y, oneSq (s.extract en s.size) = y := ⟨_, rfl⟩
  obtain ⟨y3, hy3⟩ : ∃ y, oneD (s.extract en s.size) = y := ⟨_, rfl⟩
  obtain ⟨y4, hy4⟩ : ∃ y, oneN (s.extract en s.size) = y := ⟨_, rfl⟩
  rw [hy1, hy2, hy3, hy4] at c2
  have C1 := Lib.hid c1'; have C2 := Lib.hid c2; have HF := Lib.hid hF
  clear c1 c1' c2 hy1 hy2 hy3 hy4 hm hE hz hr hlen hF
  by_cases h1 : en = s.size
  · rw [if_pos h1]
    subst h1
    go_enter Tryd.func12, Tryd.ntmps12
    go_wp2_with fail
    refine (C1.out _ HF.out).mono ?_; rintro e w1 ⟨a, c, n, rfl, hb1⟩
    go_wp2
    go_ret
    exact ⟨rfl, hb1⟩
  · rw [if_neg h1]
    have r1 : ((en : Int) == (s.size : Int)) = false := by simp; omega
    by_cases h2 : m = 0
    · rw [if_pos h2]
      subst h2
      go_enter Tryd.func12, Tryd.ntmps12
      go_wp2_with fail
      refine (C1.out _ HF.out).mono ?_; rintro e w1 ⟨a, c, n, rfl, hb1⟩
      go_wp2_with fail
      refine (C2.out _ (HF.out.onto hb1)).mono ?_; rintro e w2 ⟨rfl, hb2⟩
      have HB := Lib.hid ((hb1.trans (hb2.mono hb1.size)).alloc (hb1.trans (hb2.mono hb1.size)).size (.cells #[.int .i64 y1, .int .i64 y2, .string y3] 40))
      clear hb1 hb2
      go_wp2
      go_ret
      exact ⟨rfl, HB.out⟩
    · rw [if_neg h2]
      have r2 : ((m : Int) != 0) = true := by simp; omega
      go_enter Tryd.func12, Tryd.ntmps12
      go_wp2_with fail
      refine (C1.out _ HF.out).mono ?_; rintro e w1 ⟨a, c, n, rfl, hb1⟩
      go_wp2_with fail
      refine (C2.out _ (HF.out.onto hb1)).mono ?_; rintro e w2 ⟨rfl, hb2⟩
      have HB := Lib.hid ((hb1.trans (hb2.mono hb1.size)).alloc (hb1.trans (hb2.mono hb1.size)).size (.cells #[.int .i64 y1, .int .i64 y2, .string y3] 40))
      clear hb1 hb2
      go_wp2
      go_ret
      exact ⟨rfl, HB.out⟩
end Go.Proofs.YtibbglmhcjnedaaDoor
