/-
  The laws ScanRuns, ScanAnys and ScanFills.
-/
import Derived.Test.YtibbglmhcjnedaaDoorScanLives
namespace Go.Proofs.YtibbglmhcjnedaaDoor
open Go.RowKit
set_option linter.unusedVariables false

set_option maxRecDepth 100000 in
set_option maxHeartbeats 800000 in
theorem scanRuns_walk (s : ByteArray) (ep sq : Int) (w : World) (hs : s.size ≤ maxLen) (w1 : (Lit.int .i64 ep).wf = true) (w2 : (Lit.int .i64 sq).wf = true) (hF : First w) :
    Calls Tryd.prog 3 #[.string s, .int .i64 ep, .int .i64 sq] w fun e w' => e = .returned (.bool true) ∧ Below w.heap.size w w' := by
  have C8 := Lib.hid lives13_any
  have HF := Lib.hid hF
  have hsq := bounds_i64 w2
  by_cases h1 : 1200 < s.size
  · unfold maxLen at hs
    clear hF w1 w2 hsq
    go_enter Tryd.func3, Tryd.ntmps3
    go_wp2_with fail
    refine (C8.out _ HF.out).mono ?_; rintro e w1 ⟨rfl, hb1⟩
    go_wp2
    go_ret
    exact ⟨rfl, hb1⟩
  have C1 := Lib.hid (srun_any s (by omega) ep sq)
  have C2 := Lib.hid (rrun_any s (by omega) ep sq hsq)
  have C5 := Lib.hid (sblank_any s hs)
  have C6 := Lib.hid (rblank_any s hs)
  have C3 := Lib.hid (fun L en hr => swhy_any s (by omega) ep sq L en hr)
  have C4 := Lib.hid (fun L en hr => rwhy_any s (by omega) ep sq hsq L en hr)
  have hlen : s.data.toList.length = s.size := by simp
  have HN := Lib.hid hlen
  unfold maxLen at hs
  obtain ⟨bl, hbl⟩ : ∃ b, allF s.data.toList = b := ⟨_, rfl⟩
  rw [hbl] at C5 C6
  clear hF w1 w2 hsq hlen hbl
  go_enter Tryd.func3, Tryd.ntmps3
  go_wp2_with fail
  refine (C1.out _ HF.out).mono ?_; rintro e w1 ⟨L, en, a, c, hr, rfl, hfr, hb1⟩
  have HR := Lib.hid hr
  have HL := Lib.hid (hr.ends (Nat.zero_le _))
  have HFR := Lib.hid hfr; have HB1 := Lib.hid hb1
  clear hr hfr hb1
  go_wp2_with fail
  refine (C2.out _).mono ?_; rintro e w2 ⟨L', en', a', c', hr', rfl, hfr', hb2⟩
  obtain ⟨rfl, rfl⟩ := HR.out.same hr'
  have hL2 : L.length ≤ 4294967296 := by have h1 := HL.out; have h2 := HN.out; omega
  have C7 := Lib.hid (rsame_any a a' c c' L hL2 _ _ w2 (HFR.out.below (N := w1.heap.size) (fun b h => h.2) hb2) hfr')
  have HB2 := Lib.hid (HB1.out.trans (hb2.mono HB1.out.size))
  have D3 := Lib.hid (C3.out L en hr')
  have D4 := Lib.hid (C4.out L en hr')
  obtain ⟨wn, hwn⟩ : ∃ x, whyN s.data.toList en = x := ⟨_, rfl⟩
  rw [hwn] at D3 D4
  clear hfr' hb2 hr' C3 C4 HB1 HFR HR HL hwn
  go_wp2_with fail
  refine C7.out.mono ?_; rintro e w3 ⟨rfl, hb3⟩
  have HB3 := Lib.hid (HB2.out.trans (hb3.mono HB2.out.size))
  clear hb3 HB2 C7
  go_wp2_with fail
  refine (D3.out _ (HF.out.onto HB3.out)).mono ?_; rintro e w4 ⟨rfl, hb4⟩
  have HB4 := Lib.hid (HB3.out.trans (hb4.mono HB3.out.size))
  clear hb4 HB3 D3
  go_wp2_with fail
  refine (D4.out _).mono ?_; rintro e w5 ⟨rfl, hb5⟩
  have HB5 := Lib.hid (HB4.out.trans (hb5.mono HB4.out.size))
  clear hb5 HB4 D4
  go_wp2_with fail
  refine (C5.out _).mono ?_; rintro e w6 ⟨rfl, rfl⟩
  go_wp2_with fail
  refine (C6.out _).mono ?_; rintro e w7 ⟨rfl, rfl⟩
  go_wp2_with fail
  refine (C8.out _ (HF.out.onto HB5.out)).mono ?_; rintro e w8 ⟨rfl, hb8⟩
  go_wp2
  go_ret
  exact ⟨by simp, HB5.out.trans (hb8.mono HB5.out.size)⟩

set_option maxRecDepth 100000 in
set_option maxHeartbeats 800000 in
theorem scanAnys_walk (s : ByteArray) (w : World) (hs : s.size ≤ maxLen) (hF : First w) :
    Calls Tryd.prog 4 #[.string s] w fun e w' => e = .returned (.bool true) ∧ Below w.heap.size w w' := by
  have C8 := Lib.hid lives13_any
  have HF := Lib.hid hF
  by_cases h1 : 600 < s.size
  · unfold maxLen at hs
    clear hF
    go_enter Tryd.func4, Tryd.ntmps4
    go_wp2_with fail
    refine (C8.out _ HF.out).mono ?_; rintro e w1 ⟨rfl, hb1⟩
    go_wp2
    go_ret
    exact ⟨rfl, hb1⟩
  have C1 := Lib.hid (sany_any s (by omega))
  have C2 := Lib.hid (rany_any s (by omega))
  have hlen : s.data.toList.length = s.size := by simp
  have HN := Lib.hid hlen
  unfold maxLen at hs
  clear hF hlen
  go_enter Tryd.func4, Tryd.ntmps4
  go_wp2_with fail
  refine (C1.out _ HF.out).mono ?_; rintro e w1 ⟨L, a, c, hr, rfl, hfr, hb1⟩
  have HR := Lib.hid hr
  have HL := Lib.hid (hr.ends (Nat.zero_le _))
  have HFR := Lib.hid hfr; have HB1 := Lib.hid hb1
  clear hr hfr hb1
  go_wp2_with fail
  refine (C2.out _).mono ?_; rintro e w2 ⟨L', a', c', hr', rfl, hfr', hb2⟩
  obtain rfl := HR.out.same hr'
  have hL2 : L.length ≤ 4294967296 := by have h1 := HL.out; have h2 := HN.out; omega
  have C7 := Lib.hid (rsame_any a a' c c' L hL2 _ _ w2 (HFR.out.below (N := w1.heap.size) (fun b h => h.2) hb2) hfr')
  have HB2 := Lib.hid (HB1.out.trans (hb2.mono HB1.out.size))
  clear hfr' hb2 hr' HB1 HFR HR HL
  go_wp2_with fail
  refine C7.out.mono ?_; rintro e w3 ⟨rfl, hb3⟩
  have HB3 := Lib.hid (HB2.out.trans (hb3.mono HB2.out.size))
  clear hb3 HB2 C7
  go_wp2_with fail
  refine (C8.out _ (HF.out.onto HB3.out)).mono ?_; rintro e w8 ⟨rfl, hb8⟩
  go_wp2
  go_ret
  exact ⟨by simp, HB3.out.trans (hb8.mono HB3.out.size)⟩

set_option maxRecDepth 100000 in
set_option maxHeartbeats 800000 in
theorem scanFills_walk (n : Int) (w : World) (w1 : (Lit.int .i64 n).wf = true) (hF : First w) :
    Calls Tryd.prog 7 #[.int .i64 n] w fun e w' => e = .returned (.bool true) ∧ Below w.heap.size w w' := by
  have C8 := Lib.hid lives13_any
  have HF := Lib.hid hF
  have C1 := Lib.hid (sfill_any n)
  have C2 := Lib.hid (rfill_any n)
  have hz := filS_size (filN n)
  have hall := filS_all (filN n)
  have hm32 : filN n ≤ 32 := by unfold filN; split <;> (try split) <;> omega
  obtain ⟨f, hf⟩ : ∃ f, filS (filN n) = f := ⟨_, rfl⟩
  rw [hf] at C1 C2 hz hall
  have c3 := sblank_any f (by unfold maxLen; omega)
  rw [hall] at c3
  have C3 := Lib.hid c3
  clear hF w1 hz hall hf c3
  go_enter Tryd.func7, Tryd.ntmps7
  go_wp2_with fail
  refine (C1.out _).mono ?_; rintro e w1 ⟨rfl, hb1⟩
  have HB1 := Lib.hid hb1
  clear hb1
  go_wp2_with fail
  refine (C2.out _).mono ?_; rintro e w2 ⟨rfl, rfl⟩
  go_wp2_with fail
  refine (C1.out _).mono ?_; rintro e w3 ⟨rfl, hb3⟩
  have HB3 := Lib.hid (HB1.out.trans (hb3.mono HB1.out.size))
  clear hb3 HB1
  go_wp2_with fail
  refine (C3.out _).mono ?_; rintro e w4 ⟨rfl, rfl⟩
  go_wp2_with fail
  refine (C8.out _ (HF.out.onto HB3.out)).mono ?_; rintro e w8 ⟨rfl, hb8⟩
  go_wp2
  go_ret
  exact ⟨by simp, HB3.out.trans (hb8.mono HB3.out.size)⟩
end Go.Proofs.YtibbglmhcjnedaaDoor
