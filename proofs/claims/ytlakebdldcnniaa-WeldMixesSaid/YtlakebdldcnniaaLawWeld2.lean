/-
  Layer 17's laws: WeldConcats, WeldSplits.
-/
import Derived.Test.YtlakebdldcnniaaLawWeld
import Derived.OpenShut
namespace Go.Proofs.Ytlakebdldcnniaa
open Go.RowKit
set_option linter.unusedVariables false
set_option linter.unusedSimpArgs false

theorem not_vld {s : ByteArray} (h : ¬ vld s.data.toList) : vldB s.data.toList = false := Bool.eq_false_iff.2 fun g => h ((vldB_iff _).1 g)
set_option maxRecDepth 100000 in
set_option maxHeartbeats 1600000 in
theorem weldConcats_walk (a b : ByteArray) (w0 : a.size ≤ maxLen) (w1 : b.size ≤ maxLen) (w : World) :
    Calls Try.prog 4 #[.string a, .string b] w fun e w' => e = .returned (.bool true) ∧ Below w.heap.size w w' := by
  clear w0 w1
  by_cases hl : 1500 < a.size
  · have t1 : decide ((1500 : Int) < (a.size : Int)) = true := decide_eq_true (by omega)
    have t2 : decide (1500 < a.size) = true := decide_eq_true hl
    go_enter Try.func4, Try.ntmps4
    go_wp2_with fail
    refine (lives17_any _).mono ?_; rintro e w1 ⟨rfl, hb1⟩
    go_wp2
    go_ret
    exact ⟨rfl, hb1⟩
  by_cases hm : 1500 < b.size
  · have t1 : decide ((1500 : Int) < (a.size : Int)) = false := decide_eq_false (by omega)
    have t2 : decide (1500 < a.size) = false := decide_eq_false hl
    have t3 : decide ((1500 : Int) < (b.size : Int)) = true := decide_eq_true (by omega)
    have t4 : decide (1500 < b.size) = true := decide_eq_true hm
    go_enter Try.func4, Try.ntmps4
    go_wp2_with fail
    refine (lives17_any _).mono ?_; rintro e w1 ⟨rfl, hb1⟩
    go_wp2
    go_ret
    exact ⟨rfl, hb1⟩
  have ca := rvalid_any a (by omega)
  have cb := rvalid_any b (by omega)
  have t1 : decide ((1500 : Int) < (a.size : Int)) = false := decide_eq_false (by omega)
  have t2 : decide (1500 < a.size) = false := decide_eq_false hl
  have t3 : decide ((1500 : Int) < (b.size : Int)) = false := decide_eq_false (by omega)
  have t4 : decide (1500 < b.size) = false := decide_eq_false hm
  have ha : a.size ≤ 1500 := by omega
  have hb : b.size ≤ 1500 := by omega
  by_cases hva : vld a.data.toList
  · rw [(vldB_iff _).2 hva] at ca
    by_cases hvb : vld b.data.toList
    · rw [(vldB_iff _).2 hvb] at cb
      have ca2 := of_any a (by omega)
      have cb2 := of_any b (by omega)
      have hz : (a ++ b).size = a.size + b.size := ByteArray.size_append
      have HA := Lib.hid hva; have HB := Lib.hid hvb; have CA := Lib.hid ca; have CB := Lib.hid cb; have CA2 := Lib.hid ca2; have CB2 := Lib.hid cb2; have HZ := Lib.hid hz
      clear ca cb ca2 cb2 hva hvb hz
      go_enter Try.func4, Try.ntmps4
      go_wp2_with fail
      refine (CA.out _).mono ?_; rintro e w1 ⟨rfl, hb1⟩
      have HB1 := Lib.hid hb1
      clear hb1
      go_wp2_with fail
      refine (onward HB1.out (CB.out _)).mono ?_; rintro e w2 ⟨rfl, hb2⟩
      have HB2 := Lib.hid hb2
      clear hb2
      go_wp2_with fail
      refine (CA2.out w2).mono ?_; rintro e w3 ⟨p, L, rfl, t1, hT1, h1, -, hb3⟩
      have HB3 := Lib.hid (HB2.out.trans (hb3.mono HB2.out.size))
      have HX := Lib.hid (show Text w3 p L a from Text.of (w := w) t1 hT1 h1 HA.out (by omega))
      clear hb3 t1 hT1 h1
      go_wp2_with fail
      refine (CB2.out w3).mono ?_; rintro e w4 ⟨q, R, rfl, t2, hT2, h2, -, hb4⟩
      have x1 := HX.out.later hb4
      have x2 : Text w4 q R b := Text.of (w := w) t2 hT2 h2 HB.out (by omega)
      have cc := concat_any x1.t x2.t x1.tight x2.tight (by rw [whole_szs, x1.txt, x2.txt]; omega)
      rw [x1.txt, x2.txt] at cc
      have CC := Lib.hid cc; have HB4 := Lib.hid (HB3.out.trans (hb4.mono HB3.out.size))
      clear hb4 t2 hT2 h2 x1 x2 cc
      go_wp2_with fail
      refine CC.out.mono ?_; rintro e w5 ⟨u, M, rfl, t5, hT5, h5, hb5⟩
      have cg := good_any (⟨t5, hT5, h5, by rw [HZ.out]; omega⟩ : Text w5 u M (a ++ b))
      have CG := Lib.hid cg; have HB5 := Lib.hid (HB4.out.trans (hb5.mono HB4.out.size))
      clear t5 hT5 h5 hb5 cg
      go_wp2_with fail
      refine (onward HB5.out (CG.out _ (Below.refl _ _))).mono ?_; rintro e w6 ⟨rfl, hb6⟩
      have HB6 := Lib.hid hb6
      clear hb6
      go_wp2_with fail
      refine (onward HB6.out (lives17_any _)).mono ?_; rintro e w7 ⟨rfl, hb7⟩
      go_wp2
      go_ret
      exact ⟨rfl, hb7⟩
    · rw [not_vld hvb] at cb
      have CA := Lib.hid ca; have CB := Lib.hid cb
      clear ca cb hva hvb
      go_enter Try.func4, Try.ntmps4
      go_wp2_with fail
      refine (CA.out _).mono ?_; rintro e w1 ⟨rfl, hb1⟩
      have HB1 := Lib.hid hb1
      clear hb1
      go_wp2_with fail
      refine (onward HB1.out (CB.out _)).mono ?_; rintro e w2 ⟨rfl, hb2⟩
      have HB2 := Lib.hid hb2
      clear hb2
      go_wp2_with fail
      refine (onward HB2.out (lives17_any _)).mono ?_; rintro e w3 ⟨rfl, hb3⟩
      go_wp2
      go_ret
      exact ⟨rfl, hb3⟩
  · rw [not_vld hva] at ca
    have CA := Lib.hid ca
    clear ca cb hva
    go_enter Try.func4, Try.ntmps4
    go_wp2_with fail
    refine (CA.out _).mono ?_; rintro e w1 ⟨rfl, hb1⟩
    have HB1 := Lib.hid hb1
    clear hb1
    go_wp2_with fail
    refine (onward HB1.out (lives17_any _)).mono ?_; rintro e w2 ⟨rfl, hb2⟩
    go_wp2
    go_ret
    exact ⟨rfl, hb2⟩

set_option maxRecDepth 100000 in
set_option maxHeartbeats 1600000 in
theorem weldSplits_walk (s : ByteArray) (at' : Int) (w0 : s.size ≤ maxLen) (w1 : (Lit.int .i64 at').wf = true) (w : World) :
    Calls Try.prog 5 #[.string s, .int .i64 at'] w fun e w' => e = .returned (.bool true) ∧ Below w.heap.size w w' := by
  have hi : i64P at' := bounds_i64 w1
  clear w0 w1
  by_cases hl : 1500 < s.size
  · have t1 : decide ((1500 : Int) < (s.size : Int)) = true := decide_eq_true (by omega)
    have t2 : decide (1500 < s.size) = true := decide_eq_true hl
    have HI := Lib.hid hi
    clear hi
    go_enter Try.func5, Try.ntmps5
    go_wp2_with fail
    refine (lives17_any _).mono ?_; rintro e w1 ⟨rfl, hb1⟩
    go_wp2
    go_ret
    exact ⟨rfl, hb1⟩
  have cv := rvalid_any s (by omega)
  have t1 : decide ((1500 : Int) < (s.size : Int)) = false := decide_eq_false (by omega)
  have t2 : decide (1500 < s.size) = false := decide_eq_false hl
  have hs : s.size ≤ 1500 := by omega
  by_cases hv : vld s.data.toList
  · rw [(vldB_iff _).2 hv] at cv
    have co := of_any s (by omega) 
    have cb := rback_any s (by omega) at'
    have hle : backI s.data.toList at' ≤ s.size := by have := backI_le s.data.toList at'; simpa using this
    have cs : ∀ W p L, Text W p L s → Calls Try.prog 12 #[.pointer p, .int .i64 at'] W (RetSplit W (s.extract 0 (backI s.data.toList at')) (s.extract (backI s.data.toList at') s.size)) := fun W p L x => by
      have := split_any x.t x.tight (by rw [x.txt]; omega) hi
      rwa [x.txt] at this
    obtain ⟨n, hn⟩ : ∃ n, backI s.data.toList at' = n := ⟨_, rfl⟩
    rw [hn] at cb hle cs
    have z1 := piece_size s n hle
    have z2 := rest_size s n
    have HV := Lib.hid hv; have CV := Lib.hid cv; have CO := Lib.hid co; have CB := Lib.hid cb; have CS := Lib.hid cs; have Z1 := Lib.hid z1; have Z2 := Lib.hid z2
    have b1 : (0 : Int) ≤ (n : Int) := by omega
    have b2 : (n : Int) ≤ (s.size : Int) := by omega
    clear cv co cb cs hv hn z1 z2 hi
    go_enter Try.func5, Try.ntmps5
    go_wp2_with fail
    refine (CV.out _).mono ?_; rintro e w1 ⟨rfl, hb1⟩
    have HB1 := Lib.hid hb1
    clear hb1
    go_wp2_with fail
    refine (CO.out w1).mono ?_; rintro e w2 ⟨p, L, rfl, t1, hT1, h1, -, hb2⟩
    have cs := CS.out w2 p L (Text.of (w := w) t1 hT1 h1 HV.out (by omega))
    have CS2 := Lib.hid cs; have HB2 := Lib.hid (HB1.out.trans (hb2.mono HB1.out.size))
    clear hb2 t1 hT1 h1 cs
    go_wp2_with fail
    refine CS2.out.mono ?_; rintro e w3 ⟨p1, L1, p2, L2, rfl, t1, t2, h1, h2, x1, x2, hb3⟩
    have g1 := good_any (⟨t1, h1, x1, by rw [Z1.out]; omega⟩ : Text w3 p1 L1 (s.extract 0 n))
    have g2 := good_any (⟨t2, h2, x2, by rw [Z2.out]; omega⟩ : Text w3 p2 L2 (s.extract n s.size))
    have G1 := Lib.hid g1; have G2 := Lib.hid g2; have HB3 := Lib.hid (HB2.out.trans (hb3.mono HB2.out.size))
    clear t1 t2 h1 h2 x1 x2 hb3 g1 g2
    go_wp2_with fail
    refine (CB.out _).mono ?_; rintro e w4 ⟨rfl, rfl⟩
    go_wp2_with fail
    refine (G1.out _ (Below.refl _ _)).mono ?_; rintro e w5 ⟨rfl, hb5⟩
    have HB5 := Lib.hid hb5
    clear hb5
    go_wp2_with fail
    refine (onward HB5.out (G2.out _ HB5.out)).mono ?_; rintro e w6 ⟨rfl, hb6⟩
    have HB6 := Lib.hid (HB3.out.trans (hb6.mono HB3.out.size))
    clear hb6
    go_wp2_with fail
    refine (onward HB6.out (lives17_any _)).mono ?_; rintro e w7 ⟨rfl, hb7⟩
    go_wp2
    go_ret
    exact ⟨rfl, hb7⟩
  · rw [not_vld hv] at cv
    have CV := Lib.hid cv; have HI := Lib.hid hi
    clear cv hv hi
    go_enter Try.func5, Try.ntmps5
    go_wp2_with fail
    refine (CV.out _).mono ?_; rintro e w1 ⟨rfl, hb1⟩
    have HB1 := Lib.hid hb1
    clear hb1
    go_wp2_with fail
    refine (onward HB1.out (lives17_any _)).mono ?_; rintro e w2 ⟨rfl, hb2⟩
    go_wp2
    go_ret
    exact ⟨rfl, hb2⟩
end Go.Proofs.Ytlakebdldcnniaa
