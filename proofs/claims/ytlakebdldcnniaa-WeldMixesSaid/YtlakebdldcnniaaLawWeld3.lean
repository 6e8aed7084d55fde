/-
  Layer 17's law WeldMixes.
-/
import Derived.Test.YtlakebdldcnniaaLawWeld2
import Derived.Test.YtlakebdldcnniaaOpenInts
import Derived.Deep.QuietTactic
import Derived.BigQuiet
namespace Go.Proofs.Ytlakebdldcnniaa
open Go.RowKit
set_option linter.unusedVariables false
set_option linter.unusedSimpArgs false

/-- Under way: the tree, and the text. -/
structure MxI (w : World) (N : Nat) (p : Option Addr) (s : ByteArray) (wr : World) : Prop where
  x : ∃ L, Text wr p L s
  size : s.size = N
  bel : Below w.heap.size w wr
theorem Text.vld {w : World} {p : Option Addr} {L : List ByteArray} {s : ByteArray} (h : Text w p L s) : _root_.Go.Proofs.Ytlakebdldcnniaa.vld s.data.toList := by
  have := fits_vld (tight_fits h.tight)
  rwa [h.txt] at this
set_option maxRecDepth 100000 in
set_option maxHeartbeats 1600000 in
theorem weldMixes_walk (s : ByteArray) (a : Option Addr) (l : List Int) (c : Nat) (w : World) (w0 : s.size ≤ maxLen) (hr : Ints64 w w.heap.size a l) (hf : ∀ x ∈ l, -9223372036854775808 ≤ x ∧ x ≤ 9223372036854775807) :
    Calls Try.prog 6 #[.string s, .slice a l.length c] w fun e w' => e = .returned (.bool true) ∧ Below w.heap.size w w' := by
  clear w0
  obtain ⟨n, hn⟩ : ∃ n, l.length = n := ⟨_, rfl⟩
  rw [hn]
  have HN := Lib.hid hn; have HR := Lib.hid hr; have HF := Lib.hid (show ∀ x ∈ l, i64P x from hf)
  clear hn hr hf
  by_cases hl : 600 < s.size
  · have t1 : decide ((600 : Int) < (s.size : Int)) = true := decide_eq_true (by omega)
    have t2 : decide (600 < s.size) = true := decide_eq_true hl
    go_enter Try.func6, Try.ntmps6
    go_wp2_with fail
    refine (lives17_any _).mono ?_; rintro e w1 ⟨rfl, hb1⟩
    go_wp2
    go_ret
    exact ⟨rfl, hb1⟩
  by_cases hm : 30 < n
  · have t1 : decide ((600 : Int) < (s.size : Int)) = false := decide_eq_false (by omega)
    have t2 : decide (600 < s.size) = false := decide_eq_false hl
    have t3 : decide ((30 : Int) < (n : Int)) = true := decide_eq_true (by omega)
    have t4 : decide (30 < n) = true := decide_eq_true hm
    go_enter Try.func6, Try.ntmps6
    go_wp2_with fail
    refine (lives17_any _).mono ?_; rintro e w1 ⟨rfl, hb1⟩
    go_wp2
    go_ret
    exact ⟨rfl, hb1⟩
  have cv := rvalid_any s (by omega)
  have t1 : decide ((600 : Int) < (s.size : Int)) = false := decide_eq_false (by omega)
  have t2 : decide (600 < s.size) = false := decide_eq_false hl
  have t3 : decide ((30 : Int) < (n : Int)) = false := decide_eq_false (by omega)
  have t4 : decide (30 < n) = false := decide_eq_false hm
  have hs : s.size ≤ 600 := by omega
  have hn30 : n ≤ 30 := by omega
  by_cases hv : vld s.data.toList
  · rw [(vldB_iff _).2 hv] at cv
    have co := of_any s (by omega)
    have HV := Lib.hid hv; have CV := Lib.hid cv; have CO := Lib.hid co
    clear cv co hv
    go_enter Try.func6, Try.ntmps6
    go_wp2_with fail
    refine (CV.out _).mono ?_; rintro e w1 ⟨rfl, hb1⟩
    have HB1 := Lib.hid hb1
    clear hb1
    go_wp2_with fail
    refine (CO.out w1).mono ?_; rintro e w2 ⟨p, L, rfl, t1', hT1, h1, -, hb2⟩
    have HM := Lib.hid (show MxI w s.size p s w2 from ⟨⟨L, Text.of (w := w) t1' hT1 h1 HV.out (by omega)⟩, rfl, HB1.out.trans (hb2.mono HB1.out.size)⟩)
    obtain ⟨N, hN⟩ : ∃ N, s.size = N := ⟨_, rfl⟩
    rw [hN] at HM hs
    have HNS := Lib.hid hN
    clear hb2 t1' hT1 h1 hN t1 t2 t3 t4 hl hm
    go_wp2
    go_loopw [0, 5, 6] (fun vs vt vi wr => ∃ (k : Nat) (p : Option Addr) (s : ByteArray), k ≤ n ∧ vs = .string s ∧ vt = .pointer p ∧ vi = .int .i64 k ∧ MxI w N p s wr) (fun _ _ i _ => n - (intOf i).toNat)
    case atStart => exact ⟨0, p, s, Nat.zero_le _, rfl, rfl, rfl, HM.out⟩
    case round =>
      obtain ⟨k, p, s, hk, rfl, rfl, rfl, hM⟩ := hrel
      obtain ⟨⟨L, hx⟩, hsz, hbel⟩ := hM
      by_cases hlt : k < n
      · have hkl : k < l.length := by rw [HN.out]; exact hlt
        obtain ⟨ad, had, hab, q0⟩ := (HR.out.on hbel) k hkl
        subst had
        have hq := HF.out l[k] (List.getElem_mem hkl)
        obtain ⟨q, hqq⟩ : ∃ q, l[k] = q := ⟨_, rfl⟩
        rw [hqq] at q0 hq
        have hadr : (ad.add k).block < w.heap.size := by rw [add_block]; exact hab
        have hv := hx.vld
        have cb := rback_any s (by omega) q
        have hle : backI s.data.toList q ≤ s.size := by have := backI_le s.data.toList q; simpa using this
        have cs : Calls Try.prog 12 #[.pointer p, .int .i64 q] wr (RetSplit wr (s.extract 0 (backI s.data.toList q)) (s.extract (backI s.data.toList q) s.size)) := by
          have := split_any hx.t hx.tight (by rw [hx.txt]; omega) hq
          rwa [hx.txt] at this
        obtain ⟨m, hmm⟩ : ∃ m, backI s.data.toList q = m := ⟨_, rfl⟩
        rw [hmm] at cb hle cs
        have z1 := piece_size s m hle
        have z2 := rest_size s m
        have hzz : (s.extract m s.size ++ s.extract 0 m).size = N := by rw [ByteArray.size_append]; omega
        have HQ := Lib.hid (fun W (hW : Below wr.heap.size wr W) => ((hW.cell (Nat.lt_of_lt_of_le hadr hbel.size)).trans q0 : W.cell? (ad.add k) = some (.int .i64 q)))
        have CB := Lib.hid cb; have CS := Lib.hid cs; have Z1 := Lib.hid z1; have Z2 := Lib.hid z2; have HZ := Lib.hid hzz; have HBEL := Lib.hid hbel
        have b1 : (0 : Int) ≤ (m : Int) := by omega
        have b2 : (m : Int) ≤ (s.size : Int) := by omega
        have b3 : s.size - m + m ≤ 600 := by omega
        have b4 : s.size ≤ 600 := by omega
        have b5 : (0 : Int) ≤ (k : Int) := by omega
        have b6 : (k : Int) < (n : Int) := by omega
        clear cb cs hmm z1 z2 hzz hbel hv hq hx hsz hab hkl hqq
        go_wp2_with fail
        refine CS.out.mono ?_; rintro e w3 ⟨p1, L1, p2, L2, rfl, t1, t2, h1, h2, x1, x2, hb3⟩
        have q1 := HQ.out w3 hb3
        have cc : ∀ W, Below w3.heap.size w3 W → Calls Try.prog 11 #[.pointer p2, .pointer p1] W (RetText W (s.extract m s.size ++ s.extract 0 m)) := fun W hW => by
          have := concat_any (t2.later hW) (t1.later hW) h2 h1 (by rw [whole_szs, x1, x2, Z1.out, Z2.out]; omega)
          rwa [x1, x2] at this
        have CC := Lib.hid cc; have HB3 := Lib.hid (HBEL.out.trans (hb3.mono HBEL.out.size))
        clear cc t1 t2 h1 h2 x1 x2 hb3
        go_wp2_with fail
        refine (CB.out _).mono ?_; rintro e w4 ⟨rfl, rfl⟩
        have y1 := Z1.out
        have y2 := Z2.out
        have y3 : ¬ 9223372036854775807 < (s.extract m s.size).size + (s.extract 0 m).size := by rw [y1, y2]; omega
        have y4 : ¬ 9223372036854775807 < s.size - m + m := by omega
        go_wp2_with fail
        go_quiet (fail)
        clear y1 y2 y3 y4
        obtain ⟨s2, hs2⟩ : ∃ s2, s.extract m s.size ++ s.extract 0 m = s2 := ⟨_, rfl⟩
        rw [hs2] at CC HZ
        simp only [hs2]
        clear hs2
        go_wp2_with fail
        refine (CC.out _ (drewN_below (Below.refl _ _) _)).mono ?_; rintro e w5 ⟨u, M, rfl, t5, h5, x5, hb5⟩
        have X5 := Lib.hid (⟨t5, h5, x5, by rw [HZ.out]; omega⟩ : Text w5 u M s2)
        have ct := X5.out.text
        have CT := Lib.hid ct; have HB5 := Lib.hid (HB3.out.trans (((drewN_below (Below.refl w3.heap.size w3) _).trans hb5).mono HB3.out.size))
        clear t5 h5 x5 hb5 ct
        go_wp2_with fail
        refine (CT.out _ (Below.refl _ _)).mono ?_; rintro e w6 ⟨rfl, hb6⟩
        have HN6 := Lib.hid (show MxI w N u s2 w6 from ⟨⟨M, X5.out.later hb6⟩, HZ.out, HB5.out.trans (hb6.mono HB5.out.size)⟩)
        clear hb6
        go_wp2
        go_roundw
        case rel => exact ⟨k + 1, u, s2, by omega, rfl, rfl, by go_num, HN6.out⟩
        case measure => simp [intOf]; omega
      · obtain rfl : k = n := by omega
        have cg := good_any hx
        have CG := Lib.hid cg; have HB := Lib.hid hbel
        clear cg hx hbel hsz
        go_wp2_with fail
        refine (CG.out _ (Below.refl _ _)).mono ?_; rintro e w3 ⟨rfl, hb3⟩
        have HB3 := Lib.hid (HB.out.trans (hb3.mono HB.out.size))
        clear hb3
        go_wp2_with fail
        refine (onward HB3.out (lives17_any _)).mono ?_; rintro e w4 ⟨rfl, hb4⟩
        go_wp2
        go_ret
        exact ⟨rfl, hb4⟩
  · rw [not_vld hv] at cv
    have CV := Lib.hid cv
    clear cv hv
    go_enter Try.func6, Try.ntmps6
    go_wp2_with fail
    refine (CV.out _).mono ?_; rintro e w1 ⟨rfl, hb1⟩
    have HB1 := Lib.hid hb1
    clear hb1
    go_wp2_with fail
    refine (onward HB1.out (lives17_any _)).mono ?_; rintro e w2 ⟨rfl, hb2⟩
    go_wp2
    go_ret
    exact ⟨rfl, hb2⟩
end Go.Proofs.Ytlakebdldcnniaa
