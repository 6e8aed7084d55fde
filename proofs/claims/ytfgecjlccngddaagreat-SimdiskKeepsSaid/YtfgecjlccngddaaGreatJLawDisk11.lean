/-
  Joined: LawDisk11.
-/
import Derived.Test.YtfgecjlccngddaaGreatJLives11
import Derived.Test.YtfgecjlccngddaaGreatJDiskKeep
import Derived.Test.YtfgecjlccngddaaGreatJOpenStrs
namespace Go.Proofs.YtfgecjlccngddaaGreat
set_option linter.unusedSimpArgs false
set_option linter.unusedVariables false
open Go.RowKit
set_option linter.unusedVariables false

/-- What holds of the disk all along: it keeps t; its blocks are new. -/
structure KpW (w : World) (f : Addr) (t : ByteArray) (M : Nat) (wr : World) : Prop where
  out : ∃ D S, IsDk wr S f D ∧ D.ok M ∧ Kp t D ∧ (∀ b ∈ S, w.heap.size ≤ b) ∧ Below w.heap.size w wr
theorem kpw_mk {w wr w2 : World} {f : Addr} {t : ByteArray} {M : Nat} {S S2 : List Nat} {D2 : Dsk} (hS : ∀ b ∈ S, w.heap.size ≤ b) (hb : Below w.heap.size w wr) (hI : IsDk w2 S2 f D2) (hA : Apart S wr w2) (hS2 : ∀ b ∈ S2, b ∈ S ∨ wr.heap.size ≤ b) (ok : D2.ok M) (k : Kp t D2) : KpW w f t M w2 :=
  ⟨_, S2, hI, ok, k, fun b hb2 => (hS2 b hb2).elim (hS b) (Nat.le_trans hb.size), hb.trans (hA.to_below hS hb.size)⟩
theorem KpW.bel {w wr : World} {f : Addr} {t : ByteArray} {M : Nat} (h : KpW w f t M wr) : Below w.heap.size w wr := by obtain ⟨_, _, _, _, _, _, h⟩ := h.out; exact h
theorem KpW.up {w wr : World} {f : Addr} {t : ByteArray} {M N : Nat} (h : KpW w f t M wr) (hN : M ≤ N) : KpW w f t N wr := by
  obtain ⟨D, S, h1, h2, h3, h4, h5⟩ := h.out
  exact ⟨D, S, h1, D.ok_more h2 hN, h3, h4, h5⟩
def KpK (w : World) (f : Addr) (t : ByteArray) (M : Nat) (e : Ending) (w' : World) : Prop := ∃ x, e = .returned (.int .i64 x) ∧ KpW w f t M w'
theorem kp_create {w wr : World} {f : Addr} {t : ByteArray} {M : Nat} (h : KpW w f t M wr) (hM : M ≤ 199) (s : ByteArray) (hs : s.size ≤ maxLen) (hn : s ≠ kKept) :
    Calls Tryz.prog 10 #[.pointer (some f), .string s] wr (KpK w f t (M + 1)) := by
  obtain ⟨D, S, h1, h2, h3, h4, h5⟩ := h.out
  refine (dkcreate_any h1 (D.ok_more h2 hM) s hs).mono ?_
  rintro e w2 ⟨rfl, S2, hI, hA, hS2⟩
  exact ⟨_, rfl, kpw_mk h4 h5 hI hA hS2 (Dsk.create_ok h2 s) (h3.create hn)⟩
theorem kp_append {w wr : World} {f : Addr} {t : ByteArray} {M : Nat} (h : KpW w f t M wr) (hM : M ≤ 199) (s b : ByteArray) (hs : s.size ≤ maxLen) (hb : b.size ≤ 200) :
    Calls Tryz.prog 11 #[.pointer (some f), .string s, .string b] wr (KpK w f t (M + 1)) := by
  obtain ⟨D, S, h1, h2, h3, h4, h5⟩ := h.out
  refine (dkappend_any h1 (D.ok_more h2 hM) s b hs hb).mono ?_
  rintro e w2 ⟨rfl, S2, hI, hA, hS2⟩
  exact ⟨_, rfl, kpw_mk h4 h5 hI hA hS2 (Dsk.append_ok h2 s b hb) (h3.append s b)⟩
theorem kp_rename {w wr : World} {f : Addr} {t : ByteArray} {M : Nat} (h : KpW w f t M wr) (hM : M ≤ 199) (s d : ByteArray) (hs : s.size ≤ maxLen) (hd : d.size ≤ maxLen) (hn : s ≠ kKept) (hm : d ≠ kKept) :
    Calls Tryz.prog 21 #[.pointer (some f), .string s, .string d] wr (KpK w f t (M + 1)) := by
  obtain ⟨D, S, h1, h2, h3, h4, h5⟩ := h.out
  refine (dkrename_any h1 (D.ok_more h2 hM) s d hs hd).mono ?_
  rintro e w2 ⟨rfl, S2, hI, hA, hS2⟩
  exact ⟨_, rfl, kpw_mk h4 h5 hI hA hS2 (Dsk.rename_ok h2 s d) (h3.rename hn hm)⟩
theorem kp_remove {w wr : World} {f : Addr} {t : ByteArray} {M : Nat} (h : KpW w f t M wr) (hM : M ≤ 199) (s : ByteArray) (hs : s.size ≤ maxLen) (hn : s ≠ kKept) :
    Calls Tryz.prog 22 #[.pointer (some f), .string s] wr (KpK w f t (M + 1)) := by
  obtain ⟨D, S, h1, h2, h3, h4, h5⟩ := h.out
  refine (dkremove_any h1 (D.ok_more h2 hM) s hs).mono ?_
  rintro e w2 ⟨rfl, S2, hI, hA, hS2⟩
  exact ⟨_, rfl, kpw_mk h4 h5 hI hA hS2 (Dsk.remove_ok h2 s) (h3.remove hn)⟩
theorem kKept_le : kKept.size ≤ maxLen := by unfold maxLen; show 4 ≤ 9223372036854775807; omega
theorem kB_le : kB.size ≤ maxLen := by unfold maxLen; show 1 ≤ 9223372036854775807; omega
theorem kB_ne : kB ≠ kKept := fun e => by have := congrArg ByteArray.size e; exact absurd this (by decide)
/-- The crash, and what is read behind it. -/
theorem kp_crash {w wr : World} {f : Addr} {t : ByteArray} {q : Nat} (ht : t.size = 32 * q) (h : KpW w f t 45 wr) (c : ByteArray) (hc : c.size ≤ 200) :
    ∃ y : ByteArray, t.size ≤ y.size ∧ y.extract 0 t.size = t ∧ Calls Tryz.prog 12 #[.pointer (some f), .string c] wr fun e w2 => (∃ x, e = .returned (.int .i64 x)) ∧ Below w.heap.size w w2 ∧
      Calls Tryz.prog 23 #[.pointer (some f), .string kKept] w2 fun e w3 => e = .returned (.tuple #[.string y, .int .i64 0]) ∧ Below w.heap.size w w3 := by
  obtain ⟨D, S, h1, h2, h3, h4, h5⟩ := h.out
  obtain ⟨y, e1, e2, e3⟩ := h3.read ht c
  refine ⟨y, e2, e3, (dkcrash_any h1 (D.ok_more h2 (by omega)) c hc).mono ?_⟩
  rintro e w2 ⟨rfl, S2, hI, hA, hS2⟩
  have hb := h5.trans (hA.to_below h4 h5.size)
  refine ⟨⟨_, rfl⟩, hb, (dkread_any hI (Dsk.ok_more (Dsk.crash_ok h2 c) (by omega)) kKept kKept_le).mono ?_⟩
  rintro e w3 ⟨rfl, hb3⟩
  rw [e1]
  exact ⟨rfl, hb.trans (hb3.mono hb.size)⟩
/-- The disk that is made, and what is laid on it. -/
theorem kp_new (w : World) (t : ByteArray) (ht : t.size ≤ 200) (w0 : World) (hb0 : Below w.heap.size w w0) : Calls Tryz.prog 7 #[.int .i64 200] w0 fun e w1 => ∃ f, e = .returned (.tuple #[.pointer (some f), .int .i64 0]) ∧ Below w.heap.size w w1 ∧
    Calls Tryz.prog 10 #[.pointer (some f), .string kKept] w1 fun e w2 => e = .returned (.int .i64 0) ∧
    Calls Tryz.prog 11 #[.pointer (some f), .string kKept, .string t] w2 fun e w3 => e = .returned (.int .i64 0) ∧
    Calls Tryz.prog 19 #[.pointer (some f), .string kKept] w3 fun e w4 => e = .returned (.int .i64 0) ∧
    Calls Tryz.prog 20 #[.pointer (some f)] w4 fun e w5 => e = .returned (.int .i64 0) ∧ KpW w f t 4 w5 := by
  have k0 : Dsk.ok 0 (Dsk.new 200) := Dsk.new_ok 200 (by omega) (by omega)
  have k1 := Dsk.create_ok k0 kKept
  rw [kp1] at k1
  have k2 := Dsk.append_ok k1 kKept t ht
  simp only at k2
  rw [kp2 t ht] at k2
  have k3 := Dsk.sync_ok k2 kKept
  simp only at k3
  rw [kp3] at k3
  have k4 := Dsk.syncAll_ok k3
  simp only at k4
  rw [kp4] at k4
  have c0 := dknew_any 200 w0
  rw [show Dsk.make 200 = (Dsk.new 200, 0) from rfl] at c0
  refine c0.mono ?_
  intro e w1 hn
  unfold NewK at hn
  rw [if_pos rfl] at hn
  obtain ⟨f, S1, rfl, h1, hS1, hb1⟩ := hn
  have g1 : ∀ b ∈ S1, w.heap.size ≤ b := fun b hb => Nat.le_trans hb0.size (hS1 b hb)
  have b1 := hb0.trans (hb1.mono hb0.size)
  have c1 := dkcreate_any h1 (Dsk.ok_more k0 (by omega)) kKept kKept_le
  rw [kp1] at c1
  refine ⟨f, rfl, b1, c1.mono ?_⟩
  rintro e w2 ⟨rfl, S2, h2, a2, s2⟩
  have g2 : ∀ b ∈ S2, w.heap.size ≤ b := fun b hb => (s2 b hb).elim (g1 b) (Nat.le_trans b1.size)
  have b2 := b1.trans (a2.to_below g1 b1.size)
  have c2 := dkappend_any h2 (Dsk.ok_more k1 (by omega)) kKept t kKept_le ht
  simp only at c2
  rw [kp2 t ht] at c2
  refine ⟨rfl, c2.mono ?_⟩
  rintro e w3 ⟨rfl, S3, h3, a3, s3⟩
  have g3 : ∀ b ∈ S3, w.heap.size ≤ b := fun b hb => (s3 b hb).elim (g2 b) (Nat.le_trans b2.size)
  have b3 := b2.trans (a3.to_below g2 b2.size)
  have c3 := dksync_any h3 (Dsk.ok_more k2 (by omega)) kKept kKept_le
  simp only at c3
  rw [kp3] at c3
  refine ⟨rfl, c3.mono ?_⟩
  rintro e w4 ⟨rfl, S4, h4, a4, s4⟩
  have g4 : ∀ b ∈ S4, w.heap.size ≤ b := fun b hb => (s4 b hb).elim (g3 b) (Nat.le_trans b3.size)
  have b4 := b3.trans (a4.to_below g3 b3.size)
  have c4 := dksyncall_any h4 (Dsk.ok_more k3 (by omega))
  simp only at c4
  rw [kp4] at c4
  refine ⟨rfl, c4.mono ?_⟩
  rintro e w5 ⟨rfl, S5, h5, a5, s5⟩
  exact ⟨rfl, kpw_mk g4 b4 h5 a5 s5 k4 (kp_start t)⟩
theorem kKept_list : kKept.toList = [107, 101, 112, 116] := by rw [ByteArray.toList_eq]; rfl
set_option maxRecDepth 100000 in
set_option maxHeartbeats 3200000 in
theorem simdiskKeeps_walk (s m : ByteArray) (a : Option Addr) (l : List ByteArray) (c : Nat) (ch : ByteArray) (w : World) (ws : s.size ≤ maxLen) (wm : m.size ≤ maxLen) (hr : Strs w (· < w.heap.size) a l) (hfit : ∀ x ∈ l, x.size ≤ maxLen) (wc : ch.size ≤ maxLen) :
    Calls Tryz.prog 5 #[.agg #[.string s, .string m], .slice a l.length c, .string ch] w fun e w' => e = .returned (.bool true) ∧ Below w.heap.size w w' := by
  have hB0 : Below w.heap.size w (w.alloc (.cells #[.string s, .string m] 56)).drew := ((Below.refl _ _).alloc (Nat.le_refl _) _).drew
  obtain ⟨n, hn⟩ : ∃ n, l.length = n := ⟨_, rfl⟩
  rw [hn]
  clear ws wm wc
  by_cases h10 : 10 < n
  · have b1 : (10 : Int) < (n : Int) := by omega
    clear hr hfit hn
    go_enter Tryz.func5, Tryz.ntmps5
    go_wp2_with fail
    go_region
    go_wp2_with fail
    refine (lives11_any _).mono ?_
    rintro e w1 ⟨rfl, hb1⟩
    go_wp2
    go_ret
    exact ⟨rfl, hB0.trans (hb1.mono hB0.size)⟩
  by_cases h200 : 200 < ch.size
  · have b1 : ¬ (10 : Int) < (n : Int) := by omega
    have b2 : (200 : Int) < (ch.size : Int) := by omega
    clear hr hfit hn
    go_enter Tryz.func5, Tryz.ntmps5
    go_wp2_with fail
    go_region
    go_wp2_with fail
    refine (lives11_any _).mono ?_
    rintro e w1 ⟨rfl, hb1⟩
    go_wp2
    go_ret
    exact ⟨rfl, hB0.trans (hb1.mono hB0.size)⟩
  · have b1 : ¬ (10 : Int) < (n : Int) := by omega
    have b2 : ¬ (200 : Int) < (ch.size : Int) := by omega
    obtain ⟨f, hf⟩ : ∃ f, fewD s = f := ⟨_, rfl⟩
    have hz : f.size ≤ 200 := by rw [← hf]; exact fewD_size s
    obtain ⟨g, hg⟩ : ∃ g, fewD m = g := ⟨_, rfl⟩
    have hgz : g.size ≤ 200 := by rw [← hg]; exact fewD_size m
    have cf := fun W => few11_any s W
    have cg := fun W => few11_any m W
    simp only [hf] at cf
    simp only [hg] at cg
    obtain ⟨q, hq⟩ : ∃ q, f.size / 32 = q := ⟨_, rfl⟩
    have e1 : ((f.size : Int) / 32 * 32) = ((32 * q : Nat) : Int) := by omega
    have e2 : 32 * q ≤ f.size := by omega
    obtain ⟨t, hte⟩ : ∃ t, f.extract 0 (32 * q) = t := ⟨_, rfl⟩
    have hts : t.size = 32 * q := by rw [← hte, ByteArray.size_extract]; omega
    have htz : t.size ≤ 200 := by omega
    have TZ := Lib.hid htz
    have cn := fun (W : World) (h : Below w.heap.size w W) => kp_new w t htz W h
    have CF := Lib.hid cf; have CG := Lib.hid cg; have CN := Lib.hid cn; have HTS := Lib.hid hts; have HR := Lib.hid hr; have HFIT := Lib.hid hfit; have HN := Lib.hid hn; have HB0 := Lib.hid hB0; have GZ := Lib.hid hgz; have HC := Lib.hid h200; have H10 := Lib.hid h10
    clear cf cg cn hts htz hr hfit hn hf hg hq hgz h200 h10 hB0
    go_enter Tryz.func5, Tryz.ntmps5
    go_wp2_with fail
    go_region
    go_wp2_with fail
    refine (CN.out _ HB0.out).mono ?_
    rintro e w1 ⟨d, rfl, hb1, c1⟩
    have C1 := Lib.hid c1; have HB1 := Lib.hid hb1
    clear c1 hb1 CN HB0
    go_wp2_with fail
    refine (CF.out _).mono ?_
    rintro e w' ⟨rfl, rfl⟩
    go_wp2_with fail
    refine (CF.out _).mono ?_
    rintro e w' ⟨rfl, rfl⟩
    go_wp2_with fail
    rw [hte]
    clear e1 e2 hte
    refine C1.out.mono ?_
    rintro e w2 ⟨rfl, c2⟩
    have C2 := Lib.hid c2; clear c2 C1
    go_wp2_with fail
    refine C2.out.mono ?_
    rintro e w3 ⟨rfl, c3⟩
    have C3 := Lib.hid c3; clear c3 C2
    go_wp2_with fail
    refine C3.out.mono ?_
    rintro e w4 ⟨rfl, c4⟩
    have C4 := Lib.hid c4; clear c4 C3
    go_wp2_with fail
    refine C4.out.mono ?_
    rintro e w5 ⟨rfl, k5⟩
    have K5 := Lib.hid k5; clear k5 C4
    go_wp2_with fail
    refine (CG.out _).mono ?_
    rintro e w' ⟨rfl, rfl⟩
    go_wp2_with fail
    refine (kp_append K5.out (by omega) kKept g kKept_le GZ.out).mono ?_
    rintro e w6 ⟨x6, rfl, k6⟩
    have K6 := Lib.hid k6; clear k6
    go_wp2
    go_loopw [11] (fun i wr => ∃ j : Nat, j ≤ n ∧ i = .int .i64 j ∧ KpW w d t (5 + 4 * j) wr) (fun i _ => n - (intOf i).toNat)
    case atStart => exact ⟨0, Nat.zero_le _, rfl, K6.out⟩
    case round =>
      obtain ⟨j, hj, rfl, hk⟩ := hrel
      by_cases hlt : j < n
      · have hjl : j < l.length := by rw [HN.out]; exact hlt
        have b0 : (0 : Int) ≤ (j : Int) := by omega
        have b3 : (j : Int) < (n : Int) := by omega
        have h10 := H10.out
        obtain ⟨ad, rfl, hab, q0⟩ := HR.out j hjl
        have hxz := HFIT.out _ (List.getElem_mem hjl)
        obtain ⟨x, hx⟩ : ∃ x, l[j]'hjl = x := ⟨_, rfl⟩
        rw [hx] at q0 hxz
        have qc : ∀ W, Below w.heap.size w W → W.cell? (ad.add j) = some (.string x) := fun W h => (h.cell (p := ad.add j) (by rw [add_block]; exact hab)).trans q0
        have QC := Lib.hid qc; have K := Lib.hid hk; have XZ := Lib.hid hxz
        have p0 := qc _ hk.bel
        clear qc hk hxz hx hab q0
        by_cases hkk : x = kKept
        · subst hkk
          have n1 := kKept_list
          go_wp2
          go_roundw
          case rel => exact ⟨j + 1, by omega, by go_num, K.out.up (by omega)⟩
          case measure => simp [intOf]; omega
        · have n1 : (x.toList == [107, 101, 112, 116]) = false := by have := str_ne hkk; rwa [kKept_list] at this
          have HKK := Lib.hid hkk
          clear hkk
          go_wp2_with fail
          refine (kp_create K.out (by omega) x XZ.out HKK.out).mono ?_
          rintro e w7 ⟨x7, rfl, k7⟩
          have p1 := QC.out _ k7.bel
          have K7 := Lib.hid k7; clear k7 p0
          go_wp2_with fail
          refine (kp_append K7.out (by omega) x t XZ.out TZ.out).mono ?_
          rintro e w8 ⟨x8, rfl, k8⟩
          have p2 := QC.out _ k8.bel
          have K8 := Lib.hid k8; clear k8 p1
          go_wp2_with fail
          refine (kp_rename K8.out (by omega) x kB XZ.out kB_le HKK.out kB_ne).mono ?_
          rintro e w9 ⟨x9, rfl, k9⟩
          have p3 := QC.out _ k9.bel
          have K9 := Lib.hid k9; clear k9 p2
          go_wp2_with fail
          refine (kp_remove K9.out (by omega) x XZ.out HKK.out).mono ?_
          rintro e w10 ⟨x10, rfl, k10⟩
          have K10 := Lib.hid k10; clear k10 p3
          go_wp2
          go_roundw
          case rel => exact ⟨j + 1, by omega, by go_num, K10.out⟩
          case measure => simp [intOf]; omega
      · have b3 : ¬ (j : Int) < (n : Int) := by omega
        have h10 := H10.out
        have hc := HC.out
        obtain ⟨y, y1, y2, cc⟩ := kp_crash HTS.out (hk.up (by omega)) ch (by omega)
        have CC := Lib.hid cc; have Y2 := Lib.hid y2
        clear cc hk
        go_wp2_with fail
        refine CC.out.mono ?_
        rintro e w7 ⟨⟨x7, rfl⟩, hb7, c7⟩
        have C7 := Lib.hid c7; clear c7
        go_wp2_with fail
        refine C7.out.mono ?_
        rintro e w8 ⟨rfl, hb8⟩
        have HB8 := Lib.hid hb8; clear hb8 hb7
        have y4 : (t.size : Int) ≤ (y.size : Int) := by omega
        have y5 : ((y.extract 0 t.size).toList == t.toList) = true := by rw [Y2.out]; simp
        go_wp2_with fail
        refine (lives11_any _).mono ?_
        rintro e w9 ⟨rfl, hb9⟩
        go_wp2
        go_ret
        exact ⟨rfl, HB8.out.trans (hb9.mono HB8.out.size)⟩
end Go.Proofs.YtfgecjlccngddaaGreat
