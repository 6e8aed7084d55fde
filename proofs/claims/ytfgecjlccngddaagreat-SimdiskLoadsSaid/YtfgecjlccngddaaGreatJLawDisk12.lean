/-
  Joined: DiskRef14, LawDisk12.
-/
import Derived.Test.YtfgecjlccngddaaGreatJDiskRef13
import Derived.Test.YtfgecjlccngddaaGreatJLives11
import Derived.Test.YtfgecjlccngddaaGreatJLoadF
namespace Go.Proofs.YtfgecjlccngddaaGreat
set_option linter.unusedSimpArgs false
set_option linter.unusedVariables false
open Go.RowKit
set_option linter.unusedVariables false

set_option maxRecDepth 100000 in
set_option maxHeartbeats 1600000 in
theorem rdload_bad {w : World} {a : Option Addr} {l : List Fil} {c : Nat} (sec : Int) (h : sec < 1 ∨ 4096 < sec) :
    Calls Tryz.prog 17 #[.int .i64 sec, .slice a l.length c] w (RetDE w (fun _ => False) (Dsk.load sec l)) := by
  have e : Dsk.load sec l = (Dsk.zero, 2) := by unfold Dsk.load; rw [if_pos h]
  have cn := rdnew_any sec (w.alloc (.cells dskZ 34))
  rw [show Dsk.make sec = (Dsk.zero, 2) from if_pos h] at cn
  have kr := Blk.new w dskZ 34
  have hb0 : Below w.heap.size w (w.alloc (.cells dskZ 34)) := (Below.refl _ _).alloc (Nat.le_refl _) _
  have E := Lib.hid e; have CN := Lib.hid cn; have KR := Lib.hid kr; have HB0 := Lib.hid hb0
  obtain ⟨N, hN⟩ : ∃ N, l.length = N := ⟨_, rfl⟩
  rw [hN]
  clear e cn kr hb0 hN
  go_enter Tryz.func17, Tryz.ntmps17
  go_wp2_with fail
  refine CN.out.mono ?_
  rintro e w1 ⟨v, rfl, ⟨a1, c1, aL, cL, rfl, hT, hL, hz⟩, hb1⟩
  have hb := HB0.out.trans (hb1.mono HB0.out.size)
  have ba := (Below.refl w1.heap.size w1).alloc (Nat.le_refl _) (.cells (dskC Dsk.zero.sec a1 Dsk.zero.tp.length c1 aL Dsk.zero.L.length cL Dsk.zero.fu Dsk.zero.calls) 34)
  have kr1 := (KR.out.onto hb1).onto ba
  obtain ⟨k0, k1, k2, k3, k4, k5, k6, k7, r0, r1, r2, r3, r4, r5, r6, r7⟩ := kr1.eight
  have HBA := Lib.hid (hb.trans (ba.mono hb.size)); have HZ := Lib.hid hz
  clear hT hL hz hb1 hb ba kr1
  go_wp2
  refine bodyPost_ret (v := .tuple #[.agg (dskC Dsk.zero.sec a1 Dsk.zero.tp.length c1 aL Dsk.zero.L.length cL Dsk.zero.fu Dsk.zero.calls), .int .i64 2]) (by simp [results, Tryz.results17, go_sem, k0, k1, k2, k3, k4, k5, k6, k7]) rfl ?_
  rw [E.out]
  refine ⟨_, rfl, ⟨a1, c1, aL, cL, rfl, fun k hk => absurd hk (by simp [Dsk.zero]), fun k hk => absurd hk (by simp [Dsk.zero]), HZ.out⟩, ?_⟩
  iterate 8 refine Below.setCell ?_ (by simp) _
  exact HBA.out
set_option maxRecDepth 100000 in
set_option maxHeartbeats 1600000 in
theorem rdload_many {w : World} {a : Option Addr} {l : List Fil} {c : Nat} (sec : Int) (h1 : 1 ≤ sec) (h2 : sec ≤ 4096) (hl : 64 < l.length) :
    Calls Tryz.prog 17 #[.int .i64 sec, .slice a l.length c] w (RetDE w (fun _ => False) (Dsk.load sec l)) := by
  have e : Dsk.load sec l = (Dsk.zero, 9) := by unfold Dsk.load; rw [if_neg (by omega), if_pos hl]
  have cn := rdnew_ok sec h1 h2 (w.alloc (.cells dskZ 34))
  have E := Lib.hid e; have CN := Lib.hid cn
  obtain ⟨N, hN⟩ : ∃ N, l.length = N := ⟨_, rfl⟩
  rw [hN] at hl ⊢
  have hl' : (64 : Int) < (N : Int) := by omega
  clear e cn hN hl
  go_enter Tryz.func17, Tryz.ntmps17
  go_wp2_with fail
  refine CN.out.mono ?_
  rintro e w1 ⟨aL, cL, rfl, hL, hb1⟩
  have hst := rd_start (sec := sec) (cL := cL) hb1 hL
  obtain ⟨k0, k1, k2, k3, k4, k5, k6, k7, r0, r1, r2, r3, r4, r5, r6, r7⟩ := hst.res.eight
  have HS := Lib.hid hst
  clear hst hL hb1
  go_wp2
  refine bodyPost_ret (v := .tuple #[.agg dskZ, .int .i64 9]) (by simp [results, Tryz.results17, go_sem, k0, k1, k2, k3, k4, k5, k6, k7]) rfl (rd_no E.out ?_)
  iterate 8 refine Below.setCell ?_ (by simp) _
  exact HS.out.bel
theorem rdload_any {w : World} {B : Nat → Prop} {a : Option Addr} {l : List Fil} {c : Nat} (hl : Fils w B a l) (hB : ∀ b, B b → b < w.heap.size) (hf : ∀ x ∈ l, x.name.size ≤ maxLen ∧ x.data.size ≤ 200) (sec : Int) :
    Calls Tryz.prog 17 #[.int .i64 sec, .slice a l.length c] w (RetDE w (fun _ => False) (Dsk.load sec l)) := by
  by_cases h1 : sec < 1 ∨ 4096 < sec
  · exact rdload_bad sec h1
  · by_cases h2 : 64 < l.length
    · exact rdload_many sec (by omega) (by omega) h2
    · exact rdload_ok hl hB hf sec (by omega) (by omega) (by omega)
end Go.Proofs.YtfgecjlccngddaaGreat
namespace Go.Proofs.YtfgecjlccngddaaGreat
set_option linter.unusedSimpArgs false
set_option linter.unusedVariables false
open Go.RowKit
set_option linter.unusedVariables false

set_option maxRecDepth 100000 in
set_option maxHeartbeats 3200000 in
theorem simdiskLoads_walk (sec : Int) (a0 : Option Addr) (l : List Fil) (c0 : Nat) (ch : ByteArray) (w : World) (_w0 : (Lit.int .i64 sec).wf = true) (hr : Fils w (· < w.heap.size) a0 l) (hfit : ∀ x ∈ l, x.fits) (_hm : l.length ≤ maxLen) (_wc : ch.size ≤ maxLen) :
    Calls Tryz.prog 4 #[.int .i64 sec, .slice a0 l.length c0, .string ch] w fun e w' => e = .returned (.bool true) ∧ Below w.heap.size w w' := by
  obtain ⟨n, hn⟩ : ∃ n, l.length = n := ⟨_, rfl⟩
  have cd := fun (W : World) (h : Fils W (· < w.heap.size) a0 l) (hB : w.heap.size ≤ W.heap.size) (hf : ∀ x ∈ l, x.name.size ≤ maxLen ∧ x.data.size ≤ 200) => dkload_any (c := c0) h (fun b hb => Nat.lt_of_lt_of_le hb hB) hf sec
  have cr := fun (W : World) (h : Fils W (· < w.heap.size) a0 l) (hB : w.heap.size ≤ W.heap.size) (hf : ∀ x ∈ l, x.name.size ≤ maxLen ∧ x.data.size ≤ 200) => rdload_any (c := c0) h (fun b hb => Nat.lt_of_lt_of_le hb hB) hf sec
  have lf := fun (hl : ∀ f ∈ l, f.data.size ≤ 200) (h : (Dsk.load sec l).2 = 0) => load_facts hl h
  obtain ⟨R, hR⟩ : ∃ R, Dsk.load sec l = R := ⟨_, rfl⟩
  simp only [hR, hn] at cd cr lf
  rw [hn]
  clear _w0 _hm _wc
  by_cases h70 : 70 < n
  · have b1 : (70 : Int) < (n : Int) := by omega
    clear hr hfit hn cd cr lf
    go_enter Tryz.func4, Tryz.ntmps4
    go_wp2_with fail
    refine (lives11_any _).mono ?_
    rintro e w1 ⟨rfl, hb1⟩
    go_wp2
    go_ret
    exact ⟨rfl, hb1⟩
  by_cases h100 : 100 < ch.size
  · have b1 : ¬ (70 : Int) < (n : Int) := by omega
    have b2 : (100 : Int) < (ch.size : Int) := by omega
    clear hr hfit hn cd cr lf
    go_enter Tryz.func4, Tryz.ntmps4
    go_wp2_with fail
    refine (lives11_any _).mono ?_
    rintro e w1 ⟨rfl, hb1⟩
    go_wp2
    go_ret
    exact ⟨rfl, hb1⟩
  · have b1 : ¬ (70 : Int) < (n : Int) := by omega
    have b2 : ¬ (100 : Int) < (ch.size : Int) := by omega
    have h100' : ch.size ≤ 200 := by omega
    have h70' : n ≤ 70 := by omega
    have CD := Lib.hid cd; have CR := Lib.hid cr; have LF := Lib.hid lf; have HF := Lib.hid hr; have HFIT := Lib.hid hfit; have HN := Lib.hid hn; have HC := Lib.hid h100'
    clear cd cr lf hr hfit hn h100 h70 h100' hR
    go_enter Tryz.func4, Tryz.ntmps4
    go_wp2
    go_loopw [7] (fun i wr => ∃ j : Nat, j ≤ n ∧ i = .int .i64 j ∧ Below w.heap.size w wr ∧ ∀ k (h : k < l.length), k < j → l[k].data.size ≤ 200) (fun i _ => n - (intOf i).toNat)
    case atStart => exact ⟨0, Nat.zero_le _, rfl, Below.refl _ _, fun k h hk => absurd hk (by omega)⟩
    case round =>
      obtain ⟨j, hj, rfl, hbel, hall⟩ := hrel
      by_cases hlt : j < n
      · have hjl : j < l.length := by rw [HN.out]; exact hlt
        obtain ⟨ad, rfl, hab, q0, q1⟩ := (HF.out.below (fun b hb => hb) hbel) j hjl
        obtain ⟨x, hx⟩ : ∃ x, l[j]'hjl = x := ⟨_, rfl⟩
        rw [hx] at q0 q1
        obtain ⟨nm, dt⟩ := x
        simp only at q0 q1
        have b0 : (0 : Int) ≤ (j : Int) := by omega
        have b3 : (j : Int) < (n : Int) := by omega
        have HX := Lib.hid hx; have HB := Lib.hid hbel; have HA := Lib.hid hall
        clear hx hbel hall hab q0
        by_cases hbig : 200 < dt.size
        · have b4 : (200 : Int) < (dt.size : Int) := by omega
          go_wp2_with fail
          refine (lives11_any _).mono ?_
          rintro e w1 ⟨rfl, hb1⟩
          go_wp2
          go_ret
          exact ⟨rfl, HB.out.trans (hb1.mono HB.out.size)⟩
        · have b4 : ¬ (200 : Int) < (dt.size : Int) := by omega
          go_wp2
          go_roundw
          case rel =>
            refine ⟨j + 1, by omega, by go_num, HB.out, fun k h hk => ?_⟩
            by_cases e : k = j
            · subst e
              have := HX.out
              rw [this]
              show dt.size ≤ 200
              omega
            · exact HA.out k h (by omega)
          case measure => simp [intOf]; omega
      · obtain rfl : j = n := by omega
        have b3 : ¬ (j : Int) < (j : Int) := by omega
        have hf : ∀ x ∈ l, x.name.size ≤ maxLen ∧ x.data.size ≤ 200 := fun x hx => by
          obtain ⟨k, hk, rfl⟩ := List.mem_iff_getElem.1 hx
          exact ⟨(HFIT.out _ hx).1, hall k hk (by rw [← HN.out]; exact hk)⟩
        have c1 := CD.out wr (HF.out.below (fun b hb => hb) hbel) hbel.size hf
        have HFF := Lib.hid hf; have HB := Lib.hid hbel; have C1 := Lib.hid c1
        clear hf hbel c1 hall
        go_wp2_with fail
        refine C1.out.mono ?_
        intro e w1 hk
        unfold NewK at hk
        split at hk
        · next h0 =>
          obtain ⟨f, S, rfl, hI, hS, hb1⟩ := hk
          obtain ⟨l64, ok64, hcr⟩ := LF.out (fun x hx => (HFF.out x hx).2) h0
          have hbw := HB.out.trans (hb1.mono HB.out.size)
          have c2 := CR.out w1 (HF.out.below (fun b hb => hb) hbw) hbw.size HFF.out
          obtain ⟨D, v⟩ := R
          simp only at h0 hI ok64 hcr
          subst h0
          have hlt := hI.lt
          have HI := Lib.hid hI; have HS := Lib.hid hS; have HBW := Lib.hid hbw; have C2 := Lib.hid c2; have OK := Lib.hid ok64; have HCR := Lib.hid hcr; have HLT := Lib.hid hlt
          clear hI hS hb1 hbw c2 ok64 hcr hlt C1 LF CD
          go_wp2_with fail
          refine C2.out.mono ?_
          rintro e w2 ⟨v, rfl, ⟨a, c, aL, cL, rfl, hT, hL, hz⟩, hb2⟩
          obtain ⟨w3, hw3⟩ : ∃ w3, w3 = w2.alloc (.cells (dskC D.sec a D.tp.length c aL D.L.length cL D.fu D.calls) 34) := ⟨_, rfl⟩
          have ba : Below w2.heap.size w2 w3 := by rw [hw3]; exact (Below.refl _ _).alloc (Nat.le_refl _) _
          have bx : Blk w3 w2.heap.size (dskC D.sec a D.tp.length c aL D.L.length cL D.fu D.calls) 34 := by rw [hw3]; exact Blk.new _ _ _
          have hI3 := (HI.out.below hb2).below ba
          have z2 := hb2.size
          have cc := dkcrash_any hI3 (Dsk.ok_more OK.out (by omega)) ch HC.out
          rw [HCR.out] at cc
          have hT3 := (hT.below (fun b hb => by rcases hb with hb | hb; exact hb.elim; exact hb.2) ba)
          have hL3 := (hL.below (fun b hb => by rcases hb with hb | hb; exact hb.elim; exact hb.2) ba)
          have hb3 := HBW.out.trans ((hb2.trans (ba.mono z2)).mono HBW.out.size)
          have CC := Lib.hid cc; have HT := Lib.hid hT3; have HL := Lib.hid hL3; have HZ := Lib.hid hz; have HB3 := Lib.hid hb3; have BX := Lib.hid bx; have BA := Lib.hid ba; have HW3 := Lib.hid hw3; have Z2 := Lib.hid z2
          clear cc hT hL hz hT3 hL3 hb3 bx ba hI3 hb2 z2
          go_upto_region 14 with fail
          rw [← HW3.out]
          clear hw3
          go_wp2_with fail
          refine CC.out.mono ?_
          rintro e w4 ⟨rfl, S4, hI4, hA4, hS4⟩
          have zz := Z2.out
          have nS : ∀ b, w1.heap.size ≤ b → b ∉ S := fun b hb g => by have := HLT.out b g; omega
          have bx4 : Blk w4 w2.heap.size (dskC D.sec a D.tp.length c aL D.L.length cL D.fu D.calls) 34 := (hA4.block _ BX.out.lt (nS _ zz)).trans BX.out
          obtain ⟨k0, k1, k2, k3, k4, k5, k6, k7, r0, r1, r2, r3, r4, r5, r6, r7⟩ := bx4.eight
          have za := BA.out.size
          have z4 := hA4.size
          have hP : ∀ b, Grow (fun _ => False) w1.heap.size w2.heap.size b → w1.heap.size ≤ b ∧ b < w2.heap.size := fun b hb => by
            rcases hb with hb | hb
            · exact hb.elim
            · exact hb
          have hT4 := HT.out.keep (w' := w4) fun p hp => hA4.cell (by have := (hP _ hp).2; omega) (nS _ (hP _ hp).1)
          have hL4 := HL.out.keep (w' := w4) fun p hp => hA4.cell (by have := (hP _ hp).2; omega) (nS _ (hP _ hp).1)
          have cs := stands11_any hI4 OK.out (by omega) (fun b hb => by have := (hP _ hb).2; omega) ⟨a, c, aL, cL, rfl, hT4, hL4, HZ.out⟩
          have hb4 := HB3.out.trans (hA4.to_below (fun b hb => Nat.le_trans HB.out.size (HS.out b hb)) HB3.out.size)
          have CS := Lib.hid cs; have HB4 := Lib.hid hb4
          clear cs hb4 hI4 hA4 hS4 bx4 hT4 hL4 hP nS zz za z4
          go_wp2_with fail
          refine CS.out.mono ?_
          rintro e w5 ⟨rfl, hb5⟩
          have HB5 := Lib.hid (HB4.out.trans (hb5.mono HB4.out.size))
          clear hb5 k0 k1 k2 k3 k4 k5 k6 k7 r0 r1 r2 r3 r4 r5 r6 r7
          go_wp2_with fail
          refine (lives11_any _).mono ?_
          rintro e w6 ⟨rfl, hb6⟩
          go_wp2
          go_ret
          exact ⟨rfl, HB5.out.trans (hb6.mono HB5.out.size)⟩
        · next h0 =>
          obtain ⟨rfl, hb1⟩ := hk
          have hbw := HB.out.trans (hb1.mono HB.out.size)
          have c2 := CR.out w1 (HF.out.below (fun b hb => hb) hbw) hbw.size HFF.out
          obtain ⟨D, v⟩ := R
          simp only at h0
          have t0 : (v != 0) = true := bne_iff_ne.2 h0
          have t1 : (v != v) = false := by simp
          have HBW := Lib.hid hbw; have C2 := Lib.hid c2
          clear hb1 hbw c2 C1 LF CD
          go_wp2_with fail
          refine C2.out.mono ?_
          rintro e w2 ⟨v2, rfl, ⟨a, c, aL, cL, rfl, _, _, _⟩, hb2⟩
          have ba := (Below.refl w2.heap.size w2).alloc (Nat.le_refl _) (.cells (dskC D.sec a D.tp.length c aL D.L.length cL D.fu D.calls) 34)
          have HBA := Lib.hid (HBW.out.trans ((hb2.trans (ba.mono hb2.size)).mono HBW.out.size))
          clear hb2 ba
          go_wp2_with fail
          refine (lives11_any _).mono ?_
          rintro e w3 ⟨rfl, hb3⟩
          go_wp2
          go_ret
          exact ⟨rfl, HBA.out.trans (hb3.mono HBA.out.size)⟩
end Go.Proofs.YtfgecjlccngddaaGreat
