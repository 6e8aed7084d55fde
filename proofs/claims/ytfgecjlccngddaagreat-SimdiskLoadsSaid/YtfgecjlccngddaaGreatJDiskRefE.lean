/-
  Joined: DiskRef11.
-/
import Derived.Test.YtfgecjlccngddaaGreatJDiskRefC
namespace Go.Proofs.YtfgecjlccngddaaGreat
set_option linter.unusedSimpArgs false
set_option linter.unusedVariables false
open Go.RowKit
set_option linter.unusedVariables false

theorem wrap64_byte (b : UInt8) : wrap64 ((b.toNat : Nat) : Int) = ((b.toNat : Nat) : Int) := by
  have := b.toNat_lt
  unfold wrap64
  omega

set_option maxRecDepth 100000 in
set_option maxHeartbeats 16000000 in
theorem rdcrash_1 {M : Nat} {D : Dsk} (hD : D.ok M) (hM : M ≤ 199) (hM1 : 1 ≤ M) (a : Option Addr) (c : Nat) (aL : Option Addr) (cL : Nat) (ch : ByteArray) (hch : ch.size ≤ maxLen) (hc : 0 < ch.size) (P : Nat → Prop) (w : World) (hP : ∀ b, P b → b < w.heap.size) (hT : Tps w P a D.tp) (hL : LLs w P aL D.L) (hz : a = none → c = 0) :
    Calls Tryz.prog 57 #[dskV D.sec a D.tp.length c aL D.L.length cL D.fu D.calls, .string ch] w (RetDE w P ((D.crash ch).1, ((D.crash ch).2 : Nat))) := by
  have hfb0 : firstB ch = ((ch[0]'hc).toNat : Nat) := firstB_1 hc
  have hcr1 : (D.crash ch).1 = ⟨D.sec, (crashK ch (idsK D.L) D.tp (idsK D.L).length).1, [D.L.getD (pickN (firstB ch) D.L.length) []], Fus.new, D.calls⟩ := rfl
  have hcr2 : (D.crash ch).2 = (crashK ch (idsK D.L) D.tp (idsK D.L).length).2 := rfl
  rw [hcr1, hcr2, hfb0]
  have hcr := fun k hk => crK_all hD ch k hk
  have hokK := fun k hk => crash_okK hD ch ((ch[0]'hc).toNat : Nat) k hk hM1
  have hin : ∀ i ∈ idsK D.L, 1 ≤ i ∧ i ≤ D.tp.length := fun i hi => by obtain ⟨l, hl, e, he, rfl⟩ := idsK_mem D.L i hi; exact hD.2.2.2.2.1 l hl e he
  have hsucc := crashK_succ ch (idsK D.L) D.tp
  have hLL := hD.2.2.1
  have hNl := D.ids_len hD
  have hmul : (M + 1) * M ≤ 200 * 199 := Nat.mul_le_mul (by omega) hM
  have hnT : D.tp.length ≤ 199 := Nat.le_trans hD.2.1 hM
  have hw := Dk.start w (dskC D.sec a D.tp.length c aL D.L.length cL D.fu D.calls)
  have hfb : -9223372036854775808 ≤ (((ch[0]'hc).toNat : Nat) : Int) ∧ (((ch[0]'hc).toNat : Nat) : Int) ≤ 9223372036854775807 := by have := (ch[0]'hc).toNat_lt; omega
  have cj := fun (W : World) (h : Below w.heap.size w W) => rids9f_any aL D.L cL P W (fun b hb => Nat.lt_of_lt_of_le (hP b hb) h.size) (hL.below hP h) (by have := hD.2.2.1.2.1; omega) (fun l hl => by have := hD.2.2.1.2.2 l hl; omega)
  have ck := fun (W : World) (h : Below w.heap.size w W) => rcrash9_any aL D.L cL ((ch[0]'hc).toNat : Nat) P W (fun b hb => Nat.lt_of_lt_of_le (hP b hb) h.size) (hL.below hP h) hD.2.2.1.1 (by have := hD.2.2.1.2.1; omega) hfb.1 hfb.2
  obtain ⟨ids, hids⟩ : ∃ x, idsK D.L = x := ⟨_, rfl⟩
  rw [hids] at hcr hsucc hNl
  simp only [hids] at hokK hin cj ⊢
  obtain ⟨pk, hpk⟩ : ∃ x, D.L.getD (pickN ((ch[0]'hc).toNat : Nat) D.L.length) [] = x := ⟨_, rfl⟩
  rw [hpk] at ⊢
  simp only [hpk] at hokK ck
  obtain ⟨N, hN⟩ : ∃ N, ids.length = N := ⟨_, rfl⟩
  rw [hN] at hNl ⊢
  have hN2 : N ≤ 39800 := by omega
  have HW := Lib.hid hw; have T := Lib.hid hT; have HCR := Lib.hid hcr; have HOK := Lib.hid hokK; have HIN := Lib.hid hin; have HSU := Lib.hid hsucc; have CJ := Lib.hid cj; have CK := Lib.hid ck; have HN := Lib.hid hN
  clear hcr1 hcr2 hcr hokK hin hsucc hLL hw hT hL hfb hfb0 cj ck hids hpk hN hNl hmul hD
  unfold maxLen at hch
  go_enter Tryz.func57, Tryz.ntmps57
  go_wp2_with fail
  refine (rfnew_any _).mono ?_
  rintro e w1 ⟨rfl, hb1⟩
  have hd1 := HW.out.on hb1
  obtain ⟨⟨lt0, lt1⟩, ⟨b0, b1, b2, b3, b4, b5, b6, b7, q0, q1, q2, q3, q4, q5, q6, q7⟩, ⟨k0, k1, k2, k3, k4, k5, k6, k7, r0, r1, r2, r3, r4, r5, r6, r7⟩⟩ := hd1.facts
  have HD1 := Lib.hid (hd1.set4 (.int .i64 (-1)) (.int .i64 (-1)) (.int .i64 (-1)) (.bool false))
  clear hd1 hb1
  go_wp2_with fail
  clear lt0 lt1 b0 b1 b2 b3 b4 b5 b6 b7 q0 q1 q2 q3 q4 q5 q6 q7 k0 k1 k2 k3 k4 k5 k6 k7 r0 r1 r2 r3 r4 r5 r6 r7
  refine (CJ.out _ HD1.out.1).mono ?_
  rintro e w2 ⟨ai, ci, rfl, hi2, hfr2, hb2⟩
  have hd2 := HD1.out.on hb2
  have hfa : ∀ ad, ai = some ad → w.heap.size + 2 ≤ ad.block := fun ad h => Nat.le_trans HD1.out.lt.2 (hfr2 ad h)
  obtain ⟨⟨lt0, lt1⟩, ⟨b0, b1, b2, b3, b4, b5, b6, b7, q0, q1, q2, q3, q4, q5, q6, q7⟩, ⟨k0, k1, k2, k3, k4, k5, k6, k7, r0, r1, r2, r3, r4, r5, r6, r7⟩⟩ := hd2.facts
  have HD2 := Lib.hid hd2; have HI2 := Lib.hid hi2; have HFA := Lib.hid hfa
  clear hd2 hi2 hfr2 hb2 hfa
  rw [HN.out]
  go_wp2_with fail
  clear lt0 lt1 b0 b1 b2 b3 b4 b5 b6 b7 q0 q1 q2 q3 q4 q5 q6 q7 k0 k1 k2 k3 k4 k5 k6 k7 r0 r1 r2 r3 r4 r5 r6 r7
  rw [wrap64_byte]
  refine (CK.out _ HD2.out.1).mono ?_
  rintro e w3 ⟨aL2, cL2, rfl, hL3, hb3⟩
  have hd3 := HD2.out.on hb3
  have hl3 := hL3.more (B' := Grow P (w.heap.size + 2) w3.heap.size) (grow_low HD2.out.lt.2)
  have hi3 := HI2.out.on hb3
  obtain ⟨⟨lt0, lt1⟩, ⟨b0, b1, b2, b3, b4, b5, b6, b7, q0, q1, q2, q3, q4, q5, q6, q7⟩, ⟨k0, k1, k2, k3, k4, k5, k6, k7, r0, r1, r2, r3, r4, r5, r6, r7⟩⟩ := hd3.facts
  have HD3 := Lib.hid hd3; have L3 := Lib.hid hl3; have HI3 := Lib.hid hi3
  clear hd3 hL3 hl3 hi3 hb3
  go_wp2
  go_loopw [8, 9] (fun u v wr => ∃ k : Nat, k ≤ N ∧ v = .int .i64 k ∧ u = .int .i64 ((crashK ch ids D.tp k).2 : Nat) ∧ CrR w P D ch ids ai pk k wr) (fun _ v _ => N - (intOf v).toNat)
  case atStart => exact ⟨0, Nat.zero_le _, rfl, rfl, cr_start hP HD3.out (T.out.below hP HD3.out.1) L3.out HI3.out HFA.out hz⟩
  case round =>
    obtain ⟨k, hk, rfl, rfl, hcrr⟩ := hrel
    by_cases hlt : k < N
    · have hkl : k < ids.length := by rw [HN.out]; exact hlt
      obtain ⟨a1, c1, aL4, cL4, hd4, ht4, hl4, hi4, hz4⟩ := hcrr
      obtain ⟨hlen4, hsz4, hus4⟩ := HCR.out k (Nat.le_of_lt hkl)
      have hok4 := HOK.out k (Nat.le_of_lt hkl)
      obtain ⟨i1, i2⟩ := HIN.out _ (List.getElem_mem hkl)
      obtain ⟨adI, rfl, hIb, hIc⟩ := hi4 k hkl
      have hfi := HFA.out adI rfl
      have hsu := HSU.out k hkl _ rfl
      obtain ⟨id, hid⟩ : ∃ id, ids[k]'hkl = id := ⟨_, rfl⟩
      rw [hid] at hIc i1 i2 hsu
      obtain ⟨⟨tpk, us⟩, hr⟩ : ∃ r, crashK ch ids D.tp k = r := ⟨_, rfl⟩
      rw [hr] at ht4 hlen4 hsz4 hus4 hok4 hsu ⊢
      simp only at ht4 hlen4 hsz4 hus4 hok4 hsu ⊢
      rw [← hlen4] at i2 hd4 hnT
      obtain ⟨ad, m, rfl, rfl, hm, hadb, z0, z1⟩ := ht4.get id i1 i2
      have hgd := getD_mem hsz4 ((m : Int) + 1 - 1).toNat
      obtain ⟨ti, hti⟩ : ∃ x, tpk.getD ((m : Int) + 1 - 1).toNat Tp.none = x := ⟨_, rfl⟩
      rw [hti] at z0 z1 hsu hgd
      obtain ⟨tk, tn⟩ := ti
      simp only at z0 z1 hsu hgd
      have hM2 : 200 * M * k ≤ 40000 * 39800 := Nat.mul_le_mul (by omega) (by omega)
      obtain ⟨nt, hnt⟩ : ∃ nt, tpk.length = nt := ⟨_, rfl⟩
      rw [hnt] at hd4 hm hnT
      have d0 : (0 : Int) ≤ (k : Int) := by omega
      have d1 : (k : Int) < (N : Int) := by omega
      have e0 : (0 : Int) ≤ (m : Int) := by omega
      have e1 : (m : Int) < (nt : Int) := by omega
      have y1 : IntKind.i64.wrap ((m : Int) + 1 - 1) = (m : Int) := by rw [show (m : Int) + 1 - 1 = (m : Int) by omega]; exact IntWalk.i64_in _ (by omega)
      have y2 : IntKind.i64.wrap (m : Int) = (m : Int) := IntWalk.i64_in _ (by omega)
      go_upto_if 41 with fail
      go_cut [10] from 42 to 44 (fun r wx => r = .string (ch.extract us ch.size) ∧ wx = wr)
      case first =>
        have us0 : (0 : Int) ≤ (us : Int) := by omega
        by_cases hge : ch.size ≤ us
        · have hx0 : ch.extract us ch.size = ⟨#[]⟩ := str_ext (by rw [extract_list]; simp; omega)
          have HX0 := Lib.hid hx0
          clear hx0
          have us1 : decide ((us : Int) < (ch.size : Int)) = false := by simp; omega
          go_wp2_with fail
          go_meet
          exact ⟨by rw [HX0.out], rfl⟩
        · have us2 : (us : Int) < (ch.size : Int) := by omega
          have us3 : (us : Int) ≤ (ch.size : Int) := by omega
          go_wp2_with fail
          go_meet
          exact ⟨by simp, rfl⟩
      case rest =>
        obtain ⟨rfl, hwc⟩ := hcut
        rw [hwc]
        clear hwc
        have hrs : ch.extract us ch.size = (ch.extract us ch.size) := rfl
        rw [hrs] at hsu
        have cc := fun W => rtcrash_any tk tn (by omega) (by omega) (ch.extract us ch.size) W
        have hu := mixZ_used tk tn (ch.extract us ch.size)
        obtain ⟨x, hx⟩ : ∃ x, mixOf tk tn (ch.extract us ch.size) = x := ⟨_, rfl⟩
        obtain ⟨u, hux⟩ : ∃ u, mixUs tk tn (ch.extract us ch.size) = u := ⟨_, rfl⟩
        simp only [hx, hux] at cc hsu
        rw [hux] at hu
        have hf : Four wr ⟨w.heap.size, 1, none⟩ (adI.add k) (ad.add (m * 2)) ⟨(ad.add (m * 2)).block, (ad.add (m * 2)).off + 1, none⟩ (.slice (some ad) nt c1) (.int .i64 ((m : Int) + 1)) (.string tk) (.string tn) wr.drew :=
          four_start (Below.refl _ _).drew (hd4.2.1.cell 1 _ rfl) hIc z0 z1
        have HF := Lib.hid hf; have CC := Lib.hid cc; have HD4 := Lib.hid hd4; have T4 := Lib.hid ht4; have L4 := Lib.hid hl4; have HI4 := Lib.hid hi4; have HSU2 := Lib.hid hsu; have HOK4 := Lib.hid hok4; have HRR := Lib.hid hr; have HNT := Lib.hid hnt; have HLE4 := Lib.hid hlen4
        have Z0 := Lib.hid z0; have Z1 := Lib.hid z1; have HIC := Lib.hid hIc; have HAD := Lib.hid hadb
        clear hf cc hd4 ht4 hl4 hi4 hsu hok4 hr hnt hlen4 z0 z1 hIc hadb hti hid hx hux hrs hsz4 hIb
        go_upto_region 14 with fail
        go_cut [11, 12] from 45 to 58 (fun g n wx => ∃ b, g = .pointer (some ⟨b, 0, none⟩) ∧ n = .int .i64 (u : Nat) ∧ Blk wx b #[.string x, .string x] 104 ∧ Below wr.heap.size wr wx ∧ wr.heap.size ≤ b)
        case first =>
          have hfb : Four wr ⟨w.heap.size, 1, none⟩ (adI.add k) (ad.add (m * 2)) ⟨(ad.add (m * 2)).block, (ad.add (m * 2)).off + 1, none⟩ (.slice (some ad) nt c1) (.int .i64 ((m : Int) + 1)) (.string tk) (.string tn) (wr.alloc (.cells #[.string ⟨#[]⟩, .string ⟨#[]⟩] 104)).drew :=
            four_start ((Below.refl wr.heap.size wr).alloc (Nat.le_refl _) _).drew (HD4.out.2.1.cell 1 _ rfl) HIC.out Z0.out Z1.out
          obtain ⟨_, g1, g2, g3, g4⟩ := HF.out
          obtain ⟨_, h1, h2, h3, h4⟩ := hfb
          go_region_with (go_at_call 113; refine (CC.out _).mono ?_; rintro e w5 ⟨rfl, hb5⟩; (try (have hbk : Blk w5 wr.heap.size #[.string ⟨#[]⟩, .string ⟨#[]⟩] 104 := (show Blk (wr.alloc (.cells #[.string ⟨#[]⟩, .string ⟨#[]⟩] 104)).drew wr.heap.size #[.string ⟨#[]⟩, .string ⟨#[]⟩] 104 from Blk.new wr #[.string ⟨#[]⟩, .string ⟨#[]⟩] 104).onto hb5; have u0 := hbk.cell 0 _ rfl; have u1 := hbk.cell 1 _ rfl; have s0 := hbk.free 0; have s1 := hbk.free 1; clear hbk)); have HB5 := Lib.hid hb5; clear hb5)
          all_goals
            go_wp2_with fail
            go_meet
            first
              | exact ⟨_, rfl, rfl, (((show Blk (wr.alloc (.cells #[.string ⟨#[]⟩, .string ⟨#[]⟩] 104)).drew wr.heap.size #[.string ⟨#[]⟩, .string ⟨#[]⟩] 104 from Blk.new wr #[.string ⟨#[]⟩, .string ⟨#[]⟩] 104).onto HB5.out).set 0 (.string x)).set 1 (.string x), cr_b1 HB5.out, Nat.le_refl _⟩
              | exact ⟨_, rfl, rfl, Blk.new _ _ _, cr_b2 HB5.out, cr_b3 HB5.out⟩
        case rest =>
          obtain ⟨b5, rfl, rfl, hbk5, hbl5, hge5⟩ := hcut
          have hd6 := HD4.out.on hbl5
          have i6 := (hbl5.cell (cell_lt HIC.out)).trans HIC.out
          have u0 := hbk5.cell 0 _ rfl
          have u1 := hbk5.cell 1 _ rfl
          obtain ⟨⟨lt0, lt1⟩, ⟨b0, b1, b2, b3, b4, b5, b6, b7, q0, q1, q2, q3, q4, q5, q6, q7⟩, ⟨k0, k1, k2, k3, k4, k5, k6, k7, r0, r1, r2, r3, r4, r5, r6, r7⟩⟩ := hd6.facts
          have hub : us ≤ 2000000000 := by omega
          have ct := fun (W : World) (h : Below wr.heap.size wr W) => rdtape_f HOK4.out (by omega) (some ad) c1 aL4 cL4 m (by rw [HNT.out]; exact hm) ⟨x, x⟩ (Grow P (w.heap.size + 2) wr.heap.size) W (fun b hb => Nat.lt_of_lt_of_le (grow_lt hP HD4.out.1.size b hb) h.size) (T4.out.below (grow_lt hP HD4.out.1.size) h) (L4.out.below (grow_lt hP HD4.out.1.size) h)
          rw [HNT.out] at ct
          have CT := Lib.hid ct; have HD6 := Lib.hid hd6; have HBL5 := Lib.hid hbl5
          clear ct hd6 hbl5 hbk5 hge5
          go_wp2_with fail
          go_region_with (go_at_call 109; refine (CT.out _ HBL5.out.drew).mono ?_; rintro e w7 ⟨a7, c7, aL7, cL7, rfl, hT7, hL7, hz7, hb7⟩; have hd7 := HD6.out.drew.on hb7; obtain ⟨⟨lt0, lt1⟩, ⟨b0, b1, b2, b3, b4, b5, b6, b7, q0, q1, q2, q3, q4, q5, q6, q7⟩, ⟨k0, k1, k2, k3, k4, k5, k6, k7, r0, r1, r2, r3, r4, r5, r6, r7⟩⟩ := hd7.facts; have HD7 := Lib.hid hd7; have T7 := Lib.hid hT7; have L7 := Lib.hid hL7; have HB7 := Lib.hid hb7; clear hd7 hT7 hL7 hb7)
          all_goals
            go_wp2
            go_roundw
            case rel => exact ⟨k + 1, by omega, by go_num, by rw [HSU2.out]; go_num, cr_next hP (HSU2.out.trans (by rw [show ((m : Int) + 1 - 1).toNat = m by omega])) HD7.out (HNT.out.symm.trans HLE4.out) HD4.out.lt.2 HBL5.out.size HB7.out.size T7.out L7.out ((HI4.out.on HBL5.out).on ((Below.refl _ _).drew.trans HB7.out)) HFA.out hz7⟩
            case measure => simp [intOf]; omega

    · obtain rfl : k = N := by omega
      obtain ⟨a1, c1, aL4, cL4, hd4, ht4, hl4, hi4, hz4⟩ := hcrr
      have hlen4 : (crashK ch ids D.tp k).1.length = D.tp.length := (HCR.out k (by rw [HN.out]; exact Nat.le_refl _)).1
      obtain ⟨⟨lt0, lt1⟩, ⟨b0, b1, b2, b3, b4, b5, b6, b7, q0, q1, q2, q3, q4, q5, q6, q7⟩, ⟨k0, k1, k2, k3, k4, k5, k6, k7, r0, r1, r2, r3, r4, r5, r6, r7⟩⟩ := hd4.facts
      have HD4 := Lib.hid hd4; have T4 := Lib.hid ht4; have L4 := Lib.hid hl4; have HLE := Lib.hid hlen4
      clear hd4 ht4 hl4 hi4 hlen4
      go_wp2
      refine bodyPost_ret (v := .tuple #[dskV D.sec a1 D.tp.length c1 aL4 1 cL4 Fus.new D.calls, .int .i64 ((crashK ch ids D.tp k).2 : Nat)]) (by simp [results, Tryz.results57, go_sem, k0, k1, k2, k3, k4, k5, k6, k7]) rfl ?_
      refine retDE_end (n1 := w.heap.size + 2) (D := ⟨D.sec, (crashK ch ids D.tp k).1, [pk], Fus.new, D.calls⟩) hP HD4.out.1 ?_ (Nat.le_refl _) T4.out L4.out hz4 HLE.out rfl
      iterate 8 refine Apart.setCell ?_ (.inl (by simp)) _
      exact .refl _ _

theorem rdcrash_any {M : Nat} {D : Dsk} (hD : D.ok M) (hM : M ≤ 199) (hM1 : 1 ≤ M) (a : Option Addr) (c : Nat) (aL : Option Addr) (cL : Nat) (ch : ByteArray) (hch : ch.size ≤ maxLen) (P : Nat → Prop) (w : World) (hP : ∀ b, P b → b < w.heap.size) (hT : Tps w P a D.tp) (hL : LLs w P aL D.L) (hz : a = none → c = 0) :
    Calls Tryz.prog 57 #[dskV D.sec a D.tp.length c aL D.L.length cL D.fu D.calls, .string ch] w (RetDE w P ((D.crash ch).1, ((D.crash ch).2 : Nat))) := by
  by_cases hc : ch.size = 0
  · exact rdcrash_0 hD hM hM1 a c aL cL ch hch hc P w hP hT hL hz
  · exact rdcrash_1 hD hM hM1 a c aL cL ch hch (by omega) P w hP hT hL hz
end Go.Proofs.YtfgecjlccngddaaGreat
