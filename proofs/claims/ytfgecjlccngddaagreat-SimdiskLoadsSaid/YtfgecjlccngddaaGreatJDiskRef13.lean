/-
  Joined: DiskRef13.
-/
import Derived.Test.YtfgecjlccngddaaGreatJDiskRef12
namespace Go.Proofs.YtfgecjlccngddaaGreat
set_option linter.unusedSimpArgs false
set_option linter.unusedVariables false
open Go.RowKit
set_option linter.unusedVariables false

/-- Behind Put: its variable, and what holds. -/
structure RdP (w : World) (rb db : Nat) (D : Dsk) (u : Value) (aL : Option Addr) (cL : Nat) (L2 : List (List Ent)) (q : Bool) (v9 v10 : Value) (wx : World) : Prop where
  out : ∃ bf a2 c2, v9 = .pointer (some ⟨bf, 0, none⟩) ∧ v10 = .bool q ∧ RdL w rb db D u aL cL wx ∧ Blk wx bf #[.slice a2 L2.length c2] 30 ∧ LLs wx (Pl w wx rb db u) a2 L2
theorem rdp_a {w wr w3 : World} {rb db : Nat} {D : Dsk} {u : Value} {aL a2 : Option Addr} {cL c2 : Nat} {L2 : List (List Ent)} {q : Bool} (h : RdL w rb db D u aL cL wr) (hb : Below (wr.alloc (.cells #[.slice none 0 0] 30)).drew.heap.size (wr.alloc (.cells #[.slice none 0 0] 30)).drew w3)
    (hL : LLs w3 (Grow (Pl w wr rb db u) (wr.alloc (.cells #[.slice none 0 0] 30)).drew.heap.size w3.heap.size) a2 L2) : RdP w rb db D u aL cL L2 q (.pointer (some ⟨wr.heap.size, 0, none⟩)) (.bool q) (w3.setCell ⟨wr.heap.size, 0, none⟩ (.slice a2 L2.length c2)) := by
  obtain ⟨h1, h2, h3⟩ := rd_mid_a (c2 := c2) h hb hL
  exact ⟨_, _, _, rfl, rfl, h1, h2, h3⟩
theorem rdp_b {w wr w3 : World} {rb db : Nat} {D : Dsk} {u : Value} {aL a2 : Option Addr} {cL c2 : Nat} {L2 : List (List Ent)} {q : Bool} (h : RdL w rb db D u aL cL wr) (hb : Below wr.drew.heap.size wr.drew w3)
    (hL : LLs w3 (Grow (Pl w wr rb db u) wr.drew.heap.size w3.heap.size) a2 L2) : RdP w rb db D u aL cL L2 q (.pointer (some ⟨w3.heap.size, 0, none⟩)) (.bool q) (w3.alloc (.cells #[.slice a2 L2.length c2] 30)) := by
  obtain ⟨h1, h2, h3⟩ := rd_mid_b (c2 := c2) h hb hL
  exact ⟨_, _, _, rfl, rfl, h1, h2, h3⟩
set_option maxRecDepth 100000 in
set_option maxHeartbeats 3200000 in
theorem rdload_ok {w : World} {B : Nat → Prop} {a : Option Addr} {l : List Fil} {c : Nat} (hl : Fils w B a l) (hB : ∀ b, B b → b < w.heap.size) (hf : ∀ x ∈ l, x.name.size ≤ maxLen ∧ x.data.size ≤ 200) (sec : Int) (h1 : 1 ≤ sec) (h2 : sec ≤ 4096) (hlen : l.length ≤ 64) :
    Calls Tryz.prog 17 #[.int .i64 sec, .slice a l.length c] w (RetDE w (fun _ => False) (Dsk.load sec l)) := by
  obtain ⟨i0, hi, hy0, hy1, hy2⟩ := info_parts tape_info
  obtain ⟨N, hN⟩ : ∃ N, l.length = N := ⟨_, rfl⟩
  have HN := Lib.hid hN; have HF := Lib.hid hl; have HFB := Lib.hid hB; have HFI := Lib.hid hf
  rw [hN] at hlen ⊢
  have g3 : ¬ (64 : Int) < (N : Int) := by omega
  clear hN hl hB hf
  go_enter Tryz.func17, Tryz.ntmps17
  go_wp2_with fail
  refine (rdnew_ok sec h1 h2 _).mono ?_
  rintro e w1 ⟨aL0, cL0, rfl, hL1, hb1⟩
  have HS := Lib.hid (rd_start (sec := sec) (cL := cL0) hb1 hL1)
  clear hL1 hb1
  go_wp2
  go_loopw [8] (fun i wr => ∃ (k : Nat) (u : Value) (aL : Option Addr) (cL : Nat), k ≤ N ∧ i = .int .i64 k ∧ (loadK sec l k).2 = 0 ∧ RdL w w.heap.size w1.heap.size (loadK sec l k).1 u aL cL wr) (fun i _ => N - (intOf i).toNat)
  case atStart => exact ⟨0, _, _, _, Nat.zero_le _, rfl, rfl, HS.out⟩
  case round =>
    obtain ⟨k, u, aL, cL, hk, rfl, hok, hr⟩ := hrel
    by_cases hlt : k < N
    · have hkl : k < l.length := by rw [HN.out]; exact hlt
      obtain ⟨adE, rfl, hab, q0, q1⟩ := HF.out k hkl
      obtain ⟨s1, s2⟩ := HFI.out _ (List.getElem_mem hkl)
      have hi9 := loadK_is h1 h2 (fun f hf => (HFI.out f hf).2) k (by rw [HN.out]; exact hk) hok
      have hst : loadK sec l (k + 1) = loadS ((loadK sec l k).1, 0) l[k] := by
        have e : loadK sec l k = ((loadK sec l k).1, 0) := Prod.ext rfl hok
        exact (loadK_succ sec l k hkl).trans (congrArg (fun r => loadS r l[k]) e)
      obtain ⟨D, hDn⟩ : ∃ D, (loadK sec l k).1 = D := ⟨_, rfl⟩
      obtain ⟨x, hx⟩ : ∃ x, l[k]'hkl = x := ⟨_, rfl⟩
      rw [hDn] at hr hi9 hst
      rw [hx] at q0 q1 s1 s2 hst
      obtain ⟨nm, dt⟩ := x
      simp only at q0 q1 s1 s2
      have hbl : (adE.add (k * 2)).block < w.heap.size := by rw [add_block]; exact HFB.out _ hab
      have qc : ∀ W, Below w.heap.size w W → W.cell? (adE.add (k * 2)) = some (.string nm) ∧ W.cell? ⟨(adE.add (k * 2)).block, (adE.add (k * 2)).off + 1, none⟩ = some (.string dt) := fun W h => ⟨(h.cell (p := adE.add (k * 2)) hbl).trans q0, (h.cell (p := ⟨(adE.add (k * 2)).block, (adE.add (k * 2)).off + 1, none⟩) hbl).trans q1⟩
      obtain ⟨p0, p1⟩ := qc _ hr.bel
      obtain ⟨k0, k1, k2, k3, k4, k5, k6, k7, r0, r1, r2, r3, r4, r5, r6, r7⟩ := hr.res.eight
      have b0 : (0 : Int) ≤ (k : Int) := by omega
      have b1 : (k : Int) < (N : Int) := by omega
      have cm := rmay_any nm s1
      obtain ⟨mb, hmb⟩ : ∃ mb, mayB nm.data.toList = mb := ⟨_, rfl⟩
      rw [hmb] at cm
      have CM := Lib.hid cm; have QC := Lib.hid qc; have HR := Lib.hid hr; have HI := Lib.hid hi9; have HST := Lib.hid hst; have HMB := Lib.hid hmb; have HDN := Lib.hid hDn; have HOK := Lib.hid hok
      clear cm qc hr hi9 hst hmb hDn hok hx hab q0 q1 hbl s1 s2
      cases mb with
      | false =>
        have e : Dsk.load sec l = (Dsk.zero, 7) := rload_bad (k := k + 1) (D := D) h1 h2 (by rw [HN.out]; exact hlen) (by rw [HST.out]; unfold loadS; rw [if_pos rfl, if_pos HMB.out]) (by decide)
        have E := Lib.hid e
        clear e
        go_wp2_with fail
        refine (CM.out _).mono ?_
        rintro e w' ⟨rfl, rfl⟩
        go_wp2
        refine bodyPost_ret (v := .tuple #[.agg dskZ, .int .i64 7]) (by simp [results, Tryz.results17, go_sem, k0, k1, k2, k3, k4, k5, k6, k7]) rfl (rd_no E.out ?_)
        iterate 8 refine Below.setCell ?_ (by simp) _
        exact HR.out.bel
      | true =>
        have hne := HI.out.ok.2.2.1.1
        have hLb := HI.out.ok.2.2.1.2.1
        have hll := HI.out.ok.2.2.1.2.2 _ (nowL_mem hne)
        have htk := HI.out.len
        have hA : Below wr.heap.size wr (wr.alloc (.cells #[.slice none 0 0] 30)).drew := ((Below.refl _ wr).alloc (Nat.le_refl _) _).drew
        have cpA := rput9_any aL D.L cL nm ((k : Int) + 1) (Pl w wr w.heap.size w1.heap.size u) (wr.alloc (.cells #[.slice none 0 0] 30)).drew (fun b hb => Nat.lt_of_lt_of_le hb.2.2.1 hA.size) (HR.out.lls.below (fun b g => g.2.2.1) hA) hne (by omega) (by omega)
        have cpB := rput9_any aL D.L cL nm ((k : Int) + 1) (Pl w wr w.heap.size w1.heap.size u) wr.drew (fun b hb => hb.2.2.1) HR.out.lls hne (by omega) (by omega)
        have e7 : Blk (wr.alloc (.cells #[.slice none 0 0] 30)).drew wr.heap.size #[.slice none 0 0] 30 := Blk.new wr _ _
        obtain ⟨q, hq⟩ : ∃ q, (findE (nowL D.L) nm).isSome = q := ⟨_, rfl⟩
        obtain ⟨L2, hL2⟩ : ∃ L2, putF D.L nm ((k : Int) + 1) = L2 := ⟨_, rfl⟩
        rw [hq, hL2] at cpA cpB
        have d2 := (show Blk wr.drew w1.heap.size _ _ from HR.out.box).cell 2 _ rfl
        have e2 := (HR.out.box.onto hA).cell 2 _ rfl
        obtain ⟨q0, q1⟩ := QC.out _ HR.out.bel.drew
        obtain ⟨v0, v1⟩ := QC.out _ (HR.out.bel.trans (hA.mono HR.out.bel.size))
        have hwr : IntKind.i64.wrap ((k : Int) + 1) = (k : Int) + 1 := IntWalk.i64_in _ (by omega)
        have HWR := Lib.hid hwr
        clear hwr
        have CPA := Lib.hid cpA; have CPB := Lib.hid cpB; have E7 := Lib.hid e7; have HQ := Lib.hid hq; have HL2 := Lib.hid hL2; have HTK := Lib.hid htk
        clear cpA cpB e7 hq hL2 hne hLb hll htk hA
        go_wp2_with fail
        refine (CM.out _).mono ?_
        rintro e w' ⟨rfl, rfl⟩
        go_upto_region 11 with fail
        go_cut [9, 10] (fun v9 v10 wx => RdP w w.heap.size w1.heap.size D u aL cL L2 (!q) v9 v10 wx)
        case first =>
          go_region_with (go_at_call 68; rw [HWR.out]; first
            | (refine CPA.out.mono ?_; rintro e w3 ⟨a2, c2, rfl, hL3, hb3⟩; have x0 := E7.out.onto hb3; have y0 := x0.cell 0 _ rfl; have y1 := x0.free 0; have HL3 := Lib.hid hL3; have HB3 := Lib.hid hb3; clear hL3 hb3 x0)
            | (refine CPB.out.mono ?_; rintro e w3 ⟨a2, c2, rfl, hL3, hb3⟩; have HL3 := Lib.hid hL3; have HB3 := Lib.hid hb3; clear hL3 hb3))
          all_goals
            go_wp2_with fail
            go_meet
            first
              | (have yy := y0; clear yy; exact rdp_a HR.out HB3.out HL3.out)
              | exact rdp_b HR.out HB3.out HL3.out
        case rest =>
          obtain ⟨bf, a2, c2, rfl, rfl, hr2, hbf, hL4⟩ := hcut.out
          have HR2 := Lib.hid hr2; have HBF := Lib.hid hbf; have HL4 := Lib.hid hL4
          clear CPA CPB E7 d2 e2 q0 q1 v0 v1 p0 p1 k0 k1 k2 k3 k4 k5 k6 k7 r0 r1 r2 r3 r4 r5 r6 r7 hr2 hbf hL4 hcut
          cases q with
          | true =>
            have e : Dsk.load sec l = (Dsk.zero, 17) := rload_bad (k := k + 1) (D := D) h1 h2 (by rw [HN.out]; exact hlen) (by rw [HST.out]; unfold loadS; rw [if_pos rfl, if_neg (by rw [HMB.out]; simp), if_pos HQ.out]) (by decide)
            have E := Lib.hid e
            clear e
            obtain ⟨k0, k1, k2, k3, k4, k5, k6, k7, r0, r1, r2, r3, r4, r5, r6, r7⟩ := HR2.out.res.eight
            go_wp2
            refine bodyPost_ret (v := .tuple #[.agg dskZ, .int .i64 17]) (by simp [results, Tryz.results17, go_sem, k0, k1, k2, k3, k4, k5, k6, k7]) rfl (rd_no E.out ?_)
            iterate 8 refine Below.setCell ?_ (by simp) _
            exact HR2.out.bel
          | false =>
            have y0 := HBF.out.cell 0 _ rfl
            obtain ⟨z0, z1, z2, z3, z4, z5, z6, z7, t0, t1, t2, t3, t4, t5, t6, t7⟩ := HR2.out.box.eight
            have hr3 := HR2.out.fold (c2 := c2) HL4.out
            obtain ⟨wd, hwd⟩ : ∃ wd, wd = wc.setCell ⟨w1.heap.size, 2, none⟩ (.slice a2 L2.length c2) := ⟨_, rfl⟩
            rw [← hwd] at hr3
            have ho2 : ((wd.alloc (.cells #[.string dt, .string dt] 104)).drew).ownsRow w.heap.size 104 2 u D.tp.length (Tp.flat D.tp) := hr3.own.alloc _
            have hnw : ∀ j v, ([.string dt, .string dt] : List Value)[j]? = some v → ((wd.alloc (.cells #[.string dt, .string dt] 104)).drew).cell? ((⟨wd.heap.size, 0, none⟩ : Addr).add j) = some v := news_tp _ _ _ _
            have hW : Below wd.heap.size wd (wd.alloc (.cells #[.string dt, .string dt] 104)).drew := ((Below.refl _ wd).alloc (Nat.le_refl _) _).drew
            have x1 := (show Blk wd.drew w1.heap.size _ _ from hr3.box).cell 1 _ rfl
            have x2 := (hr3.box.onto hW).cell 1 _ rfl
            have x3 := (hr3.box.onto hW).free 1
            have hla := (hr3.box.onto hW).lt
            have hne := rown_ne ho2 (hr3.box.onto hW)
            obtain ⟨q0, q1⟩ := QC.out _ hr3.bel.drew
            obtain ⟨v0, v1⟩ := QC.out _ (hr3.bel.trans (hW.mono hr3.bel.size))
            have hsz : w.heap.size ≤ (wd.alloc (.cells #[.string dt, .string dt] 104)).drew.heap.size := Nat.le_trans hr3.bel.size hW.size
            have HR3 := Lib.hid hr3; have HO2 := Lib.hid ho2; have NW := Lib.hid hnw; have HWX := Lib.hid hW; have X2 := Lib.hid x2; have X3 := Lib.hid x3; have HLA := Lib.hid hla; have HNE := Lib.hid hne; have HSZ := Lib.hid hsz; have HWD := Lib.hid hwd
            clear hr3 ho2 hnw hW x3 hla hne hsz
            go_upto_region 15 with fail
            rw [← HWD.out]
            clear hwd y0 z0 z1 z2 z3 z4 z5 z6 z7 t0 t1 t2 t3 t4 t5 t6 t7
            have htk2 : D.tp.length ≤ 64 := by have := HTK.out; omega
            go_region_law (refine step_append_lies _ rfl (.tmp 57) (.tmp 69) 27 rfl w.heap.size 104 i0 _ 2 32 Tryz.underlying27 hi hy0 hy1 hy2 rfl (by decide) u D.tp.length _ (by simp [Act.eval]) HO2.out ⟨wd.heap.size, 0, none⟩ 1 1 [.string dt, .string dt] (by simp [Act.eval]) rfl NW.out (one_tp _ _) (by omega) (by unfold maxLen; omega) (by omega) HSZ.out _ rfl ?_; intro g cap w5 hown hgrow hat _; have m2 := (hgrow.cell_far ⟨w1.heap.size, 1, none⟩ HLA.out (fun q => HNE.out q.symm)).trans X2.out; have o2 := (hgrow.frozen_far ⟨w1.heap.size, 1, none⟩ HLA.out (fun q => HNE.out q.symm)).trans X3.out)
            all_goals
              have hfin := HR3.out.app HWX.out hgrow hown hat
              rw [← HL2.out] at hfin
              have hlk : loadK sec l (k + 1) = (D.putFile ⟨nm, dt⟩, 0) := by rw [HST.out]; unfold loadS; rw [if_pos rfl, if_neg (by rw [HMB.out]; simp), if_neg (by rw [HQ.out]; simp)]
              have HE := Lib.hid (rd_step hlk HTK.out hfin)
              clear hfin hlk hown hgrow hat
              go_simp
              go_wp2
              go_roundw
              case rel => exact ⟨k + 1, _, _, _, by omega, by go_num, HE.out.1, HE.out.2⟩
              case measure => simp [intOf]; omega
    · obtain rfl : k = N := by omega
      have hi9 := loadK_is h1 h2 (fun f hf => (HFI.out f hf).2) k (by rw [HN.out]; exact hk) hok
      have e9 : Dsk.load sec l = if (loadK sec l k).1.free < 0 then (Dsk.zero, 12) else ({ (loadK sec l k).1 with L := [nowL (loadK sec l k).1.L] }, 0) := by
        have e1 := HN.out
        unfold Dsk.load
        rw [if_neg (by omega), if_neg (by omega), e1, if_pos hok]
      obtain ⟨D, hDn⟩ : ∃ D, (loadK sec l k).1 = D := ⟨_, rfl⟩
      rw [hDn] at hr hi9 e9
      obtain ⟨a', c', rfl, hT, hz⟩ := hr.slice
      have hok64 := Dsk.ok_more (N := 64) hi9.ok (by omega)
      have cf := rdfree_any hok64 (by omega) a' c' aL cL (fun b => b < wr.heap.size) wr (fun b hb => hb) (hT.more fun b hb => hb.2) (hr.lls.more fun b hb => hb.2.2.1)
      rw [hi9.fu, hi9.calls] at cf
      obtain ⟨fr, hfr⟩ : ∃ fr, D.free = fr := ⟨_, rfl⟩
      rw [hfr] at cf e9
      obtain ⟨z0, z1, z2, z3, z4, z5, z6, z7, t0, t1, t2, t3, t4, t5, t6, t7⟩ := hr.box.eight
      have CF := Lib.hid cf; have HR := Lib.hid hr; have HI := Lib.hid hi9; have E9 := Lib.hid e9; have HZ := Lib.hid hz; have HOK64 := Lib.hid hok64
      have b1 : ¬ (k : Int) < (k : Int) := by omega
      clear cf hr hi9 e9 hz hT hok64 hDn hok hfr
      go_wp2_with fail
      refine CF.out.mono ?_
      rintro e w3 ⟨rfl, hb3⟩
      have HR3 := Lib.hid (HR.out.on hb3)
      clear hb3 z0 z1 z2 z3 z4 z5 z6 z7 t0 t1 t2 t3 t4 t5 t6 t7
      by_cases hneg : fr < 0
      · have e := E9.out
        rw [if_pos hneg] at e
        have E := Lib.hid e
        clear e
        obtain ⟨k0, k1, k2, k3, k4, k5, k6, k7, r0, r1, r2, r3, r4, r5, r6, r7⟩ := HR3.out.res.eight
        go_wp2
        refine bodyPost_ret (v := .tuple #[.agg dskZ, .int .i64 12]) (by simp [results, Tryz.results17, go_sem, k0, k1, k2, k3, k4, k5, k6, k7]) rfl (rd_no E.out ?_)
        iterate 8 refine Below.setCell ?_ (by simp) _
        exact HR3.out.bel
      · have e := E9.out
        rw [if_neg hneg] at e
        have E := Lib.hid e
        clear e
        have hok64 := HOK64.out
        have cs := rsync9_any aL D.L cL (Pl w w3 w.heap.size w1.heap.size (.slice a' D.tp.length c')) w3 (fun b hb => hb.2.2.1) HR3.out.lls hok64.2.2.1.1 (by have := hok64.2.2.1.2.1; omega)
        have z2 := HR3.out.box.cell 2 _ rfl
        have CS := Lib.hid cs
        clear cs hok64
        go_wp2_with fail
        refine CS.out.mono ?_
        rintro e w4 ⟨a2, c2, rfl, hL4, hb4⟩
        have hr4 := HR3.out.on hb4
        have hl4 : LLs w4 (Pl w w4 w.heap.size w1.heap.size (.slice a' D.tp.length c')) a2 [nowL D.L] := hL4.more fun b g => by
          have l1 := HR3.out.res.lt
          have l2 := HR3.out.box.lt
          have l3 := HR3.out.bel.size
          have l4 := hb4.size
          rcases g with g | g
          · exact ⟨g.1, g.2.1, by have := g.2.2.1; omega, g.2.2.2⟩
          · exact ⟨by omega, by omega, g.2, (fun q => by have := (HR3.out.own.lt _ q).2; omega), by omega⟩
        have hr5 := hr4.fold (c2 := c2) hl4
        change RdL _ _ _ _ _ _ _ (w4.setCell ⟨w1.heap.size, 2, none⟩ (.slice a2 1 c2)) at hr5
        obtain ⟨wd, hwd⟩ : ∃ wd, wd = w4.setCell ⟨w1.heap.size, 2, none⟩ (.slice a2 1 c2) := ⟨_, rfl⟩
        rw [← hwd] at hr5
        obtain ⟨_, _, y2, _, _, _, _, _, _, _, u2, _, _, _, _, _⟩ := hr4.box.eight
        obtain ⟨z0, z1, z2, z3, z4, z5, z6, z7, t0, t1, t2, t3, t4, t5, t6, t7⟩ := hr5.box.eight
        obtain ⟨k0, k1, k2, k3, k4, k5, k6, k7, r0, r1, r2, r3, r4, r5, r6, r7⟩ := hr5.res.eight
        have HR5 := Lib.hid hr5; have HWD := Lib.hid hwd
        clear hr4 hl4 hr5 hL4 hb4
        go_upto_region 19 with fail
        rw [← HWD.out]
        clear hwd y2 u2
        go_wp2
        refine bodyPost_ret (v := .tuple #[dskV D.sec a' D.tp.length c' a2 1 c2 Fus.new 0, .int .i64 0]) (by simp [results, Tryz.results17, go_sem, Fus.new, k0, k1, k2, k3, k4, k5, k6, k7]) rfl ?_
        obtain ⟨f1, f2, f3⟩ := HR5.out.done (put8_apart [w.heap.size] wd w.heap.size (by simp) D.sec a' D.tp.length c' a2 1 c2 Fus.new 0)
        rw [E.out]
        refine ⟨_, rfl, ⟨a', c', a2, c2, ?_, f1.more fun b hb => .inr hb, f2.more fun b hb => .inr hb, HZ.out⟩, f3⟩
        show _ = dskV D.sec a' D.tp.length c' a2 1 c2 D.fu D.calls
        rw [HI.out.fu, HI.out.calls]
end Go.Proofs.YtfgecjlccngddaaGreat
